import Derived.Test.YtobhbhmjajobjaaGreatDoorM15
set_option maxRecDepth 100000
set_option maxHeartbeats 8000000
namespace Go.Proofs.YtobhbhmjajobjaaGreatDoor
variable {zp:Prop}
theorem zfC (h:zp:=by
 have h1:Pro.bm S P (k+1)=some k:=by
  rw [Pro.bm,HNF.out];simp only;rw [HNB.out,hbad];rfl
 unfold Hid;rw [HPr.out,Pro.fX h1 n zaa];rfl):zp:=h
theorem zfF (h:zp:=by
 unfold Hid;rw [Pro.bm,HNF.out];simp only;rw [HNB.out,hbad];rfl):zp:=h
theorem zcQ (h:zp:=by
 have HRd:Hid (Pro.read s = .fault 4 (((k+1:Nat):Int))):=by
  exact zfC
 rw [MB (by exact hbad)] at h5;obtain ⟨hb,b,h7,h6,rfl⟩:=h5;have hbq:Below w1 w1 w5:=hbr1.trans (hb.mono hbr1.size);have hlq:w1.heap.size<=b:=Mv hbr1.size h7;dsimp only;refine PK (f:=55) (args:=#[w,↑(w.heap.size+1)]) zad zaw ?_;refine (bU w (w.heap.size+1) _ _ b [] _ ((OC hbq _ zaa).trans h0) ((OC hbq _ zaa).trans h1) zaa).mono ?_;rintro e u' wq ⟨rfl,rfl,W,hc,rfl⟩;obtain ⟨r1,r2,r3,r4⟩:=fC HW1.out hbq hlq h6 hc;simp [Leaves,settle,results,Tryz.results38,go_sem,r2,r3];unfold mC;rw [HRd.out];exact ⟨r1,b,rfl,r4⟩):zp:=h
theorem zcX (h:zp:=by
 obtain ⟨hb,b,h5,h6,rfl⟩:=h3;have hb3:=hb2.trans (hb.mono hb2.size);dsimp only;refine PK (f:=55) (args:=#[w,↑(w.heap.size+1)]) zad zaw ?_;refine (bU w (w.heap.size+1) _ _ b [] _ ((OC hb3 _ zaa).trans h0) ((OC hb3 _ zaa).trans h1) zaa).mono ?_;rintro e u' wq ⟨rfl,rfl,W,hc,rfl⟩;obtain ⟨r1,r2,r3,r4⟩:=fC HW1.out hb3 (Mv hb2.size h5) h6 hc;simp [Leaves,settle,results,Tryz.results38,go_sem,r2,r3];unfold mC;rw [HPr.out];exact ⟨r1,b,rfl,r4⟩):zp:=h
theorem zcZ (h:zp:=by
 intro y hy;obtain ⟨x,hx,rfl⟩:=Ni.1 hy;refine ⟨(nV h hx).1,fun m hm => ?_,fun hm => ?_,fun hm => ?_⟩
 ·obtain ⟨j,L,_,e,_⟩:=h.fro m.line (.mv m) ⟨rfl,x,hx,hm⟩;omega
 ·rcases h.en0 x hx with h' | h'
  ·exact h'
  ·rw [show (Ref.emb x).s.enter=x.enter from rfl,h',mineN,Oj] at hm;cases hm
 ·rcases h.lv0 x hx with h' | h'
  ·exact h'
  ·rw [show (Ref.emb x).s.leave=x.leave from rfl,h',mineN,Oj] at hm;cases hm):zp:=h
theorem zc7 (h:zp:=by
 have HNx:Hid (Pro.bm S P (k+1)=none):=by
  exact zfF
 rw [Mz zaW] at h5;obtain ⟨rfl,hb5⟩:=h5;have hbr5:Below w3 w3 w5:=hbr.trans (hb5.mono hbr.size);clear hbad;dsimp only;go_wp2
 go_roundg (n-(k+1))
 case measure=>omega
 case rel=>exact ⟨k+1,rfl,zaa,zah,HNx.out,hbr5⟩):zp:=h
theorem zdV (h:zp:=by
 obtain ⟨y,hy,r1,r2,r3⟩:=hI;rw [ME.1 hy] at r1 r3;refine new _ _ ?_ (by rw [<- r3];rfl);rw [<- r1];simp):zp:=h
theorem zdW (h:zp:=by
 rcases M8 hx with hx | hx
 ·exact h.words x hx
 ·rw [hx];have:=h.words (S.getD u Ref.st0) (aZ hu);exact this):zp:=h
theorem zdX (h:zp:=by
 obtain ⟨y,hy,e⟩:=h
 rcases M8 hy with h | h
 ·exact .inl ⟨y,h,e⟩
 ·exact .inr ⟨x',ME.2 rfl,zbn⟩):zp:=h
theorem zdZ (h:zp:=by
 obtain ⟨a0,a1,a2⟩:=hmove _ _ _ _ h1;exact ⟨a0,a1,by simp only [List.length_cons] at e ⊢;omega⟩):zp:=h
theorem zd0 (h:zp:=by
 rcases M8 hx with hx | hx
 ·exact h.en0 x hx
 ·rw [hx];have:=h.en0 (S.getD u Ref.st0) (aZ hu);exact this):zp:=h
theorem zd1 (h:zp:=by
 rcases M8 hx with hx | hx
 ·exact h.lv0 x hx
 ·rw [hx];have:=h.lv0 (S.getD u Ref.st0) (aZ hu);exact this):zp:=h
theorem zd6 (h:zp:=by
 obtain ⟨⟨A,r'⟩,h1,h2⟩:=MZ.1 h;cases h2
 obtain ⟨a1,a2⟩:=hdo _ _ _ h1;exact ⟨a1,Qv a2⟩):zp:=h
theorem zd9 (h:zp:=by
 obtain ⟨y,hy,e⟩:=h
 rcases MU.1 hy with h | h
 ·exact .inl ⟨y,h,e⟩
 ·exact .inr ⟨y,h,e⟩):zp:=h
theorem zek (h:zp:=by
 exact ⟨x',hx',by rw [this.1,<- h];exact e1,e2,by rw [this.2,<- h];exact e3⟩):zp:=h
theorem zez (h:zp:=by
 split at h
 ·cases h
 rename_i h0;cases h
 exact ⟨_,oS hup,h0,rfl⟩):zp:=h
theorem zeY (h:zp:=by
 rw [hx];exact .inl (by show (0:Int)<(i:Int)+1;omega)):zp:=h
theorem ze6 (h:zp:=by
 obtain ⟨q,h1,h2⟩:=MZ.1 h;cases h2;trivial):zp:=h
theorem zaw (h:zp:=by simp [go_sem]):zp:=h
theorem zaD (h:zp:=by obtain ⟨y,hy,r⟩:=hI;rw [ME.1 hy] at r;exact ⟨_,ME.2 rfl,r⟩):zp:=h
theorem zaW (h:zp:=by simpa [Pro.fh] using hbad):zp:=h
theorem zaZ (h:zp:=by rw [ML];exact hu):zp:=h
theorem za6 (h:zp:=by rw [O0];rfl):zp:=h
theorem zbn (h:zp:=by rw [<- h];exact e):zp:=h
theorem zb9 (h:zp:=by obtain ⟨r0,y,hy,r⟩:=hI;rw [ME.1 hy] at r;exact ⟨r0,_,ME.2 rfl,r⟩):zp:=h
open Tryz
variable {sv:Ref.Sl} {e:TypeId} {b a:Int} {S:List Ref.State} {P:List ByteArray} {i k n:Nat} {s:ByteArray} {v:Value}
section
open Go.RowKit
namespace Pro
def fh (D:DataW Nat) (tm:Bool) (num:Nat):PL->Bool
 | .state _ n => !decide (iY D n=some (num:Int))
 | .move ev af d t A=>kf D tm ⟨ev,t,af,d,A,num⟩
 | .enter A=>tm&&Ref.b7 A
 | .leave A=>tm&&Ref.b7 A
def lC (S:List Ref.State) (P:List ByteArray) (k:Nat):Bool:=match bl (k+1) (wl P k) with
 | some L=>fh (aQ S S.length) (bK S) (k+1) L
 | none=>false
def bm (S:List Ref.State) (P:List ByteArray):Nat->Option Nat
 | 0=>none
 | k+1=>match bm S P k with
  | some i=>some i
  | none=>if lC S P k then some k else none
theorem fX {S:List Ref.State} {P:List ByteArray} {i k:Nat} (h:bm S P k=some i):∀ j,k<=j->bm S P j=some i
 | 0,hj=>by rw [Rz.1 hj] at h;exact h
 | j+1,hj=>by
  by_cases e:k=j+1
  ·rw [<- e];exact h
  ·rw [bm,fX h j zaa]
def read (s:ByteArray):Ref.Got :=
 if 1500<s.size then .fault 1 0
 else match Ref.syn (Ref.cut s 10) with
  | some i => .fault 2 ((i:Int)+1)
  | none=>match Ref.a8 (Ref.aN (Ref.cut s 10) ((Ref.cut s 10).length-1)) ((Ref.cut s 10).length-1) with
   | none => .fault 3 (Ref.gx (Ref.aN (Ref.cut s 10) ((Ref.cut s 10).length-1)) ((Ref.cut s 10).length-1))
   | some S=>match Ref.dK S S.length with
    | some l => .fault 3 l
    | none=>match bm S (Ref.cut s 10) ((Ref.cut s 10).length-1) with
     | some i => .fault 4 ((i:Int)+1)
     | none => .eO S
abbrev Kx (m:Nat):PL->Prop
 | .state _ _=>True
 | .move _ _ _ t A=>t.size<=8/\(∀ a∈A,Shape a)/\A.length<=m
 | .enter A=>(∀ a∈A,Shape a)/\A.length<=m
 | .leave A=>(∀ a∈A,Shape a)/\A.length<=m
theorem ke {num:Nat} {l r:List ByteArray} {L:PL} (h:bk num l=some (L,r)):Kx l.length L:=by
 have hal:∀ (f:Nat) (l r:List ByteArray) (A:List Ref.Act),gn f l=some (A,r)->A.length<=l.length:=by
  intro f
  induction f with
  | zero=>intro l r A h;cases h;simp
  | succ f ih =>
   intro l r A h;cases l with
   | nil=>cases h;simp
   | cons x t =>
    rw [gn] at h;split at h
    ·split at h
     ·cases h
     ·rename_i a r' h1;split at h
      ·cases h
      ·rename_i A' t' h2;cases h
       have e1:=ja h1;have e2:=ih _ _ _ h2;simp only [List.length_cons];omega
    ·cases h;simp
 have hacts:∀ (l r:List ByteArray) (A:List Ref.Act),a7 l=some (A,r)->(∀ a∈A,Shape a)/\A.length<=l.length:=fun l r A h=>⟨qO _ _ _ _ h,hal _ _ _ _ h⟩;have hmove:∀ (l r:List ByteArray) (t:ByteArray) (A:List Ref.Act),gq l=some ((t,A),r)->t.size<=8/\(∀ a∈A,Shape a)/\A.length<=l.length:=by
  intro l r t A h;unfold gq at h;split at h
  ·cases h
  ·rename_i t' r' ht;obtain ⟨⟨A',r2⟩,h1,h2⟩:=MZ.1 h;cases h2
   obtain ⟨a1,a2⟩:=hacts _ _ _ h1;cases l with
   | nil=>cases ht;exact ⟨zac,a1,a2⟩
   | cons y u =>
    rw [pTo] at ht;split at ht
    ·have:=gU ht;refine ⟨iM this.1,a1,?_⟩;have e:=congrArg List.length this.2;simp only [List.length_cons] at e ⊢;omega
    ·cases ht;exact ⟨zac,a1,a2⟩
 cases l with
 | nil=>cases h
 | cons x t =>
  rw [bk] at h;split at h
  ·exact ze6
  ·split at h
   ·exact ze6
   ·split at h
    ·exact ze6
    ·split at h
     ·exact ze6
     ·split at h
      ·split at h
       ·cases h
       ·rename_i ev r1 he;obtain ⟨⟨⟨t',A⟩,r'⟩,h1,h2⟩:=MZ.1 h;cases h2
        have e:=congrArg List.length (gU he).2;exact zdZ
      ·split at h
       ·split at h
        ·cases h
        ·rename_i d r1 he;obtain ⟨⟨⟨t',A⟩,r'⟩,h1,h2⟩:=MZ.1 h;cases h2
         have e:=nj he;exact zdZ
       ·have hdo:∀ (l r:List ByteArray) (A:List Ref.Act),cG l=some (A,r)->(∀ a∈A,Shape a)/\A.length<=l.length:=by
         intro l r A h;unfold cG at h;split at h
         ·cases h
         ·cases h
         ·rename_i h1;cases h
          exact hacts _ _ _ h1
        split at h
        ·exact zd6
        ·split at h
         ·exact zd6
         ·cases h
end Pro
structure jt (w:World) (sv:Ref.Sl) (X:List Pro.DS):Prop where
 states:w.ownsRow 0 172 8 sv.v X.length (X.flatMap Pro.aO)
 aj:∀ x∈X,∃ M:List Pro.PV,M.map (·.m)=x.s.aj/\w.ownsRow 0 240 5 x.vm.v M.length (M.flatMap Pro.bg)/\∀ y∈M,w.ownsRow 0 251 1 y.v.v y.m.aw.length (y.m.aw.map bh)
 enter:∀ x∈X,w.ownsRow 0 251 1 x.ve.v x.s.enter.length (x.s.enter.map bh)
 leave:∀ x∈X,w.ownsRow 0 251 1 x.vl.v x.s.leave.length (x.s.leave.map bh)
theorem jt.fg {w w':World} {X:List Pro.DS} (h:jt w sv X) (T:Touch e w w') (h1:172≠e) (h2:240≠e) (h3:251≠e):jt w' sv X :=
 ⟨ag h.states T h1,fun x hx=>let ⟨M,m1,m2,m3⟩:=h.aj x hx;⟨M,m1,ag m2 T h2,fun y hy=>ag (m3 y hy) T h3⟩,fun x hx=>ag (h.enter x hx) T h3,fun x hx=>ag (h.leave x hx) T h3⟩
theorem aq.eO {w0 w:World} {db mb nm:Nat} {pv ov:Ref.Sl} {tm:Bool} {X:List Pro.DS} {SP:List (Int×Int)} {O:List Nat} {PT:Nat->List Nat} {D:DataW Nat} (G:aq w0 w db sv pv ov mb tm X SP O PT nm D):jt w sv X:=by
 have hd:∀ x∈X,xO w0 w x:=fun x hx=>by
  obtain ⟨i,hi,rfl⟩:=OW hx;exact G.deep i hi
 exact ⟨aD G.states (MJ _),fun x hx=>let ⟨M,m1,m2,m3⟩:=(hd x hx).aj;⟨M,m1,aD m2 (MJ _),fun y hy=>bf (m3 y hy) G.bel⟩,fun x hx=>bf (hd x hx).enter G.bel,fun x hx=>bf (hd x hx).leave G.bel⟩
def mC (s:ByteArray) (w:World) (e:Ending) (w':World):Prop:=Below w w w'/\match Pro.read s with
 | .fault c l=>∃ b,e = .returned (.tuple #[.pointer none,.iface 116 (.pointer (some ⟨b,0,none⟩))])/\w'.heap[b]?=some (.cells #[.int .i64 c,.int .i64 l] 120 (0,0))
 | .eO S=>∃ cb sv X,e = .returned (.tuple #[.pointer (some ⟨cb,0,none⟩),.nilIface])/\w'.heap[cb]?=some (.cells #[.slice sv.a sv.n sv.c] 157 (0,0))/\X.map (·.s)=S/\jt w' sv X/\S.length<=24
theorem LO (a b c d:Value) (w:World):(method 597 352 (.agg #[a,b,c, d]) "charts/reader.checkNames").run prog w = .ok (350,.agg #[a,b,c,d]) w:=zab
theorem LM (a b c d e f g:Value) (w:World):(method 597 356 (.agg #[a,b,c,d,e,f, g]) "charts/reader.checkNames").run prog w = .ok (355,.agg #[a,b,c,d,e,f,g]) w:=zab
theorem LK (a b c:Value) (w:World):(method 597 363 (.agg #[a,b, c]) "charts/reader.checkNames").run prog w = .ok (360,.agg #[a,b,c]) w:=zab
theorem LL (a b c:Value) (w:World):(method 597 364 (.agg #[a,b, c]) "charts/reader.checkNames").run prog w = .ok (360,.agg #[a,b,c]) w:=zab
theorem fC {w w1 w2 w':World} {er ln:Int} {b:Nat} (hw1:w1=(w.alloc (.cells #[.pointer none] 109)).alloc (.cells #[.nilIface] 61)) (hb:Below w1 w1 w2) (hbl:w1.heap.size<=b) (hrow:w2.heap[b]?=some (.cells #[(er:Int),(ln:Int)] 120 (0,0)))
  (hc:Below w2 ((w2.setCell w (.pointer none)).setCell ⟨w.heap.size+1,0,none⟩ (.iface 116 b)) w') :
  Below w w w'/\w'.cell? w=some (.pointer none)/\w'.cell? ⟨w.heap.size+1,0,none⟩=some (.iface 116 b)/\w'.heap[b]?=some (.cells #[(er:Int),(ln:Int)] 120 (0,0)):=by
 have hs1:w1.heap.size=w.heap.size+2:=by rw [hw1];simp
 have h0:w1.heap[w.heap.size]?=some (.cells #[.pointer none] 109 (0,0)):=by rw [hw1];exact eL _ _ _
 have h1:w1.heap[w.heap.size+1]?=some (.cells #[.nilIface] 61 (0,0)):=by rw [hw1];exact bQ _ _ _
 have hbw1:Below w w w1:=zbu;have g0:=(hb.block _ zaa).trans h0;have g1:=(hb.block _ zaa).trans h1;have hs2:=hb.size;have oa:=aa w2 w 0 (.pointer none);have ob:=aa (w2.setCell w (.pointer none)) (w.heap.size+1) 0 (.iface 116 b);have lb:=(Ms.1 hrow).1;refine ⟨?_,?_,?_,?_⟩
 ·have hx:=ob.below (oa.below (hbw1.trans (hb.mono hbw1.size)) (Mt _)) zaa;exact hx.trans (hc.mono zaa)
 ·have r:=MO w2 w 0 _ _ (.pointer none) g0;have r2:=(hc.block w zaa).trans ((ob.block w zaa).trans r);rw [My w' _ _ _ _ _ r2];rfl
 ·have g1':=(oa.block (w.heap.size+1) zaa).trans g1;have r:=MO _ (w.heap.size+1) 0 _ _ (.iface 116 b) g1';have r2:=(hc.block (w.heap.size+1) zaa).trans r;rw [My w' _ _ _ _ _ r2];rfl
 ·rw [hc.block b lb,ob.block b zaa,oa.block b zaa];exact hrow
theorem GZ (s:ByteArray) (w:World) (hv:vT w) (hs:s.size<=1073741824) :
  () 38 #[s] w (mC s w):=by
 have hmf:∀ (fn:Fn) (first cap:Array Value) (w:World),(Instr.makeFunc fn first cap).run prog w = .ok (.func fn first cap) w:=fun _ _ _ _=>rfl;obtain ⟨w1,hw1⟩:∃ y,y=(w.alloc (.cells #[.pointer none] 109)).alloc (.cells #[.nilIface] 61):=⟨_,rfl⟩;have hs1:w1.heap.size=w.heap.size+2:=by rw [hw1];simp
 have h0:w1.heap[w.heap.size]?=some (.cells #[.pointer none] 109 (0,0)):=by rw [hw1];exact eL _ _ _
 have h1:w1.heap[w.heap.size+1]?=some (.cells #[.nilIface] 61 (0,0)):=by rw [hw1];exact bQ _ _ _
 have hbw1:Below w w w1:=zbu;have HRL:Hid (() 56 #[s] w1 (dI s w1)):=by
  by_cases hbig:1500<s.size
  ·exact sF s w1 hbig hs
  ·exact tT s w1 (hv.ak hbw1) zaa
 have HW1:Hid _:=hw1
 go_enter_defers func38,ntmps38
 go_wp2_with fail;rw [<- HW1.out];refine MC HRL.out ?_;rintro e w2 h2;unfold dI at h2;by_cases hbig:1500<s.size
 ·rw [MB hbig] at h2;have HR:Hid (Pro.read s = .fault 1 0):=by unfold Hid;rw [Pro.read,MB hbig]
  obtain ⟨hb,b,h5,h6,rfl⟩:=h2;dsimp only;refine PK (f:=55) (args:=#[w,↑(w.heap.size+1)]) zad zaw ?_;refine (bU w (w.heap.size+1) _ _ b [] _ ((OC hb _ zaa).trans h0) ((OC hb _ zaa).trans h1) zaa).mono ?_;rintro e u' wq ⟨rfl,rfl,W,hc,rfl⟩;obtain ⟨r1,r2,r3,r4⟩:=fC HW1.out hb h5 h6 hc;simp [Leaves,settle,results,Tryz.results38,go_sem,r2,r3];unfold mC;rw [HR.out];exact ⟨r1,b,rfl,r4⟩
 ·rw [Mz hbig] at h2;have HPr:Hid (Pro.read s=match Ref.syn (Ref.cut s 10) with
   | some i => .fault 2 ((i:Int)+1)
   | none=>match Ref.a8 (Ref.aN (Ref.cut s 10) ((Ref.cut s 10).length-1)) ((Ref.cut s 10).length-1) with
    | none => .fault 3 (Ref.gx (Ref.aN (Ref.cut s 10) ((Ref.cut s 10).length-1)) ((Ref.cut s 10).length-1))
    | some S=>match Ref.dK S S.length with
     | some l => .fault 3 l
     | none=>match Pro.bm S (Ref.cut s 10) ((Ref.cut s 10).length-1) with
      | some i => .fault 4 ((i:Int)+1)
      | none => .eO S):=by unfold Hid;rw [Pro.read,Mz hbig]
  have HSz:Hid (∀ j,(Ref.pc (Ref.cut s 10) j).size<=1500):=by
   intro j;unfold Ref.pc;rw [MI];cases e:(Ref.cut s 10)[j]? with
   | none=>exact MJ _
   | some x=>exact Mv (re x (MG e)) zaa
  have hPl:(Ref.cut s 10).length<=1501:=Mv qw zaa;generalize Ref.cut s 10=P at *;cases hsyn:Ref.syn P with
  | some i =>
   rw [hsyn] at h2 HPr;obtain ⟨hb,b,h5,h6,rfl⟩:=h2;dsimp only;refine PK (f:=55) (args:=#[w,↑(w.heap.size+1)]) zad zaw ?_;refine (bU w (w.heap.size+1) _ _ b [] _ ((OC hb _ zaa).trans h0) ((OC hb _ zaa).trans h1) zaa).mono ?_;rintro e u' wq ⟨rfl,rfl,W,hc,rfl⟩;obtain ⟨r1,r2,r3,r4⟩:=fC HW1.out hb h5 h6 hc;simp [Leaves,settle,results,Tryz.results38,go_sem,r2,r3];unfold mC;rw [HPr.out];exact ⟨r1,b,rfl,r4⟩
  | none =>
   rw [hsyn] at h2 HPr;obtain ⟨hb2,lb,vs,LS,rfl,hlb,hv0,HL⟩:=h2;obtain ⟨n,hn⟩:∃ n,n=P.length-1:=⟨_,rfl⟩;rw [<- hn] at HL HPr;have hlv:=HL.lv;rw [hlv] at hv0 ⊢;have hnb:n<=1500:=zaa;have HC:Hid _:=sx P n lb vs LS w2 hlb HL hv0 hnb HSz.out;have hlbl:=(Ms.1 hlb).1;have HLB:Hid _:=hlb;have HHL:Hid _:=HL;have HVl:Hid (vs.length=n):=hlv;clear hsyn hlb HL hlv hn hPl hbig hs;dsimp only;go_wp2_with fail;refine MC HC.out ?_;rintro e w3 h3;unfold eC at h3;cases htr:Ref.a8 (Ref.aN P n) n with
   | none =>
    rw [htr] at h3 HPr;exact zcX
   | some S =>
    rw [htr] at h3 HPr;simp only at h3;cases hpt:Ref.dK S S.length with
    | some l =>
     rw [hpt] at h3;simp only [hpt] at HPr;exact zcX
    | none =>
     rw [hpt] at h3;simp only [hpt] at HPr;obtain ⟨db,rfl,hb3,DA⟩:=h3;have hb13:=hb2.trans (hb3.mono hb2.size);clear hpt htr HC;dsimp only;go_wp2;obtain ⟨sv,pv,ov,mb,X,nm,hX,hnm,G⟩:=DA.mem;have hSl:=DA.inv.len;have HX:Hid _:=hX;have hlb3:lb<w3.heap.size:=MR hlbl hb3.size;clear DA hX hnm
     go_loopg [15] n (fun q i wr=>∃ k:Nat,q=n-k/\k<=n/\i = .int .i64 k/\Pro.bm S P k=none/\Below w3 w3 wr)
     case atStart=>exact ⟨0,rfl,MJ _,rfl,rfl,Mw _ _⟩
     case round =>
      obtain ⟨k,hq,hk,rfl,hnf,hbr⟩:=hrel;have hbr1:Below w1 w1 wr:=hb13.trans (hbr.mono hb13.size);have HNF:Hid _:=hnf;by_cases hkn:k<n
      ·obtain ⟨hp,hv⟩:=HHL.out.row k hkn;have hgood:=Pro.ny hp;have hll:(Pro.wl P k).length<=1501:=by
        unfold Pro.wl;have h1:=Pro.vg (Ref.pc P k);have h2:=HSz.out k;exact Mv qw zaa
       have cv:wr.cell? ⟨lb,k,none⟩=some (vs[k]'(by have:=HVl.out;omega)):=by
        rw [MK (w:=w3) (hbr.block lb hlb3),MK (w:=w2) (hb3.block lb hlbl),My w2 _ k _ _ _ HLB.out,OZ,Mu]
       obtain ⟨L,hL⟩:∃ L,L=LS[k]'(by have:=HHL.out.ll;omega):=⟨_,rfl⟩;obtain ⟨v,hve⟩:∃ v,v=vs[k]'(by have:=HVl.out;omega):=⟨_,rfl⟩;obtain ⟨dp,hdp⟩:∃ dp,dp=Ref.dc (Ref.pc P k):=⟨_,rfl⟩;rw [<- hL,<- hve,<- hdp] at hv;rw [<- hL] at hp hgood;rw [<- hve] at cv;have HNB:Hid (Pro.lC S P k=Pro.fh (Pro.aQ S S.length) (Pro.bK S) (k+1) L):=by unfold Hid Pro.lC;rw [hp]
       have hsh:∃ r,Pro.bk (k+1) (Pro.wl P k)=some (L,r):=by
        unfold Pro.bl at hp;split at hp
        ·rename_i L' h1;cases hp
         exact ⟨_,h1⟩
        ·cases hp
       obtain ⟨rr,hpl⟩:=hsh;have hshape:=Pro.ke hpl;have Gr:=G.ak hbr;clear hL hve hdp hp hpl hnf;cases L with
      | state kd nme =>
       have hv:v=_:=hv;subst hv;have hmS:=LO;go_wp2_with fail;refine MC (sO ((k+1:Nat):Int) dp kd nme Gr (Mv hgood.2.2 zac)) ?_;rintro e w5 h5;unfold vX at h5;cases hbad:Pro.fh (Pro.aQ S S.length) (Pro.bK S) (k+1) (.state kd nme) with
       | true =>
        have HRd:Hid (Pro.read s = .fault 4 (((k+1:Nat):Int))):=by
         exact zfC
        rw [Mz zaW] at h5;obtain ⟨hb,b,h7,h6,rfl⟩:=h5;have hbq:Below w1 w1 w5:=hbr1.trans (hb.mono hbr1.size);have hlq:w1.heap.size<=b:=Mv hbr1.size h7;dsimp only;refine PK (f:=55) (args:=#[w,↑(w.heap.size+1)]) zad zaw ?_;refine (bU w (w.heap.size+1) _ _ b [] _ ((OC hbq _ zaa).trans h0) ((OC hbq _ zaa).trans h1) zaa).mono ?_;rintro e u' wq ⟨rfl,rfl,W,hc,rfl⟩;obtain ⟨r1,r2,r3,r4⟩:=fC HW1.out hbq hlq h6 hc;simp [Leaves,settle,results,Tryz.results38,go_sem,r2,r3];unfold mC;rw [HRd.out];exact ⟨r1,b,rfl,r4⟩
       | false =>
        have HNx:Hid (Pro.bm S P (k+1)=none):=by
         exact zfF
        rw [MB zaW] at h5;obtain ⟨rfl,hb5⟩:=h5;have hbr5:Below w3 w3 w5:=hbr.trans (hb5.mono hbr.size);clear hbad;dsimp only;go_wp2
        go_roundg (n-(k+1))
        case measure=>omega
        case rel=>exact ⟨k+1,rfl,zaa,zah,HNx.out,hbr5⟩
      | move ev af dl t A =>
       obtain ⟨va,vn,vc,hv,hown⟩:=hv;subst hv;have hmS:=LM;go_wp2_with fail;refine MC (tM ((k+1:Nat):Int) dp ⟨⟨ev,t,af,dl,A,((k+1:Nat):Int)⟩,⟨va,vn,vc⟩⟩ Gr (Mv hshape.1 zac) hown hshape.2.1 (Mv hshape.2.2 zaa)) ?_;rintro e w5 h5;unfold gu at h5;cases hbad:Pro.fh (Pro.aQ S S.length) (Pro.bK S) (k+1) (.move ev af dl t A) with
       | true =>
        exact zcQ
       | false =>
        exact zc7
      | enter A =>
       obtain ⟨va,vn,vc,hv,hown⟩:=hv;subst hv;have hmS:=LK;go_wp2_with fail;refine MC (kH ((k+1:Nat):Int) dp A va vn vc Gr hown hshape.1 (Mv hshape.2 zaa)) ?_;rintro e w5 h5;unfold dt at h5;cases hbad:Pro.fh (Pro.aQ S S.length) (Pro.bK S) (k+1) (.enter A) with
       | true =>
        exact zcQ
       | false =>
        exact zc7
      | leave A =>
       obtain ⟨va,vn,vc,hv,hown⟩:=hv;subst hv;have hmS:=LL;go_wp2_with fail;refine MC (kH ((k+1:Nat):Int) dp A va vn vc Gr hown hshape.1 (Mv hshape.2 zaa)) ?_;rintro e w5 h5;unfold dt at h5;cases hbad:Pro.fh (Pro.aQ S S.length) (Pro.bK S) (k+1) (.leave A) with
       | true =>
        exact zcQ
       | false =>
        exact zc7
      ·obtain rfl:k=n:=zaa;have HRd:Hid (Pro.read s = .eO S):=by unfold Hid;rw [HPr.out,HNF.out]
       have Gr:=G.ak hbr;obtain ⟨c0,_,_,_,_⟩:=Gr.cells;have hdl:=Gr.dlt;have g0:=(hbr1.block _ zaa).trans h0;have g1:=(hbr1.block _ zaa).trans h1;have k0:wr.cell? w=some (.pointer none):=by rw [My wr _ _ _ _ _ g0];rfl
       have k1:wr.cell? ⟨w.heap.size+1,0,none⟩=some .nilIface:=by rw [My wr _ _ _ _ _ g1];rfl
       have f0:wr.frozen? ⟨w,0,none⟩=false:=by simp [World.frozen?,g0]
       have f1:wr.frozen? ⟨w.heap.size+1,0,none⟩=false:=by simp [World.frozen?,g1]
       have l0:w.heap.size<wr.heap.size:=(Ms.1 g0).1;have l1:w.heap.size+1<wr.heap.size:=(Ms.1 g1).1;have HG:Hid _:=Gr;clear hnf G Gr;go_wp2;refine PK (f:=55) (args:=#[w,↑(w.heap.size+1)]) zad zaw ?_;refine (AP _ _ _).mono ?_;rintro e u' wq ⟨rfl,rfl,rfl⟩;have oa:=aa wr w 0 wr;have ob:=aa (wr.setCell w wr) (w.heap.size+1) 0 .nilIface;have g1':=(oa.block (w.heap.size+1) zaa).trans g1;have ra:=MO wr w 0 _ _ wr g0;have rb:=MO _ (w.heap.size+1) 0 _ _ .nilIface g1';have ra':=(ob.block w zaa).trans ra;have hT:=iQ oa g0;have hT2:=iQ ob g1';have hC2:=(HG.out.eO.fg hT zac zac zac).fg hT2 zac zac zac;have hbe:Below w w (wr.setCell w wr):=oa.below (hbw1.trans (hbr1.mono hbw1.size)) (Mt _);have hbe2:=ob.below hbe zaa;have hsz:((wr.setCell w wr).setCell ⟨w.heap.size+1,0,none⟩ .nilIface).heap.size=wr.heap.size:=by rw [ob.size,oa.size]
       obtain ⟨W6,hW6⟩:∃ y,y=(wr.setCell w wr).setCell ⟨w.heap.size+1,0,none⟩ .nilIface:=⟨_,rfl⟩;rw [<- hW6] at ra' rb hC2 hbe2 hsz ⊢;have q0:(W6.alloc (.cells #[.slice sv.a sv.n sv.c] 157)).cell? w=some ↑wr:=by
        rw [Nn _ _ ⟨w,0,none⟩ (by rw [hsz];exact l0),My W6 _ _ _ _ _ ra'];rfl
       have q1:(W6.alloc (.cells #[.slice sv.a sv.n sv.c] 157)).cell? ⟨w.heap.size+1,0,none⟩=some .nilIface:=by
        rw [Nn _ _ ⟨w.heap.size+1,0,none⟩ (by rw [hsz];exact l1),My W6 _ _ _ _ _ rb];rfl
       simp [Leaves,settle,results,Tryz.results38,go_sem,q0,q1];unfold mC;rw [HRd.out];refine ⟨hbe2.alloc zaa _,wr.heap.size,sv,X,rfl,?_,HX.out,hC2.fg (e:=0) (cD ((Mw _ _).alloc (Mt _) _)) zac zac zac,hSl⟩;rw [<- hsz];exact MD _ _
namespace Pro
inductive It where
 | nm (n:ByteArray)
 | mv (m:Ref.Move)
 | en (A:List Ref.Act)
 | lv (A:List Ref.Act)
def tJ (num:Nat):PL->It
 | .state _ n => .nm n
 | .move ev af d t A => .mv ⟨ev,t,af,d,A,num⟩
 | .enter A => .en A
 | .leave A => .lv A
def Item (S:List Ref.State) (l:Int):It->Prop
 | .nm n=>∃ x∈S,x.line=l/\x.name=n
 | .mv m=>m.line=l/\∃ x∈S,m∈x.aj
 | .en A=>∃ x∈S,x.has0=l/\0<l/\x.enter=A
 | .lv A=>∃ x∈S,x.has1=l/\0<l/\x.leave=A
def FE (D:DataW Nat) (tm:Bool) (l:Int):It->Bool
 | .nm n => !decide (iY D n=some l)
 | .mv m=>kf D tm m
 | .en A=>tm&&Ref.b7 A
 | .lv A=>tm&&Ref.b7 A
theorem AL (D:DataW Nat) (tm:Bool) (num:Nat) (L:PL):fh D tm num L=FE D tm num (tJ num L):=by cases L <;> rfl
structure Itm (P:List ByteArray) (S:List Ref.State) (i:Nat):Prop where
 fro:∀ l I,Item S l I->∃ j L,j<i/\l=((j+1:Nat):Int)/\bl (j+1) (wl P j)=some L/\I=tJ (j+1) L
 back:∀ j,j<i->∃ L,bl (j+1) (wl P j)=some L/\Item S ((j+1:Nat):Int) (tJ (j+1) L)
 asc:∀ q q',q<q'->q'<S.length->(S.getD q Ref.st0).line<(S.getD q' Ref.st0).line
 en0:∀ x∈S,0<x.has0\/x.enter=[]
 lv0:∀ x∈S,0<x.has1\/x.leave=[]
 words:∀ x∈S,gX x
theorem Itm.nil (P:List ByteArray):Itm P [] 0:=by
 refine ⟨fun l I h => ?_,fun j h=>absurd h zaa,fun q q' _ h=>absurd h zad,fun x h=>absurd h zad,fun x h=>absurd h zad,fun x h=>absurd h zad⟩;cases I with
 | nm n=>obtain ⟨x,h,_⟩:=h;cases h
 | mv m=>obtain ⟨_,x,h,_⟩:=h;cases h
 | en A=>obtain ⟨x,h,_⟩:=h;cases h
 | lv A=>obtain ⟨x,h,_⟩:=h;cases h
theorem lO {S:List Ref.State} {d:Int}:∀ n,Ref.ga S d n<(n:Int)
 | 0=>by unfold Ref.ga;omega
 | n+1=>by
  have:=lO (S:=S) (d:=d) n;rw [Ref.ga]
  repeat' split
  all_goals omega
theorem oS {d:Int} (h:¬ Ref.dv S d<0):(Ref.dv S d).toNat<S.length:=by
 unfold Ref.dv at h ⊢;split at h
 ·rename_i hd;rw [MB hd];have:=lO (S:=S) (d:=d) S.length;omega
 ·omega
def E9 (S S':List Ref.State) (i num:Nat):PL->Prop
 | .state k n=>∃ ns:Ref.State,S'=S++[ns]/\ns.line=num/\ns.name=n/\ns.aj=[]/\ns.enter=[]/\ns.leave=[]/\ns.has0=0/\ns.has1=0/\ns.word=bu k/\ns.deep=decide (k=4)
 | .move ev af d t A=>∃ u,u<S.length/\S'=S.set u { S.getD u Ref.st0 with aj:=(S.getD u Ref.st0).aj++[⟨ev,t,af,d,A,num⟩] }
 | .enter A=>∃ u,u<S.length/\¬ 0<(S.getD u Ref.st0).has0/\S'=S.set u { S.getD u Ref.st0 with has0:=i+1,enter:=A }
 | .leave A=>∃ u,u<S.length/\¬ 0<(S.getD u Ref.st0).has1/\S'=S.set u { S.getD u Ref.st0 with has1:=i+1,leave:=A }
theorem J0 {S S':List Ref.State} {i num:Nat} {d:Int} {L:PL} (h:Ref.bB S i (aE num L) d=some S'):E9 S S' i num L:=by
 unfold Ref.bB at h;split at h
 ·cases h
 cases L with
 | state k n =>
  rw [MB (show (aE num (.state k n)).kind=115 from rfl)] at h;split at h
  ·cases h
   exact ⟨_,rfl,rfl,rfl,rfl,rfl,rfl,rfl,rfl,rfl,rfl⟩
  ·cases h
 | move ev af dl t A =>
  rw [Mz (show ¬ (aE num (.move ev af dl t A)).kind=115 by simp [aE])] at h;split at h
  ·cases h
  rename_i hup;split at h
  ·cases h
  rw [MB (show (aE num (.move ev af dl t A)).kind=109 from rfl)] at h;split at h
  ·cases h
  cases h
  exact ⟨_,oS hup,rfl⟩
 | enter A =>
  rw [Mz (show ¬ (aE num (.enter A)).kind=115 by simp [aE])] at h;split at h
  ·cases h
  rename_i hup;split at h
  ·cases h
  rw [Mz (show ¬ (aE num (.enter A)).kind=109 by simp [aE]),MB (show (aE num (.enter A)).kind=101 from rfl)] at h;exact zez
 | leave A =>
  rw [Mz (show ¬ (aE num (.leave A)).kind=115 by simp [aE])] at h;split at h
  ·cases h
  rename_i hup;split at h
  ·cases h
  rw [Mz (show ¬ (aE num (.leave A)).kind=109 by simp [aE]),Mz (show ¬ (aE num (.leave A)).kind=101 by simp [aE]),MB (show (aE num (.leave A)).kind=108 from rfl)] at h;exact zez
theorem kh {u:Nat} {x' y:Ref.State} (h:y∈S):y∈S.set u x'\/y=S.getD u Ref.st0:=by
 obtain ⟨k,hk,rfl⟩:=OW h;by_cases e:u=k
 ·subst e;exact .inr (getD_eq hk).symm
 ·left;have:(S.set u x')[k]'(by rw [ML];exact hk)=S[k]:=by rw [NQ,Mz e]
  rw [<- this];exact Ns _
theorem rR {S:List Ref.State} {u:Nat} {x':Ref.State} {l:Int} {I:It} (hu:u<S.length) (h1:x'.line=(S.getD u Ref.st0).line) (h2:x'.name=(S.getD u Ref.st0).name) (h3:∀ m∈(S.getD u Ref.st0).aj,m∈x'.aj)
  (h4:0<(S.getD u Ref.st0).has0->x'.has0=(S.getD u Ref.st0).has0/\x'.enter=(S.getD u Ref.st0).enter) (h5:0<(S.getD u Ref.st0).has1->x'.has1=(S.getD u Ref.st0).has1/\x'.leave=(S.getD u Ref.st0).leave) (h:Item S l I):Item (S.set u x') l I:=by
 have hx':x'∈S.set u x':=Qx hu _;cases I with
 | nm n =>
  obtain ⟨y,hy,e1,e2⟩:=h
  rcases kh (u:=u) (x':=x') hy with h | h
  ·exact ⟨y,h,e1,e2⟩
  ·exact ⟨x',hx',by rw [h1,<- h];exact e1,by rw [h2,<- h];exact e2⟩
 | mv m =>
  obtain ⟨e0,y,hy,e1⟩:=h
  rcases kh (u:=u) (x':=x') hy with h | h
  ·exact ⟨e0,y,h,e1⟩
  ·exact ⟨e0,x',hx',h3 m (by rw [<- h];exact e1)⟩
 | en A =>
  obtain ⟨y,hy,e1,e2,e3⟩:=h
  rcases kh (u:=u) (x':=x') hy with h | h
  ·exact ⟨y,h,e1,e2,e3⟩
  ·have:=h4 (by rw [<- h,e1];exact e2);exact zek
 | lv A =>
  obtain ⟨y,hy,e1,e2,e3⟩:=h
  rcases kh (u:=u) (x':=x') hy with h | h
  ·exact ⟨y,h,e1,e2,e3⟩
  ·have:=h5 (by rw [<- h,e1];exact e2);exact zek
theorem rQ {S:List Ref.State} {u:Nat} {x':Ref.State} {l:Int} {I:It} (h:Item (S.set u x') l I):Item S l I\/Item [x'] l I:=by
 cases I with
 | nm n =>
  exact zdX
 | mv m =>
  obtain ⟨e0,y,hy,e⟩:=h
  rcases M8 hy with h | h
  ·exact .inl ⟨e0,y,h,e⟩
  ·exact .inr ⟨e0,x',ME.2 rfl,zbn⟩
 | en A =>
  exact zdX
 | lv A =>
  exact zdX
theorem uI {S S':List Ref.State} {l:Int} {I:It} (hs:∀ x∈S,x∈S') (h:Item S l I):Item S' l I:=by
 cases I with
 | nm n=>obtain ⟨y,hy,e⟩:=h;exact ⟨y,hs y hy,e⟩
 | mv m=>obtain ⟨e0,y,hy,e⟩:=h;exact ⟨e0,y,hs y hy,e⟩
 | en A=>obtain ⟨y,hy,e⟩:=h;exact ⟨y,hs y hy,e⟩
 | lv A=>obtain ⟨y,hy,e⟩:=h;exact ⟨y,hs y hy,e⟩
theorem ze {S T:List Ref.State} {l:Int} {I:It} (h:Item (S++T) l I):Item S l I\/Item T l I:=by
 cases I with
 | nm n =>
  exact zd9
 | mv m =>
  obtain ⟨e0,y,hy,e⟩:=h
  rcases MU.1 hy with h | h
  ·exact .inl ⟨e0,y,h,e⟩
  ·exact .inr ⟨e0,y,h,e⟩
 | en A =>
  exact zd9
 | lv A =>
  exact zd9
theorem nV (h:Itm P S i) {x:Ref.State} (hx:x∈S):0<x.line/\x.line<=i:=by
 obtain ⟨j,L,hj,e,_⟩:=h.fro x.line (.nm x.name) ⟨x,hx,rfl,rfl⟩;omega
theorem Itm.step {P:List ByteArray} {S S':List Ref.State} {i:Nat} {L:PL} (h:Itm P S i) (hL:bl (i+1) (wl P i)=some L) (hs:E9 S S' i (i+1) L):Itm P S' (i+1):=by
 have old:∀ l I,Item S l I->∃ j L,j<i+1/\l=((j+1:Nat):Int)/\bl (j+1) (wl P j)=some L/\I=tJ (j+1) L:=fun l I hI=>by
  obtain ⟨j,L,hj,r⟩:=h.fro l I hI;exact ⟨j,L,zaa,r⟩
 have fin:∀ (hm:∀ l I,Item S l I->Item S' l I) (hn:Item S' ((i+1:Nat):Int) (tJ (i+1) L)),∀ j,j<i+1->∃ L,bl (j+1) (wl P j)=some L/\Item S' ((j+1:Nat):Int) (tJ (j+1) L):=fun hm hn j hj=>by
  by_cases e:j=i
  ·subst e;exact ⟨L,hL,hn⟩
  ·obtain ⟨L',h1,h2⟩:=h.back j zaa;exact ⟨L',h1,hm _ _ h2⟩
 have new:∀ l I,l=((i+1:Nat):Int)->I=tJ (i+1) L->∃ j L,j<i+1/\l=((j+1:Nat):Int)/\bl (j+1) (wl P j)=some L/\I=tJ (j+1) L:=fun l I e1 e2=>⟨i,L,zaa,e1,hL,e2⟩;have asc':∀ u x',u<S.length->x'.line=(S.getD u Ref.st0).line->∀ q q',q<q'->q'<(S.set u x').length->((S.set u x').getD q Ref.st0).line<((S.set u x').getD q' Ref.st0).line:=by
  intro u x' hu hx q q' hq hq';rw [ML] at hq';have g:∀ k,k<S.length->((S.set u x').getD k Ref.st0).line=(S.getD k Ref.st0).line:=by
   intro k hk;by_cases e:u=k
   ·subst e;rw [show (S.set u x').getD u Ref.st0=x' by rw [MI,OK];simp [hu]];exact hx
   ·rw [show (S.set u x').getD k Ref.st0=S.getD k Ref.st0 by rw [MI,OK,Mz e,MI]]
  rw [g q zaa,g q' hq'];exact h.asc q q' hq hq'
 have hself:∀ {u},u<S.length->∀ {l I},Item [S.getD u Ref.st0] l I->Item S l I:=fun hu l I hI=>uI (fun x hx=>by rw [ME.1 hx];exact aZ hu) hI
 cases L with
 | state k n =>
  obtain ⟨ns,rfl,e1,e2,e3,e4,e5,e6,e7,e8,e9⟩:=hs;refine ⟨fun l I hI => ?_,fin (fun l I=>uI (fun x hx=>QI _ hx)) ⟨ns,zad,e1,e2⟩,fun q q' hq hq' => ?_,fun x hx => ?_,fun x hx => ?_,fun x hx => ?_⟩
  ·rcases ze hI with hI | hI
   ·exact old l I hI
   ·cases I with
    | nm n' =>
     obtain ⟨y,hy,r1,r2⟩:=hI;rw [ME.1 hy] at r1 r2;exact new _ _ (by rw [<- r1,e1]) (by rw [<- r2,e2];rfl)
    | mv m =>
     obtain ⟨_,y,hy,r⟩:=hI;rw [ME.1 hy,e3] at r;cases r
    | en A =>
     obtain ⟨y,hy,r1,r2,_⟩:=hI;rw [ME.1 hy,e6] at r1;omega
    | lv A =>
     obtain ⟨y,hy,r1,r2,_⟩:=hI;rw [ME.1 hy,e7] at r1;omega
  ·rw [MN] at hq';by_cases e:q'<S.length
   ·rw [bo e,bo zaa];exact h.asc q q' hq e
   ·have e':q'=S.length:=by simp at hq';omega
    subst e';rw [cY,bo hq,e1];have:=(nV h (aZ hq)).2;omega
  ·rcases MU.1 hx with hx | hx
   ·exact h.en0 x hx
   ·rw [ME.1 hx];exact .inr e4
  ·rcases MU.1 hx with hx | hx
   ·exact h.lv0 x hx
   ·rw [ME.1 hx];exact .inr e5
  ·rcases MU.1 hx with hx | hx
   ·exact h.words x hx
   ·rw [ME.1 hx];have hg:Good (.state k n):=ny hL;exact ⟨k,hg.1,hg.2.1,e8,e9⟩
 | move ev af dl t A =>
  obtain ⟨u,hu,rfl⟩:=hs;refine ⟨fun l I hI => ?_,fin (fun l I=>rR hu rfl rfl (fun m hm=>QI _ hm) (fun _=>⟨rfl,rfl⟩) (fun _=>⟨rfl,rfl⟩)) ⟨rfl,_,Qx hu _,List.mem_append_right _ (ME.2 rfl)⟩,asc' u _ hu rfl,fun x hx => ?_,fun x hx => ?_,fun x hx => ?_⟩
  ·rcases rQ hI with hI | hI
   ·exact old l I hI
   ·cases I with
    | nm n'=>exact old _ _ (hself hu (I := .nm n') zaD)
    | mv m =>
     obtain ⟨r0,y,hy,r⟩:=hI;rw [ME.1 hy] at r
     rcases MU.1 r with r | r
     ·exact old _ _ (hself hu (I := .mv m) ⟨r0,_,ME.2 rfl,r⟩)
     ·have:=ME.1 r;subst this;exact new _ _ r0.symm rfl
    | en A'=>exact old _ _ (hself hu (I := .en A') zaD)
    | lv A'=>exact old _ _ (hself hu (I := .lv A') zaD)
  ·exact zd0
  ·exact zd1
  ·exact zdW
 | enter A =>
  obtain ⟨u,hu,h0,rfl⟩:=hs;refine ⟨fun l I hI => ?_,fin (fun l I=>rR hu rfl rfl (fun m hm=>hm) (fun hh=>absurd hh h0) (fun _=>⟨rfl,rfl⟩)) ⟨_,Qx hu _,zad,zaa,rfl⟩,asc' u _ hu rfl,fun x hx => ?_,fun x hx => ?_,fun x hx => ?_⟩
  ·rcases rQ hI with hI | hI
   ·exact old l I hI
   ·cases I with
    | nm n'=>exact old _ _ (hself hu (I := .nm n') zaD)
    | mv m=>exact old _ _ (hself hu (I := .mv m) zb9)
    | en A' =>
     exact zdV
    | lv A'=>exact old _ _ (hself hu (I := .lv A') zaD)
  ·rcases M8 hx with hx | hx
   ·exact h.en0 x hx
   ·exact zeY
  ·exact zd1
  ·exact zdW
 | leave A =>
  obtain ⟨u,hu,h0,rfl⟩:=hs;refine ⟨fun l I hI => ?_,fin (fun l I=>rR hu rfl rfl (fun m hm=>hm) (fun _=>⟨rfl,rfl⟩) (fun hh=>absurd hh h0)) ⟨_,Qx hu _,zad,zaa,rfl⟩,asc' u _ hu rfl,fun x hx => ?_,fun x hx => ?_,fun x hx => ?_⟩
  ·rcases rQ hI with hI | hI
   ·exact old l I hI
   ·cases I with
    | nm n'=>exact old _ _ (hself hu (I := .nm n') zaD)
    | mv m=>exact old _ _ (hself hu (I := .mv m) zb9)
    | en A'=>exact old _ _ (hself hu (I := .en A') zaD)
    | lv A' =>
     exact zdV
  ·exact zd0
  ·rcases M8 hx with hx | hx
   ·exact h.lv0 x hx
   ·exact zeY
  ·exact zdW
theorem sX {P:List ByteArray}:∀ {k:Nat},Ref.lJ P k=none->∀ j,j<k->∃ L,bl (j+1) (wl P j)=some L
 | 0,_,j,hj=>absurd hj zaa
 | k+1,h,j,hj=>by
  rw [Ref.lJ] at h;split at h
  ·cases h
  rename_i h0;split at h
  ·cases h
  rename_i hk;by_cases e:j=k
  ·subst e;rw [kc] at hk;cases hp:bl (j+1) (wl P j) with
   | some L=>exact ⟨L,rfl⟩
   | none=>rw [hp] at hk;exact absurd rfl hk
  ·exact sX h0 j zaa
theorem nR {P:List ByteArray} {n:Nat} (hw:∀ j,j<n->∃ L,bl (j+1) (wl P j)=some L):∀ {i:Nat} {S:List Ref.State},i<=n->Ref.a8 (Ref.aN P n) i=some S->Itm P S i
 | 0,S,_,h=>by cases h;exact Itm.nil P
 | i+1,S,hi,h=>by
  rw [Ref.a8] at h;split at h
  ·cases h
  rename_i S0 h0;have ih:=nR hw zaa h0;have e:(Ref.aN P n)[i]?=some (Ref.gZ (Ref.pc P i) i,(Ref.dc (Ref.pc P i):Int)):=by
   unfold Ref.aN;rw [MF,QT zaa];rfl
  rw [e] at h;obtain ⟨L,hL⟩:=hw i zaa;have hl:Ref.gZ (Ref.pc P i) i=aE (i+1) L:=by rw [kc,hL];rfl
  dsimp only at h;rw [hl] at h;exact ih.step hL (J0 h)
def Lo (Q:Int->Prop) (a:Int):Prop:=(a=0/\∀ l,¬ Q l)\/(0<a/\Q a/\∀ l,Q l->a<=l)
theorem Lo.uniq {Q:Int->Prop} (h:Lo Q a) (h':Lo Q b):a=b:=by
 rcases h with ⟨rfl,h⟩ | ⟨h0,h1,h2⟩
 ·rcases h' with ⟨rfl,_⟩ | ⟨_,h1,_⟩
  ·rfl
  ·exact absurd h1 (h _)
 ·rcases h' with ⟨_,h'⟩ | ⟨_,h1',h2'⟩
  ·exact absurd h1 (h' _)
  ·exact Int.le_antisymm (h2 _ h1') (h2' _ h1)
theorem Lo.congr {Q Q':Int->Prop} (h:Lo Q a) (e:∀ l,Q l↔Q' l):Lo Q' a:=by
 have:Q=Q':=funext fun l=>propext (e l);rw [<- this];exact h
theorem Lo.add {Q:Int->Prop} (h:Lo Q a) (hb:0<b):Lo (fun l=>Q l\/l=b) (Ref.fi a b):=by
 unfold Ref.fi
 rcases h with ⟨rfl,h⟩ | ⟨h0,h1,h2⟩
 ·rw [MB (.inl rfl)];refine .inr ⟨hb,.inr rfl,fun l hl => ?_⟩
  rcases hl with hl | hl
  ·exact absurd hl (h l)
  ·omega
 ·split
  ·refine .inr ⟨hb,.inr rfl,fun l hl => ?_⟩
   rcases hl with hl | hl
   ·have:=h2 l hl;omega
   ·omega
  ·refine .inr ⟨h0,.inl h1,fun l hl => ?_⟩
   rcases hl with hl | hl
   ·exact h2 l hl
   ·omega
theorem Lo.xU {Q:Int->Prop} {c:Prop} [Decidable c] (h:Lo Q a) (hb:c->0<b):Lo (fun l=>Q l\/(c/\l=b)) (if c then Ref.fi a b else a):=by
 by_cases hc:c
 ·rw [MB hc];exact (h.add (hb hc)).congr (fun l=>by simp [hc])
 ·rw [Mz hc];exact h.congr (fun l=>by simp [hc])
theorem Lo.aj {X:List Ref.SV} {t:Bool}:∀ (ms:List Ref.Move) {Q:Int->Prop} {a:Int},Lo Q a->(∀ m∈ms,0<m.line)->Lo (fun l=>Q l\/∃ m∈ms,Ref.km X t m=true/\l=m.line) (ms.foldl (Ref.sQ X t) a)
 | [],Q,a,h,_=>h.congr (fun l=>zad)
 | m::ms,Q,a,h,hp=>by
  rw [Pb];have h1:Lo (fun l=>Q l\/(Ref.km X t m=true/\l=m.line)) (Ref.sQ X t a m):=h.xU (fun _=>hp m zad);refine (Lo.aj ms h1 (fun m hm=>hp m (by simp [hm]))).congr (fun l => ?_);simp [or_assoc]
def StB (X:List Ref.SV) (t:Bool) (k:Nat) (x:Ref.State) (l:Int):Prop:=(Ref.place X x.name<k/\l=x.line)\/(∃ m∈x.aj,Ref.km X t m=true/\l=m.line)\/((t&&Ref.b7 x.enter)=true/\l=x.has0)\/((t&&Ref.b7 x.leave)=true/\l=x.has1)
theorem Lo.state {X:List Ref.SV} {t:Bool} {x:Ref.State} {Q:Int->Prop} (h:Lo Q a) (p1:0<x.line) (p2:∀ m∈x.aj,0<m.line) (p3:(t&&Ref.b7 x.enter)=true->0<x.has0) (p4:(t&&Ref.b7 x.leave)=true->0<x.has1):Lo (fun l=>Q l\/StB X t k x l) (Ref.pI X t k a x):=by
 have h1:Lo (fun l=>Q l\/(Ref.place X x.name<k/\l=x.line)) (if Ref.place X x.name<k then Ref.fi a x.line else a):=h.xU (fun _=>p1);have h2:=Lo.aj (X:=X) (t:=t) x.aj h1 p2;have h3:=h2.xU (c:=(t&&Ref.b7 x.enter)=true) (b:=x.has0) p3;have h4:=h3.xU (c:=(t&&Ref.b7 x.leave)=true) (b:=x.has1) p4;refine Lo.congr (a:=Ref.pI X t k a x) h4 (fun l => ?_);unfold StB;simp only [or_assoc]
theorem r8 {X:List Ref.SV} {t:Bool} (hp:∀ x∈X,0<x.s.line/\(∀ m∈x.s.aj,0<m.line)/\((t&&Ref.b7 x.s.enter)=true->0<x.s.has0)/\((t&&Ref.b7 x.s.leave)=true->0<x.s.has1)):∀ k,k<=X.length->Lo (fun l=>∃ q,∃ h:q<X.length,q<k/\StB X t q X[q].s l) (Ref.n8 X t k)
 | 0,_ => .inl ⟨rfl,fun l ⟨_,_,h,_⟩=>absurd h zaa⟩
 | k+1,hk=>by
  have ih:=r8 hp k zaa;have hkl:k<X.length:=hk;rw [Ref.n8,Mu hkl];obtain ⟨p1,p2,p3,p4⟩:=hp X[k] (Ns hkl);refine (ih.state p1 p2 p3 p4).congr (fun l => ?_);constructor
  ·rintro (⟨q,h,h1,h2⟩ | h)
   ·exact ⟨q,h,zaa,h2⟩
   ·exact ⟨k,hkl,zaa,h⟩
  ·rintro ⟨q,h,h1,h2⟩;by_cases e:q=k
   ·subst e;exact .inr h2
   ·exact .inl ⟨q,h,zaa,h2⟩
def sf (S:List Ref.State) (P:List ByteArray) (k:Nat):Int:=match bm S P k with
 | some i=>(i:Int)+1
 | none=>0
theorem sd {S:List Ref.State} {P:List ByteArray}:∀ {k i:Nat},bm S P k=some i->i<k
 | 0,i,h=>by cases h
 | k+1,i,h=>by
  rw [bm] at h;split at h
  ·rename_i h0;cases h
   have:=sd h0;omega
  ·split at h
   ·cases h;omega
   ·cases h
theorem zz {S:List Ref.State} {P:List ByteArray}:∀ k,Lo (fun l=>∃ j,j<k/\l=((j+1:Nat):Int)/\lC S P j=true) (sf S P k)
 | 0 => .inl ⟨rfl,fun l ⟨_,h,_⟩=>absurd h zaa⟩
 | k+1=>by
  have ih:=zz (S:=S) (P:=P) k;have h1:=ih.xU (c:=lC S P k=true) (b:=((k+1:Nat):Int)) (fun _=>zaa);have e:sf S P (k+1)=if lC S P k=true then Ref.fi (sf S P k) ((k+1:Nat):Int) else sf S P k:=by
   unfold sf;rw [bm];cases hn:bm S P k with
   | none =>
    dsimp only;by_cases hb:lC S P k=true
    ·rw [MB hb,MB hb];unfold Ref.fi;rw [MB (.inl rfl)];simp
    ·rw [Mz hb,Mz hb]
   | some i =>
    dsimp only;have:=sd hn;by_cases hb:lC S P k=true
    ·rw [MB hb];unfold Ref.fi;rw [Mz zaa]
    ·rw [Mz hb]
  rw [e];refine h1.congr (fun l => ?_);constructor
  ·rintro (⟨j,h1,h2⟩ | ⟨h1,h2⟩)
   ·exact ⟨j,zaa,h2⟩
   ·exact ⟨k,zaa,h2,h1⟩
  ·rintro ⟨j,h1,h2,h3⟩;by_cases e:j=k
   ·subst e;exact .inr ⟨h3,h2⟩
   ·exact .inl ⟨j,zaa,h2,h3⟩
theorem IL {a b:ByteArray} (h:a.toList=b.toList):a=b:=by
 rw [NA,NA] at h;cases a
 cases b
 simpa using h
theorem K0 {a b:ByteArray} (h:a≠b):(Lit.string a.data.toList)≠Lit.string b.data.toList:=by
 intro e;apply h
 cases a
 cases b
 simpa using e
theorem lW (S:List Ref.State):∀ k,Go.Maps.IsMap (aQ S k)
 | 0=>Go.Maps.isMap_empty
 | k+1=>by
  rw [aQ];split
  ·exact lW S k
  ·exact (lW S k).put _ _
theorem nN (S:List Ref.State) (n:ByteArray):∀ k,(∃ q,q<k/\(S.getD q Ref.st0).name=n/\(∀ q',q'<q->(S.getD q' Ref.st0).name≠n)/\Go.Maps.has (aQ S k) (.string n.data.toList)=true/\∀ z,(aQ S k).atKey (.string n.data.toList) z = .lit (.int .i64 (S.getD q Ref.st0).line))\/((∀ q,q<k->(S.getD q Ref.st0).name≠n)/\Go.Maps.has (aQ S k) (.string n.data.toList)=false)
 | 0 => .inr ⟨fun q h=>absurd h zaa,rfl⟩
 | k+1=>by
  rw [aQ];by_cases e:(S.getD k Ref.st0).name=n
  ·rw [e]
   rcases nN S n k with ⟨q,h1,h2,h3,h4,h5⟩ | ⟨h1,h2⟩
   ·rw [MB h4];exact .inl ⟨q,zaa,h2,h3,h4,h5⟩
   ·rw [Mz (by rw [h2];simp)];exact .inl ⟨k,zaa,e,h1,Go.Maps.has_put_same (lW S k) (show WideAt.IsKeyLit (.string _) from trivial) _,fun z=>Qt (lW S k) (show WideAt.IsKeyLit (.string _) from trivial) _ _⟩
  ·have hk:(Lit.string n.data.toList)≠Lit.string (S.getD k Ref.st0).name.data.toList:=K0 (fun h=>e h.symm)
   rcases nN S n k with ⟨q,h1,h2,h3,h4,h5⟩ | ⟨h1,h2⟩
   ·refine .inl ⟨q,zaa,h2,h3,?_,fun z => ?_⟩
    ·split
     ·exact h4
     ·rw [Pp hk];exact h4
    ·split
     ·exact h5 z
     ·rw [Qm hk];exact h5 z
   ·refine .inr ⟨fun q hq => ?_,?_⟩
    ·by_cases e':q=k
     ·subst e';exact e
     ·exact h1 q zaa
    ·split
     ·exact h2
     ·rw [Pp hk];exact h2
theorem rP (n:ByteArray) (x:Ref.State):Ref.Ga n (Ref.emb x)=true↔x.name=n:=by
 unfold Ref.Ga Ref.emb;simp only [beq_iff_eq];exact ⟨IL,fun h=>by rw [h]⟩
theorem sA (S:List Ref.State) (n:ByteArray):(∃ q,q<S.length/\(S.getD q Ref.st0).name=n/\(∀ q',q'<q->(S.getD q' Ref.st0).name≠n)/\Ref.place (S.map Ref.emb) n=(q:Int))\/((∀ q,q<S.length->(S.getD q Ref.st0).name≠n)/\Ref.place (S.map Ref.emb) n = -1):=by
 unfold Ref.place;cases h:(S.map Ref.emb).findIdx? (Ref.Ga n) with
 | some i =>
  left;obtain ⟨hi,h1,h2⟩:=Qo.1 h;rw [MH] at hi;refine ⟨i,hi,?_,fun q' hq' => ?_,rfl⟩
  ·rw [OO] at h1;rw [getD_eq hi];exact (rP _ _).1 h1
  ·have:=h2 q' hq';rw [OO] at this;rw [getD_eq zaa];exact fun e=>this ((rP _ _).2 e)
 | none =>
  right;refine ⟨fun q hq e => ?_,rfl⟩;have:=List.findIdx?_eq_none_iff.1 h (Ref.emb S[q]) (OH (Ns hq));rw [getD_eq hq] at e;rw [(rP _ _).2 e] at this;cases this
theorem Ci (S:List Ref.State):Ref.vJ (S.map Ref.emb)=bK S:=by
 unfold Ref.vJ bK Ref.C7;rw [List.any_map];rfl
theorem DP (S:List Ref.State) (n:ByteArray):Go.Maps.has (aQ S S.length) (.string n.data.toList) = !decide (Ref.place (S.map Ref.emb) n<0):=by
 rcases nN S n S.length with ⟨q,h1,h2,h3,h4,_⟩ | ⟨h1,h2⟩
 ·rcases sA S n with ⟨r,g1,g2,g3,g4⟩ | ⟨g1,_⟩
  ·rw [h4,g4,No zaa];rfl
  ·exact absurd h2 (g1 q h1)
 ·rcases sA S n with ⟨r,g1,g2,g3,g4⟩ | ⟨g1,g2⟩
  ·exact absurd g2 (h1 r g1)
  ·rw [h2,g2];rfl
theorem uM (S:List Ref.State) (tm:Bool) (m:Ref.Move):kf (aQ S S.length) tm m=Ref.km (S.map Ref.emb) tm m:=by
 unfold kf Ref.km;rw [DP,Bool.not_not]
 congr 3
 cases m.to.toList <;> rfl
theorem pY {q:Nat} (h:Itm P S i) (hq:q<S.length):Ref.place (S.map Ref.emb) (S.getD q Ref.st0).name<(q:Int)↔¬ iY (aQ S S.length) (S.getD q Ref.st0).name=some (S.getD q Ref.st0).line:=by
 obtain ⟨n,hn⟩:∃ n,n=(S.getD q Ref.st0).name:=⟨_,rfl⟩;rw [<- hn]
 rcases nN S n S.length with ⟨r,h1,h2,h3,_,h5⟩ | ⟨h1,_⟩
 ·rcases sA S n with ⟨r',g1,g2,g3,g4⟩ | ⟨g1,_⟩
  ·have hr:r=r':=by
    rcases P6 r r' with c | c | c
    ·exact absurd h2 (g3 r c)
    ·exact c
    ·exact absurd g2 (h3 r' c)
   subst hr;have hle:r<=q:=by
    rcases OF q r with c | c
    ·exact absurd hn.symm (h3 q c)
    ·exact c
   have hf:iY (aQ S S.length) n=some (S.getD r Ref.st0).line:=by unfold iY;rw [h5]
   rw [g4,hf];by_cases e:r=q
   ·subst e;simp
   ·have:=h.asc r q zaa hq;constructor
    ·intro _ e2;have:=Np e2;omega
    ·intro _;omega
  ·exact absurd h2 (g1 r h1)
 ·exact absurd hn.symm (h1 q hq)
theorem BH (h:Itm P S n):Ref.named (S.map Ref.emb)=sf S P n:=by
 have mineN:Ref.b7 []=false:=rfl;have hpos:∀ x∈S.map Ref.emb,0<x.s.line/\(∀ m∈x.s.aj,0<m.line)/\((bK S&&Ref.b7 x.s.enter)=true->0<x.s.has0)/\((bK S&&Ref.b7 x.s.leave)=true->0<x.s.has1):=by
  exact zcZ
 have h1:=r8 (X:=S.map Ref.emb) (t:=bK S) hpos (S.map Ref.emb).length (Mt _);unfold Ref.named;rw [Ci];refine h1.uniq ((zz (S:=S) (P:=P) n).congr (fun l => ?_));have bad:∀ j,lC S P j=true↔∃ L,bl (j+1) (wl P j)=some L/\FE (aQ S S.length) (bK S) ((j+1:Nat):Int) (tJ (j+1) L)=true:=by
  intro j;unfold lC;cases hp:bl (j+1) (wl P j) with
  | none=>simp
  | some L =>
   dsimp only;rw [AL];constructor
   ·intro h;exact ⟨L,rfl,h⟩
   ·rintro ⟨L',e,h⟩;cases e;exact h
 constructor
 ·rintro ⟨j,hj,rfl,hb⟩;obtain ⟨L,hL,hbI⟩:=(bad j).1 hb;obtain ⟨L',hL',hI⟩:=h.back j hj;rw [hL] at hL';cases hL'
  have key:∀ x∈S,(∀ q (hq:q<S.length),S[q]=x->StB (S.map Ref.emb) (bK S) q x ((j+1:Nat):Int))->∃ q,∃ h:q<(S.map Ref.emb).length,q<(S.map Ref.emb).length/\StB (S.map Ref.emb) (bK S) q (S.map Ref.emb)[q].s ((j+1:Nat):Int):=by
   intro x hx hst;obtain ⟨q,hq,e⟩:=OW hx;refine ⟨q,by rw [MH];exact hq,by rw [MH];exact hq,?_⟩;rw [OO];show StB _ _ q S[q] _;rw [e];exact hst q hq e
  generalize tJ (j+1) L=I at hI hbI;cases I with
  | nm nn =>
   obtain ⟨x,hx,e1,e2⟩:=hI;refine key x hx (fun q hq e => .inl ⟨?_,e1.symm⟩);have:=(pY h hq).2;rw [getD_eq hq,e] at this;apply this
   rw [e2,e1];simpa [FE] using hbI
  | mv m =>
   obtain ⟨e0,x,hx,hm⟩:=hI;refine key x hx (fun q hq e => .inr (.inl ⟨m,hm,?_,e0.symm⟩));rw [<- uM];exact hbI
  | en A =>
   obtain ⟨x,hx,e1,e2,e3⟩:=hI;refine key x hx (fun q hq e => .inr (.inr (.inl ⟨?_,e1.symm⟩)));rw [e3];exact hbI
  | lv A =>
   obtain ⟨x,hx,e1,e2,e3⟩:=hI;refine key x hx (fun q hq e => .inr (.inr (.inr ⟨?_,e1.symm⟩)));rw [e3];exact hbI
 ·rintro ⟨q,hq,_,hst⟩;have hq':q<S.length:=by rw [MH] at hq;exact hq
  rw [OO] at hst;have hst':StB (S.map Ref.emb) (bK S) q S[q] l:=hst;have fin:∀ I,Item S l I->FE (aQ S S.length) (bK S) l I=true->∃ j,j<n/\l=((j+1:Nat):Int)/\lC S P j=true:=by
   intro I hI hb;obtain ⟨j,L,hj,rfl,hL,rfl⟩:=h.fro l I hI;exact ⟨j,hj,rfl,(bad j).2 ⟨L,hL,hb⟩⟩
  have hmem:S[q]∈S:=Ns hq';obtain ⟨p1,p2,p3,p4⟩:=hpos (Ref.emb S[q]) (OH hmem)
  rcases hst' with ⟨c,e⟩ | ⟨m,hm,c,e⟩ | ⟨c,e⟩ | ⟨c,e⟩
  ·refine fin (.nm S[q].name) ⟨_,hmem,e.symm,rfl⟩ ?_;have:=(pY h hq').1;rw [getD_eq hq'] at this;have:=this c;rw [e];simpa [FE] using this
  ·refine fin (.mv m) ⟨e.symm,_,hmem,hm⟩ ?_;show kf _ _ m=true;rw [uM];exact c
  ·exact fin (.en S[q].enter) ⟨_,hmem,e.symm,by rw [e];exact p3 c,rfl⟩ c
  ·exact fin (.lv S[q].leave) ⟨_,hmem,e.symm,by rw [e];exact p4 c,rfl⟩ c
theorem pC {P:List ByteArray} {S:List Ref.State} {n:Nat} (h:Itm P S n):∀ {k:Nat} {l:Int},k<=S.length->Ref.dK S k=some l->0<l
 | 0,l,_,e=>by cases e
 | k+1,l,hk,e=>by
  rw [Ref.dK] at e;split at e
  ·rename_i h0;cases e
   exact pC h zaa h0
  ·split at e
   ·cases e
    exact (nV h (aZ hk)).1
   ·cases e
theorem pK (h:Ref.syn P=none):∀ j,j<P.length-1->∃ L,bl (j+1) (wl P j)=some L:=by
 unfold Ref.syn at h;split at h
 ·cases h
 ·rename_i h0;exact sX h0
theorem Ey (s:ByteArray):Pro.read s=Ref.read s:=by
 unfold Pro.read Ref.read;by_cases hs:1500<s.size
 ·rw [MB hs,MB hs]
 rw [Mz hs,Mz hs];cases hsy:Ref.syn (Ref.cut s 10) with
 | some i=>rfl
 | none =>
  dsimp only;cases ht:Ref.a8 (Ref.aN (Ref.cut s 10) ((Ref.cut s 10).length-1)) ((Ref.cut s 10).length-1) with
  | none=>rfl
  | some S =>
   dsimp only;have hI:=nR (pK hsy) (Mt _) ht;cases hp:Ref.dK S S.length with
   | some l =>
    have:=pC hI (Mt _) hp;dsimp only;rw [MB (by simpa using this)];rfl
   | none =>
    dsimp only;rw [Mz zad];have hn:=BH hI;unfold sf at hn;cases hf:bm S (Ref.cut s 10) ((Ref.cut s 10).length-1) with
    | some i =>
     rw [hf] at hn;dsimp only at hn ⊢;rw [hn,MB zaa]
    | none =>
     rw [hf] at hn;dsimp only at hn ⊢;rw [hn,Mz zaa]
end Pro
namespace Ref
def b1:ByteArray:=⟨#[32]⟩
def bDo:ByteArray:=⟨#[32,100,111,32]⟩
def bAs:ByteArray:=⟨#[32,97,115,32]⟩
def Mr (t:ByteArray) (a:Act):ByteArray :=
 if a.how.toList == eJ then t++bDo++a.how++b1++a.id
 else if a.how.toList == eS then t++bDo++a.how++b1++a.event
 else if a.id.toList == [] then t++bDo++a.how++b1++a.event++b1++dec a.delay.toNat
 else t++bDo++a.how++b1++a.event++b1++dec a.delay.toNat++bAs++a.id
def Cu (A:List Act):Nat->ByteArray
 | 0=>ByteArray.empty
 | i+1=>match A[i]? with
  | some a=>Mr (Cu A i) a
  | none=>Cu A i
def written (A:List Act):ByteArray:=Cu A A.length
def mE:ByteArray:=⟨#[115,101,110,100]⟩
def gC:ByteArray:=⟨#[99,97,110,99,101,108]⟩
def KE:ByteArray:=⟨#[32,101,110,116,101,114]⟩
def KF:ByteArray:=⟨#[32,108,101,97,118,101]⟩
def bOn:ByteArray:=⟨#[32,111,110,32]⟩
def bTo:ByteArray:=⟨#[32,116,111,32]⟩
def Ke:ByteArray:=⟨#[32,100,101,101,112]⟩
def bNl:ByteArray:=⟨#[10]⟩
def pad:Nat->ByteArray
 | 0=>ByteArray.empty
 | n+1=>pad n++b1
def uG (m:Move):Act:=⟨mE,m.event,m.event,m.delay⟩
def sh (m:Move):Act:=⟨gC,ByteArray.empty,m.event,0⟩
def dY (x:State):Nat->List Act
 | 0=>x.enter
 | j+1=>match x.aj[j]? with
  | some m=>if m.after then dY x j++[uG m] else dY x j
  | none=>dY x j
def cB (x:State):Nat->List Act
 | 0=>x.leave
 | j+1=>match x.aj[j]? with
  | some m=>if m.after then cB x j++[sh m] else cB x j
  | none=>cB x j
def Kg (t:ByteArray) (x:State):ByteArray:=t++pad x.depth.toNat++x.word++b1++x.name
def LI (t:ByteArray) (x:State):ByteArray:=if x.deep then Kg t x++Ke else Kg t x
def ends (t p h a:ByteArray):ByteArray:=if a.toList.isEmpty then t else t++p++h++a++bNl
def mv0 (p t:ByteArray) (m:Move):ByteArray:=t++p++bOn++m.event
def mv1 (p t:ByteArray) (m:Move):ByteArray:=if m.to.toList.isEmpty then mv0 p t m else mv0 p t m++bTo++m.to
def K5 (p t:ByteArray) (m:Move):ByteArray:=mv1 p t m++written m.aw++bNl
def K7 (p t:ByteArray) (ms:List Move):Nat->ByteArray
 | 0=>t
 | j+1=>match ms[j]? with
  | some m=>K5 p (K7 p t ms j) m
  | none=>K7 p t ms j
def st1 (t:ByteArray) (x:State):ByteArray:=LI t x++bNl
def st2 (t:ByteArray) (x:State):ByteArray:=ends (st1 t x) (pad x.depth.toNat) KE (written (dY x x.aj.length))
def st3 (t:ByteArray) (x:State):ByteArray:=ends (st2 t x) (pad x.depth.toNat) KF (written (cB x x.aj.length))
def Hq (t:ByteArray) (x:State):ByteArray:=K7 (pad x.depth.toNat) (st3 t x) x.aj x.aj.length
theorem D9 {t:ByteArray} (ht:t.size<=1500) (hi:i<=1501):oU (gZ t i):=by
 have h2:(rest t).size<=1500:=by unfold rest;simp;omega
 have h3:∀ x∈cut (rest t) 32,x.size<=4096:=fun x hx=>Mv (iX _ 32 _ (Mt _) x hx) zaa;have h4:(cut (rest t) 32).length<=4096:=Mv (nK (rest t) 32 (rest t).size) zaa;unfold gZ;exact JU h3 h4 zaa
theorem BB (hs:∀ x∈P,x.size<=1500) (hk:k<=1501):∀ p∈aN P k,oU p.1/\0<=p.2:=by
 intro p hp;unfold aN at hp;obtain ⟨i,hi,e⟩:=Ni.1 hp;rw [NL] at hi;have h1:(pc P i).size<=1500:=nD hs i;have h2:=D9 (i:=i) h1 zaa;have e1:p.1=gZ (pc P i) i:=by rw [<- e]
 have e2:p.2=(dc (pc P i):Nat):=by rw [<- e]
 rw [e1,e2];exact ⟨h2,zaa⟩
theorem JN (h:read s = .eO S):S.length<=1501/\∀ x∈S,lS x/\x.aj.length<=4096:=by
 unfold read at h;split at h
 ·cases h
 ·rename_i hs;split at h
  ·cases h
  ·split at h
   ·cases h
   ·rename_i S' hT;have hl:=nK s 10 s.size;have hl':(cut s 10).length<=1501:=by unfold cut;omega
    have hz:∀ x∈cut s 10,x.size<=1500:=fun x hx=>Mv (iX s 10 s.size (Mt _) x hx) zaa;have hok:=vK (BB (k:=(cut s 10).length-1) hz zaa) hT;have hlen:=tf hT;split at h
    ·cases h
    ·split at h
     ·cases h
     ·cases h
      exact ⟨zaa,fun x hx=>⟨(hok x hx).1,by have:=(hok x hx).2;omega⟩⟩
end Ref
namespace Pro
def Hq (k:Int) (n:ByteArray):ByteArray:=if k=4 then bu k++Ref.b1++n++Ref.Ke else bu k++Ref.b1++n
def Ly:ByteArray:=⟨#[111,110,32]⟩
def K6 (m:Ref.Move):ByteArray:=if m.to.toList.isEmpty then Ly++m.event else Ly++m.event++Ref.bTo++m.to
end Pro
theorem w9:(⟨#[112,97,114,97,108,108,101,108,32]⟩:ByteArray)=Pro.fA++Ref.b1:=zac
theorem w6:(⟨#[102,105,110,97,108,32]⟩:ByteArray)=Pro.kT++Ref.b1:=zac
theorem w8:(⟨#[104,105,115,116,111,114,121,32]⟩:ByteArray)=Pro.da++Ref.b1:=zac
theorem w5:(⟨#[115,116,97,116,101,32]⟩:ByteArray)=Pro.kU++Ref.b1:=zac
end
section
open Go.RowKit Go.Proofs
namespace Pro
def IJ:ByteArray:=⟨#[101,110,116,101,114]⟩
def IK:ByteArray:=⟨#[108,101,97,118,101]⟩
def Gp (d:Nat) (h:ByteArray) (A:List Ref.Act):ByteArray:=Ref.pad d++h++Ref.written A++Ref.bNl
def LB (d:Nat) (h:ByteArray) (A:List Ref.Act):ByteArray:=if A.isEmpty then ByteArray.empty else Gp d h A
def dT (d:Nat) (M:List Ref.Move):Nat->ByteArray
 | 0=>ByteArray.empty
 | j+1=>match M[j]? with
  | some m=>dT d M j++Gp d (K6 m) m.aw
  | none=>dT d M j
def LJ (x:Ref.State):ByteArray:=Gp x.depth.toNat (Hq (ao x) x.name) []++LB (x.depth.toNat+1) IJ x.enter++LB (x.depth.toNat+1) IK x.leave
def Li (x:Ref.State):ByteArray:=LJ x++dT (x.depth.toNat+1) x.aj x.aj.length
structure mB (A:List Ref.Act):Prop where
 shape:∀ a∈A,Shape a
 small:∀ a∈A,Ref.js a
 len:A.length<=100000
end Pro
structure fR (w:World) (x:Pro.DS) (M:List Pro.PV):Prop where
 dep0:0<=x.s.depth
 dep:x.s.depth<=5
 name:x.s.name.size<=4096
 mv:M.map (·.m)=x.s.aj
 mlen:M.length<=4096
 aj:w.ownsRow 0 240 5 x.vm.v M.length (M.flatMap Pro.bg)
 aw:∀ y∈M,w.ownsRow 0 251 1 y.v.v y.m.aw.length (y.m.aw.map bh)
 actsG:∀ y∈M,Ref.mN y.m/\Pro.mB y.m.aw
 enter:w.ownsRow 0 251 1 x.ve.v x.s.enter.length (x.s.enter.map bh)
 enterG:Pro.mB x.s.enter
 leave:w.ownsRow 0 251 1 x.vl.v x.s.leave.length (x.s.leave.map bh)
 leaveG:Pro.mB x.s.leave
theorem kx {α:Type} {f:α->List Value} (hf:∀ x,(f x).length=n) {w:World} {B g cap u j:Nat} {X:List α} {x':α} (hs:w.ownsRow B e n (.slice g X.length cap) X.length (X.flatMap f)) (hu:u<X.length) (hj:j<n) (hx:f x'=(f X[u]).set j v) :
  (w.setCell ⟨g,u*n+j,none⟩ v).ownsRow B e n (.slice g X.length cap) X.length ((X.set u x').flatMap f)/\Touch e w (w.setCell ⟨g,u*n+j,none⟩ v):=by
 rcases hs.2 with ⟨h,_⟩ | ⟨g',cap',cur,h,hb,hg,h1,h2,h3,h4⟩
 ·cases h
 ·simp only [Value.slice.injEq,Option.some.injEq,Addr.mk.injEq,and_true,true_and] at h;obtain ⟨rfl,rfl⟩:=h;have oo:=aa w g (u*n+j) v;refine ⟨⟨?_,.inr ⟨g,cap,cur.setIfInBounds (u*n+j) v,rfl,hb,MO w g _ _ _ v hg,h1,h2,za1,?_⟩⟩,iQ oo hg⟩
  ·have:=Ref.jE (f:=f) (n:=n) hf (X.set u x');rw [ML] at this;exact this
  ·rw [Po,List.take_set,h4];exact rD (f:=f) (n:=n) hf X u j v x' hj hu hx
theorem kD {g:Nat} {w wr wc w5:World} {row:Option Nat} (h:al g w wr) (hb:Below wr wr wc) (hg:wc.grownBy w5 row) (hr:∀ k,row=some k->w.heap.size<=k):al g w w5:=by
 have s1:=h.size;have s2:=hb.size;exact ⟨hg.os.trans (hb.os.trans h.os),hg.tape.trans (hb.tape.trans h.tape),hg.output.trans (hb.output.trans h.output),Mv s1 (Mv s2 hg.size),fun k hk hp=>(hg.block k zaa (fun e=>by have:=hr k e.symm;omega)).trans ((hb.block k zaa).trans (h.block k hk hp))⟩
theorem iR {g o:Nat} {w w5:World} (h:al g w w5):al g w (w5.setCell ⟨g,o,none⟩ v):=h.trans (aa _ _ _ _).ai
theorem p6 {g mb o:Nat} {w w5:World} (h:al g w w5) (hm:w.heap.size<=mb):al g w (w5.setCell ⟨mb,o,none⟩ v):=by
 have oo:=aa w5 mb o v;exact ⟨oo.os.trans h.os,oo.tape.trans h.tape,oo.output.trans h.output,by rw [oo.size];exact h.size,fun k hk hp=>(oo.block k zaa).trans (h.block k hk hp)⟩
structure cE (w wr:World) (B g cap:Nat) (X:List Pro.DS) (u:Nat) (x:Pro.DS) (ve vl vm:Ref.Sl) (E L:List Ref.Act) (Q:List Pro.PV):Prop where
 ai:al g w wr
 states:wr.ownsRow B 172 8 (.slice g X.length cap) X.length ((X.set u { x with ve:=ve,vl:=vl,vm:=vm }).flatMap Pro.aO)
 enter:wr.ownsRow w 251 1 ve.v E.length (E.map bh)
 leave:wr.ownsRow w 251 1 vl.v L.length (L.map bh)
 aj:wr.ownsRow w 240 5 vm.v Q.length (Q.flatMap Pro.bg)
 ap:apart ve vl
section
variable {w wr:World} {B g cap:Nat} {X:List Pro.DS} {u:Nat} {x:Pro.DS} {ve vl vm:Ref.Sl} {E L:List Ref.Act} {Q:List Pro.PV}
theorem cE.ak {wr':World} (G:cE w wr B g cap X u x ve vl vm E L Q) (hb:Below wr wr wr'):cE w wr' B g cap X u x ve vl vm E L Q :=
 ⟨G.ai.trans (aP hb),bf G.states hb,bf G.enter hb,bf G.leave hb,bf G.aj hb,G.ap⟩
theorem cE.cell (G:cE w wr B g cap X u x ve vl vm E L Q) (hu:u<X.length) (j:Nat) (hj:j<8):wr.cell? ⟨g,u*8+j,none⟩=(Pro.aO { x with ve:=ve,vl:=vl,vm:=vm })[j]?:=by
 have hlt:u*8+j<X.length*8:=zaa;have hu':u<(X.set u { x with ve:=ve,vl:=vl,vm:=vm }).length:=zaZ;rw [G.states.cellAt (u*8+j) hlt,Ref.jD (f:=Pro.aO) (n:=8) (fun _=>rfl) _ u j hj hu',O0]
theorem cE.frozen (G:cE w wr B g cap X u x ve vl vm E L Q) (j:Nat):wr.frozen? ⟨g,j,none⟩=false:=N5 (aD G.states (MJ _)) _
theorem cE.glt (G:cE w wr B g cap X u x ve vl vm E L Q):B<=g/\g<wr.heap.size:=Nc G.states g rfl
theorem cE.KQ (G:cE w wr B g cap X u x ve vl vm E L Q):some g≠ve.v.ownBlock/\some g≠vl.v.ownBlock/\some g≠vm.v.ownBlock:=by
 obtain ⟨c',hc'⟩:=bP G.states g rfl;refine ⟨fun e => ?_,fun e => ?_,fun e => ?_⟩
 ·obtain ⟨c,hc⟩:=bP G.enter _ e.symm;exact zft
 ·obtain ⟨c,hc⟩:=bP G.leave _ e.symm;exact zft
 ·obtain ⟨c,hc⟩:=bP G.aj _ e.symm;exact zft
theorem cE.Fh {wc w5:World} {ve':Ref.Sl} {a:Ref.Act} (G:cE w wr B g cap X u x ve vl vm E L Q) (hu:u<X.length) (hb:Below wr wr wc) (hg:wc.grownBy w5 ve.v.ownBlock)
  (hown:w5.ownsRow w 251 1 ve'.v (E.length+1) (E.map bh++[bh a])) (hat:ve'.v.ownBlock=ve.v.ownBlock\/ve'.v.ownBlock=some wc.heap.size) :
  cE w (w5.setCell ⟨g,u*8+5,none⟩ ve'.v) B g cap X u x ve' vl vm (E++[a]) L Q:=by
 have Gc:=G.ak hb;have hlt:=fun k h=>(Nc Gc.enter k h).1;have T1:=dD Gc.enter hg;have hu':u<(X.set u { x with ve:=ve,vl:=vl,vm:=vm }).length:=zaZ;have hs5:=ag Gc.states T1 zac;have hr:=kx (f:=Pro.aO) (n:=8) (fun _=>rfl) (X:=X.set u { x with ve:=ve,vl:=vl,vm:=vm }) (u:=u) (j:=5) (v:=ve'.v) (x':={ x with ve:=ve',vl:=vl,vm:=vm }) (by rw [ML];exact hs5) hu' zac za6;obtain ⟨hrow,T2⟩:=hr;rw [PO,ML] at hrow;refine ⟨iR (kD G.ai hb hg hlt),hrow,?_,?_,ag (ag Gc.aj T1 zac) T2 zac,?_⟩
 ·rw [MN,Ny];exact ag hown T2 zac
 ·refine ag (Gc.leave.kept hg ?_) T2 zac
  rcases G.ap with h1 | h1
  ·rw [h1];cases vl.v.ownBlock <;> simp
  ·exact .inr (fun e=>h1 e.symm)
 ·have hap:=G.ap;unfold apart at hap ⊢
  rcases hat with e | e
  ·rw [e];exact hap
  ·rw [e];refine .inr (fun e2 => ?_);have:=(Nc Gc.leave _ e2.symm).2;omega
theorem cE.Fi {wc w5:World} {vl':Ref.Sl} {a:Ref.Act} (G:cE w wr B g cap X u x ve vl vm E L Q) (hu:u<X.length) (hb:Below wr wr wc) (hg:wc.grownBy w5 vl.v.ownBlock)
  (hown:w5.ownsRow w 251 1 vl'.v (L.length+1) (L.map bh++[bh a])) (hat:vl'.v.ownBlock=vl.v.ownBlock\/vl'.v.ownBlock=some wc.heap.size) :
  cE w (w5.setCell ⟨g,u*8+6,none⟩ vl'.v) B g cap X u x ve vl' vm E (L++[a]) Q:=by
 have Gc:=G.ak hb;have hlt:=fun k h=>(Nc Gc.leave k h).1;have T1:=dD Gc.leave hg;have hu':u<(X.set u { x with ve:=ve,vl:=vl,vm:=vm }).length:=zaZ;have hs5:=ag Gc.states T1 zac;have hr:=kx (f:=Pro.aO) (n:=8) (fun _=>rfl) (X:=X.set u { x with ve:=ve,vl:=vl,vm:=vm }) (u:=u) (j:=6) (v:=vl'.v) (x':={ x with ve:=ve,vl:=vl',vm:=vm }) (by rw [ML];exact hs5) hu' zac za6;obtain ⟨hrow,T2⟩:=hr;rw [PO,ML] at hrow;refine ⟨iR (kD G.ai hb hg hlt),hrow,?_,?_,ag (ag Gc.aj T1 zac) T2 zac,?_⟩
 ·exact ag (Gc.enter.kept hg G.ap) T2 zac
 ·rw [MN,Ny];exact ag hown T2 zac
 ·have hap:=G.ap;unfold apart at hap ⊢
  rcases hat with e | e
  ·rw [e];exact hap
  ·rw [e];refine .inr (fun e2 => ?_);have:=(Nc Gc.enter _ e2).2;omega
theorem cE.JX {mb cm j:Nat} (G:cE w wr B g cap X u x ve vl ⟨some ⟨mb,0,none⟩,Q.length,cm⟩ E L Q) (hj:j<Q.length) :
  cE w ((wr.setCell ⟨mb,j*5+1,none⟩ (.bool false)).setCell ⟨mb,j*5+2,none⟩ (.int .u64 0)) B g cap X u x ve vl ⟨some ⟨mb,0,none⟩,Q.length,cm⟩ E L (Q.set j { Q[j] with m:={ Q[j].m with after:=false,delay:=0 } }):=by
 have hmb:=(Nc G.aj mb rfl).1;obtain ⟨r1,T1⟩:=kx (f:=Pro.bg) (n:=5) (fun _=>rfl) (X:=Q) (u:=j) (j:=1) (v := .bool false) (x':={ Q[j] with m:={ Q[j].m with after:=false } }) (show wr.ownsRow w 240 5 (.slice mb Q.length cm) Q.length (Q.flatMap Pro.bg) from G.aj) hj zac rfl;have hj':j<(Q.set j { Q[j] with m:={ Q[j].m with after:=false } }).length:=by rw [ML];exact hj
 obtain ⟨r2,T2⟩:=kx (f:=Pro.bg) (n:=5) (fun _=>rfl) (X:=Q.set j { Q[j] with m:={ Q[j].m with after:=false } }) (u:=j) (j:=2) (v := .int .u64 0) (x':={ Q[j] with m:={ Q[j].m with after:=false,delay:=0 } }) (by rw [ML];exact r1) hj' zac za6;rw [PO,ML] at r2;refine ⟨p6 (p6 G.ai hmb) hmb,ag (ag G.states T1 zac) T2 zac,ag (ag G.enter T1 zac) T2 zac,ag (ag G.leave T1 zac) T2 zac,?_,G.ap⟩;rw [ML];exact r2
theorem cE.begin {w3:World} (hs:w.ownsRow B 172 8 (.slice g X.length cap) X.length (X.flatMap Pro.aO)) (hu:u<X.length) (hx:X[u]=x) (hb:Below w w w3)
  (he:w3.ownsRow w 251 1 ve.v E.length (E.map bh)) (hl:w3.ownsRow w 251 1 vl.v L.length (L.map bh)) (hm:w3.ownsRow w 240 5 vm.v Q.length (Q.flatMap Pro.bg)) (hap:apart ve vl) :
  cE w (((w3.setCell ⟨g,u*8+5,none⟩ ve.v).setCell ⟨g,u*8+6,none⟩ vl.v).setCell ⟨g,u*8+7,none⟩ vm.v) B g cap X u x ve vl vm E L Q:=by
 have hs3:=bf hs hb;obtain ⟨r1,T1⟩:=kx (f:=Pro.aO) (n:=8) (fun _=>rfl) (X:=X) (u:=u) (j:=5) (v:=ve.v) (x':={ x with ve:=ve }) hs3 hu zac (by rw [hx];rfl);have hu1:u<(X.set u { x with ve:=ve }).length:=zaZ;obtain ⟨r2,T2⟩:=kx (f:=Pro.aO) (n:=8) (fun _=>rfl) (X:=X.set u { x with ve:=ve }) (u:=u) (j:=6) (v:=vl.v) (x':={ x with ve:=ve,vl:=vl }) (by rw [ML];exact r1) hu1 zac za6;rw [PO,ML] at r2;have hu2:u<(X.set u { x with ve:=ve,vl:=vl }).length:=zaZ;obtain ⟨r3,T3⟩:=kx (f:=Pro.aO) (n:=8) (fun _=>rfl) (X:=X.set u { x with ve:=ve,vl:=vl }) (u:=u) (j:=7) (v:=vm.v) (x':={ x with ve:=ve,vl:=vl,vm:=vm }) (by rw [ML];exact r2) hu2 zac za6;rw [PO,ML] at r3;have T:=(T1.trans T2).trans T3;exact ⟨iR (iR (iR (aP hb))),r3,ag he T zac,ag hl T zac,ag hm T zac,hap⟩
end
namespace Pro
def dM (m:Ref.Move):Ref.Move:=if m.after then { m with after:=false,delay:=0 } else m
def rX (x:Ref.State):Ref.State:={ x with enter:=Ref.dY x x.aj.length,leave:=Ref.cB x x.aj.length,aj:=x.aj.map dM }
end Pro
def Pro.ic (y:Pro.PV):Pro.PV:={ y with m:=Pro.dM y.m }
def Pro.ba (M:List Pro.PV) (j:Nat):List Pro.PV:=(M.take j).map Pro.ic++M.drop j
theorem Pro.lz (M:List Pro.PV) (j:Nat) (hj:j<=M.length):(Pro.ba M j).length=M.length:=by
 unfold Pro.ba;simp only [List.length_append,List.length_map,List.length_take,List.length_drop];omega
theorem Pro.ng (M:List Pro.PV) (j i:Nat) (hj:j<=M.length):(Pro.ba M j)[i]?=if i<j then (M[i]?).map Pro.ic else M[i]?:=by
 have hl:((M.take j).map Pro.ic).length=j:=by rw [MH,NP];omega
 unfold Pro.ba;by_cases c:i<j
 ·rw [MB c,NG (by rw [hl];exact c),MF,NK c]
 ·rw [Mz c,NM (by rw [hl];omega),hl,List.getElem?_drop]
  congr 1;omega
theorem Pro.ly (M:List Pro.PV) (j:Nat) (hj:j<M.length) (h:j<(Pro.ba M j).length):(Pro.ba M j)[j]=M[j]:=by
 have:=Pro.ng M j j zaa;rw [Mz zaa,Mu h,Mu hj] at this;exact Np this
theorem Pro.n7 (M:List Pro.PV) (j:Nat) (hj:j<M.length):Pro.ba M (j+1)=(Pro.ba M j).set j (Pro.ic M[j]):=by
 have hl:=Pro.lz M j zaa;apply OL
 intro i;rw [Pro.ng M (j+1) i zaa,OK,Pro.ng M j i zaa];by_cases e:j=i
 ·subst e;rw [MB zaa,MB rfl,MB (by rw [hl];exact hj),Mu hj];rfl
 ·rw [Mz e];by_cases c:i<j
  ·rw [MB zaa,MB c]
  ·rw [Mz zaa,Mz c]
theorem Pro.wZ (M:List Pro.PV) (j:Nat) (hj:j<M.length) (ha:M[j].m.after=false):Pro.ba M (j+1)=Pro.ba M j:=by
 rw [Pro.n7 M j hj];have e:Pro.ic M[j]=M[j]:=by
  unfold Pro.ic Pro.dM;rw [ha];rfl
 rw [e,<- Pro.ly M j hj (by rw [Pro.lz M j zaa];exact hj)];exact List.set_getElem_self _
theorem Pro.zy (M:List Pro.PV):Pro.ba M M.length=M.map Pro.ic:=by
 unfold Pro.ba;simp
end
section
open Go.RowKit
namespace Pro
def kG (X:List Ref.State):Nat->ByteArray
 | 0=>ByteArray.empty
 | k+1=>match X[k]? with
  | some x=>kG X k++Li x
  | none=>kG X k
theorem nW (m:Ref.Move):(dM m).aw=m.aw:=by unfold dM;split <;> rfl
theorem Br {num:Nat} {l r:List ByteArray} {ev t:ByteArray} {d:Int} {A:List Ref.Act} (h:bk num l=some (.move ev true d t A,r)):ev.size≠0:=by
 have h6:Ref.bL.size=6:=rfl;cases l with
 | nil=>cases h
 | cons x l =>
  rw [bk] at h
  repeat' split at h
  all_goals first
   | (cases h;done)
   | (obtain ⟨q,h1,h2⟩:=MZ.1 h
      first
       | (cases h2;done)
       | (cases h2;rw [Pe];omega))
structure pL (x:Ref.State):Prop where
 dep0:0<=x.depth
 dep:x.depth<=5
 name:x.name.size<=4096
 mlen:x.aj.length<=4096
 aj:∀ m∈x.aj,Ref.mN m/\mB m.aw
 event:∀ m∈x.aj,m.after=true->m.event.size≠0
 enter:mB x.enter
 elen:x.enter.length<=4096
 leave:mB x.leave
 llen:x.leave.length<=4096
theorem kE {num:Nat} {l:List ByteArray} {L:PL} (h:bl num l=some L):bk num l=some (L,[]):=by
 unfold bl at h;split at h
 ·rename_i L' h1;cases h
  exact h1
 ·cases h
theorem Jc (h:Itm P S n) {x:Ref.State} (hx:x∈S) (hs:Ref.lS x) (hl:x.aj.length<=4096):pL x:=by
 refine ⟨hs.dep0,hs.dep,hs.name,hl,fun m hm => ?_,fun m hm ha => ?_,⟨?_,hs.enter,?_⟩,hs.lenE,⟨?_,hs.leave,?_⟩,hs.lenL⟩
 ·refine ⟨hs.aj m hm,?_,(hs.aj m hm).aw,by have:=(hs.aj m hm).len;omega⟩;obtain ⟨j,L,_,_,hL,e⟩:=h.fro m.line (.mv m) ⟨rfl,x,hx,hm⟩;cases L with
  | move ev af d t A =>
   cases e
   exact (ke (kE hL)).2.1
  | state k n=>cases e
  | enter A=>cases e
  | leave A=>cases e
 ·obtain ⟨j,L,_,_,hL,e⟩:=h.fro m.line (.mv m) ⟨rfl,x,hx,hm⟩;cases L with
  | move ev af d t A =>
   cases e
   simp only at ha;subst ha;exact Br (kE hL)
  | state k n=>cases e
  | enter A=>cases e
  | leave A=>cases e
 ·rcases h.en0 x hx with h0 | h0
  ·obtain ⟨j,L,_,_,hL,e⟩:=h.fro x.has0 (.en x.enter) ⟨x,hx,rfl,h0,rfl⟩;cases L with
   | enter A =>
    have e':x.enter=A:=by injection e
    rw [e'];exact (ke (kE hL)).1
   | state k n=>cases e
   | move ev af d t A=>cases e
   | leave A=>cases e
  ·rw [h0];simp
 ·have:=hs.lenE;omega
 ·rcases h.lv0 x hx with h0 | h0
  ·obtain ⟨j,L,_,_,hL,e⟩:=h.fro x.has1 (.lv x.leave) ⟨x,hx,rfl,h0,rfl⟩;cases L with
   | leave A =>
    have e':x.leave=A:=by injection e
    rw [e'];exact (ke (kE hL)).1
   | state k n=>cases e
   | move ev af d t A=>cases e
   | enter A=>cases e
  ·rw [h0];simp
 ·have:=hs.lenL;omega
theorem GX (h:Ref.read s = .eO S):∀ x∈S,pL x/\gX x:=by
 obtain ⟨_,hok⟩:=Ref.JN h;unfold Ref.read at h;split at h
 ·cases h
 ·cases hsy:Ref.syn (Ref.cut s 10) with
  | some i=>rw [hsy] at h;cases h
  | none =>
   rw [hsy] at h;dsimp only at h;cases ht:Ref.a8 (Ref.aN (Ref.cut s 10) ((Ref.cut s 10).length-1)) ((Ref.cut s 10).length-1) with
   | none=>rw [ht] at h;cases h
   | some S' =>
    rw [ht] at h;dsimp only at h;have hI:=nR (pK hsy) (Mt _) ht;split at h
    ·cases h
    ·split at h
     ·cases h
     ·cases h
      intro x hx;exact ⟨Jc hI hx (hok x hx).1 (hok x hx).2,hI.words x hx⟩
theorem CP {x:Ref.State} (h:pL x):∀ j,(∀ a∈Ref.dY x j,Shape a)/\(∀ a∈Ref.dY x j,Ref.js a)
 | 0=>⟨h.enter.shape,h.enter.small⟩
 | j+1=>by
  obtain ⟨ih1,ih2⟩:=CP h j;rw [Ref.dY];cases e:x.aj[j]? with
  | none=>exact ⟨ih1,ih2⟩
  | some m =>
   dsimp only;have hm:=(h.aj m (MG e)).1;split
   ·refine ⟨fun a ha => ?_,fun a ha => ?_⟩
    ·rcases MU.1 ha with ha | ha
     ·exact ih1 a ha
     ·rw [ME.1 ha];exact .inr (.inr rfl)
    ·rcases MU.1 ha with ha | ha
     ·exact ih2 a ha
     ·rw [ME.1 ha];exact ⟨(show Ref.mE.size<=4096 by decide),hm.event,hm.event,hm.delay⟩
   ·exact ⟨ih1,ih2⟩
theorem zD {x:Ref.State} (h:pL x):∀ j,(∀ a∈Ref.cB x j,Shape a)/\(∀ a∈Ref.cB x j,Ref.js a)
 | 0=>⟨h.leave.shape,h.leave.small⟩
 | j+1=>by
  obtain ⟨ih1,ih2⟩:=zD h j;rw [Ref.cB];cases e:x.aj[j]? with
  | none=>exact ⟨ih1,ih2⟩
  | some m =>
   dsimp only;have hm:=(h.aj m (MG e)).1;split
   ·refine ⟨fun a ha => ?_,fun a ha => ?_⟩
    ·rcases MU.1 ha with ha | ha
     ·exact ih1 a ha
     ·rw [ME.1 ha];exact .inr (.inl ⟨rfl,rfl⟩)
    ·rcases MU.1 ha with ha | ha
     ·exact ih2 a ha
     ·rw [ME.1 ha];exact ⟨(show Ref.gC.size<=4096 by decide),MJ _,hm.event,0,rfl,zac⟩
   ·exact ⟨ih1,ih2⟩
theorem BC {m:Ref.Move} (h:Ref.mN m):Ref.mN (dM m):=by
 unfold dM;split
 ·exact ⟨h.event,h.dst,h.aw,h.len,0,rfl,zac⟩
 ·exact h
