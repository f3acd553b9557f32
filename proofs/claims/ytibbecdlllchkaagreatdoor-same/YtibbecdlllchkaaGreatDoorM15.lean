import Derived.Test.YtibbecdlllchkaaGreatDoorM14
set_option maxRecDepth 100000
set_option maxHeartbeats 8000000
namespace Go.Proofs.YtibbecdlllchkaaGreatDoor
variable {zp:Prop}
theorem zfD(h:zp:=by
 have h1:J.bC S P (k+1)=some k:=by
  rw[J.bC,HNF.out];simp only;rw[Ye.out,Wo];rfl
 unfold Hid;rw[HPr.out,J.gW h1 n zaa];rfl):zp:=h
theorem zfF(h:zp:=by
 unfold Hid;rw[J.bC,HNF.out];simp only;rw[Ye.out,Wo];rfl):zp:=h
theorem zcJ(h:zp:=by
 have HRd:Hid (J.read s=.fault 4 (((k+1:Nat):Int))):=by
  exact zfD
 rw[PC (by exact Wo)]at h5;obtain⟨hb,b,h7,h6,rfl⟩:=h5;have hbq:Below w1 w1 w5:=Yt.trans (hb.mono Yt.size);have hlq:w1.heap.size<=b:=Pr Yt.size h7;dsimp only;refine SY (f:=41) (args:=#[w,↑(w.heap.size+1)]) zad zax ?_;refine(cD w (w.heap.size+1) _ _ b [] _ ((RE hbq _ zaa).trans h0) ((RE hbq _ zaa).trans h1) zaa).mono ?_;rintro e u' wq ⟨rfl,rfl,W,hc,rfl⟩;obtain⟨r1,r2,r3,r4⟩:=gz HW1.out hbq hlq h6 hc;simp[Leaves,settle,results,Tryz.results24,go_sem,r2,r3];unfold nZ;rw[HRd.out];exact⟨r1,b,rfl,r4⟩):zp:=h
theorem zcM(h:zp:=by
 obtain⟨hb,b,h5,h6,rfl⟩:=h3;have VA:=U4.trans (hb.mono U4.size);dsimp only;refine SY (f:=41) (args:=#[w,↑(w.heap.size+1)]) zad zax ?_;refine(cD w (w.heap.size+1) _ _ b [] _ ((RE VA _ zaa).trans h0) ((RE VA _ zaa).trans h1) zaa).mono ?_;rintro e u' wq ⟨rfl,rfl,W,hc,rfl⟩;obtain⟨r1,r2,r3,r4⟩:=gz HW1.out VA (Pr U4.size h5) h6 hc;simp[Leaves,settle,results,Tryz.results24,go_sem,r2,r3];unfold nZ;rw[HPr.out];exact⟨r1,b,rfl,r4⟩):zp:=h
theorem zcO(h:zp:=by
 intro y hy;obtain⟨x,hx,rfl⟩:=P0.1 hy;refine⟨(pF h hx).1,fun m hm=>?_,fun hm=>?_,fun hm=>?_⟩
 ·obtain⟨j,L,_,e,_⟩:=h.fro m.line (.mv m) ⟨rfl,x,hx,hm⟩;omega
 ·rcases h.en0 x hx with h'|h'
  ·exact h'
  ·rw[show(U.emb x).s.enter=x.enter from rfl,h',mineN,Rj]at hm;cases hm
 ·rcases h.lv0 x hx with h'|h'
  ·exact h'
  ·rw[show(U.emb x).s.leave=x.leave from rfl,h',mineN,Rj]at hm;cases hm):zp:=h
theorem zcW(h:zp:=by
 have HNx:Hid (J.bC S P (k+1)=none):=by
  exact zfF
 rw[Pu zaY]at h5;obtain⟨rfl,VU⟩:=h5;have hbr5:Below w3 w3 w5:=VR.trans (VU.mono VR.size);clear Wo;dsimp only;go_wp2
 go_roundg (n-(k+1))
 case measure=>omega
 case rel=>exact⟨k+1,rfl,zaa,zah,HNx.out,hbr5⟩):zp:=h
theorem zdI(h:zp:=by
 obtain⟨y,hy,r1,r2,r3⟩:=hI;rw[PB.1 hy]at r1 r3;refine new _ _ ?_ (by rw[<- r3];rfl);rw[<- r1];simp):zp:=h
theorem zdJ(h:zp:=by
 rcases Qa hx with hx|hx
 ·exact h.words x hx
 ·rw[hx];have:=h.words (S.getD u U.st0) (bp hu);exact this):zp:=h
theorem zdK(h:zp:=by
 obtain⟨y,hy,e⟩:=h
 rcases Qa hy with h|h
 ·exact .inl ⟨y,h,e⟩
 ·exact .inr ⟨x',PB.2 rfl,zbs⟩):zp:=h
theorem zdN(h:zp:=by
 obtain⟨a0,a1,a2⟩:=hmove _ _ _ _ h1;exact⟨a0,a1,by simp only[List.length_cons]at e⊢;omega⟩):zp:=h
theorem zdO(h:zp:=by
 rcases Qa hx with hx|hx
 ·exact h.en0 x hx
 ·rw[hx];have:=h.en0 (S.getD u U.st0) (bp hu);exact this):zp:=h
theorem zdP(h:zp:=by
 rcases Qa hx with hx|hx
 ·exact h.lv0 x hx
 ·rw[hx];have:=h.lv0 (S.getD u U.st0) (bp hu);exact this):zp:=h
theorem zdU(h:zp:=by
 obtain⟨⟨A,r'⟩,h1,h2⟩:=PU.1 h;cases h2
 obtain⟨a1,a2⟩:=XT _ _ _ h1;exact⟨a1,TK a2⟩):zp:=h
theorem zdX(h:zp:=by
 obtain⟨y,hy,e⟩:=h
 rcases PQ.1 hy with h|h
 ·exact .inl ⟨y,h,e⟩
 ·exact .inr ⟨y,h,e⟩):zp:=h
theorem zd5(h:zp:=by
 rw[e1];go_enter func79,ntmps79;go_wp2;go_ret;exact⟨rfl,(Pq _ _).alloc (Po _) _⟩):zp:=h
theorem zd9(h:zp:=by
 exact⟨x',hx',by rw[this.1,<- h];exact e1,e2,by rw[this.2,<- h];exact e3⟩):zp:=h
theorem zee(h:zp:=by
 go_enter func80,ntmps80;go_wp2;go_ret;exact⟨rfl,(Pq _ _).alloc (Po _) _⟩):zp:=h
theorem zei(h:zp:=by
 refine PX zab ?_ _;go_wp2;go_ret;exact⟨rfl,U3.trans (Vn.mono VZ)⟩):zp:=h
theorem zez(h:zp:=by
 split at h
 ·cases h
 rename_i h0;cases h
 exact⟨_,qn hup,h0,rfl⟩):zp:=h
theorem zeV(h:zp:=by
 split
 ·omega
 ·simp only[ByteArray.size_append'];omega):zp:=h
theorem ze0(h:zp:=by
 go_wp2;go_ret;exact⟨rfl,(Pq _ _).alloc (Po _) _⟩):zp:=h
theorem ze3(h:zp:=by
 rw[hx];exact .inl (by show(0:Int)<(i:Int)+1;omega)):zp:=h
theorem zfa(h:zp:=by
 dsimp only;go_wp2;go_ret;exact⟨rfl,HB.out⟩):zp:=h
theorem zfc(h:zp:=by
 obtain⟨q,h1,h2⟩:=PU.1 h;cases h2;trivial):zp:=h
theorem zax(h:zp:=by simp[go_sem]):zp:=h
theorem zaF(h:zp:=by obtain⟨y,hy,r⟩:=hI;rw[PB.1 hy]at r;exact⟨_,PB.2 rfl,r⟩):zp:=h
theorem zaV(h:zp:=by(try dsimp only at VF);go_simp;omega):zp:=h
theorem zaY(h:zp:=by simpa[J.fV] using Wo):zp:=h
theorem zbs(h:zp:=by rw[<- h];exact e):zp:=h
theorem zcg(h:zp:=by obtain⟨r0,y,hy,r⟩:=hI;rw[PB.1 hy]at r;exact⟨r0,_,PB.2 rfl,r⟩):zp:=h
open Tryz
variable {w w':World}{sv:U.Sl}{X:List J.DS}{b a:Int}{S:List U.State}{P:List ()}{i k n:Nat}{x:U.State}{Q:Int->Prop}{t p:()}{m:U.Move}
section
open Go.RowKit
namespace J
def fV(D:DataW Nat)(tm:Bool)(num:Nat):PL->Bool
 |.state _ n=>!decide (jV D n=some (num:Int))
 |.move ev af d t A=>lG D tm ⟨ev,t,af,d,A,num⟩
 |.enter A=>tm&&U.eA A
 |.leave A=>tm&&U.eA A
def mQ(S:List U.State)(P:List ())(k:Nat):Bool:=match aS (k+1) (wl P k) with
 |some L=>fV (aV S S.length) (bU S) (k+1) L
 |none=>false
def bC(S:List U.State)(P:List ()):Nat->Option Nat
 |0=>none
 |k+1=>match bC S P k with
  |some i=>some i
  |none=>if mQ S P k then some k else none
theorem gW{S:List U.State}{P:List ()}{i k:Nat}(h:bC S P k=some i):∀j,k<=j->bC S P j=some i
 |0,hj=>by rw[UU.1 hj]at h;exact h
 |j+1,hj=>by
  by_cases e:k=j+1
  ·rw[<- e];exact h
  ·rw[bC,gW h j zaa]
def read(s:()):U.Got:=
 if 1500<s.size then .fault 1 0
 else match U.syn (U.cut s 10) with
  |some i=>.fault 2 ((i:Int)+1)
  |none=>match U.aT (U.aF (U.cut s 10) ((U.cut s 10).length-1)) ((U.cut s 10).length-1) with
   |none=>.fault 3 (U.iq (U.aF (U.cut s 10) ((U.cut s 10).length-1)) ((U.cut s 10).length-1))
   |some S=>match U.dE S S.length with
    |some l=>.fault 3 l
    |none=>match bC S (U.cut s 10) ((U.cut s 10).length-1) with
     |some i=>.fault 4 ((i:Int)+1)
     |none=>.dX S
abbrev Nl(m:Nat):PL->Prop
 |.state _ _=>True
 |.move _ _ _ t A=>t.size<=8/\(∀a∈A,Shape a)/\A.length<=m
 |.enter A=>(∀a∈A,Shape a)/\A.length<=m
 |.leave A=>(∀a∈A,Shape a)/\A.length<=m
theorem lE{num:Nat}{l r:List ()}{L:PL}(h:bj num l=some (L,r)):Nl l.length L:=by
 have ZC:∀(f:Nat) (l r:List ()) (A:List U.Act),fm f l=some (A,r)->A.length<=l.length:=by
  intro f
  induction f with
  |zero=>intro l r A h;cases h;simp
  |succ f ih=>
   intro l r A h;cases l with
   |nil=>cases h;simp
   |cons x t=>
    rw[fm]at h;split at h
    ·split at h
     ·cases h
     ·rename_i a r' h1;split at h
      ·cases h
      ·rename_i A' t' h2;cases h
       have e1:=j6 h1;have e2:=ih _ _ _ h2;simp only[List.length_cons];omega
    ·cases h;simp
 have hacts:∀(l r:List ()) (A:List U.Act),bg l=some (A,r)->(∀a∈A,Shape a)/\A.length<=l.length:=fun l r A h=>⟨sx _ _ _ _ h,ZC _ _ _ _ h⟩;have hmove:∀(l r:List ()) (t:()) (A:List U.Act),eV l=some ((t,A),r)->t.size<=8/\(∀a∈A,Shape a)/\A.length<=l.length:=by
  intro l r t A h;unfold eV at h;split at h
  ·cases h
  ·rename_i t' r' ht;obtain⟨⟨A',r2⟩,h1,h2⟩:=PU.1 h;cases h2
   obtain⟨a1,a2⟩:=hacts _ _ _ h1;cases l with
   |nil=>cases ht;exact⟨zac,a1,a2⟩
   |cons y u=>
    rw[pTo]at ht;split at ht
    ·have:=iQ ht;refine⟨jI this.1,a1,?_⟩;have e:=congrArg List.length this.2;simp only[List.length_cons]at e⊢;omega
    ·cases ht;exact⟨zac,a1,a2⟩
 cases l with
 |nil=>cases h
 |cons x t=>
  rw[bj]at h;split at h
  ·exact zfc
  ·split at h
   ·exact zfc
   ·split at h
    ·exact zfc
    ·split at h
     ·exact zfc
     ·split at h
      ·split at h
       ·cases h
       ·rename_i ev r1 he;obtain⟨⟨⟨t',A⟩,r'⟩,h1,h2⟩:=PU.1 h;cases h2
        have e:=congrArg List.length (iQ he).2;exact zdN
      ·split at h
       ·split at h
        ·cases h
        ·rename_i d r1 he;obtain⟨⟨⟨t',A⟩,r'⟩,h1,h2⟩:=PU.1 h;cases h2
         have e:=oN he;exact zdN
       ·have XT:∀(l r:List ()) (A:List U.Act),bW l=some (A,r)->(∀a∈A,Shape a)/\A.length<=l.length:=by
         intro l r A h;unfold bW at h;split at h
         ·cases h
         ·cases h
         ·rename_i h1;cases h
          exact hacts _ _ _ h1
        split at h
        ·exact zdU
        ·split at h
         ·exact zdU
         ·cases h
end J
structure jx(w:World)(sv:U.Sl)(X:List J.DS):Prop where
 states:w.ownsRow 0 134 8 sv.v X.length (X.flatMap J.aM)
 aa:∀x∈X,∃M:List J.PV,M.map (·.m)=x.s.aa/\w.ownsRow 0 207 5 x.vm.v M.length (M.flatMap J.aQ)/\∀y∈M,w.ownsRow 0 275 1 y.v.v y.m.ai.length (y.m.ai.map bo)
 enter:∀x∈X,w.ownsRow 0 275 1 x.ve.v x.s.enter.length (x.s.enter.map bo)
 leave:∀x∈X,w.ownsRow 0 275 1 x.vl.v x.s.leave.length (x.s.leave.map bo)
theorem jx.fG{e:TypeId}(h:jx w sv X)(T:Touch e w w')(h1:134≠e)(h2:207≠e)(h3:275≠e):jx w' sv X:=
 ⟨ah h.states T h1,fun x hx=>let⟨M,m1,m2,m3⟩:=h.aa x hx;⟨M,m1,ah m2 T h2,fun y hy=>ah (m3 y hy) T h3⟩,fun x hx=>ah (h.enter x hx) T h3,fun x hx=>ah (h.leave x hx) T h3⟩
theorem ax.dX{w0:World}{db mb nm:Nat}{pv ov:U.Sl}{tm:Bool}{SP:List (Int×Int)}{O:List Nat}{PT:Nat->List Nat}{D:DataW Nat}(G:ax w0 w db sv pv ov mb tm X SP O PT nm D):jx w sv X:=by
 have hd:∀x∈X,zK w0 w x:=fun x hx=>by
  obtain⟨i,hi,rfl⟩:=RL hx;exact G.deep i hi
 exact⟨aJ G.states (PK _),fun x hx=>let⟨M,m1,m2,m3⟩:=(hd x hx).aa;⟨M,m1,aJ m2 (PK _),fun y hy=>bz (m3 y hy) G.bel⟩,fun x hx=>bz (hd x hx).enter G.bel,fun x hx=>bz (hd x hx).leave G.bel⟩
def nZ(s:())(w:World)(e:Ending)(w':World):Prop:=Below w w w'/\match J.read s with
 |.fault c l=>∃b,e=.returned (.tuple #[.pointer none,.iface 73 (.pointer (some ⟨b,0,none⟩))])/\w'.heap[b]?=some (.cells #[.int .i64 c,.int .i64 l] 77 (0,0))
 |.dX S=>∃cb sv X,e=.returned (.tuple #[.pointer (some ⟨cb,0,none⟩),.nilIface])/\w'.heap[cb]?=some (.cells #[.slice sv.a sv.n sv.c] 123 (0,0))/\X.map (·.s)=S/\jx w' sv X/\S.length<=24
theorem OL(a b c d:Value)(w:World):(method 596 345 (.agg #[a,b,c,d]) "charts/reader.checkNames").run prog w=.ok (348,.agg #[a,b,c,d]) w:=zab
theorem OK(a b c d e f g:Value)(w:World):(method 596 349 (.agg #[a,b,c,d,e,f,g]) "charts/reader.checkNames").run prog w=.ok (353,.agg #[a,b,c,d,e,f,g]) w:=zab
theorem OI(a b c:Value)(w:World):(method 596 356 (.agg #[a,b,c]) "charts/reader.checkNames").run prog w=.ok (358,.agg #[a,b,c]) w:=zab
theorem OJ(a b c:Value)(w:World):(method 596 357 (.agg #[a,b,c]) "charts/reader.checkNames").run prog w=.ok (358,.agg #[a,b,c]) w:=zab
theorem gz{w1 w2:World}{er ln:Int}{b:Nat}(Vg:w1=(w.alloc (.cells #[.pointer none] 69)).alloc (.cells #[.nilIface] 42))(hb:Below w1 w1 w2)(VM:w1.heap.size<=b)(U5:w2.heap[b]?=some (.cells #[(er:Int),(ln:Int)] 77 (0,0)))
  (hc:Below w2 ((w2.setCell w (.pointer none)).setCell ↑(w.heap.size+1) (.iface 73 b)) w'):
  Below w w w'/\w'.cell? w=some (.pointer none)/\w'.cell? ↑(w.heap.size+1)=some (.iface 73 b)/\w'.heap[b]?=some (.cells #[(er:Int),(ln:Int)] 77 (0,0)):=by
 have WR:w1.heap.size=w.heap.size+2:=by rw[Vg];simp
 have h0:w1.heap[w.heap.size]?=some (.cells #[.pointer none] 69 (0,0)):=by rw[Vg];exact fx _ _ _
 have h1:w1.heap[w.heap.size+1]?=some (.cells #[.nilIface] 42 (0,0)):=by rw[Vg];exact cA _ _ _
 have WG:Below w w w1:=zbA;have g0:=(hb.block _ zaa).trans h0;have g1:=(hb.block _ zaa).trans h1;have Zp:=hb.size;have oa:=ag w2 w 0 (.pointer none);have ob:=ag (w2.setCell w (.pointer none)) (w.heap.size+1) 0 (.iface 73 b);have lb:=(Pn.1 U5).1;refine⟨?_,?_,?_,?_⟩
 ·have hx:=ob.below (oa.below (WG.trans (hb.mono WG.size)) (Po _)) zaa;exact hx.trans (hc.mono zaa)
 ·have r:=PR w2 w 0 _ _ (.pointer none) g0;have r2:=(hc.block w zaa).trans ((ob.block w zaa).trans r);rw[Pt w' _ _ _ _ _ r2];rfl
 ·have g1':=(oa.block (w.heap.size+1) zaa).trans g1;have r:=PR _ (w.heap.size+1) 0 _ _ (.iface 73 b) g1';have r2:=(hc.block (w.heap.size+1) zaa).trans r;rw[Pt w' _ _ _ _ _ r2];rfl
 ·rw[hc.block b lb,ob.block b zaa,oa.block b zaa];exact U5
theorem Bv(s:())(w:World)(hv:xJ w)(hs:s.size<=1073741824):
  () 24 #[s] w (nZ s w):=by
 have hmf:∀(fn:Fn) (first cap:Array Value) (w:World),(Instr.makeFunc fn first cap).run prog w=.ok (.func fn first cap) w:=fun _ _ _ _=>rfl;obtain⟨w1,Vg⟩:∃y,y=(w.alloc (.cells #[.pointer none] 69)).alloc (.cells #[.nilIface] 42):=⟨_,rfl⟩;have WR:w1.heap.size=w.heap.size+2:=by rw[Vg];simp
 have h0:w1.heap[w.heap.size]?=some (.cells #[.pointer none] 69 (0,0)):=by rw[Vg];exact fx _ _ _
 have h1:w1.heap[w.heap.size+1]?=some (.cells #[.nilIface] 42 (0,0)):=by rw[Vg];exact cA _ _ _
 have WG:Below w w w1:=zbA;have HRL:Hid (() 42 #[s] w1 (dT s w1)):=by
  by_cases XX:1500<s.size
  ·exact uk s w1 XX hs
  ·exact vH s w1 (hv.aq WG) zaa
 have HW1:Hid _:=Vg
 go_enter_defers func24,ntmps24
 go_wp2_with fail;rw[<- HW1.out];refine Pw HRL.out ?_;rintro e w2 h2;unfold dT at h2;by_cases XX:1500<s.size
 ·rw[PC XX]at h2;have HR:Hid (J.read s=.fault 1 0):=by unfold Hid;rw[J.read,PC XX]
  obtain⟨hb,b,h5,h6,rfl⟩:=h2;dsimp only;refine SY (f:=41) (args:=#[w,↑(w.heap.size+1)]) zad zax ?_;refine(cD w (w.heap.size+1) _ _ b [] _ ((RE hb _ zaa).trans h0) ((RE hb _ zaa).trans h1) zaa).mono ?_;rintro e u' wq ⟨rfl,rfl,W,hc,rfl⟩;obtain⟨r1,r2,r3,r4⟩:=gz HW1.out hb h5 h6 hc;simp[Leaves,settle,results,Tryz.results24,go_sem,r2,r3];unfold nZ;rw[HR.out];exact⟨r1,b,rfl,r4⟩
 ·rw[Pu XX]at h2;have HPr:Hid (J.read s=match U.syn (U.cut s 10) with
   |some i=>.fault 2 ((i:Int)+1)
   |none=>match U.aT (U.aF (U.cut s 10) ((U.cut s 10).length-1)) ((U.cut s 10).length-1) with
    |none=>.fault 3 (U.iq (U.aF (U.cut s 10) ((U.cut s 10).length-1)) ((U.cut s 10).length-1))
    |some S=>match U.dE S S.length with
     |some l=>.fault 3 l
     |none=>match J.bC S (U.cut s 10) ((U.cut s 10).length-1) with
      |some i=>.fault 4 ((i:Int)+1)
      |none=>.dX S):=by unfold Hid;rw[J.read,Pu XX]
  have HSz:Hid (∀j,(U.pc (U.cut s 10) j).size<=1500):=by
   intro j;unfold U.pc;rw[PH];cases e:(U.cut s 10)[j]? with
   |none=>exact PK _
   |some x=>exact Pr (sP x (PD e)) zaa
  have hPl:(U.cut s 10).length<=1501:=Pr ph zaa;generalize U.cut s 10=P at *;cases Yr:U.syn P with
  |some i=>
   rw[Yr]at h2 HPr;obtain⟨hb,b,h5,h6,rfl⟩:=h2;dsimp only;refine SY (f:=41) (args:=#[w,↑(w.heap.size+1)]) zad zax ?_;refine(cD w (w.heap.size+1) _ _ b [] _ ((RE hb _ zaa).trans h0) ((RE hb _ zaa).trans h1) zaa).mono ?_;rintro e u' wq ⟨rfl,rfl,W,hc,rfl⟩;obtain⟨r1,r2,r3,r4⟩:=gz HW1.out hb h5 h6 hc;simp[Leaves,settle,results,Tryz.results24,go_sem,r2,r3];unfold nZ;rw[HPr.out];exact⟨r1,b,rfl,r4⟩
  |none=>
   rw[Yr]at h2 HPr;obtain⟨U4,lb,vs,LS,rfl,hlb,hv0,HL⟩:=h2;obtain⟨n,hn⟩:∃n,n=P.length-1:=⟨_,rfl⟩;rw[<- hn]at HL HPr;have Yp:=HL.lv;rw[Yp]at hv0⊢;have hnb:n<=1500:=zaa;have HC:Hid _:=ub P n lb vs LS w2 hlb HL hv0 hnb HSz.out;have hlbl:=(Pn.1 hlb).1;have HLB:Hid _:=hlb;have HHL:Hid _:=HL;have HVl:Hid (vs.length=n):=Yp;clear Yr hlb HL Yp hn hPl XX hs;dsimp only;go_wp2_with fail;refine Pw HC.out ?_;rintro e w3 h3;unfold fg at h3;cases htr:U.aT (U.aF P n) n with
   |none=>
    rw[htr]at h3 HPr;exact zcM
   |some S=>
    rw[htr]at h3 HPr;simp only at h3;cases X3:U.dE S S.length with
    |some l=>
     rw[X3]at h3;simp only[X3]at HPr;exact zcM
    |none=>
     rw[X3]at h3;simp only[X3]at HPr;obtain⟨db,rfl,VA,DA⟩:=h3;have hb13:=U4.trans (VA.mono U4.size);clear X3 htr HC;dsimp only;go_wp2;obtain⟨sv,pv,ov,mb,X,nm,hX,VD,G⟩:=DA.mem;have YK:=DA.inv.len;have HX:Hid _:=hX;have hlb3:lb<w3.heap.size:=PY hlbl VA.size;clear DA hX VD
     go_loopg[15] n (fun q i wr=>∃k:Nat,q=n-k/\k<=n/\i=.int .i64 k/\J.bC S P k=none/\Below w3 w3 wr)
     case atStart=>exact⟨0,rfl,PK _,rfl,rfl,Pq _ _⟩
     case round=>
      obtain⟨k,hq,hk,rfl,hnf,VR⟩:=hrel;have Yt:Below w1 w1 wr:=hb13.trans (VR.mono hb13.size);have HNF:Hid _:=hnf;by_cases Vx:k<n
      ·obtain⟨hp,hv⟩:=HHL.out.row k Vx;have VS:=J.oV hp;have hll:(J.wl P k).length<=1501:=by
        unfold J.wl;have h1:=J.wZ (U.pc P k);have h2:=HSz.out k;exact Pr ph zaa
       have cv:wr.cell? (lb,k)=some (vs[k]'(by have:=HVl.out;omega)):=by
        rw[PN (w:=w3) (VR.block lb hlb3),PN (w:=w2) (VA.block lb hlbl),Pt w2 _ k _ _ _ HLB.out,R9,Pp]
       obtain⟨L,hL⟩:∃L,L=LS[k]'(by have:=HHL.out.ll;omega):=⟨_,rfl⟩;obtain⟨v,hve⟩:∃v,v=vs[k]'(by have:=HVl.out;omega):=⟨_,rfl⟩;obtain⟨dp,hdp⟩:∃dp,dp=U.cW (U.pc P k):=⟨_,rfl⟩;rw[<- hL,<- hve,<- hdp]at hv;rw[<- hL]at hp VS;rw[<- hve]at cv;have Ye:Hid (J.mQ S P k=J.fV (J.aV S S.length) (J.bU S) (k+1) L):=by unfold Hid J.mQ;rw[hp]
       have WD:∃r,J.bj (k+1) (J.wl P k)=some (L,r):=by
        unfold J.aS at hp;split at hp
        ·rename_i L' h1;cases hp
         exact⟨_,h1⟩
        ·cases hp
       obtain⟨rr,VI⟩:=WD;have WJ:=J.lE VI;have Gr:=G.aq VR;clear hL hve hdp hp VI hnf;cases L with
      |state kd nme=>
       have hv:v=_:=hv;subst hv;have hmS:=OL;go_wp2_with fail;refine Pw (uy ((k+1:Nat):Int) dp kd nme Gr (Pr VS.2.2 zac)) ?_;rintro e w5 h5;unfold xO at h5;cases Wo:J.fV (J.aV S S.length) (J.bU S) (k+1) (.state kd nme) with
       |true=>
        have HRd:Hid (J.read s=.fault 4 (((k+1:Nat):Int))):=by
         exact zfD
        rw[Pu zaY]at h5;obtain⟨hb,b,h7,h6,rfl⟩:=h5;have hbq:Below w1 w1 w5:=Yt.trans (hb.mono Yt.size);have hlq:w1.heap.size<=b:=Pr Yt.size h7;dsimp only;refine SY (f:=41) (args:=#[w,↑(w.heap.size+1)]) zad zax ?_;refine(cD w (w.heap.size+1) _ _ b [] _ ((RE hbq _ zaa).trans h0) ((RE hbq _ zaa).trans h1) zaa).mono ?_;rintro e u' wq ⟨rfl,rfl,W,hc,rfl⟩;obtain⟨r1,r2,r3,r4⟩:=gz HW1.out hbq hlq h6 hc;simp[Leaves,settle,results,Tryz.results24,go_sem,r2,r3];unfold nZ;rw[HRd.out];exact⟨r1,b,rfl,r4⟩
       |false=>
        have HNx:Hid (J.bC S P (k+1)=none):=by
         exact zfF
        rw[PC zaY]at h5;obtain⟨rfl,VU⟩:=h5;have hbr5:Below w3 w3 w5:=VR.trans (VU.mono VR.size);clear Wo;dsimp only;go_wp2
        go_roundg (n-(k+1))
        case measure=>omega
        case rel=>exact⟨k+1,rfl,zaa,zah,HNx.out,hbr5⟩
      |move ev af dl t A=>
       obtain⟨va,vn,vc,hv,U2⟩:=hv;subst hv;have hmS:=OK;go_wp2_with fail;refine Pw (vz ((k+1:Nat):Int) dp ⟨⟨ev,t,af,dl,A,((k+1:Nat):Int)⟩,⟨va,vn,vc⟩⟩ Gr (Pr WJ.1 zac) U2 WJ.2.1 (Pr WJ.2.2 zaa)) ?_;rintro e w5 h5;unfold ig at h5;cases Wo:J.fV (J.aV S S.length) (J.bU S) (k+1) (.move ev af dl t A) with
       |true=>
        exact zcJ
       |false=>
        exact zcW
      |enter A=>
       obtain⟨va,vn,vc,hv,U2⟩:=hv;subst hv;have hmS:=OI;go_wp2_with fail;refine Pw (l7 ((k+1:Nat):Int) dp A va vn vc Gr U2 WJ.1 (Pr WJ.2 zaa)) ?_;rintro e w5 h5;unfold fZ at h5;cases Wo:J.fV (J.aV S S.length) (J.bU S) (k+1) (.enter A) with
       |true=>
        exact zcJ
       |false=>
        exact zcW
      |leave A=>
       obtain⟨va,vn,vc,hv,U2⟩:=hv;subst hv;have hmS:=OJ;go_wp2_with fail;refine Pw (l7 ((k+1:Nat):Int) dp A va vn vc Gr U2 WJ.1 (Pr WJ.2 zaa)) ?_;rintro e w5 h5;unfold fZ at h5;cases Wo:J.fV (J.aV S S.length) (J.bU S) (k+1) (.leave A) with
       |true=>
        exact zcJ
       |false=>
        exact zcW
      ·obtain rfl:k=n:=zaa;have HRd:Hid (J.read s=.dX S):=by unfold Hid;rw[HPr.out,HNF.out]
       have Gr:=G.aq VR;obtain⟨c0,_,_,_,_⟩:=Gr.cells;have V4:=Gr.dlt;have g0:=(Yt.block _ zaa).trans h0;have g1:=(Yt.block _ zaa).trans h1;have k0:wr.cell? w=some (.pointer none):=by rw[Pt wr _ _ _ _ _ g0];rfl
       have k1:wr.cell? ↑(w.heap.size+1)=some .nilIface:=by rw[Pt wr _ _ _ _ _ g1];rfl
       have f0:wr.frozen? w=false:=by simp[World.frozen?,g0]
       have f1:wr.frozen? ↑(w.heap.size+1)=false:=by simp[World.frozen?,g1]
       have l0:w.heap.size<wr.heap.size:=(Pn.1 g0).1;have l1:w.heap.size+1<wr.heap.size:=(Pn.1 g1).1;have HG:Hid _:=Gr;clear hnf G Gr;go_wp2;refine SY (f:=41) (args:=#[w,↑(w.heap.size+1)]) zad zax ?_;refine(CG _ _ _).mono ?_;rintro e u' wq ⟨rfl,rfl,rfl⟩;have oa:=ag wr w 0 wr;have ob:=ag (wr.setCell w wr) (w.heap.size+1) 0 .nilIface;have g1':=(oa.block (w.heap.size+1) zaa).trans g1;have ra:=PR wr w 0 _ _ wr g0;have rb:=PR _ (w.heap.size+1) 0 _ _ .nilIface g1';have ra':=(ob.block w zaa).trans ra;have hT:=jM oa g0;have hT2:=jM ob g1';have hC2:=(HG.out.dX.fG hT zac zac zac).fG hT2 zac zac zac;have hbe:Below w w (wr.setCell w wr):=oa.below (WG.trans (Yt.mono WG.size)) (Po _);have hbe2:=ob.below hbe zaa;have Vf:((wr.setCell w wr).setCell ↑(w.heap.size+1) .nilIface).heap.size=wr.heap.size:=by rw[ob.size,oa.size]
       obtain⟨W6,hW6⟩:∃y,y=(wr.setCell w wr).setCell ↑(w.heap.size+1) .nilIface:=⟨_,rfl⟩;rw[<- hW6]at ra' rb hC2 hbe2 Vf⊢;have q0:(W6.alloc (.cells #[.slice sv.a sv.n sv.c] 123)).cell? w=some ↑wr:=by
        rw[Qm _ _ ⟨w,0,none⟩ (by rw[Vf];exact l0),Pt W6 _ _ _ _ _ ra'];rfl
       have q1:(W6.alloc (.cells #[.slice sv.a sv.n sv.c] 123)).cell? ↑(w.heap.size+1)=some .nilIface:=by
        rw[Qm _ _ ⟨w.heap.size+1,0,none⟩ (by rw[Vf];exact l1),Pt W6 _ _ _ _ _ rb];rfl
       simp[Leaves,settle,results,Tryz.results24,go_sem,q0,q1];unfold nZ;rw[HRd.out];refine⟨hbe2.alloc zaa _,wr.heap.size,sv,X,rfl,?_,HX.out,hC2.fG (e:=0) (cG ((Pq _ _).alloc (Po _) _)) zac zac zac,YK⟩;rw[<- Vf];exact PG _ _
namespace J
inductive It where
 |nm (n:())
 |mv (m:U.Move)
 |en (A:List U.Act)
 |lv (A:List U.Act)
def vq(num:Nat):PL->It
 |.state _ n=>.nm n
 |.move ev af d t A=>.mv ⟨ev,t,af,d,A,num⟩
 |.enter A=>.en A
 |.leave A=>.lv A
def Item(S:List U.State)(l:Int):It->Prop
 |.nm n=>∃x∈S,x.line=l/\x.name=n
 |.mv m=>m.line=l/\∃x∈S,m∈x.aa
 |.en A=>∃x∈S,x.has0=l/\0<l/\x.enter=A
 |.lv A=>∃x∈S,x.has1=l/\0<l/\x.leave=A
def IM(D:DataW Nat)(tm:Bool)(l:Int):It->Bool
 |.nm n=>!decide (jV D n=some l)
 |.mv m=>lG D tm m
 |.en A=>tm&&U.eA A
 |.lv A=>tm&&U.eA A
theorem CC(D:DataW Nat)(tm:Bool)(num:Nat)(L:PL):fV D tm num L=IM D tm num (vq num L):=by cases L<;>rfl
structure Itm(P:List ())(S:List U.State)(i:Nat):Prop where
 fro:∀l I,Item S l I->∃j L,j<i/\l=((j+1:Nat):Int)/\aS (j+1) (wl P j)=some L/\I=vq (j+1) L
 back:∀j,j<i->∃L,aS (j+1) (wl P j)=some L/\Item S ((j+1:Nat):Int) (vq (j+1) L)
 asc:∀q q',q<q'->q'<S.length->(S.getD q U.st0).line<(S.getD q' U.st0).line
 en0:∀x∈S,0<x.has0\/x.enter=[]
 lv0:∀x∈S,0<x.has1\/x.leave=[]
 words:∀x∈S,gO x
theorem Itm.nil(P:List ()):Itm P [] 0:=by
 refine⟨fun l I h=>?_,fun j h=>absurd h zaa,fun q q' _ h=>absurd h zad,fun x h=>absurd h zad,fun x h=>absurd h zad,fun x h=>absurd h zad⟩;cases I with
 |nm n=>obtain⟨x,h,_⟩:=h;cases h
 |mv m=>obtain⟨_,x,h,_⟩:=h;cases h
 |en A=>obtain⟨x,h,_⟩:=h;cases h
 |lv A=>obtain⟨x,h,_⟩:=h;cases h
theorem nq{S:List U.State}{d:Int}:∀n,U.eY S d n<(n:Int)
 |0=>by unfold U.eY;omega
 |n+1=>by
  have:=nq (S:=S) (d:=d) n;rw[U.eY]
  repeat' split
  all_goals omega
theorem qn{d:Int}(h:¬U.cQ S d<0):(U.cQ S d).toNat<S.length:=by
 unfold U.cQ at h⊢;split at h
 ·rename_i hd;rw[PC hd];have:=nq (S:=S) (d:=d) S.length;omega
 ·omega
def H7(S S':List U.State)(i num:Nat):PL->Prop
 |.state k n=>∃ns:U.State,S'=S++[ns]/\ns.line=num/\ns.name=n/\ns.aa=[]/\ns.enter=[]/\ns.leave=[]/\ns.has0=0/\ns.has1=0/\ns.word=bm k/\ns.deep=decide (k=4)
 |.move ev af d t A=>∃u,u<S.length/\S'=S.set u { S.getD u U.st0 with aa:=(S.getD u U.st0).aa++[⟨ev,t,af,d,A,num⟩] }
 |.enter A=>∃u,u<S.length/\¬0<(S.getD u U.st0).has0/\S'=S.set u { S.getD u U.st0 with has0:=i+1,enter:=A }
 |.leave A=>∃u,u<S.length/\¬0<(S.getD u U.st0).has1/\S'=S.set u { S.getD u U.st0 with has1:=i+1,leave:=A }
theorem MC{S S':List U.State}{i num:Nat}{d:Int}{L:PL}(h:U.aR S i (aC num L) d=some S'):H7 S S' i num L:=by
 unfold U.aR at h;split at h
 ·cases h
 cases L with
 |state k n=>
  rw[PC (show(aC num (.state k n)).kind=115 from rfl)]at h;split at h
  ·cases h
   exact⟨_,rfl,rfl,rfl,rfl,rfl,rfl,rfl,rfl,rfl,rfl⟩
  ·cases h
 |move ev af dl t A=>
  rw[Pu (show ¬(aC num (.move ev af dl t A)).kind=115 by simp[aC])]at h;split at h
  ·cases h
  rename_i hup;split at h
  ·cases h
  rw[PC (show(aC num (.move ev af dl t A)).kind=109 from rfl)]at h;split at h
  ·cases h
  cases h
  exact⟨_,qn hup,rfl⟩
 |enter A=>
  rw[Pu (show ¬(aC num (.enter A)).kind=115 by simp[aC])]at h;split at h
  ·cases h
  rename_i hup;split at h
  ·cases h
  rw[Pu (show ¬(aC num (.enter A)).kind=109 by simp[aC]),PC (show(aC num (.enter A)).kind=101 from rfl)]at h;exact zez
 |leave A=>
  rw[Pu (show ¬(aC num (.leave A)).kind=115 by simp[aC])]at h;split at h
  ·cases h
  rename_i hup;split at h
  ·cases h
  rw[Pu (show ¬(aC num (.leave A)).kind=109 by simp[aC]),Pu (show ¬(aC num (.leave A)).kind=101 by simp[aC]),PC (show(aC num (.leave A)).kind=108 from rfl)]at h;exact zez
theorem lH{u:Nat}{x' y:U.State}(h:y∈S):y∈S.set u x'\/y=S.getD u U.st0:=by
 obtain⟨k,hk,rfl⟩:=RL h;by_cases e:u=k
 ·subst e;exact .inr (getD_eq hk).symm
 ·left;have:(S.set u x')[k]'(by rw[PO];exact hk)=S[k]:=by rw[QO,Pu e]
  rw[<- this];exact P7 _
theorem tC{S:List U.State}{u:Nat}{x':U.State}{l:Int}{I:It}(hu:u<S.length)(h1:x'.line=(S.getD u U.st0).line)(h2:x'.name=(S.getD u U.st0).name)(h3:∀m∈(S.getD u U.st0).aa,m∈x'.aa)
  (h4:0<(S.getD u U.st0).has0->x'.has0=(S.getD u U.st0).has0/\x'.enter=(S.getD u U.st0).enter) (h5:0<(S.getD u U.st0).has1->x'.has1=(S.getD u U.st0).has1/\x'.leave=(S.getD u U.st0).leave) (h:Item S l I):Item (S.set u x') l I:=by
 have hx':x'∈S.set u x':=TL hu _;cases I with
 |nm n=>
  obtain⟨y,hy,e1,e2⟩:=h
  rcases lH (u:=u) (x':=x') hy with h|h
  ·exact⟨y,h,e1,e2⟩
  ·exact⟨x',hx',by rw[h1,<- h];exact e1,by rw[h2,<- h];exact e2⟩
 |mv m=>
  obtain⟨e0,y,hy,e1⟩:=h
  rcases lH (u:=u) (x':=x') hy with h|h
  ·exact⟨e0,y,h,e1⟩
  ·exact⟨e0,x',hx',h3 m (by rw[<- h];exact e1)⟩
 |en A=>
  obtain⟨y,hy,e1,e2,e3⟩:=h
  rcases lH (u:=u) (x':=x') hy with h|h
  ·exact⟨y,h,e1,e2,e3⟩
  ·have:=h4 (by rw[<- h,e1];exact e2);exact zd9
 |lv A=>
  obtain⟨y,hy,e1,e2,e3⟩:=h
  rcases lH (u:=u) (x':=x') hy with h|h
  ·exact⟨y,h,e1,e2,e3⟩
  ·have:=h5 (by rw[<- h,e1];exact e2);exact zd9
theorem tB{S:List U.State}{u:Nat}{x':U.State}{l:Int}{I:It}(h:Item (S.set u x') l I):Item S l I\/Item [x'] l I:=by
 cases I with
 |nm n=>
  exact zdK
 |mv m=>
  obtain⟨e0,y,hy,e⟩:=h
  rcases Qa hy with h|h
  ·exact .inl ⟨e0,y,h,e⟩
  ·exact .inr ⟨e0,x',PB.2 rfl,zbs⟩
 |en A=>
  exact zdK
 |lv A=>
  exact zdK
theorem wD{S S':List U.State}{l:Int}{I:It}(hs:∀x∈S,x∈S')(h:Item S l I):Item S' l I:=by
 cases I with
 |nm n=>obtain⟨y,hy,e⟩:=h;exact⟨y,hs y hy,e⟩
 |mv m=>obtain⟨e0,y,hy,e⟩:=h;exact⟨e0,y,hs y hy,e⟩
 |en A=>obtain⟨y,hy,e⟩:=h;exact⟨y,hs y hy,e⟩
 |lv A=>obtain⟨y,hy,e⟩:=h;exact⟨y,hs y hy,e⟩
theorem AU{S T:List U.State}{l:Int}{I:It}(h:Item (S++T) l I):Item S l I\/Item T l I:=by
 cases I with
 |nm n=>
  exact zdX
 |mv m=>
  obtain⟨e0,y,hy,e⟩:=h
  rcases PQ.1 hy with h|h
  ·exact .inl ⟨e0,y,h,e⟩
  ·exact .inr ⟨e0,y,h,e⟩
 |en A=>
  exact zdX
 |lv A=>
  exact zdX
theorem pF(h:Itm P S i)(hx:x∈S):0<x.line/\x.line<=i:=by
 obtain⟨j,L,hj,e,_⟩:=h.fro x.line (.nm x.name) ⟨x,hx,rfl,rfl⟩;omega
theorem Itm.step{P:List ()}{S S':List U.State}{i:Nat}{L:PL}(h:Itm P S i)(hL:aS (i+1) (wl P i)=some L)(hs:H7 S S' i (i+1) L):Itm P S' (i+1):=by
 have old:∀l I,Item S l I->∃j L,j<i+1/\l=((j+1:Nat):Int)/\aS (j+1) (wl P j)=some L/\I=vq (j+1) L:=fun l I hI=>by
  obtain⟨j,L,hj,r⟩:=h.fro l I hI;exact⟨j,L,zaa,r⟩
 have fin:∀(hm:∀l I,Item S l I->Item S' l I) (hn:Item S' ((i+1:Nat):Int) (vq (i+1) L)),∀j,j<i+1->∃L,aS (j+1) (wl P j)=some L/\Item S' ((j+1:Nat):Int) (vq (j+1) L):=fun hm hn j hj=>by
  by_cases e:j=i
  ·subst e;exact⟨L,hL,hn⟩
  ·obtain⟨L',h1,h2⟩:=h.back j zaa;exact⟨L',h1,hm _ _ h2⟩
 have new:∀l I,l=((i+1:Nat):Int)->I=vq (i+1) L->∃j L,j<i+1/\l=((j+1:Nat):Int)/\aS (j+1) (wl P j)=some L/\I=vq (j+1) L:=fun l I e1 e2=>⟨i,L,zaa,e1,hL,e2⟩;have asc':∀u x',u<S.length->x'.line=(S.getD u U.st0).line->∀q q',q<q'->q'<(S.set u x').length->((S.set u x').getD q U.st0).line<((S.set u x').getD q' U.st0).line:=by
  intro u x' hu hx q q' hq YI;rw[PO]at YI;have g:∀k,k<S.length->((S.set u x').getD k U.st0).line=(S.getD k U.st0).line:=by
   intro k hk;by_cases e:u=k
   ·subst e;rw[show(S.set u x').getD u U.st0=x' by rw[PH,RN];simp[hu]];exact hx
   ·rw[show(S.set u x').getD k U.st0=S.getD k U.st0 by rw[PH,RN,Pu e,PH]]
  rw[g q zaa,g q' YI];exact h.asc q q' hq YI
 have WA:∀{u},u<S.length->∀{l I},Item [S.getD u U.st0] l I->Item S l I:=fun hu l I hI=>wD (fun x hx=>by rw[PB.1 hx];exact bp hu) hI
 cases L with
 |state k n=>
  obtain⟨ns,rfl,e1,e2,e3,e4,e5,e6,e7,e8,e9⟩:=hs;refine⟨fun l I hI=>?_,fin (fun l I=>wD (fun x hx=>TZ _ hx)) ⟨ns,zad,e1,e2⟩,fun q q' hq YI=>?_,fun x hx=>?_,fun x hx=>?_,fun x hx=>?_⟩
  ·rcases AU hI with hI|hI
   ·exact old l I hI
   ·cases I with
    |nm n'=>
     obtain⟨y,hy,r1,r2⟩:=hI;rw[PB.1 hy]at r1 r2;exact new _ _ (by rw[<- r1,e1]) (by rw[<- r2,e2];rfl)
    |mv m=>
     obtain⟨_,y,hy,r⟩:=hI;rw[PB.1 hy,e3]at r;cases r
    |en A=>
     obtain⟨y,hy,r1,r2,_⟩:=hI;rw[PB.1 hy,e6]at r1;omega
    |lv A=>
     obtain⟨y,hy,r1,r2,_⟩:=hI;rw[PB.1 hy,e7]at r1;omega
  ·rw[PI]at YI;by_cases e:q'<S.length
   ·rw[bE e,bE zaa];exact h.asc q q' hq e
   ·have e':q'=S.length:=by simp at YI;omega
    subst e';rw[dv,bE hq,e1];have:=(pF h (bp hq)).2;omega
  ·rcases PQ.1 hx with hx|hx
   ·exact h.en0 x hx
   ·rw[PB.1 hx];exact .inr e4
  ·rcases PQ.1 hx with hx|hx
   ·exact h.lv0 x hx
   ·rw[PB.1 hx];exact .inr e5
  ·rcases PQ.1 hx with hx|hx
   ·exact h.words x hx
   ·rw[PB.1 hx];have hg:Good (.state k n):=oV hL;exact⟨k,hg.1,hg.2.1,e8,e9⟩
 |move ev af dl t A=>
  obtain⟨u,hu,rfl⟩:=hs;refine⟨fun l I hI=>?_,fin (fun l I=>tC hu rfl rfl (fun m hm=>TZ _ hm) (fun _=>⟨rfl,rfl⟩) (fun _=>⟨rfl,rfl⟩)) ⟨rfl,_,TL hu _,List.mem_append_right _ (PB.2 rfl)⟩,asc' u _ hu rfl,fun x hx=>?_,fun x hx=>?_,fun x hx=>?_⟩
  ·rcases tB hI with hI|hI
   ·exact old l I hI
   ·cases I with
    |nm n'=>exact old _ _ (WA hu (I:=.nm n') zaF)
    |mv m=>
     obtain⟨r0,y,hy,r⟩:=hI;rw[PB.1 hy]at r
     rcases PQ.1 r with r|r
     ·exact old _ _ (WA hu (I:=.mv m) ⟨r0,_,PB.2 rfl,r⟩)
     ·have:=PB.1 r;subst this;exact new _ _ r0.symm rfl
    |en A'=>exact old _ _ (WA hu (I:=.en A') zaF)
    |lv A'=>exact old _ _ (WA hu (I:=.lv A') zaF)
  ·exact zdO
  ·exact zdP
  ·exact zdJ
 |enter A=>
  obtain⟨u,hu,h0,rfl⟩:=hs;refine⟨fun l I hI=>?_,fin (fun l I=>tC hu rfl rfl (fun m hm=>hm) (fun hh=>absurd hh h0) (fun _=>⟨rfl,rfl⟩)) ⟨_,TL hu _,zad,zaa,rfl⟩,asc' u _ hu rfl,fun x hx=>?_,fun x hx=>?_,fun x hx=>?_⟩
  ·rcases tB hI with hI|hI
   ·exact old l I hI
   ·cases I with
    |nm n'=>exact old _ _ (WA hu (I:=.nm n') zaF)
    |mv m=>exact old _ _ (WA hu (I:=.mv m) zcg)
    |en A'=>
     exact zdI
    |lv A'=>exact old _ _ (WA hu (I:=.lv A') zaF)
  ·rcases Qa hx with hx|hx
   ·exact h.en0 x hx
   ·exact ze3
  ·exact zdP
  ·exact zdJ
 |leave A=>
  obtain⟨u,hu,h0,rfl⟩:=hs;refine⟨fun l I hI=>?_,fin (fun l I=>tC hu rfl rfl (fun m hm=>hm) (fun _=>⟨rfl,rfl⟩) (fun hh=>absurd hh h0)) ⟨_,TL hu _,zad,zaa,rfl⟩,asc' u _ hu rfl,fun x hx=>?_,fun x hx=>?_,fun x hx=>?_⟩
  ·rcases tB hI with hI|hI
   ·exact old l I hI
   ·cases I with
    |nm n'=>exact old _ _ (WA hu (I:=.nm n') zaF)
    |mv m=>exact old _ _ (WA hu (I:=.mv m) zcg)
    |en A'=>exact old _ _ (WA hu (I:=.en A') zaF)
    |lv A'=>
     exact zdI
  ·exact zdO
  ·rcases Qa hx with hx|hx
   ·exact h.lv0 x hx
   ·exact ze3
  ·exact zdJ
theorem uG{P:List ()}:∀{k:Nat},U.lV P k=none->∀j,j<k->∃L,aS (j+1) (wl P j)=some L
 |0,_,j,hj=>absurd hj zaa
 |k+1,h,j,hj=>by
  rw[U.lV]at h;split at h
  ·cases h
  rename_i h0;split at h
  ·cases h
  rename_i hk;by_cases e:j=k
  ·subst e;rw[lD]at hk;cases hp:aS (j+1) (wl P j) with
   |some L=>exact⟨L,rfl⟩
   |none=>rw[hp]at hk;exact absurd rfl hk
  ·exact uG h0 j zaa
theorem mG{P:List ()}{n:Nat}(hw:∀j,j<n->∃L,aS (j+1) (wl P j)=some L):∀{i:Nat} {S:List U.State},i<=n->U.aT (U.aF P n) i=some S->Itm P S i
 |0,S,_,h=>by cases h;exact Itm.nil P
 |i+1,S,hi,h=>by
  rw[U.aT]at h;split at h
  ·cases h
  rename_i S0 h0;have ih:=mG hw zaa h0;have e:(U.aF P n)[i]?=some (U.iw (U.pc P i) i,(U.cW (U.pc P i):Int)):=by
   unfold U.aF;rw[Pv,Tu zaa];rfl
  rw[e]at h;obtain⟨L,hL⟩:=hw i zaa;have hl:U.iw (U.pc P i) i=aC (i+1) L:=by rw[lD,hL];rfl
  dsimp only at h;rw[hl]at h;exact ih.step hL (MC h)
def Lo(Q:Int->Prop)(a:Int):Prop:=(a=0/\∀l,¬Q l)\/(0<a/\Q a/\∀l,Q l->a<=l)
theorem Lo.uniq(h:Lo Q a)(h':Lo Q b):a=b:=by
 rcases h with⟨rfl,h⟩|⟨h0,h1,h2⟩
 ·rcases h' with⟨rfl,_⟩|⟨_,h1,_⟩
  ·rfl
  ·exact absurd h1 (h _)
 ·rcases h' with⟨_,h'⟩|⟨_,h1',h2'⟩
  ·exact absurd h1 (h' _)
  ·exact Int.le_antisymm (h2 _ h1') (h2' _ h1)
theorem Lo.congr{Q':Int->Prop}(h:Lo Q a)(e:∀l,Q l↔Q' l):Lo Q' a:=by
 have:Q=Q':=funext fun l=>propext (e l);rw[<- this];exact h
theorem Lo.add(h:Lo Q a)(hb:0<b):Lo (fun l=>Q l\/l=b) (U.fW a b):=by
 unfold U.fW
 rcases h with⟨rfl,h⟩|⟨h0,h1,h2⟩
 ·rw[PC (.inl rfl)];refine .inr ⟨hb,.inr rfl,fun l hl=>?_⟩
  rcases hl with hl|hl
  ·exact absurd hl (h l)
  ·omega
 ·split
  ·refine .inr ⟨hb,.inr rfl,fun l hl=>?_⟩
   rcases hl with hl|hl
   ·have:=h2 l hl;omega
   ·omega
  ·refine .inr ⟨h0,.inl h1,fun l hl=>?_⟩
   rcases hl with hl|hl
   ·exact h2 l hl
   ·omega
theorem Lo.zR{c:Prop}[Decidable c](h:Lo Q a)(hb:c->0<b):Lo (fun l=>Q l\/(c/\l=b)) (if c then U.fW a b else a):=by
 by_cases hc:c
 ·rw[PC hc];exact(h.add (hb hc)).congr (fun l=>by simp[hc])
 ·rw[Pu hc];exact h.congr (fun l=>by simp[hc])
theorem Lo.aa{X:List U.SV}{t:Bool}:∀(ms:List U.Move) {Q:Int->Prop} {a:Int},Lo Q a->(∀m∈ms,0<m.line)->Lo (fun l=>Q l\/∃m∈ms,U.jd X t m=true/\l=m.line) (ms.foldl (U.nh X t) a)
 |[],Q,a,h,_=>h.congr (fun l=>zad)
 |m::ms,Q,a,h,hp=>by
  rw[R4];have h1:Lo (fun l=>Q l\/(U.jd X t m=true/\l=m.line)) (U.nh X t a m):=h.zR (fun _=>hp m zad);refine(Lo.aa ms h1 (fun m hm=>hp m (by simp[hm]))).congr (fun l=>?_);simp[or_assoc]
def StB(X:List U.SV)(t:Bool)(k:Nat)(x:U.State)(l:Int):Prop:=(U.place X x.name<k/\l=x.line)\/(∃m∈x.aa,U.jd X t m=true/\l=m.line)\/((t&&U.eA x.enter)=true/\l=x.has0)\/((t&&U.eA x.leave)=true/\l=x.has1)
theorem Lo.state{X:List U.SV}{t:Bool}(h:Lo Q a)(p1:0<x.line)(p2:∀m∈x.aa,0<m.line)(p3:(t&&U.eA x.enter)=true->0<x.has0)(p4:(t&&U.eA x.leave)=true->0<x.has1):Lo (fun l=>Q l\/StB X t k x l) (U.kV X t k a x):=by
 have h1:Lo (fun l=>Q l\/(U.place X x.name<k/\l=x.line)) (if U.place X x.name<k then U.fW a x.line else a):=h.zR (fun _=>p1);have h2:=Lo.aa (X:=X) (t:=t) x.aa h1 p2;have h3:=h2.zR (c:=(t&&U.eA x.enter)=true) (b:=x.has0) p3;have h4:=h3.zR (c:=(t&&U.eA x.leave)=true) (b:=x.has1) p4;refine Lo.congr (a:=U.kV X t k a x) h4 (fun l=>?_);unfold StB;simp only[or_assoc]
theorem tP{X:List U.SV}{t:Bool}(hp:∀x∈X,0<x.s.line/\(∀m∈x.s.aa,0<m.line)/\((t&&U.eA x.s.enter)=true->0<x.s.has0)/\((t&&U.eA x.s.leave)=true->0<x.s.has1)):∀k,k<=X.length->Lo (fun l=>∃q,∃h:q<X.length,q<k/\StB X t q X[q].s l) (U.lJ X t k)
 |0,_=>.inl ⟨rfl,fun l ⟨_,_,h,_⟩=>absurd h zaa⟩
 |k+1,hk=>by
  have ih:=tP hp k zaa;have WN:k<X.length:=hk;rw[U.lJ,Pp WN];obtain⟨p1,p2,p3,p4⟩:=hp X[k] (P7 WN);refine(ih.state p1 p2 p3 p4).congr (fun l=>?_);constructor
  ·rintro(⟨q,h,h1,h2⟩|h)
   ·exact⟨q,h,zaa,h2⟩
   ·exact⟨k,WN,zaa,h⟩
  ·rintro⟨q,h,h1,h2⟩;by_cases e:q=k
   ·subst e;exact .inr h2
   ·exact .inl ⟨q,h,zaa,h2⟩
def tS(S:List U.State)(P:List ())(k:Nat):Int:=match bC S P k with
 |some i=>(i:Int)+1
 |none=>0
theorem tR{S:List U.State}{P:List ()}:∀{k i:Nat},bC S P k=some i->i<k
 |0,i,h=>by cases h
 |k+1,i,h=>by
  rw[bC]at h;split at h
  ·rename_i h0;cases h
   have:=tR h0;omega
  ·split at h
   ·cases h;omega
   ·cases h
theorem Bf{S:List U.State}{P:List ()}:∀k,Lo (fun l=>∃j,j<k/\l=((j+1:Nat):Int)/\mQ S P j=true) (tS S P k)
 |0=>.inl ⟨rfl,fun l ⟨_,h,_⟩=>absurd h zaa⟩
 |k+1=>by
  have ih:=Bf (S:=S) (P:=P) k;have h1:=ih.zR (c:=mQ S P k=true) (b:=((k+1:Nat):Int)) (fun _=>zaa);have e:tS S P (k+1)=if mQ S P k=true then U.fW (tS S P k) ((k+1:Nat):Int) else tS S P k:=by
   unfold tS;rw[bC];cases hn:bC S P k with
   |none=>
    dsimp only;by_cases hb:mQ S P k=true
    ·rw[PC hb,PC hb];unfold U.fW;rw[PC (.inl rfl)];simp
    ·rw[Pu hb,Pu hb]
   |some i=>
    dsimp only;have:=tR hn;by_cases hb:mQ S P k=true
    ·rw[PC hb];unfold U.fW;rw[Pu zaa]
    ·rw[Pu hb]
  rw[e];refine h1.congr (fun l=>?_);constructor
  ·rintro(⟨j,h1,h2⟩|⟨h1,h2⟩)
   ·exact⟨j,zaa,h2⟩
   ·exact⟨k,zaa,h2,h1⟩
  ·rintro⟨j,h1,h2,h3⟩;by_cases e:j=k
   ·subst e;exact .inr ⟨h3,h2⟩
   ·exact .inl ⟨j,zaa,h2,h3⟩
theorem Ld{a b:()}(h:a.toList=b.toList):a=b:=by
 rw[P1,P1]at h;cases a
 cases b
 simpa using h
theorem NR{a b:()}(h:a≠b):(Lit.string a.data.toList)≠Lit.string b.data.toList:=by
 intro e;apply h
 cases a
 cases b
 simpa using e
theorem nA(S:List U.State):∀k,Go.Maps.IsMap (aV S k)
 |0=>Go.Maps.isMap_empty
 |k+1=>by
  rw[aV];split
  ·exact nA S k
  ·exact(nA S k).put _ _
theorem pq(S:List U.State)(n:()):∀k,(∃q,q<k/\(S.getD q U.st0).name=n/\(∀q',q'<q->(S.getD q' U.st0).name≠n)/\Go.Maps.has (aV S k) (.string n.data.toList)=true/\∀z,(aV S k).atKey (.string n.data.toList) z=.lit (.int .i64 (S.getD q U.st0).line))\/((∀q,q<k->(S.getD q U.st0).name≠n)/\Go.Maps.has (aV S k) (.string n.data.toList)=false)
 |0=>.inr ⟨fun q h=>absurd h zaa,rfl⟩
 |k+1=>by
  rw[aV];by_cases e:(S.getD k U.st0).name=n
  ·rw[e]
   rcases pq S n k with⟨q,h1,h2,h3,h4,h5⟩|⟨h1,h2⟩
   ·rw[PC h4];exact .inl ⟨q,zaa,h2,h3,h4,h5⟩
   ·rw[Pu (by rw[h2];simp)];exact .inl ⟨k,zaa,e,h1,Go.Maps.has_put_same (nA S k) (show WideAt.IsKeyLit (.string _) from trivial) _,fun z=>TJ (nA S k) (show WideAt.IsKeyLit (.string _) from trivial) _ _⟩
  ·have hk:(Lit.string n.data.toList)≠Lit.string (S.getD k U.st0).name.data.toList:=NR (fun h=>e h.symm)
   rcases pq S n k with⟨q,h1,h2,h3,h4,h5⟩|⟨h1,h2⟩
   ·refine .inl ⟨q,zaa,h2,h3,?_,fun z=>?_⟩
    ·split
     ·exact h4
     ·rw[SA hk];exact h4
    ·split
     ·exact h5 z
     ·rw[TB hk];exact h5 z
   ·refine .inr ⟨fun q hq=>?_,?_⟩
    ·by_cases e':q=k
     ·subst e';exact e
     ·exact h1 q zaa
    ·split
     ·exact h2
     ·rw[SA hk];exact h2
theorem tz(n:())(x:U.State):U.C4 n (U.emb x)=true↔x.name=n:=by
 unfold U.C4 U.emb;simp only[beq_iff_eq];exact⟨Ld,fun h=>by rw[h]⟩
theorem ud(S:List U.State)(n:()):(∃q,q<S.length/\(S.getD q U.st0).name=n/\(∀q',q'<q->(S.getD q' U.st0).name≠n)/\U.place (S.map U.emb) n=(q:Int))\/((∀q,q<S.length->(S.getD q U.st0).name≠n)/\U.place (S.map U.emb) n=-1):=by
 unfold U.place;cases h:(S.map U.emb).findIdx? (U.C4 n) with
 |some i=>
  left;obtain⟨hi,h1,h2⟩:=TD.1 h;rw[PE]at hi;refine⟨i,hi,?_,fun q' YI=>?_,rfl⟩
  ·rw[RU]at h1;rw[getD_eq hi];exact(tz _ _).1 h1
  ·have:=h2 q' YI;rw[RU]at this;rw[getD_eq zaa];exact fun e=>this ((tz _ _).2 e)
 |none=>
  right;refine⟨fun q hq e=>?_,rfl⟩;have:=List.findIdx?_eq_none_iff.1 h (U.emb S[q]) (QT (P7 hq));rw[getD_eq hq]at e;rw[(tz _ _).2 e]at this;cases this
theorem D9(S:List U.State):U.ru (S.map U.emb)=bU S:=by
 unfold U.ru bU U.Ff;rw[UN];rfl
theorem FZ(S:List U.State)(n:()):Go.Maps.has (aV S S.length) (.string n.data.toList)=!decide (U.place (S.map U.emb) n<0):=by
 rcases pq S n S.length with⟨q,h1,h2,h3,h4,_⟩|⟨h1,h2⟩
 ·rcases ud S n with⟨r,g1,g2,g3,g4⟩|⟨g1,_⟩
  ·rw[h4,g4,Ql zaa];rfl
  ·exact absurd h2 (g1 q h1)
 ·rcases ud S n with⟨r,g1,g2,g3,g4⟩|⟨g1,g2⟩
  ·exact absurd g2 (h1 r g1)
  ·rw[h2,g2];rfl
theorem wI(S:List U.State)(tm:Bool)(m:U.Move):lG (aV S S.length) tm m=U.jd (S.map U.emb) tm m:=by
 unfold lG U.jd;rw[FZ,Bool.not_not]
 congr 3
 cases m.to.toList<;>rfl
theorem ri{q:Nat}(h:Itm P S i)(hq:q<S.length):U.place (S.map U.emb) (S.getD q U.st0).name<(q:Int)↔¬jV (aV S S.length) (S.getD q U.st0).name=some (S.getD q U.st0).line:=by
 obtain⟨n,hn⟩:∃n,n=(S.getD q U.st0).name:=⟨_,rfl⟩;rw[<- hn]
 rcases pq S n S.length with⟨r,h1,h2,h3,_,h5⟩|⟨h1,_⟩
 ·rcases ud S n with⟨r',g1,g2,g3,g4⟩|⟨g1,_⟩
  ·have hr:r=r':=by
    rcases Th r r' with c|c|c
    ·exact absurd h2 (g3 r c)
    ·exact c
    ·exact absurd g2 (h3 r' c)
   subst hr;have hle:r<=q:=by
    rcases Rr q r with c|c
    ·exact absurd hn.symm (h3 q c)
    ·exact c
   have hf:jV (aV S S.length) n=some (S.getD r U.st0).line:=by unfold jV;rw[h5]
   rw[g4,hf];by_cases e:r=q
   ·subst e;simp
   ·have:=h.asc r q zaa hq;constructor
    ·intro _ e2;have:=Qh e2;omega
    ·intro _;omega
  ·exact absurd h2 (g1 r h1)
 ·exact absurd hn.symm (h1 q hq)
theorem DB(h:Itm P S n):U.named (S.map U.emb)=tS S P n:=by
 have mineN:U.eA []=false:=rfl;have Xf:∀x∈S.map U.emb,0<x.s.line/\(∀m∈x.s.aa,0<m.line)/\((bU S&&U.eA x.s.enter)=true->0<x.s.has0)/\((bU S&&U.eA x.s.leave)=true->0<x.s.has1):=by
  exact zcO
 have h1:=tP (X:=S.map U.emb) (t:=bU S) Xf (S.map U.emb).length (Po _);unfold U.named;rw[D9];refine h1.uniq ((Bf (S:=S) (P:=P) n).congr (fun l=>?_));have bad:∀j,mQ S P j=true↔∃L,aS (j+1) (wl P j)=some L/\IM (aV S S.length) (bU S) ((j+1:Nat):Int) (vq (j+1) L)=true:=by
  intro j;unfold mQ;cases hp:aS (j+1) (wl P j) with
  |none=>simp
  |some L=>
   dsimp only;rw[CC];constructor
   ·intro h;exact⟨L,rfl,h⟩
   ·rintro⟨L',e,h⟩;cases e;exact h
 constructor
 ·rintro⟨j,hj,rfl,hb⟩;obtain⟨L,hL,hbI⟩:=(bad j).1 hb;obtain⟨L',hL',hI⟩:=h.back j hj;rw[hL]at hL';cases hL'
  have key:∀x∈S,(∀q (hq:q<S.length),S[q]=x->StB (S.map U.emb) (bU S) q x ((j+1:Nat):Int))->∃q,∃h:q<(S.map U.emb).length,q<(S.map U.emb).length/\StB (S.map U.emb) (bU S) q (S.map U.emb)[q].s ((j+1:Nat):Int):=by
   intro x hx hst;obtain⟨q,hq,e⟩:=RL hx;refine⟨q,by rw[PE];exact hq,by rw[PE];exact hq,?_⟩;rw[RU];show StB _ _ q S[q] _;rw[e];exact hst q hq e
  generalize vq (j+1) L=I at hI hbI;cases I with
  |nm nn=>
   obtain⟨x,hx,e1,e2⟩:=hI;refine key x hx (fun q hq e=>.inl ⟨?_,e1.symm⟩);have:=(ri h hq).2;rw[getD_eq hq,e]at this;apply this
   rw[e2,e1];simpa[IM] using hbI
  |mv m=>
   obtain⟨e0,x,hx,hm⟩:=hI;refine key x hx (fun q hq e=>.inr (.inl ⟨m,hm,?_,e0.symm⟩));rw[<- wI];exact hbI
  |en A=>
   obtain⟨x,hx,e1,e2,e3⟩:=hI;refine key x hx (fun q hq e=>.inr (.inr (.inl ⟨?_,e1.symm⟩)));rw[e3];exact hbI
  |lv A=>
   obtain⟨x,hx,e1,e2,e3⟩:=hI;refine key x hx (fun q hq e=>.inr (.inr (.inr ⟨?_,e1.symm⟩)));rw[e3];exact hbI
 ·rintro⟨q,hq,_,hst⟩;have YI:q<S.length:=by rw[PE]at hq;exact hq
  rw[RU]at hst;have hst':StB (S.map U.emb) (bU S) q S[q] l:=hst;have fin:∀I,Item S l I->IM (aV S S.length) (bU S) l I=true->∃j,j<n/\l=((j+1:Nat):Int)/\mQ S P j=true:=by
   intro I hI hb;obtain⟨j,L,hj,rfl,hL,rfl⟩:=h.fro l I hI;exact⟨j,hj,rfl,(bad j).2 ⟨L,hL,hb⟩⟩
  have Vs:S[q]∈S:=P7 YI;obtain⟨p1,p2,p3,p4⟩:=Xf (U.emb S[q]) (QT Vs)
  rcases hst' with⟨c,e⟩|⟨m,hm,c,e⟩|⟨c,e⟩|⟨c,e⟩
  ·refine fin (.nm S[q].name) ⟨_,Vs,e.symm,rfl⟩ ?_;have:=(ri h YI).1;rw[getD_eq YI]at this;have:=this c;rw[e];simpa[IM] using this
  ·refine fin (.mv m) ⟨e.symm,_,Vs,hm⟩ ?_;show lG _ _ m=true;rw[wI];exact c
  ·exact fin (.en S[q].enter) ⟨_,Vs,e.symm,by rw[e];exact p3 c,rfl⟩ c
  ·exact fin (.lv S[q].leave) ⟨_,Vs,e.symm,by rw[e];exact p4 c,rfl⟩ c
theorem qI{P:List ()}{S:List U.State}{n:Nat}(h:Itm P S n):∀{k:Nat} {l:Int},k<=S.length->U.dE S k=some l->0<l
 |0,l,_,e=>by cases e
 |k+1,l,hk,e=>by
  rw[U.dE]at e;split at e
  ·rename_i h0;cases e
   exact qI h zaa h0
  ·split at e
   ·cases e
    exact(pF h (bp hk)).1
   ·cases e
theorem nR(h:U.syn P=none):∀j,j<P.length-1->∃L,aS (j+1) (wl P j)=some L:=by
 unfold U.syn at h;split at h
 ·cases h
 ·rename_i h0;exact uG h0
theorem nL(s:()):J.read s=U.read s:=by
 unfold J.read U.read;by_cases hs:1500<s.size
 ·rw[PC hs,PC hs]
 rw[Pu hs,Pu hs];cases hsy:U.syn (U.cut s 10) with
 |some i=>rfl
 |none=>
  dsimp only;cases ht:U.aT (U.aF (U.cut s 10) ((U.cut s 10).length-1)) ((U.cut s 10).length-1) with
  |none=>rfl
  |some S=>
   dsimp only;have hI:=mG (nR hsy) (Po _) ht;cases hp:U.dE S S.length with
   |some l=>
    have:=qI hI (Po _) hp;dsimp only;rw[PC (by simpa using this)];rfl
   |none=>
    dsimp only;rw[Pu zad];have hn:=DB hI;unfold tS at hn;cases hf:bC S (U.cut s 10) ((U.cut s 10).length-1) with
    |some i=>
     rw[hf]at hn;dsimp only at hn⊢;rw[hn,PC zaa]
    |none=>
     rw[hf]at hn;dsimp only at hn⊢;rw[hn,Pu zaa]
end J
namespace U
def b1:():=⟨#[32]⟩
def bDo:():=⟨#[32,100,111,32]⟩
def bAs:():=⟨#[32,97,115,32]⟩
def Hl(t:())(a:Act):():=
 if a.how.toList == bO then t++bDo++a.how++b1++a.id
 else if a.how.toList == cd then t++bDo++a.how++b1++a.event
 else if a.id.toList == [] then t++bDo++a.how++b1++a.event++b1++dec a.delay.toNat
 else t++bDo++a.how++b1++a.event++b1++dec a.delay.toNat++bAs++a.id
def ew(A:List Act):Nat->()
 |0=>ByteArray.empty
 |i+1=>match A[i]? with
  |some a=>Hl (ew A i) a
  |none=>ew A i
def written(A:List Act):():=ew A A.length
def gP:():=⟨#[115,101,110,100]⟩
def cZ:():=⟨#[99,97,110,99,101,108]⟩
def IJ:():=⟨#[32,101,110,116,101,114]⟩
def IK:():=⟨#[32,108,101,97,118,101]⟩
def bOn:():=⟨#[32,111,110,32]⟩
def bTo:():=⟨#[32,116,111,32]⟩
def Ac:():=⟨#[32,100,101,101,112]⟩
def bNl:():=⟨#[10]⟩
def pad:Nat->()
 |0=>ByteArray.empty
 |n+1=>pad n++b1
def wB(m:Move):Act:=⟨gP,m.event,m.event,m.delay⟩
def tT(m:Move):Act:=⟨cZ,ByteArray.empty,m.event,0⟩
def dA(x:State):Nat->List Act
 |0=>x.enter
 |j+1=>match x.aa[j]? with
  |some m=>if m.after then dA x j++[wB m] else dA x j
  |none=>dA x j
def bS(x:State):Nat->List Act
 |0=>x.leave
 |j+1=>match x.aa[j]? with
  |some m=>if m.after then bS x j++[tT m] else bS x j
  |none=>bS x j
def EM(t:())(x:State):():=t++pad x.depth.toNat++x.word++b1++x.name
def Jb(t:())(x:State):():=if x.deep then EM t x++Ac else EM t x
def ends(t p h a:()):():=if a.toList.isEmpty then t else t++p++h++a++bNl
def mv0(p t:())(m:Move):():=t++p++bOn++m.event
def mv1(p t:())(m:Move):():=if m.to.toList.isEmpty then mv0 p t m else mv0 p t m++bTo++m.to
def Dv(p t:())(m:Move):():=mv1 p t m++written m.ai++bNl
def Dy(p t:())(ms:List Move):Nat->()
 |0=>t
 |j+1=>match ms[j]? with
  |some m=>Dv p (Dy p t ms j) m
  |none=>Dy p t ms j
def st1(t:())(x:State):():=Jb t x++bNl
def st2(t:())(x:State):():=ends (st1 t x) (pad x.depth.toNat) IJ (written (dA x x.aa.length))
def st3(t:())(x:State):():=ends (st2 t x) (pad x.depth.toNat) IK (written (bS x x.aa.length))
def eH(t:())(x:State):():=Dy (pad x.depth.toNat) (st3 t x) x.aa x.aa.length
theorem iR:∀n,(pad n).size=n
 |0=>rfl
 |n+1=>by rw[pad,P2,iR n];rfl
theorem Eg{a:Act}(h:gq a):(Hl t a).size<=t.size+20000:=by
 obtain⟨h1,h2,h3,n,h4,h5⟩:=h;have e1:b1.size=1:=rfl;have e2:bDo.size=4:=rfl;have e3:bAs.size=4:=rfl;have e4:=im (n:=a.delay.toNat) (by rw[h4];simpa using h5);unfold Hl
 repeat' split
 all_goals simp only[ByteArray.size_append',e1,e2,e3];omega
theorem lZ{A:List Act}(Vw:∀a∈A,gq a):∀i,(ew A i).size<=i*20000
 |0=>by simp[ew]
 |i+1=>by
  have ih:=lZ Vw i;unfold ew;cases h:A[i]? with
  |none=>show(ew A i).size<=(i+1)*20000;rw[R1];exact Pr ih (Sc _ _)
  |some a=>
   have:=Eg (t:=ew A i) (Vw a (PD h));show(Hl (ew A i) a).size<=(i+1)*20000;rw[R1];exact Pr this (Nat.add_le_add_right ih _)
theorem fT{A:List Act}(Vw:∀a∈A,gq a)(hn:A.length<=n):(written A).size<=n*20000:=by
 exact Pr (lZ Vw A.length) (Qx _ hn)
theorem EP{x:State}(h:eE x):∀j,(∀a∈dA x j,gq a)/\(dA x j).length<=4096+j
 |0=>⟨h.enter,h.lenE⟩
 |j+1=>by
  have ih:=EP h j;rw[dA];split
  ·rename_i m hm;have hM:=h.aa m (PD hm);split
   ·refine⟨?_,zaf⟩;intro a ha
    rcases PQ.1 ha with h'|h'
    ·exact ih.1 a h'
    ·rw[PB.1 h'];exact⟨by show gP.size<=4096;decide,hM.event,hM.event,hM.delay⟩
   ·exact⟨ih.1,zaa⟩
  ·exact⟨ih.1,zaa⟩
theorem Bj{x:State}(h:eE x):∀j,(∀a∈bS x j,gq a)/\(bS x j).length<=4096+j
 |0=>⟨h.leave,h.lenL⟩
 |j+1=>by
  have ih:=Bj h j;rw[bS];split
  ·rename_i m hm;have hM:=h.aa m (PD hm);split
   ·refine⟨?_,zaf⟩;intro a ha
    rcases PQ.1 ha with h'|h'
    ·exact ih.1 a h'
    ·rw[PB.1 h'];exact⟨by show cZ.size<=4096;decide,PK _,hM.event,0,rfl,zac⟩
   ·exact⟨ih.1,zaa⟩
  ·exact⟨ih.1,zaa⟩
theorem nK(h:eE x):(pad x.depth.toNat).size<=5:=by
 have h1:=h.dep;rw[iR];omega
theorem AI(h:eE x):(EM t x).size<=t.size+9000:=by
 have h1:=h.word;have h2:=h.name;have h3:=nK h;have e1:b1.size=1:=rfl;simp only[EM,ByteArray.size_append'];omega
theorem AJ(h:eE x):(Jb t x).size<=t.size+9010:=by
 have h1:=AI (t:=t) h;have e1:Ac.size=5:=rfl;unfold Jb;split
 ·rw[P2];omega
 ·omega
theorem sU{h a:()}(h1:p.size<=5)(h2:h.size=6)(h3:a.size<=200000000):(ends t p h a).size<=t.size+200000020:=by
 have e1:bNl.size=1:=rfl;unfold ends;exact zeV
theorem Gv(hp:p.size<=5)(h:gL m):(mv0 p t m).size<=t.size+4200:=by
 have h1:=h.event;have e1:bOn.size=4:=rfl;simp only[mv0,ByteArray.size_append'];omega
theorem Gw(hp:p.size<=5)(h:gL m):(mv1 p t m).size<=t.size+9000:=by
 have h0:=Gv (t:=t) hp h;have h1:=h.dst;have e1:bTo.size=4:=rfl;unfold mv1;exact zeV
theorem yU(hp:p.size<=5)(h:gL m):(Dv p t m).size<=t.size+100000000:=by
 have h0:=Gw (t:=t) hp h;have h1:=fT h.ai h.len;have e1:bNl.size=1:=rfl;simp only[Dv,ByteArray.size_append'];omega
theorem tN{t p:()}{ms:List Move}(hp:p.size<=5)(h:∀m∈ms,gL m):∀j,(Dy p t ms j).size<=t.size+j*100000000
 |0=>by simp[Dy]
 |j+1=>by
  have ih:=tN (t:=t) hp h j;rw[Dy];split
  ·rename_i m hm;have:=yU (t:=Dy p t ms j) hp (h m (PD hm));rw[R1,<- QG];exact Pr this (Nat.add_le_add_right ih _)
  ·rw[R1,<- QG];exact Pr ih (Sc _ _)
theorem G9(h:eE x):(st1 t x).size<=t.size+9020:=by
 have h1:=AJ (t:=t) h;have e1:bNl.size=1:=rfl;simp only[st1,ByteArray.size_append'];omega
theorem Ha(h:eE x)(hm:x.aa.length<=4096):(st2 t x).size<=t.size+200009100:=by
 have h1:=G9 (t:=t) h;have h2:=EP h x.aa.length;have h3:=fT (n:=8192) h2.1 zaa;have:=sU (t:=st1 t x) (nK h) (h:=IJ) rfl (a:=written (dA x x.aa.length)) zaa;unfold st2;omega
theorem Hb(h:eE x)(hm:x.aa.length<=4096):(st3 t x).size<=t.size+400020000:=by
 have h1:=Ha (t:=t) h hm;have h2:=Bj h x.aa.length;have h3:=fT (n:=8192) h2.1 zaa;have:=sU (t:=st2 t x) (nK h) (h:=IK) rfl (a:=written (bS x x.aa.length)) zaa;unfold st3;omega
theorem jm(h:eE x)(hm:x.aa.length<=4096):(eH t x).size<=t.size+500000000000:=by
 have h1:=Hb (t:=t) h hm;have h2:=tN (t:=st3 t x) (nK h) h.aa x.aa.length;unfold eH;omega
theorem Gj(ht:t.size<=1500)(hi:i<=1501):qq (iw t i):=by
 have h2:(rest t).size<=1500:=by unfold rest;simp;omega
 have h3:∀x∈cut (rest t) 32,x.size<=4096:=fun x hx=>Pr (jU _ 32 _ (Po _) x hx) zaa;have h4:(cut (rest t) 32).length<=4096:=Pr (pg (rest t) 32 (rest t).size) zaa;unfold iw;exact Mw h3 h4 zaa
theorem Dn(hs:∀x∈P,x.size<=1500)(hk:k<=1501):∀p∈aF P k,qq p.1/\0<=p.2:=by
 intro p hp;unfold aF at hp;obtain⟨i,hi,e⟩:=P0.1 hp;rw[QF]at hi;have h1:(pc P i).size<=1500:=oZ hs i;have h2:=Gj (i:=i) h1 zaa;have e1:p.1=iw (pc P i) i:=by rw[<- e]
 have e2:p.2=(cW (pc P i):Nat):=by rw[<- e]
 rw[e1,e2];exact⟨h2,zaa⟩
theorem Mp{s:()}(h:read s=.dX S):S.length<=1501/\∀x∈S,eE x/\x.aa.length<=4096:=by
 unfold read at h;split at h
 ·cases h
 ·rename_i hs;split at h
  ·cases h
  ·split at h
   ·cases h
   ·rename_i S' hT;have hl:=pg s 10 s.size;have YS:(cut s 10).length<=1501:=by unfold cut;omega
    have hz:∀x∈cut s 10,x.size<=1500:=fun x hx=>Pr (jU s 10 s.size (Po _) x hx) zaa;have Vw:=xz (Dn (k:=(cut s 10).length-1) hz zaa) hT;have hlen:=uN hT;split at h
    ·cases h
    ·split at h
     ·cases h
     ·cases h
      exact⟨zaa,fun x hx=>⟨(Vw x hx).1,by have:=(Vw x hx).2;omega⟩⟩
end U
namespace J
def eH(k:Int)(n:()):():=if k=4 then bm k++U.b1++n++U.Ac else bm k++U.b1++n
def Lc:():=⟨#[111,110,32]⟩
def ee(m:U.Move):():=if m.to.toList.isEmpty then Lc++m.event else Lc++m.event++U.bTo++m.to
end J
theorem w9:(⟨#[112,97,114,97,108,108,101,108,32]⟩:())=J.gw++U.b1:=zac
theorem w6:(⟨#[102,105,110,97,108,32]⟩:())=J.mu++U.b1:=zac
theorem w8:(⟨#[104,105,115,116,111,114,121,32]⟩:())=J.dw++U.b1:=zac
theorem w5:(⟨#[115,116,97,116,101,32]⟩:())=J.mw++U.b1:=zac
theorem vJ(k:Int)(n:())(d u:Int)(p e l m:U.Sl)(w:World)(h0:0<=k)(h4:k<=4)(hn:n.size<=1000000):
  () 79 #[.agg #[(k:Int),n,(d:Int),(u:Int),.slice p.a p.n p.c,.slice e.a e.n e.c,.slice l.a l.n l.c,.slice m.a m.n m.c]] w fun ev w'=>ev=.returned (.string (J.eH k n))/\Below w w w':=by
 have hk:k=0\/k=1\/k=2\/k=3\/k=4:=zaa
 rcases hk with rfl|rfl|rfl|rfl|rfl
 ·have e1:J.eH 0 n=(⟨#[115,116,97,116,101,32]⟩:())++n:=by rw[w5];rfl
  exact zd5
 ·have e1:J.eH 1 n=(⟨#[112,97,114,97,108,108,101,108,32]⟩:())++n:=by rw[w9];rfl
  exact zd5
 ·have e1:J.eH 2 n=(⟨#[102,105,110,97,108,32]⟩:())++n:=by rw[w6];rfl
  exact zd5
 ·have e1:J.eH 3 n=(⟨#[104,105,115,116,111,114,121,32]⟩:())++n:=by rw[w8];rfl
  exact zd5
 ·have e1:J.eH 4 n=(⟨#[104,105,115,116,111,114,121,32]⟩:())++n++(⟨#[32,100,101,101,112]⟩:()):=by rw[w8];rfl
  exact zd5
theorem je(y:J.PV)(w:World)(he:y.m.event.size<=1000000)(ht:y.m.to.size<=1000000):
  () 80 #[.agg #[y.m.event,y.m.after,.int .u64 y.m.delay,y.m.to,.slice y.v.a y.v.n y.v.c]] w fun ev w'=>ev=.returned (.string (J.ee y.m))/\Below w w w':=by
 cases hte:y.m.to.toList.isEmpty
 ·have e1:J.ee y.m=(⟨#[111,110,32]⟩:())++y.m.event++(⟨#[32,116,111,32]⟩:())++y.m.to:=by unfold J.ee;rw[hte];rfl
  rw[e1];have U9:(y.m.to.toList == [])=false:=by
   cases h:y.m.to.toList with
   |nil=>rw[h]at hte;cases hte
   |cons a b=>rfl
  exact zee
 ·have e1:J.ee y.m=(⟨#[111,110,32]⟩:())++y.m.event:=by unfold J.ee;rw[hte];rfl
  rw[e1];have hte':y.m.to.toList=[]:=Ri.1 hte;exact zee
theorem vG(n:())(w:World)(hn:n.size<=1000000):() 363 #[.agg #[n]] w fun ev w'=>ev=.returned (.string (J.gb++U.b1++n))/\Below w w w':=by
 have e1:J.gb++U.b1++n=(⟨#[114,97,105,115,101,32]⟩:())++n:=by rw[show(⟨#[114,97,105,115,101,32]⟩:())=J.gb++U.b1 by decide]
 rw[e1];go_enter func363,ntmps363;exact ze0
theorem sK(n:())(w:World)(hn:n.size<=1000000):() 346 #[.agg #[n]] w fun ev w'=>ev=.returned (.string (J.cZ++U.b1++n))/\Below w w w':=by
 have e1:J.cZ++U.b1++n=(⟨#[99,97,110,99,101,108,32]⟩:())++n:=by rw[show(⟨#[99,97,110,99,101,108,32]⟩:())=J.cZ++U.b1 by decide]
 rw[e1];go_enter func346,ntmps346;exact ze0
end
section
open Go.RowKit Go.Sort
theorem rE(u:Nat)(w:World)(hu64:u<18446744073709551616)(hv:Env w):() 341 #[.int .u64 u,(10:Int)] w fun e w'=>e=.returned (.string (U.dec u))/\Below w w w':=by
 by_cases hs:u<100
 ·go_enter func341,ntmps341;go_wp2_with fail;refine(internal_strconv_small u hs _).mono ?_;rintro e w9 ⟨rfl,U1⟩;rw[U1];clear U1 w9;dsimp only;go_wp2;go_ret;exact⟨rfl,Pq _ _⟩
 ·have hu1:1<=u:=zaa;have hnd20:Lib.nDigits u<=20:=by have:=Lib.numDigits_eq u hu1 hu64;split at this<;>omega
  have ZC:Tryz.prog.arrayLen 430=24:=by simp[Program.arrayLen,underlying430]
  have hsl:∀W,(Instr.sliceAt 430 w none (some (.int .i64 (Lib.nDigits u:Int))) none).run prog W=.ok (.slice w (Lib.nDigits u) 24) W:=fun W=>by
   rw[run_sliceAt_array_h W 430 ⟨w,0,none⟩ (by simp[Program.arrayLen,Program.elem,underlying430]) .i64 (Lib.nDigits u:Int) zaa (by rw[ZC];omega)];go_simp
  have hH0:=Lib.holds_zero0 w 430 (Lib.nDigits u) zaa;have hfmt:=internal_strconv_formatBase10 w.heap.size 0 24 u (Array.replicate (Lib.nDigits u) 0) (w.alloc (.cells Lib.zeros24 430)) hH0 (by rw[To];exact Lib.lt_pow_nDigits u) hu64 (by rw[To];omega);rw[To]at hfmt;have HH0:Hid _:=hH0;have htab:=hv.tab;clear hH0 ZC;go_enter func341,ntmps341;go_wp2_with fail;refine(internal_strconv_numDigits u hu1 hu64 _ (Lib.tabIs_alloc htab _)).mono ?_;rintro e w9 ⟨rfl,U1⟩;rw[U1];clear U1 w9;dsimp only;go_wp2_with fail;refine Pw hfmt ?_;rintro e w' ⟨rfl,k,v',dk,rfl,hF⟩;have hcv:(convert 125 9 (.slice w (Lib.nDigits u) 24)).run prog ((putRow (fun(b:UInt8)=>Value.int .u8 (b.toNat:Int)) (w.alloc (.cells Lib.zeros24 430)) w.heap.size 0 dk).drewN k)=.ok (.string ⟨(Lib.decDigits u).toArray⟩) ((putRow (fun(b:UInt8)=>Value.int .u8 (b.toNat:Int)) (w.alloc (.cells Lib.zeros24 430)) w.heap.size 0 dk).drewN k):=by
   have h:=run_convert_bytes_back (P:=prog) ((putRow (fun(b:UInt8)=>Value.int .u8 (b.toNat:Int)) (w.alloc (.cells Lib.zeros24 430)) w.heap.size 0 dk).drewN k) 125 9 5 ⟨w,0,none⟩ 24 (Lib.decDigits u) underlying125 underlying5 underlying9 (fun j hj=>by
    rw[Lib.row_is_numeral hF j hj,Lib.add_plain,World.cell?_drewN];exact cell?_putRow (fun(b:UInt8)=>Value.int .u8 (b.toNat:Int)) _ w 0 _ dk HH0.out (by rw[hF.size,To]) j (by rw[hF.size];rw[Lib.decDigits_length]at hj;exact hj))
   rw[Lib.decDigits_length]at h;exact h
  obtain⟨os,eo⟩:=Lib.fin_at w (.cells Lib.zeros24 430) dk k 0;have VM:Below w w ((putRow (fun(b:UInt8)=>Value.int .u8 (b.toNat:Int)) (w.alloc (.cells Lib.zeros24 430)) w.heap.size 0 dk).drewN k):=by rw[eo];exact Lib.below_grow _ _ (Po _) _ _
  have HB:Hid _:=VM;clear eo VM;exact zfa
theorem tg(u:Nat)(w:World)(hu64:u<18446744073709551616)(hv:Env w):() 340 #[.int .u64 u,(10:Int)] w fun e w'=>e=.returned (.string (U.dec u))/\Below w w w':=by
 go_enter func340,ntmps340;go_wp2_with fail;refine(rE u _ hu64 hv).mono ?_;exact zey
end
section
open Go.RowKit
namespace J
def jJ(n:())(d:Nat):():=gP++U.b1++n++U.b1++U.dec d
end J
theorem p6(n:())(d:Nat)(w:World)(hn:n.size<=1000000)(hd:d<18446744073709551616)(hv:Env w):() 339 #[.agg #[n,.int .u64 d]] w fun ev w'=>ev=.returned (.string (J.jJ n d))/\Below w w w':=by
 have e1:J.jJ n d=(⟨#[115,101,110,100,32]⟩:())++n++(⟨#[32]⟩:())++U.dec d:=by unfold J.jJ;rw[show(⟨#[115,101,110,100,32]⟩:())=J.gP++U.b1 by decide];rfl
 rw[e1];have hds:=U.im (n:=d) zaa;have U3:Below w w (w.alloc (.cells #[n,.int .u64 d] 280)):=(Pq _ _).alloc (Po _) _;obtain⟨W1,Vj⟩:∃y,y=w.alloc (.cells #[n,.int .u64 d] 280):=⟨_,rfl⟩;have b0:W1.cell? w=some ↑n:=zar;have b1:W1.cell? (w,1)=some (.int .u64 d):=zar;have Vc:w.heap.size<W1.heap.size:=zar;go_enter func339,ntmps339
 go_upto_region 1 with fail
 change Code.wp _ _ _ _ (w.alloc (.cells #[n,.int .u64 d] 280));rw[<- Vj]at U3⊢;clear Vj e1;have VZ:=U3.size;have WR:((⟨#[115,101,110,100,32]⟩:())++n).size<=1000005:=by rw[P2];have:(⟨#[115,101,110,100,32]⟩:()).size=5:=rfl;omega
 have Zp:((⟨#[115,101,110,100,32]⟩:())++n++(⟨#[32]⟩:())).size<=1000006:=by rw[P2];have:(⟨#[32]⟩:()).size=1:=rfl;omega
 refine PJ (S:=(fun W=>W.cell? w=some ↑n/\W.cell? ⟨w,1,none⟩=some (.int .u64 d))) zab ⟨b0,b1⟩ (fun Pm=>?_);refine tH 0 w rfl Pm ?_;refine tH 1 w rfl Pm ?_;refine tH 2 (.string n) rfl Pm ?_;refine RS (i:=3) (v:=.string ((⟨#[115,101,110,100,32]⟩:())++n)) rfl zab zab zab (fun _ _ _ h=>h) (Or.inl ⟨zae,fun w VF=>zaV⟩) Pm ?_;refine RS (i:=4) (v:=.string ((⟨#[115,101,110,100,32]⟩:())++n++(⟨#[32]⟩:()))) rfl zab zab zab (fun _ _ _ h=>h) (Or.inl ⟨zae,fun w VF=>zaV⟩) Pm ?_;refine tH 5 (w,1) rfl Pm ?_;refine tH 6 (.int .u64 d) rfl Pm ?_;refine zH 7 rfl fun K hK=>?_;go_simp;refine(tg d _ hd ((hv.aq U3).aq (Pq _ _).drew)).mono ?_;rintro e w2 ⟨rfl,U4⟩;have Vn:Below W1 W1 w2:=((Pq _ _).drew).trans U4;have k0:=(PN (w:=W1) (w':=w2) (a:=⟨w,0,none⟩) (Vn.block _ Vc)).trans b0;have k1:=(PN (w:=W1) (w':=w2) (a:=⟨w,1,none⟩) (Vn.block _ Vc)).trans b1;dsimp only;refine hK.out _ _ ⟨k0,k1⟩ (fun Pm=>?_);clear hK K;refine RS (i:=8) (v:=.string ((⟨#[115,101,110,100,32]⟩:())++n++(⟨#[32]⟩:())++U.dec d)) rfl zab zab zab (fun _ _ _ h=>h) (Or.inl ⟨zae,fun w VF=>zaV⟩) Pm ?_;refine tH 9 (.string ((⟨#[115,101,110,100,32]⟩:())++n++(⟨#[32]⟩:())++U.dec d)) rfl Pm ?_;exact zei
theorem uv(n a:())(d:Nat)(w:World)(hn:n.size<=1000000)(ha:a.size<=1000000)(hd:d<18446744073709551616)(hv:Env w):() 344 #[.agg #[n,.int .u64 d,a]] w fun ev w'=>ev=.returned (.string (J.jJ n d++U.bAs++a))/\Below w w w':=by
 have hds:=U.im (n:=d) zaa;have hts:(J.jJ n d).size<=1000030:=by
  unfold J.jJ;simp only[ByteArray.size_append'];have:J.gP.size=4:=rfl;have:U.b1.size=1:=rfl;omega
 have U3:Below w w (w.alloc (.cells #[n,.int .u64 d,a] 282)):=(Pq _ _).alloc (Po _) _;obtain⟨W1,Vj⟩:∃y,y=w.alloc (.cells #[n,.int .u64 d,a] 282):=⟨_,rfl⟩;have b0:W1.cell? w=some ↑n:=zar;have b1:W1.cell? (w,1)=some (.int .u64 d):=zar;have b2:W1.cell? (w,2)=some ↑a:=zar;have Vc:w.heap.size<W1.heap.size:=zar;generalize hX:J.jJ n d=X at *;have HX:Hid _:=hX;clear hX;have HA:Hid (U.bAs=(⟨#[32,97,115,32]⟩:())):=rfl;rw[HA.out];have WR:(X++(⟨#[32,97,115,32]⟩:())).size<=1000034:=by rw[P2];have:(⟨#[32,97,115,32]⟩:()).size=4:=rfl;omega
 go_enter func344,ntmps344
 go_upto_region 1 with fail
 change Code.wp _ _ _ _ (w.alloc (.cells #[n,.int .u64 d,a] 282));rw[<- Vj]at U3⊢;clear Vj;have VZ:=U3.size;refine PJ (S:=(fun W=>W.cell? w=some ↑n/\W.cell? ⟨w,1,none⟩=some (.int .u64 d)/\W.cell? ⟨w,2,none⟩=some ↑a)) zab ⟨b0,b1,b2⟩ (fun Pm=>?_);refine tH 0 w rfl Pm ?_;refine tH 1 (.agg #[n,.int .u64 d]) rfl Pm ?_;refine tH 4 (w,2) rfl Pm ?_;refine tH 5 (.string a) rfl Pm ?_;refine zH 2 rfl fun K hK=>?_;go_simp;refine(p6 n d _ hn hd ((hv.aq U3).aq (Pq _ _).drew)).mono ?_;rintro e w2 ⟨rfl,U4⟩;rw[HX.out];have Vn:Below W1 W1 w2:=((Pq _ _).drew).trans U4;have k0:=(PN (w:=W1) (w':=w2) (a:=⟨w,0,none⟩) (Vn.block _ Vc)).trans b0;have k1:=(PN (w:=W1) (w':=w2) (a:=⟨w,1,none⟩) (Vn.block _ Vc)).trans b1;have k2:=(PN (w:=W1) (w':=w2) (a:=⟨w,2,none⟩) (Vn.block _ Vc)).trans b2;dsimp only;refine hK.out _ _ ⟨k0,k1,k2⟩ (fun Pm=>?_);clear hK K;refine RS (i:=3) (v:=.string (X++(⟨#[32,97,115,32]⟩:()))) rfl zab zab zab (fun _ _ _ h=>h) (Or.inl ⟨zae,fun w VF=>zaV⟩) Pm ?_;refine RS (i:=6) (v:=.string (X++(⟨#[32,97,115,32]⟩:())++a)) rfl zab zab zab (fun _ _ _ h=>h) (Or.inl ⟨zae,fun w VF=>zaV⟩) Pm ?_;refine tH 7 (.string (X++(⟨#[32,97,115,32]⟩:())++a)) rfl Pm ?_;exact zei
end
section
open Go.RowKit Go.Proofs
def Oc:Go.Shelf.Ren:=⟨fun|166=>122|167=>124|240=>180|276=>219|n=>n,fun|20=>20|37=>125|70=>124|72=>127|75=>42|80=>136|164=>137|n=>n,fun|n=>n⟩
theorem NT:Lays.n167 prog Oc:={
 mixed:=zab
 f167:=Tryz.func124.trans (congrArg some zab)
 f240:=Tryz.func180.trans (congrArg some zab)
 f276:=Tryz.func219.trans (congrArg some zab)
 t0:=underlying0
 a0:=Tryz.isAgg0
 z0:=Tryz.sizeOf0
 v0:=T7
 t4:=underlying4
 a4:=SU
 z4:=SI
 v4:=R5
 t5:=underlying5
 a5:=TV
 z5:=TG
 v5:=S7
 t9:=underlying9
 a9:=Tryz.isAgg9
 z9:=Tryz.sizeOf9
 v9:=Tryz.zeroValue9
 t20:=underlying20
 a20:=Tryz.isAgg20
 z20:=Tryz.sizeOf20
 v20:=Tryz.zeroValue20
 t37:=underlying125
 a37:=Tryz.isAgg125
 z37:=Tryz.sizeOf125
 v37:=Tryz.zeroValue125
 t70:=underlying124
 a70:=Tryz.isAgg124
 z70:=Tryz.sizeOf124
 v70:=Tryz.zeroValue124
 t72:=underlying127
 a72:=Tryz.isAgg127
 z72:=Tryz.sizeOf127
 v72:=Tryz.zeroValue127
 t75:=underlying42
 a75:=Tryz.isAgg42
 z75:=Tryz.sizeOf42
 v75:=Tryz.zeroValue42
 t164:=underlying137
 a164:=Tryz.isAgg137
 z164:=Tryz.sizeOf137
 v164:=Tryz.zeroValue137 }
theorem td:Builder.Extra prog Oc:={
 sizeBuilder:=zab
 liesBuilder:=zab
 t5:=underlying5
 a5:=TV
 z5:=TG
 v5:=S7
 infoByte:=zab
 cellsByte:=zab
 sizeByte:=zab
 neB5:=by decide }
