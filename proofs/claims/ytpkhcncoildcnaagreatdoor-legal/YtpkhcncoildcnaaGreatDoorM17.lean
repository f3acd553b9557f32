import Derived.Test.YtpkhcncoildcnaaGreatDoorM16
set_option maxRecDepth 100000
set_option maxHeartbeats 8000000
namespace Go.Proofs.YtpkhcncoildcnaaGreatDoor
variable {zp:Prop}
theorem zfX(h:zp:=by
 have h1:J.br S P (k+1)=some k:=by
  rw[J.br,HNF.out];simp only;rw[WN.out,Vb];rfl
 unfold Hid;rw[HPr.out,J.gD h1 n zaa];rfl):zp:=h
theorem zf0(h:zp:=by
 unfold Hid;rw[J.br,HNF.out];simp only;rw[WN.out,Vb];rfl):zp:=h
theorem zcU(h:zp:=by
 have HRd:Hid (J.read s=.fault 4 (((k+1:Nat):Int))):=by
  exact zfX
 rw[OD (by exact Vb)]at h5;obtain⟨hb,b,h7,h6,rfl⟩:=h5;have Y5:Below w1 w1 w5:=Xh.trans (hb.mono Xh.size);have hlq:w1.heap.size<=b:=Ox Xh.size h7;dsimp only;refine RO (f:=59) (args:=#[w,↑(w.heap.size+1)]) zad zaw ?_;refine(bX w (w.heap.size+1) _ _ b [] _ ((QA Y5 _ zaa).trans h0) ((QA Y5 _ zaa).trans h1) zaa).mono ?_;rintro e u' wq ⟨rfl,rfl,W,hc,rfl⟩;obtain⟨r1,r2,r3,r4⟩:=fY Zh.out Y5 hlq h6 hc;simp[Leaves,settle,results,Tryz.results36,go_sem,r2,r3];unfold nr;rw[HRd.out];exact⟨r1,b,rfl,r4⟩):zp:=h
theorem zc5(h:zp:=by
 obtain⟨hb,b,h5,h6,rfl⟩:=h3;have Ug:=TP.trans (hb.mono TP.size);dsimp only;refine RO (f:=59) (args:=#[w,↑(w.heap.size+1)]) zad zaw ?_;refine(bX w (w.heap.size+1) _ _ b [] _ ((QA Ug _ zaa).trans h0) ((QA Ug _ zaa).trans h1) zaa).mono ?_;rintro e u' wq ⟨rfl,rfl,W,hc,rfl⟩;obtain⟨r1,r2,r3,r4⟩:=fY Zh.out Ug (Ox TP.size h5) h6 hc;simp[Leaves,settle,results,Tryz.results36,go_sem,r2,r3];unfold nr;rw[HPr.out];exact⟨r1,b,rfl,r4⟩):zp:=h
theorem zc7(h:zp:=by
 intro y hy;obtain⟨x,hx,rfl⟩:=O7.1 hy;refine⟨(oN h hx).1,fun m hm=>?_,fun hm=>?_,fun hm=>?_⟩
 ·obtain⟨j,L,_,e,_⟩:=h.fro m.line (.mv m) ⟨rfl,x,hx,hm⟩;omega
 ·rcases h.en0 x hx with h'|h'
  ·exact h'
  ·rw[show(U.emb x).s.enter=x.enter from rfl,h',mineN,Qj]at hm;cases hm
 ·rcases h.lv0 x hx with h'|h'
  ·exact h'
  ·rw[show(U.emb x).s.leave=x.leave from rfl,h',mineN,Qj]at hm;cases hm):zp:=h
theorem zdf(h:zp:=by
 have HNx:Hid (J.br S P (k+1)=none):=by
  exact zf0
 rw[OB zaZ]at h5;obtain⟨rfl,Vl⟩:=h5;have hbr5:Below w3 w3 w5:=Vt.trans (Vl.mono Vt.size);clear Vb;dsimp only;go_wp2
 go_roundg (n-(k+1))
 case measure=>omega
 case rel=>exact⟨k+1,rfl,zaa,zag,HNx.out,hbr5⟩):zp:=h
theorem zd5(h:zp:=by
 obtain⟨y,hy,r1,r2,r3⟩:=hI;rw[OE.1 hy]at r1 r3;refine new _ _ ?_ (by rw[<- r3];rfl);rw[<- r1];simp):zp:=h
theorem zd6(h:zp:=by
 rcases O6 hx with hx|hx
 ·exact h.words x hx
 ·rw[hx];have:=h.words (S.getD u U.st0) (bf hu);exact this):zp:=h
theorem zd7(h:zp:=by
 obtain⟨y,hy,e⟩:=h
 rcases O6 hy with h|h
 ·exact .inl ⟨y,h,e⟩
 ·exact .inr ⟨x',OE.2 rfl,zbt⟩):zp:=h
theorem zd9(h:zp:=by
 obtain⟨a0,a1,a2⟩:=hmove _ _ _ _ h1;exact⟨a0,a1,by simp only[List.length_cons]at e⊢;omega⟩):zp:=h
theorem zea(h:zp:=by
 rcases O6 hx with hx|hx
 ·exact h.en0 x hx
 ·rw[hx];have:=h.en0 (S.getD u U.st0) (bf hu);exact this):zp:=h
theorem zeb(h:zp:=by
 rcases O6 hx with hx|hx
 ·exact h.lv0 x hx
 ·rw[hx];have:=h.lv0 (S.getD u U.st0) (bf hu);exact this):zp:=h
theorem zeg(h:zp:=by
 obtain⟨⟨A,r'⟩,h1,h2⟩:=O0.1 h;cases h2
 obtain⟨a1,a2⟩:=Xa _ _ _ h1;exact⟨a1,SE a2⟩):zp:=h
theorem zel(h:zp:=by
 obtain⟨y,hy,e⟩:=h
 rcases OT.1 hy with h|h
 ·exact .inl ⟨y,h,e⟩
 ·exact .inr ⟨y,h,e⟩):zp:=h
theorem zew(h:zp:=by
 exact⟨x',hx',by rw[this.1,<- h];exact e1,e2,by rw[this.2,<- h];exact e3⟩):zp:=h
theorem zeN(h:zp:=by
 split at h
 ·cases h
 rename_i h0;cases h
 exact⟨_,pK hup,h0,rfl⟩):zp:=h
theorem zfe(h:zp:=by
 rw[hx];exact .inl (by show(0:Int)<(i:Int)+1;omega)):zp:=h
theorem zfq(h:zp:=by
 obtain⟨q,h1,h2⟩:=O0.1 h;cases h2;trivial):zp:=h
theorem zaw(h:zp:=by simp[go_sem]):zp:=h
theorem zaE(h:zp:=by obtain⟨y,hy,r⟩:=hI;rw[OE.1 hy]at r;exact⟨_,OE.2 rfl,r⟩):zp:=h
theorem zaZ(h:zp:=by simpa[J.fO] using Vb):zp:=h
theorem za2(h:zp:=by rw[ON];exact hu):zp:=h
theorem zbb(h:zp:=by rw[Q1];rfl):zp:=h
theorem zbt(h:zp:=by rw[<- h];exact e):zp:=h
theorem zch(h:zp:=by obtain⟨r0,y,hy,r⟩:=hI;rw[OE.1 hy]at r;exact⟨r0,_,OE.2 rfl,r⟩):zp:=h
open Tryz
variable {sv:U.Sl}{e:TypeId}{b a:Int}{S:List U.State}{P:List ()}{i k n:Nat}{s:()}{v:Value}
section
open Go.RowKit
namespace J
def fO(D:DataW Nat)(tm:Bool)(num:Nat):PL->Bool
 |.state _ n=>!decide (jA D n=some (num:Int))
 |.move ev af d t A=>kT D tm ⟨ev,t,af,d,A,num⟩
 |.enter A=>tm&&U.cD A
 |.leave A=>tm&&U.cD A
def mi(S:List U.State)(P:List ())(k:Nat):Bool:=match bp (k+1) (wl P k) with
 |some L=>fO (aR S S.length) (bP S) (k+1) L
 |none=>false
def br(S:List U.State)(P:List ()):Nat->Option Nat
 |0=>none
 |k+1=>match br S P k with
  |some i=>some i
  |none=>if mi S P k then some k else none
theorem gD{S:List U.State}{P:List ()}{i k:Nat}(h:br S P k=some i):∀j,k<=j->br S P j=some i
 |0,hj=>by rw[TI.1 hj]at h;exact h
 |j+1,hj=>by
  by_cases e:k=j+1
  ·rw[<- e];exact h
  ·rw[br,gD h j zaa]
def read(s:()):U.Got:=
 if 1500<s.size then .fault 1 0
 else match U.syn (U.cut s 10) with
  |some i=>.fault 2 ((i:Int)+1)
  |none=>match U.aZ (U.aK (U.cut s 10) ((U.cut s 10).length-1)) ((U.cut s 10).length-1) with
   |none=>.fault 3 (U.gV (U.aK (U.cut s 10) ((U.cut s 10).length-1)) ((U.cut s 10).length-1))
   |some S=>match U.dW S S.length with
    |some l=>.fault 3 l
    |none=>match br S (U.cut s 10) ((U.cut s 10).length-1) with
     |some i=>.fault 4 ((i:Int)+1)
     |none=>.fu S
abbrev Mn(m:Nat):PL->Prop
 |.state _ _=>True
 |.move _ _ _ t A=>t.size<=8/\(∀a∈A,Shape a)/\A.length<=m
 |.enter A=>(∀a∈A,Shape a)/\A.length<=m
 |.leave A=>(∀a∈A,Shape a)/\A.length<=m
theorem kS{num:Nat}{l r:List ()}{L:PL}(h:bo num l=some (L,r)):Mn l.length L:=by
 have U9:∀(f:Nat) (l r:List ()) (A:List U.Act),gP f l=some (A,r)->A.length<=l.length:=by
  intro f
  induction f with
  |zero=>intro l r A h;cases h;simp
  |succ f ih=>
   intro l r A h;cases l with
   |nil=>cases h;simp
   |cons x t=>
    rw[gP]at h;split at h
    ·split at h
     ·cases h
     ·rename_i a r' h1;split at h
      ·cases h
      ·rename_i A' t' h2;cases h
       have e1:=jF h1;have e2:=ih _ _ _ h2;simp only[List.length_cons];omega
    ·cases h;simp
 have hacts:∀(l r:List ()) (A:List U.Act),bg l=some (A,r)->(∀a∈A,Shape a)/\A.length<=l.length:=fun l r A h=>⟨rW _ _ _ _ h,U9 _ _ _ _ h⟩;have hmove:∀(l r:List ()) (t:()) (A:List U.Act),gQ l=some ((t,A),r)->t.size<=8/\(∀a∈A,Shape a)/\A.length<=l.length:=by
  intro l r t A h;unfold gQ at h;split at h
  ·cases h
  ·rename_i t' r' ht;obtain⟨⟨A',r2⟩,h1,h2⟩:=O0.1 h;cases h2
   obtain⟨a1,a2⟩:=hacts _ _ _ h1;cases l with
   |nil=>cases ht;exact⟨zac,a1,a2⟩
   |cons y u=>
    rw[pTo]at ht;split at ht
    ·have:=iE ht;refine⟨jg this.1,a1,?_⟩;have e:=congrArg List.length this.2;simp only[List.length_cons]at e⊢;omega
    ·cases ht;exact⟨zac,a1,a2⟩
 cases l with
 |nil=>cases h
 |cons x t=>
  rw[bo]at h;split at h
  ·exact zfq
  ·split at h
   ·exact zfq
   ·split at h
    ·exact zfq
    ·split at h
     ·exact zfq
     ·split at h
      ·split at h
       ·cases h
       ·rename_i ev r1 he;obtain⟨⟨⟨t',A⟩,r'⟩,h1,h2⟩:=O0.1 h;cases h2
        have e:=congrArg List.length (iE he).2;exact zd9
      ·split at h
       ·split at h
        ·cases h
        ·rename_i d r1 he;obtain⟨⟨⟨t',A⟩,r'⟩,h1,h2⟩:=O0.1 h;cases h2
         have e:=nU he;exact zd9
       ·have Xa:∀(l r:List ()) (A:List U.Act),cW l=some (A,r)->(∀a∈A,Shape a)/\A.length<=l.length:=by
         intro l r A h;unfold cW at h;split at h
         ·cases h
         ·cases h
         ·rename_i h1;cases h
          exact hacts _ _ _ h1
        split at h
        ·exact zeg
        ·split at h
         ·exact zeg
         ·cases h
end J
structure jU(w:World)(sv:U.Sl)(X:List J.DS):Prop where
 states:w.ownsRow 0 188 8 sv.v X.length (X.flatMap J.aP)
 aj:∀x∈X,∃M:List J.PV,M.map (·.m)=x.s.aj/\w.ownsRow 0 260 5 x.vm.v M.length (M.flatMap J.bl)/\∀y∈M,w.ownsRow 0 271 1 y.v.v y.m.aw.length (y.m.aw.map bm)
 enter:∀x∈X,w.ownsRow 0 271 1 x.ve.v x.s.enter.length (x.s.enter.map bm)
 leave:∀x∈X,w.ownsRow 0 271 1 x.vl.v x.s.leave.length (x.s.leave.map bm)
theorem jU.fM{w w':World}{X:List J.DS}(h:jU w sv X)(T:Touch e w w')(h1:188≠e)(h2:260≠e)(h3:271≠e):jU w' sv X:=
 ⟨ag h.states T h1,fun x hx=>let⟨M,m1,m2,m3⟩:=h.aj x hx;⟨M,m1,ag m2 T h2,fun y hy=>ag (m3 y hy) T h3⟩,fun x hx=>ag (h.enter x hx) T h3,fun x hx=>ag (h.leave x hx) T h3⟩
theorem ao.fu{w0 w:World}{db mb nm:Nat}{pv ov:U.Sl}{tm:Bool}{X:List J.DS}{SP:List (Int×Int)}{O:List Nat}{PT:Nat->List Nat}{D:DataW Nat}(G:ao w0 w db sv pv ov mb tm X SP O PT nm D):jU w sv X:=by
 have hd:∀x∈X,yZ w0 w x:=fun x hx=>by
  obtain⟨i,hi,rfl⟩:=QX hx;exact G.deep i hi
 exact⟨aC G.states (OL _),fun x hx=>let⟨M,m1,m2,m3⟩:=(hd x hx).aj;⟨M,m1,aC m2 (OL _),fun y hy=>bj (m3 y hy) G.bel⟩,fun x hx=>bj (hd x hx).enter G.bel,fun x hx=>bj (hd x hx).leave G.bel⟩
def nr(s:())(w:World)(e:Ending)(w':World):Prop:=Below w w w'/\match J.read s with
 |.fault c l=>∃b,e=.returned (.tuple #[.pointer none,.iface 74 (.pointer (some ⟨b,0,none⟩))])/\w'.heap[b]?=some (.cells #[.int .i64 c,.int .i64 l] 78 (0,0))
 |.fu S=>∃cb sv X,e=.returned (.tuple #[.pointer (some ⟨cb,0,none⟩),.nilIface])/\w'.heap[cb]?=some (.cells #[.slice sv.a sv.n sv.c] 175 (0,0))/\X.map (·.s)=S/\jU w' sv X/\S.length<=24
theorem NQ(a b c d:Value)(w:World):(method 599 364 (.agg #[a,b,c,d]) "charts/reader.checkNames").run prog w=.ok (347,.agg #[a,b,c,d]) w:=zab
theorem NP(a b c d e f g:Value)(w:World):(method 599 368 (.agg #[a,b,c,d,e,f,g]) "charts/reader.checkNames").run prog w=.ok (352,.agg #[a,b,c,d,e,f,g]) w:=zab
theorem NN(a b c:Value)(w:World):(method 599 375 (.agg #[a,b,c]) "charts/reader.checkNames").run prog w=.ok (357,.agg #[a,b,c]) w:=zab
theorem NO(a b c:Value)(w:World):(method 599 376 (.agg #[a,b,c]) "charts/reader.checkNames").run prog w=.ok (357,.agg #[a,b,c]) w:=zab
theorem fY{w w1 w2 w':World}{er ln:Int}{b:Nat}(Ul:w1=(w.alloc (.cells #[.pointer none] 98)).alloc (.cells #[.nilIface] 48))(hb:Below w1 w1 w2)(UE:w1.heap.size<=b)(TO:w2.heap[b]?=some (.cells #[(er:Int),(ln:Int)] 78 (0,0)))
  (hc:Below w2 ((w2.setCell w (.pointer none)).setCell ↑(w.heap.size+1) (.iface 74 b)) w'):
  Below w w w'/\w'.cell? w=some (.pointer none)/\w'.cell? ↑(w.heap.size+1)=some (.iface 74 b)/\w'.heap[b]?=some (.cells #[(er:Int),(ln:Int)] 78 (0,0)):=by
 have Wg:w1.heap.size=w.heap.size+2:=by rw[Ul];simp
 have h0:w1.heap[w.heap.size]?=some (.cells #[.pointer none] 98 (0,0)):=by rw[Ul];exact fk _ _ _
 have h1:w1.heap[w.heap.size+1]?=some (.cells #[.nilIface] 48 (0,0)):=by rw[Ul];exact bU _ _ _
 have Vw:Below w w w1:=zbA;have g0:=(hb.block _ zaa).trans h0;have g1:=(hb.block _ zaa).trans h1;have hs2:=hb.size;have oa:=aa w2 w 0 (.pointer none);have ob:=aa (w2.setCell w (.pointer none)) (w.heap.size+1) 0 (.iface 74 b);have lb:=(Ov.1 TO).1;refine⟨?_,?_,?_,?_⟩
 ·have hx:=ob.below (oa.below (Vw.trans (hb.mono Vw.size)) (Ow _)) zaa;exact hx.trans (hc.mono zaa)
 ·have r:=OP w2 w 0 _ _ (.pointer none) g0;have r2:=(hc.block w zaa).trans ((ob.block w zaa).trans r);rw[OA w' _ _ _ _ _ r2];rfl
 ·have g1':=(oa.block (w.heap.size+1) zaa).trans g1;have r:=OP _ (w.heap.size+1) 0 _ _ (.iface 74 b) g1';have r2:=(hc.block (w.heap.size+1) zaa).trans r;rw[OA w' _ _ _ _ _ r2];rfl
 ·rw[hc.block b lb,ob.block b zaa,oa.block b zaa];exact TO
theorem I7(s:())(w:World)(hv:xh w)(hs:s.size<=1073741824):
  () 36 #[s] w (nr s w):=by
 have hmf:∀(fn:Fn) (first cap:Array Value) (w:World),(Instr.makeFunc fn first cap).run prog w=.ok (.func fn first cap) w:=fun _ _ _ _=>rfl;obtain⟨w1,Ul⟩:∃y,y=(w.alloc (.cells #[.pointer none] 98)).alloc (.cells #[.nilIface] 48):=⟨_,rfl⟩;have Wg:w1.heap.size=w.heap.size+2:=by rw[Ul];simp
 have h0:w1.heap[w.heap.size]?=some (.cells #[.pointer none] 98 (0,0)):=by rw[Ul];exact fk _ _ _
 have h1:w1.heap[w.heap.size+1]?=some (.cells #[.nilIface] 48 (0,0)):=by rw[Ul];exact bU _ _ _
 have Vw:Below w w w1:=zbA;have HRL:Hid (() 60 #[s] w1 (dT s w1)):=by
  by_cases Yh:1500<s.size
  ·exact tJ s w1 Yh hs
  ·exact uV s w1 (hv.aq Vw) zaa
 have Zh:Hid _:=Ul
 go_enter_defers func36,ntmps36
 go_wp2_with fail;rw[<- Zh.out];refine OI HRL.out ?_;rintro e w2 h2;unfold dT at h2;by_cases Yh:1500<s.size
 ·rw[OD Yh]at h2;have HR:Hid (J.read s=.fault 1 0):=by unfold Hid;rw[J.read,OD Yh]
  obtain⟨hb,b,h5,h6,rfl⟩:=h2;dsimp only;refine RO (f:=59) (args:=#[w,↑(w.heap.size+1)]) zad zaw ?_;refine(bX w (w.heap.size+1) _ _ b [] _ ((QA hb _ zaa).trans h0) ((QA hb _ zaa).trans h1) zaa).mono ?_;rintro e u' wq ⟨rfl,rfl,W,hc,rfl⟩;obtain⟨r1,r2,r3,r4⟩:=fY Zh.out hb h5 h6 hc;simp[Leaves,settle,results,Tryz.results36,go_sem,r2,r3];unfold nr;rw[HR.out];exact⟨r1,b,rfl,r4⟩
 ·rw[OB Yh]at h2;have HPr:Hid (J.read s=match U.syn (U.cut s 10) with
   |some i=>.fault 2 ((i:Int)+1)
   |none=>match U.aZ (U.aK (U.cut s 10) ((U.cut s 10).length-1)) ((U.cut s 10).length-1) with
    |none=>.fault 3 (U.gV (U.aK (U.cut s 10) ((U.cut s 10).length-1)) ((U.cut s 10).length-1))
    |some S=>match U.dW S S.length with
     |some l=>.fault 3 l
     |none=>match J.br S (U.cut s 10) ((U.cut s 10).length-1) with
      |some i=>.fault 4 ((i:Int)+1)
      |none=>.fu S):=by unfold Hid;rw[J.read,OB Yh]
  have HSz:Hid (∀j,(U.pc (U.cut s 10) j).size<=1500):=by
   intro j;unfold U.pc;rw[OJ];cases e:(U.cut s 10)[j]? with
   |none=>exact OL _
   |some x=>exact Ox (sy x (OG e)) zaa
  have hPl:(U.cut s 10).length<=1501:=Ox rD zaa;generalize U.cut s 10=P at *;cases Xd:U.syn P with
  |some i=>
   rw[Xd]at h2 HPr;obtain⟨hb,b,h5,h6,rfl⟩:=h2;dsimp only;refine RO (f:=59) (args:=#[w,↑(w.heap.size+1)]) zad zaw ?_;refine(bX w (w.heap.size+1) _ _ b [] _ ((QA hb _ zaa).trans h0) ((QA hb _ zaa).trans h1) zaa).mono ?_;rintro e u' wq ⟨rfl,rfl,W,hc,rfl⟩;obtain⟨r1,r2,r3,r4⟩:=fY Zh.out hb h5 h6 hc;simp[Leaves,settle,results,Tryz.results36,go_sem,r2,r3];unfold nr;rw[HPr.out];exact⟨r1,b,rfl,r4⟩
  |none=>
   rw[Xd]at h2 HPr;obtain⟨TP,lb,vs,LS,rfl,hlb,hv0,HL⟩:=h2;obtain⟨n,hn⟩:∃n,n=P.length-1:=⟨_,rfl⟩;rw[<- hn]at HL HPr;have Xb:=HL.lv;rw[Xb]at hv0⊢;have hnb:n<=1500:=zaa;have HC:Hid _:=tz P n lb vs LS w2 hlb HL hv0 hnb HSz.out;have hlbl:=(Ov.1 hlb).1;have HLB:Hid _:=hlb;have HHL:Hid _:=HL;have HVl:Hid (vs.length=n):=Xb;clear Xd hlb HL Xb hn hPl Yh hs;dsimp only;go_wp2_with fail;refine OI HC.out ?_;rintro e w3 h3;unfold eV at h3;cases htr:U.aZ (U.aK P n) n with
   |none=>
    rw[htr]at h3 HPr;exact zc5
   |some S=>
    rw[htr]at h3 HPr;simp only at h3;cases We:U.dW S S.length with
    |some l=>
     rw[We]at h3;simp only[We]at HPr;exact zc5
    |none=>
     rw[We]at h3;simp only[We]at HPr;obtain⟨db,rfl,Ug,DA⟩:=h3;have hb13:=TP.trans (Ug.mono TP.size);clear We htr HC;dsimp only;go_wp2;obtain⟨sv,pv,ov,mb,X,nm,hX,Uq,G⟩:=DA.mem;have ZT:=DA.inv.len;have HX:Hid _:=hX;have hlb3:lb<w3.heap.size:=OS hlbl Ug.size;clear DA hX Uq
     go_loopg[15] n (fun q i wr=>∃k:Nat,q=n-k/\k<=n/\i=.int .i64 k/\J.br S P k=none/\Below w3 w3 wr)
     case atStart=>exact⟨0,rfl,OL _,rfl,rfl,Oy _ _⟩
     case round=>
      obtain⟨k,hq,hk,rfl,hnf,Vt⟩:=hrel;have Xh:Below w1 w1 wr:=hb13.trans (Vt.mono hb13.size);have HNF:Hid _:=hnf;by_cases UC:k<n
      ·obtain⟨hp,hv⟩:=HHL.out.row k UC;have UO:=J.n8 hp;have hll:(J.wl P k).length<=1501:=by
        unfold J.wl;have h1:=J.wz (U.pc P k);have h2:=HSz.out k;exact Ox rD zaa
       have cv:wr.cell? (lb,k)=some (vs[k]'(by have:=HVl.out;omega)):=by
        rw[OO (w:=w3) (Vt.block lb hlb3),OO (w:=w2) (Ug.block lb hlbl),OA w2 _ k _ _ _ HLB.out,Q0,Ou]
       obtain⟨L,hL⟩:∃L,L=LS[k]'(by have:=HHL.out.ll;omega):=⟨_,rfl⟩;obtain⟨v,hve⟩:∃v,v=vs[k]'(by have:=HVl.out;omega):=⟨_,rfl⟩;obtain⟨dp,Z6⟩:∃dp,dp=U.aY (U.pc P k):=⟨_,rfl⟩;rw[<- hL,<- hve,<- Z6]at hv;rw[<- hL]at hp UO;rw[<- hve]at cv;have WN:Hid (J.mi S P k=J.fO (J.aR S S.length) (J.bP S) (k+1) L):=by unfold Hid J.mi;rw[hp]
       have VH:∃r,J.bo (k+1) (J.wl P k)=some (L,r):=by
        unfold J.bp at hp;split at hp
        ·rename_i L' h1;cases hp
         exact⟨_,h1⟩
        ·cases hp
       obtain⟨rr,Uo⟩:=VH;have Vy:=J.kS Uo;have Gr:=G.aq Vt;clear hL hve Z6 hp Uo hnf;cases L with
      |state kd nme=>
       have hv:v=_:=hv;subst hv;have hmS:=NQ;go_wp2_with fail;refine OI (tV ((k+1:Nat):Int) dp kd nme Gr (Ox UO.2.2 zac)) ?_;rintro e w5 h5;unfold xp at h5;cases Vb:J.fO (J.aR S S.length) (J.bP S) (k+1) (.state kd nme) with
       |true=>
        have HRd:Hid (J.read s=.fault 4 (((k+1:Nat):Int))):=by
         exact zfX
        rw[OB zaZ]at h5;obtain⟨hb,b,h7,h6,rfl⟩:=h5;have Y5:Below w1 w1 w5:=Xh.trans (hb.mono Xh.size);have hlq:w1.heap.size<=b:=Ox Xh.size h7;dsimp only;refine RO (f:=59) (args:=#[w,↑(w.heap.size+1)]) zad zaw ?_;refine(bX w (w.heap.size+1) _ _ b [] _ ((QA Y5 _ zaa).trans h0) ((QA Y5 _ zaa).trans h1) zaa).mono ?_;rintro e u' wq ⟨rfl,rfl,W,hc,rfl⟩;obtain⟨r1,r2,r3,r4⟩:=fY Zh.out Y5 hlq h6 hc;simp[Leaves,settle,results,Tryz.results36,go_sem,r2,r3];unfold nr;rw[HRd.out];exact⟨r1,b,rfl,r4⟩
       |false=>
        have HNx:Hid (J.br S P (k+1)=none):=by
         exact zf0
        rw[OD zaZ]at h5;obtain⟨rfl,Vl⟩:=h5;have hbr5:Below w3 w3 w5:=Vt.trans (Vl.mono Vt.size);clear Vb;dsimp only;go_wp2
        go_roundg (n-(k+1))
        case measure=>omega
        case rel=>exact⟨k+1,rfl,zaa,zag,HNx.out,hbr5⟩
      |move ev af dl t A=>
       obtain⟨va,vn,vc,hv,TN⟩:=hv;subst hv;have hmS:=NP;go_wp2_with fail;refine OI (uP ((k+1:Nat):Int) dp ⟨⟨ev,t,af,dl,A,((k+1:Nat):Int)⟩,⟨va,vn,vc⟩⟩ Gr (Ox Vy.1 zac) TN Vy.2.1 (Ox Vy.2.2 zaa)) ?_;rintro e w5 h5;unfold gR at h5;cases Vb:J.fO (J.aR S S.length) (J.bP S) (k+1) (.move ev af dl t A) with
       |true=>
        exact zcU
       |false=>
        exact zdf
      |enter A=>
       obtain⟨va,vn,vc,hv,TN⟩:=hv;subst hv;have hmS:=NN;go_wp2_with fail;refine OI (lz ((k+1:Nat):Int) dp A va vn vc Gr TN Vy.1 (Ox Vy.2 zaa)) ?_;rintro e w5 h5;unfold dD at h5;cases Vb:J.fO (J.aR S S.length) (J.bP S) (k+1) (.enter A) with
       |true=>
        exact zcU
       |false=>
        exact zdf
      |leave A=>
       obtain⟨va,vn,vc,hv,TN⟩:=hv;subst hv;have hmS:=NO;go_wp2_with fail;refine OI (lz ((k+1:Nat):Int) dp A va vn vc Gr TN Vy.1 (Ox Vy.2 zaa)) ?_;rintro e w5 h5;unfold dD at h5;cases Vb:J.fO (J.aR S S.length) (J.bP S) (k+1) (.leave A) with
       |true=>
        exact zcU
       |false=>
        exact zdf
      ·obtain rfl:k=n:=zaa;have HRd:Hid (J.read s=.fu S):=by unfold Hid;rw[HPr.out,HNF.out]
       have Gr:=G.aq Vt;obtain⟨c0,_,_,_,_⟩:=Gr.cells;have UH:=Gr.dlt;have g0:=(Xh.block _ zaa).trans h0;have g1:=(Xh.block _ zaa).trans h1;have k0:wr.cell? w=some (.pointer none):=by rw[OA wr _ _ _ _ _ g0];rfl
       have k1:wr.cell? ↑(w.heap.size+1)=some .nilIface:=by rw[OA wr _ _ _ _ _ g1];rfl
       have f0:wr.frozen? w=false:=by simp[World.frozen?,g0]
       have f1:wr.frozen? ↑(w.heap.size+1)=false:=by simp[World.frozen?,g1]
       have l0:w.heap.size<wr.heap.size:=(Ov.1 g0).1;have l1:w.heap.size+1<wr.heap.size:=(Ov.1 g1).1;have HG:Hid _:=Gr;clear hnf G Gr;go_wp2;refine RO (f:=59) (args:=#[w,↑(w.heap.size+1)]) zad zaw ?_;refine(BW _ _ _).mono ?_;rintro e u' wq ⟨rfl,rfl,rfl⟩;have oa:=aa wr w 0 wr;have ob:=aa (wr.setCell w wr) (w.heap.size+1) 0 .nilIface;have g1':=(oa.block (w.heap.size+1) zaa).trans g1;have ra:=OP wr w 0 _ _ wr g0;have rb:=OP _ (w.heap.size+1) 0 _ _ .nilIface g1';have ra':=(ob.block w zaa).trans ra;have hT:=jm oa g0;have hT2:=jm ob g1';have hC2:=(HG.out.fu.fM hT zac zac zac).fM hT2 zac zac zac;have hbe:Below w w (wr.setCell w wr):=oa.below (Vw.trans (Xh.mono Vw.size)) (Ow _);have hbe2:=ob.below hbe zaa;have T6:((wr.setCell w wr).setCell ↑(w.heap.size+1) .nilIface).heap.size=wr.heap.size:=by rw[ob.size,oa.size]
       obtain⟨W6,hW6⟩:∃y,y=(wr.setCell w wr).setCell ↑(w.heap.size+1) .nilIface:=⟨_,rfl⟩;rw[<- hW6]at ra' rb hC2 hbe2 T6⊢;have q0:(W6.alloc (.cells #[.slice sv.a sv.n sv.c] 175)).cell? w=some ↑wr:=by
        rw[Pf _ _ ⟨w,0,none⟩ (by rw[T6];exact l0),OA W6 _ _ _ _ _ ra'];rfl
       have q1:(W6.alloc (.cells #[.slice sv.a sv.n sv.c] 175)).cell? ↑(w.heap.size+1)=some .nilIface:=by
        rw[Pf _ _ ⟨w.heap.size+1,0,none⟩ (by rw[T6];exact l1),OA W6 _ _ _ _ _ rb];rfl
       simp[Leaves,settle,results,Tryz.results36,go_sem,q0,q1];unfold nr;rw[HRd.out];refine⟨hbe2.alloc zaa _,wr.heap.size,sv,X,rfl,?_,HX.out,hC2.fM (e:=0) (cT ((Oy _ _).alloc (Ow _) _)) zac zac zac,ZT⟩;rw[<- T6];exact OH _ _
namespace J
inductive It where
 |nm (n:())
 |mv (m:U.Move)
 |en (A:List U.Act)
 |lv (A:List U.Act)
def uN(num:Nat):PL->It
 |.state _ n=>.nm n
 |.move ev af d t A=>.mv ⟨ev,t,af,d,A,num⟩
 |.enter A=>.en A
 |.leave A=>.lv A
def Item(S:List U.State)(l:Int):It->Prop
 |.nm n=>∃x∈S,x.line=l/\x.name=n
 |.mv m=>m.line=l/\∃x∈S,m∈x.aj
 |.en A=>∃x∈S,x.has0=l/\0<l/\x.enter=A
 |.lv A=>∃x∈S,x.has1=l/\0<l/\x.leave=A
def Hc(D:DataW Nat)(tm:Bool)(l:Int):It->Bool
 |.nm n=>!decide (jA D n=some l)
 |.mv m=>kT D tm m
 |.en A=>tm&&U.cD A
 |.lv A=>tm&&U.cD A
theorem BS(D:DataW Nat)(tm:Bool)(num:Nat)(L:PL):fO D tm num L=Hc D tm num (uN num L):=by cases L<;>rfl
structure Itm(P:List ())(S:List U.State)(i:Nat):Prop where
 fro:∀l I,Item S l I->∃j L,j<i/\l=((j+1:Nat):Int)/\bp (j+1) (wl P j)=some L/\I=uN (j+1) L
 back:∀j,j<i->∃L,bp (j+1) (wl P j)=some L/\Item S ((j+1:Nat):Int) (uN (j+1) L)
 asc:∀q q',q<q'->q'<S.length->(S.getD q U.st0).line<(S.getD q' U.st0).line
 en0:∀x∈S,0<x.has0\/x.enter=[]
 lv0:∀x∈S,0<x.has1\/x.leave=[]
 words:∀x∈S,iG x
theorem Itm.nil(P:List ()):Itm P [] 0:=by
 refine⟨fun l I h=>?_,fun j h=>absurd h zaa,fun q q' _ h=>absurd h zad,fun x h=>absurd h zad,fun x h=>absurd h zad,fun x h=>absurd h zad⟩;cases I with
 |nm n=>obtain⟨x,h,_⟩:=h;cases h
 |mv m=>obtain⟨_,x,h,_⟩:=h;cases h
 |en A=>obtain⟨x,h,_⟩:=h;cases h
 |lv A=>obtain⟨x,h,_⟩:=h;cases h
theorem mD{S:List U.State}{d:Int}:∀n,U.fh S d n<(n:Int)
 |0=>by unfold U.fh;omega
 |n+1=>by
  have:=mD (S:=S) (d:=d) n;rw[U.fh]
  repeat' split
  all_goals omega
theorem pK{d:Int}(h:¬U.dr S d<0):(U.dr S d).toNat<S.length:=by
 unfold U.dr at h⊢;split at h
 ·rename_i hd;rw[OD hd];have:=mD (S:=S) (d:=d) S.length;omega
 ·omega
def Gz(S S':List U.State)(i num:Nat):PL->Prop
 |.state k n=>∃ns:U.State,S'=S++[ns]/\ns.line=num/\ns.name=n/\ns.aj=[]/\ns.enter=[]/\ns.leave=[]/\ns.has0=0/\ns.has1=0/\ns.word=bB k/\ns.deep=decide (k=4)
 |.move ev af d t A=>∃u,u<S.length/\S'=S.set u { S.getD u U.st0 with aj:=(S.getD u U.st0).aj++[⟨ev,t,af,d,A,num⟩] }
 |.enter A=>∃u,u<S.length/\¬0<(S.getD u U.st0).has0/\S'=S.set u { S.getD u U.st0 with has0:=i+1,enter:=A }
 |.leave A=>∃u,u<S.length/\¬0<(S.getD u U.st0).has1/\S'=S.set u { S.getD u U.st0 with has1:=i+1,leave:=A }
theorem LG{S S':List U.State}{i num:Nat}{d:Int}{L:PL}(h:U.bk S i (aF num L) d=some S'):Gz S S' i num L:=by
 unfold U.bk at h;split at h
 ·cases h
 cases L with
 |state k n=>
  rw[OD (show(aF num (.state k n)).kind=115 from rfl)]at h;split at h
  ·cases h
   exact⟨_,rfl,rfl,rfl,rfl,rfl,rfl,rfl,rfl,rfl,rfl⟩
  ·cases h
 |move ev af dl t A=>
  rw[OB (show ¬(aF num (.move ev af dl t A)).kind=115 by simp[aF])]at h;split at h
  ·cases h
  rename_i hup;split at h
  ·cases h
  rw[OD (show(aF num (.move ev af dl t A)).kind=109 from rfl)]at h;split at h
  ·cases h
  cases h
  exact⟨_,pK hup,rfl⟩
 |enter A=>
  rw[OB (show ¬(aF num (.enter A)).kind=115 by simp[aF])]at h;split at h
  ·cases h
  rename_i hup;split at h
  ·cases h
  rw[OB (show ¬(aF num (.enter A)).kind=109 by simp[aF]),OD (show(aF num (.enter A)).kind=101 from rfl)]at h;exact zeN
 |leave A=>
  rw[OB (show ¬(aF num (.leave A)).kind=115 by simp[aF])]at h;split at h
  ·cases h
  rename_i hup;split at h
  ·cases h
  rw[OB (show ¬(aF num (.leave A)).kind=109 by simp[aF]),OB (show ¬(aF num (.leave A)).kind=101 by simp[aF]),OD (show(aF num (.leave A)).kind=108 from rfl)]at h;exact zeN
theorem kU{u:Nat}{x' y:U.State}(h:y∈S):y∈S.set u x'\/y=S.getD u U.st0:=by
 obtain⟨k,hk,rfl⟩:=QX h;by_cases e:u=k
 ·subst e;exact .inr (getD_eq hk).symm
 ·left;have:(S.set u x')[k]'(by rw[ON];exact hk)=S[k]:=by rw[PI,OB e]
  rw[<- this];exact Pl _
theorem sV{S:List U.State}{u:Nat}{x':U.State}{l:Int}{I:It}(hu:u<S.length)(h1:x'.line=(S.getD u U.st0).line)(h2:x'.name=(S.getD u U.st0).name)(h3:∀m∈(S.getD u U.st0).aj,m∈x'.aj)
  (h4:0<(S.getD u U.st0).has0->x'.has0=(S.getD u U.st0).has0/\x'.enter=(S.getD u U.st0).enter) (h5:0<(S.getD u U.st0).has1->x'.has1=(S.getD u U.st0).has1/\x'.leave=(S.getD u U.st0).leave) (h:Item S l I):Item (S.set u x') l I:=by
 have hx':x'∈S.set u x':=SG hu _;cases I with
 |nm n=>
  obtain⟨y,hy,e1,e2⟩:=h
  rcases kU (u:=u) (x':=x') hy with h|h
  ·exact⟨y,h,e1,e2⟩
  ·exact⟨x',hx',by rw[h1,<- h];exact e1,by rw[h2,<- h];exact e2⟩
 |mv m=>
  obtain⟨e0,y,hy,e1⟩:=h
  rcases kU (u:=u) (x':=x') hy with h|h
  ·exact⟨e0,y,h,e1⟩
  ·exact⟨e0,x',hx',h3 m (by rw[<- h];exact e1)⟩
 |en A=>
  obtain⟨y,hy,e1,e2,e3⟩:=h
  rcases kU (u:=u) (x':=x') hy with h|h
  ·exact⟨y,h,e1,e2,e3⟩
  ·have:=h4 (by rw[<- h,e1];exact e2);exact zew
 |lv A=>
  obtain⟨y,hy,e1,e2,e3⟩:=h
  rcases kU (u:=u) (x':=x') hy with h|h
  ·exact⟨y,h,e1,e2,e3⟩
  ·have:=h5 (by rw[<- h,e1];exact e2);exact zew
theorem sU{S:List U.State}{u:Nat}{x':U.State}{l:Int}{I:It}(h:Item (S.set u x') l I):Item S l I\/Item [x'] l I:=by
 cases I with
 |nm n=>
  exact zd7
 |mv m=>
  obtain⟨e0,y,hy,e⟩:=h
  rcases O6 hy with h|h
  ·exact .inl ⟨e0,y,h,e⟩
  ·exact .inr ⟨e0,x',OE.2 rfl,zbt⟩
 |en A=>
  exact zd7
 |lv A=>
  exact zd7
theorem vS{S S':List U.State}{l:Int}{I:It}(hs:∀x∈S,x∈S')(h:Item S l I):Item S' l I:=by
 cases I with
 |nm n=>obtain⟨y,hy,e⟩:=h;exact⟨y,hs y hy,e⟩
 |mv m=>obtain⟨e0,y,hy,e⟩:=h;exact⟨e0,y,hs y hy,e⟩
 |en A=>obtain⟨y,hy,e⟩:=h;exact⟨y,hs y hy,e⟩
 |lv A=>obtain⟨y,hy,e⟩:=h;exact⟨y,hs y hy,e⟩
theorem Al{S T:List U.State}{l:Int}{I:It}(h:Item (S++T) l I):Item S l I\/Item T l I:=by
 cases I with
 |nm n=>
  exact zel
 |mv m=>
  obtain⟨e0,y,hy,e⟩:=h
  rcases OT.1 hy with h|h
  ·exact .inl ⟨e0,y,h,e⟩
  ·exact .inr ⟨e0,y,h,e⟩
 |en A=>
  exact zel
 |lv A=>
  exact zel
theorem oN(h:Itm P S i){x:U.State}(hx:x∈S):0<x.line/\x.line<=i:=by
 obtain⟨j,L,hj,e,_⟩:=h.fro x.line (.nm x.name) ⟨x,hx,rfl,rfl⟩;omega
theorem Itm.step{P:List ()}{S S':List U.State}{i:Nat}{L:PL}(h:Itm P S i)(hL:bp (i+1) (wl P i)=some L)(hs:Gz S S' i (i+1) L):Itm P S' (i+1):=by
 have old:∀l I,Item S l I->∃j L,j<i+1/\l=((j+1:Nat):Int)/\bp (j+1) (wl P j)=some L/\I=uN (j+1) L:=fun l I hI=>by
  obtain⟨j,L,hj,r⟩:=h.fro l I hI;exact⟨j,L,zaa,r⟩
 have fin:∀(hm:∀l I,Item S l I->Item S' l I) (hn:Item S' ((i+1:Nat):Int) (uN (i+1) L)),∀j,j<i+1->∃L,bp (j+1) (wl P j)=some L/\Item S' ((j+1:Nat):Int) (uN (j+1) L):=fun hm hn j hj=>by
  by_cases e:j=i
  ·subst e;exact⟨L,hL,hn⟩
  ·obtain⟨L',h1,h2⟩:=h.back j zaa;exact⟨L',h1,hm _ _ h2⟩
 have new:∀l I,l=((i+1:Nat):Int)->I=uN (i+1) L->∃j L,j<i+1/\l=((j+1:Nat):Int)/\bp (j+1) (wl P j)=some L/\I=uN (j+1) L:=fun l I e1 e2=>⟨i,L,zaa,e1,hL,e2⟩;have asc':∀u x',u<S.length->x'.line=(S.getD u U.st0).line->∀q q',q<q'->q'<(S.set u x').length->((S.set u x').getD q U.st0).line<((S.set u x').getD q' U.st0).line:=by
  intro u x' hu hx q q' hq Xr;rw[ON]at Xr;have g:∀k,k<S.length->((S.set u x').getD k U.st0).line=(S.getD k U.st0).line:=by
   intro k hk;by_cases e:u=k
   ·subst e;rw[show(S.set u x').getD u U.st0=x' by rw[OJ,Qv];simp[hu]];exact hx
   ·rw[show(S.set u x').getD k U.st0=S.getD k U.st0 by rw[OJ,Qv,OB e,OJ]]
  rw[g q zaa,g q' Xr];exact h.asc q q' hq Xr
 have UG:∀{u},u<S.length->∀{l I},Item [S.getD u U.st0] l I->Item S l I:=fun hu l I hI=>vS (fun x hx=>by rw[OE.1 hx];exact bf hu) hI
 cases L with
 |state k n=>
  obtain⟨ns,rfl,e1,e2,e3,e4,e5,e6,e7,e8,e9⟩:=hs;refine⟨fun l I hI=>?_,fin (fun l I=>vS (fun x hx=>SS _ hx)) ⟨ns,zad,e1,e2⟩,fun q q' hq Xr=>?_,fun x hx=>?_,fun x hx=>?_,fun x hx=>?_⟩
  ·rcases Al hI with hI|hI
   ·exact old l I hI
   ·cases I with
    |nm n'=>
     obtain⟨y,hy,r1,r2⟩:=hI;rw[OE.1 hy]at r1 r2;exact new _ _ (by rw[<- r1,e1]) (by rw[<- r2,e2];rfl)
    |mv m=>
     obtain⟨_,y,hy,r⟩:=hI;rw[OE.1 hy,e3]at r;cases r
    |en A=>
     obtain⟨y,hy,r1,r2,_⟩:=hI;rw[OE.1 hy,e6]at r1;omega
    |lv A=>
     obtain⟨y,hy,r1,r2,_⟩:=hI;rw[OE.1 hy,e7]at r1;omega
  ·rw[OM]at Xr;by_cases e:q'<S.length
   ·rw[bu e,bu zaa];exact h.asc q q' hq e
   ·have e':q'=S.length:=by simp at Xr;omega
    subst e';rw[dj,bu hq,e1];have:=(oN h (bf hq)).2;omega
  ·rcases OT.1 hx with hx|hx
   ·exact h.en0 x hx
   ·rw[OE.1 hx];exact .inr e4
  ·rcases OT.1 hx with hx|hx
   ·exact h.lv0 x hx
   ·rw[OE.1 hx];exact .inr e5
  ·rcases OT.1 hx with hx|hx
   ·exact h.words x hx
   ·rw[OE.1 hx];have hg:Good (.state k n):=n8 hL;exact⟨k,hg.1,hg.2.1,e8,e9⟩
 |move ev af dl t A=>
  obtain⟨u,hu,rfl⟩:=hs;refine⟨fun l I hI=>?_,fin (fun l I=>sV hu rfl rfl (fun m hm=>SS _ hm) (fun _=>⟨rfl,rfl⟩) (fun _=>⟨rfl,rfl⟩)) ⟨rfl,_,SG hu _,List.mem_append_right _ (OE.2 rfl)⟩,asc' u _ hu rfl,fun x hx=>?_,fun x hx=>?_,fun x hx=>?_⟩
  ·rcases sU hI with hI|hI
   ·exact old l I hI
   ·cases I with
    |nm n'=>exact old _ _ (UG hu (I:=.nm n') zaE)
    |mv m=>
     obtain⟨r0,y,hy,r⟩:=hI;rw[OE.1 hy]at r
     rcases OT.1 r with r|r
     ·exact old _ _ (UG hu (I:=.mv m) ⟨r0,_,OE.2 rfl,r⟩)
     ·have:=OE.1 r;subst this;exact new _ _ r0.symm rfl
    |en A'=>exact old _ _ (UG hu (I:=.en A') zaE)
    |lv A'=>exact old _ _ (UG hu (I:=.lv A') zaE)
  ·exact zea
  ·exact zeb
  ·exact zd6
 |enter A=>
  obtain⟨u,hu,h0,rfl⟩:=hs;refine⟨fun l I hI=>?_,fin (fun l I=>sV hu rfl rfl (fun m hm=>hm) (fun hh=>absurd hh h0) (fun _=>⟨rfl,rfl⟩)) ⟨_,SG hu _,zad,zaa,rfl⟩,asc' u _ hu rfl,fun x hx=>?_,fun x hx=>?_,fun x hx=>?_⟩
  ·rcases sU hI with hI|hI
   ·exact old l I hI
   ·cases I with
    |nm n'=>exact old _ _ (UG hu (I:=.nm n') zaE)
    |mv m=>exact old _ _ (UG hu (I:=.mv m) zch)
    |en A'=>
     exact zd5
    |lv A'=>exact old _ _ (UG hu (I:=.lv A') zaE)
  ·rcases O6 hx with hx|hx
   ·exact h.en0 x hx
   ·exact zfe
  ·exact zeb
  ·exact zd6
 |leave A=>
  obtain⟨u,hu,h0,rfl⟩:=hs;refine⟨fun l I hI=>?_,fin (fun l I=>sV hu rfl rfl (fun m hm=>hm) (fun _=>⟨rfl,rfl⟩) (fun hh=>absurd hh h0)) ⟨_,SG hu _,zad,zaa,rfl⟩,asc' u _ hu rfl,fun x hx=>?_,fun x hx=>?_,fun x hx=>?_⟩
  ·rcases sU hI with hI|hI
   ·exact old l I hI
   ·cases I with
    |nm n'=>exact old _ _ (UG hu (I:=.nm n') zaE)
    |mv m=>exact old _ _ (UG hu (I:=.mv m) zch)
    |en A'=>exact old _ _ (UG hu (I:=.en A') zaE)
    |lv A'=>
     exact zd5
  ·exact zea
  ·rcases O6 hx with hx|hx
   ·exact h.lv0 x hx
   ·exact zfe
  ·exact zd6
theorem uh{P:List ()}:∀{k:Nat},U.lg P k=none->∀j,j<k->∃L,bp (j+1) (wl P j)=some L
 |0,_,j,hj=>absurd hj zaa
 |k+1,h,j,hj=>by
  rw[U.lg]at h;split at h
  ·cases h
  rename_i h0;split at h
  ·cases h
  rename_i hk;by_cases e:j=k
  ·subst e;rw[kR]at hk;cases hp:bp (j+1) (wl P j) with
   |some L=>exact⟨L,rfl⟩
   |none=>rw[hp]at hk;exact absurd rfl hk
  ·exact uh h0 j zaa
theorem oI{P:List ()}{n:Nat}(hw:∀j,j<n->∃L,bp (j+1) (wl P j)=some L):∀{i:Nat} {S:List U.State},i<=n->U.aZ (U.aK P n) i=some S->Itm P S i
 |0,S,_,h=>by cases h;exact Itm.nil P
 |i+1,S,hi,h=>by
  rw[U.aZ]at h;split at h
  ·cases h
  rename_i S0 h0;have ih:=oI hw zaa h0;have e:(U.aK P n)[i]?=some (U.eJ (U.pc P i) i,(U.aY (U.pc P i):Int)):=by
   unfold U.aK;rw[OF,RF zaa];rfl
  rw[e]at h;obtain⟨L,hL⟩:=hw i zaa;have hl:U.eJ (U.pc P i) i=aF (i+1) L:=by rw[kR,hL];rfl
  dsimp only at h;rw[hl]at h;exact ih.step hL (LG h)
def Lo(Q:Int->Prop)(a:Int):Prop:=(a=0/\∀l,¬Q l)\/(0<a/\Q a/\∀l,Q l->a<=l)
theorem Lo.uniq{Q:Int->Prop}(h:Lo Q a)(h':Lo Q b):a=b:=by
 rcases h with⟨rfl,h⟩|⟨h0,h1,h2⟩
 ·rcases h' with⟨rfl,_⟩|⟨_,h1,_⟩
  ·rfl
  ·exact absurd h1 (h _)
 ·rcases h' with⟨_,h'⟩|⟨_,h1',h2'⟩
  ·exact absurd h1 (h' _)
  ·exact Int.le_antisymm (h2 _ h1') (h2' _ h1)
theorem Lo.congr{Q Q':Int->Prop}(h:Lo Q a)(e:∀l,Q l↔Q' l):Lo Q' a:=by
 have:Q=Q':=funext fun l=>propext (e l);rw[<- this];exact h
theorem Lo.add{Q:Int->Prop}(h:Lo Q a)(hb:0<b):Lo (fun l=>Q l\/l=b) (U.fQ a b):=by
 unfold U.fQ
 rcases h with⟨rfl,h⟩|⟨h0,h1,h2⟩
 ·rw[OD (.inl rfl)];refine .inr ⟨hb,.inr rfl,fun l hl=>?_⟩
  rcases hl with hl|hl
  ·exact absurd hl (h l)
  ·omega
 ·split
  ·refine .inr ⟨hb,.inr rfl,fun l hl=>?_⟩
   rcases hl with hl|hl
   ·have:=h2 l hl;omega
   ·omega
  ·refine .inr ⟨h0,.inl h1,fun l hl=>?_⟩
   rcases hl with hl|hl
   ·exact h2 l hl
   ·omega
theorem Lo.zh{Q:Int->Prop}{c:Prop}[Decidable c](h:Lo Q a)(hb:c->0<b):Lo (fun l=>Q l\/(c/\l=b)) (if c then U.fQ a b else a):=by
 by_cases hc:c
 ·rw[OD hc];exact(h.add (hb hc)).congr (fun l=>by simp[hc])
 ·rw[OB hc];exact h.congr (fun l=>by simp[hc])
theorem Lo.aj{X:List U.SV}{t:Bool}:∀(ms:List U.Move) {Q:Int->Prop} {a:Int},Lo Q a->(∀m∈ms,0<m.line)->Lo (fun l=>Q l\/∃m∈ms,U.kW X t m=true/\l=m.line) (ms.foldl (U.tX X t) a)
 |[],Q,a,h,_=>h.congr (fun l=>zad)
 |m::ms,Q,a,h,hp=>by
  rw[QB];have h1:Lo (fun l=>Q l\/(U.kW X t m=true/\l=m.line)) (U.tX X t a m):=h.zh (fun _=>hp m zad);refine(Lo.aj ms h1 (fun m hm=>hp m (by simp[hm]))).congr (fun l=>?_);simp[or_assoc]
def StB(X:List U.SV)(t:Bool)(k:Nat)(x:U.State)(l:Int):Prop:=(U.place X x.name<k/\l=x.line)\/(∃m∈x.aj,U.kW X t m=true/\l=m.line)\/((t&&U.cD x.enter)=true/\l=x.has0)\/((t&&U.cD x.leave)=true/\l=x.has1)
theorem Lo.state{X:List U.SV}{t:Bool}{x:U.State}{Q:Int->Prop}(h:Lo Q a)(p1:0<x.line)(p2:∀m∈x.aj,0<m.line)(p3:(t&&U.cD x.enter)=true->0<x.has0)(p4:(t&&U.cD x.leave)=true->0<x.has1):Lo (fun l=>Q l\/StB X t k x l) (U.qt X t k a x):=by
 have h1:Lo (fun l=>Q l\/(U.place X x.name<k/\l=x.line)) (if U.place X x.name<k then U.fQ a x.line else a):=h.zh (fun _=>p1);have h2:=Lo.aj (X:=X) (t:=t) x.aj h1 p2;have h3:=h2.zh (c:=(t&&U.cD x.enter)=true) (b:=x.has0) p3;have h4:=h3.zh (c:=(t&&U.cD x.leave)=true) (b:=x.has1) p4;refine Lo.congr (a:=U.qt X t k a x) h4 (fun l=>?_);unfold StB;simp only[or_assoc]
theorem th{X:List U.SV}{t:Bool}(hp:∀x∈X,0<x.s.line/\(∀m∈x.s.aj,0<m.line)/\((t&&U.cD x.s.enter)=true->0<x.s.has0)/\((t&&U.cD x.s.leave)=true->0<x.s.has1)):∀k,k<=X.length->Lo (fun l=>∃q,∃h:q<X.length,q<k/\StB X t q X[q].s l) (U.oT X t k)
 |0,_=>.inl ⟨rfl,fun l ⟨_,_,h,_⟩=>absurd h zaa⟩
 |k+1,hk=>by
  have ih:=th hp k zaa;have Vf:k<X.length:=hk;rw[U.oT,Ou Vf];obtain⟨p1,p2,p3,p4⟩:=hp X[k] (Pl Vf);refine(ih.state p1 p2 p3 p4).congr (fun l=>?_);constructor
  ·rintro(⟨q,h,h1,h2⟩|h)
   ·exact⟨q,h,zaa,h2⟩
   ·exact⟨k,Vf,zaa,h⟩
  ·rintro⟨q,h,h1,h2⟩;by_cases e:q=k
   ·subst e;exact .inr h2
   ·exact .inl ⟨q,h,zaa,h2⟩
def tk(S:List U.State)(P:List ())(k:Nat):Int:=match br S P k with
 |some i=>(i:Int)+1
 |none=>0
theorem tj{S:List U.State}{P:List ()}:∀{k i:Nat},br S P k=some i->i<k
 |0,i,h=>by cases h
 |k+1,i,h=>by
  rw[br]at h;split at h
  ·rename_i h0;cases h
   have:=tj h0;omega
  ·split at h
   ·cases h;omega
   ·cases h
theorem AE{S:List U.State}{P:List ()}:∀k,Lo (fun l=>∃j,j<k/\l=((j+1:Nat):Int)/\mi S P j=true) (tk S P k)
 |0=>.inl ⟨rfl,fun l ⟨_,h,_⟩=>absurd h zaa⟩
 |k+1=>by
  have ih:=AE (S:=S) (P:=P) k;have h1:=ih.zh (c:=mi S P k=true) (b:=((k+1:Nat):Int)) (fun _=>zaa);have e:tk S P (k+1)=if mi S P k=true then U.fQ (tk S P k) ((k+1:Nat):Int) else tk S P k:=by
   unfold tk;rw[br];cases hn:br S P k with
   |none=>
    dsimp only;by_cases hb:mi S P k=true
    ·rw[OD hb,OD hb];unfold U.fQ;rw[OD (.inl rfl)];simp
    ·rw[OB hb,OB hb]
   |some i=>
    dsimp only;have:=tj hn;by_cases hb:mi S P k=true
    ·rw[OD hb];unfold U.fQ;rw[OB zaa]
    ·rw[OB hb]
  rw[e];refine h1.congr (fun l=>?_);constructor
  ·rintro(⟨j,h1,h2⟩|⟨h1,h2⟩)
   ·exact⟨j,zaa,h2⟩
   ·exact⟨k,zaa,h2,h1⟩
  ·rintro⟨j,h1,h2,h3⟩;by_cases e:j=k
   ·subst e;exact .inr ⟨h3,h2⟩
   ·exact .inl ⟨j,zaa,h2,h3⟩
theorem Ke{a b:()}(h:a.toList=b.toList):a=b:=by
 rw[Pr,Pr]at h;cases a
 cases b
 simpa using h
theorem MY{a b:()}(h:a≠b):(Lit.string a.data.toList)≠Lit.string b.data.toList:=by
 intro e;apply h
 cases a
 cases b
 simpa using e
theorem mM(S:List U.State):∀k,Go.Maps.IsMap (aR S k)
 |0=>Go.Maps.isMap_empty
 |k+1=>by
  rw[aR];split
  ·exact mM S k
  ·exact(mM S k).put _ _
theorem oC(S:List U.State)(n:()):∀k,(∃q,q<k/\(S.getD q U.st0).name=n/\(∀q',q'<q->(S.getD q' U.st0).name≠n)/\Go.Maps.has (aR S k) (.string n.data.toList)=true/\∀z,(aR S k).atKey (.string n.data.toList) z=.lit (.int .i64 (S.getD q U.st0).line))\/((∀q,q<k->(S.getD q U.st0).name≠n)/\Go.Maps.has (aR S k) (.string n.data.toList)=false)
 |0=>.inr ⟨fun q h=>absurd h zaa,rfl⟩
 |k+1=>by
  rw[aR];by_cases e:(S.getD k U.st0).name=n
  ·rw[e]
   rcases oC S n k with⟨q,h1,h2,h3,h4,h5⟩|⟨h1,h2⟩
   ·rw[OD h4];exact .inl ⟨q,zaa,h2,h3,h4,h5⟩
   ·rw[OB (by rw[h2];simp)];exact .inl ⟨k,zaa,e,h1,Go.Maps.has_put_same (mM S k) (show WideAt.IsKeyLit (.string _) from trivial) _,fun z=>SC (mM S k) (show WideAt.IsKeyLit (.string _) from trivial) _ _⟩
  ·have hk:(Lit.string n.data.toList)≠Lit.string (S.getD k U.st0).name.data.toList:=MY (fun h=>e h.symm)
   rcases oC S n k with⟨q,h1,h2,h3,h4,h5⟩|⟨h1,h2⟩
   ·refine .inl ⟨q,zaa,h2,h3,?_,fun z=>?_⟩
    ·split
     ·exact h4
     ·rw[Ru hk];exact h4
    ·split
     ·exact h5 z
     ·rw[Sv hk];exact h5 z
   ·refine .inr ⟨fun q hq=>?_,?_⟩
    ·by_cases e':q=k
     ·subst e';exact e
     ·exact h1 q zaa
    ·split
     ·exact h2
     ·rw[Ru hk];exact h2
theorem sT(n:())(x:U.State):U.Ik n (U.emb x)=true↔x.name=n:=by
 unfold U.Ik U.emb;simp only[beq_iff_eq];exact⟨Ke,fun h=>by rw[h]⟩
theorem o8(S:List U.State)(n:()):(∃q,q<S.length/\(S.getD q U.st0).name=n/\(∀q',q'<q->(S.getD q' U.st0).name≠n)/\U.place (S.map U.emb) n=(q:Int))\/((∀q,q<S.length->(S.getD q U.st0).name≠n)/\U.place (S.map U.emb) n=-1):=by
 unfold U.place;cases h:(S.map U.emb).findIdx? (U.Ik n) with
 |some i=>
  left;obtain⟨hi,h1,h2⟩:=Sy.1 h;rw[OK]at hi;refine⟨i,hi,?_,fun q' Xr=>?_,rfl⟩
  ·rw[QO]at h1;rw[getD_eq hi];exact(sT _ _).1 h1
  ·have:=h2 q' Xr;rw[QO]at this;rw[getD_eq zaa];exact fun e=>this ((sT _ _).2 e)
 |none=>
  right;refine⟨fun q hq e=>?_,rfl⟩;have:=List.findIdx?_eq_none_iff.1 h (U.emb S[q]) (Qt (Pl hq));rw[getD_eq hq]at e;rw[(sT _ _).2 e]at this;cases this
theorem Dk(S:List U.State):U.wR (S.map U.emb)=bP S:=by
 unfold U.wR bP U.Eu;rw[List.any_map];rfl
theorem Ff(S:List U.State)(n:()):Go.Maps.has (aR S S.length) (.string n.data.toList)=!decide (U.place (S.map U.emb) n<0):=by
 rcases oC S n S.length with⟨q,h1,h2,h3,h4,_⟩|⟨h1,h2⟩
 ·rcases o8 S n with⟨r,g1,g2,g3,g4⟩|⟨g1,_⟩
  ·rw[h4,g4,Pc zaa];rfl
  ·exact absurd h2 (g1 q h1)
 ·rcases o8 S n with⟨r,g1,g2,g3,g4⟩|⟨g1,g2⟩
  ·exact absurd g2 (h1 r g1)
  ·rw[h2,g2];rfl
theorem vX(S:List U.State)(tm:Bool)(m:U.Move):kT (aR S S.length) tm m=U.kW (S.map U.emb) tm m:=by
 unfold kT U.kW;rw[Ff,Bool.not_not]
 congr 3
 cases m.to.toList<;>rfl
theorem qN{q:Nat}(h:Itm P S i)(hq:q<S.length):U.place (S.map U.emb) (S.getD q U.st0).name<(q:Int)↔¬jA (aR S S.length) (S.getD q U.st0).name=some (S.getD q U.st0).line:=by
 obtain⟨n,hn⟩:∃n,n=(S.getD q U.st0).name:=⟨_,rfl⟩;rw[<- hn]
 rcases oC S n S.length with⟨r,h1,h2,h3,_,h5⟩|⟨h1,_⟩
 ·rcases o8 S n with⟨r',g1,g2,g3,g4⟩|⟨g1,_⟩
  ·have hr:r=r':=by
    rcases RB r r' with c|c|c
    ·exact absurd h2 (g3 r c)
    ·exact c
    ·exact absurd g2 (h3 r' c)
   subst hr;have hle:r<=q:=by
    rcases QD q r with c|c
    ·exact absurd hn.symm (h3 q c)
    ·exact c
   have hf:jA (aR S S.length) n=some (S.getD r U.st0).line:=by unfold jA;rw[h5]
   rw[g4,hf];by_cases e:r=q
   ·subst e;simp
   ·have:=h.asc r q zaa hq;constructor
    ·intro _ e2;have:=Pd e2;omega
    ·intro _;omega
  ·exact absurd h2 (g1 r h1)
 ·exact absurd hn.symm (h1 q hq)
theorem CN(h:Itm P S n):U.named (S.map U.emb)=tk S P n:=by
 have mineN:U.cD []=false:=rfl;have Wz:∀x∈S.map U.emb,0<x.s.line/\(∀m∈x.s.aj,0<m.line)/\((bP S&&U.cD x.s.enter)=true->0<x.s.has0)/\((bP S&&U.cD x.s.leave)=true->0<x.s.has1):=by
  exact zc7
 have h1:=th (X:=S.map U.emb) (t:=bP S) Wz (S.map U.emb).length (Ow _);unfold U.named;rw[Dk];refine h1.uniq ((AE (S:=S) (P:=P) n).congr (fun l=>?_));have bad:∀j,mi S P j=true↔∃L,bp (j+1) (wl P j)=some L/\Hc (aR S S.length) (bP S) ((j+1:Nat):Int) (uN (j+1) L)=true:=by
  intro j;unfold mi;cases hp:bp (j+1) (wl P j) with
  |none=>simp
  |some L=>
   dsimp only;rw[BS];constructor
   ·intro h;exact⟨L,rfl,h⟩
   ·rintro⟨L',e,h⟩;cases e;exact h
 constructor
 ·rintro⟨j,hj,rfl,hb⟩;obtain⟨L,hL,hbI⟩:=(bad j).1 hb;obtain⟨L',hL',hI⟩:=h.back j hj;rw[hL]at hL';cases hL'
  have key:∀x∈S,(∀q (hq:q<S.length),S[q]=x->StB (S.map U.emb) (bP S) q x ((j+1:Nat):Int))->∃q,∃h:q<(S.map U.emb).length,q<(S.map U.emb).length/\StB (S.map U.emb) (bP S) q (S.map U.emb)[q].s ((j+1:Nat):Int):=by
   intro x hx hst;obtain⟨q,hq,e⟩:=QX hx;refine⟨q,by rw[OK];exact hq,by rw[OK];exact hq,?_⟩;rw[QO];show StB _ _ q S[q] _;rw[e];exact hst q hq e
  generalize uN (j+1) L=I at hI hbI;cases I with
  |nm nn=>
   obtain⟨x,hx,e1,e2⟩:=hI;refine key x hx (fun q hq e=>.inl ⟨?_,e1.symm⟩);have:=(qN h hq).2;rw[getD_eq hq,e]at this;apply this
   rw[e2,e1];simpa[Hc] using hbI
  |mv m=>
   obtain⟨e0,x,hx,hm⟩:=hI;refine key x hx (fun q hq e=>.inr (.inl ⟨m,hm,?_,e0.symm⟩));rw[<- vX];exact hbI
  |en A=>
   obtain⟨x,hx,e1,e2,e3⟩:=hI;refine key x hx (fun q hq e=>.inr (.inr (.inl ⟨?_,e1.symm⟩)));rw[e3];exact hbI
  |lv A=>
   obtain⟨x,hx,e1,e2,e3⟩:=hI;refine key x hx (fun q hq e=>.inr (.inr (.inr ⟨?_,e1.symm⟩)));rw[e3];exact hbI
 ·rintro⟨q,hq,_,hst⟩;have Xr:q<S.length:=by rw[OK]at hq;exact hq
  rw[QO]at hst;have hst':StB (S.map U.emb) (bP S) q S[q] l:=hst;have fin:∀I,Item S l I->Hc (aR S S.length) (bP S) l I=true->∃j,j<n/\l=((j+1:Nat):Int)/\mi S P j=true:=by
   intro I hI hb;obtain⟨j,L,hj,rfl,hL,rfl⟩:=h.fro l I hI;exact⟨j,hj,rfl,(bad j).2 ⟨L,hL,hb⟩⟩
  have Ud:S[q]∈S:=Pl Xr;obtain⟨p1,p2,p3,p4⟩:=Wz (U.emb S[q]) (Qt Ud)
  rcases hst' with⟨c,e⟩|⟨m,hm,c,e⟩|⟨c,e⟩|⟨c,e⟩
  ·refine fin (.nm S[q].name) ⟨_,Ud,e.symm,rfl⟩ ?_;have:=(qN h Xr).1;rw[getD_eq Xr]at this;have:=this c;rw[e];simpa[Hc] using this
  ·refine fin (.mv m) ⟨e.symm,_,Ud,hm⟩ ?_;show kT _ _ m=true;rw[vX];exact c
  ·exact fin (.en S[q].enter) ⟨_,Ud,e.symm,by rw[e];exact p3 c,rfl⟩ c
  ·exact fin (.lv S[q].leave) ⟨_,Ud,e.symm,by rw[e];exact p4 c,rfl⟩ c
theorem qh{P:List ()}{S:List U.State}{n:Nat}(h:Itm P S n):∀{k:Nat} {l:Int},k<=S.length->U.dW S k=some l->0<l
 |0,l,_,e=>by cases e
 |k+1,l,hk,e=>by
  rw[U.dW]at e;split at e
  ·rename_i h0;cases e
   exact qh h zaa h0
  ·split at e
   ·cases e
    exact(oN h (bf hk)).1
   ·cases e
theorem qw(h:U.syn P=none):∀j,j<P.length-1->∃L,bp (j+1) (wl P j)=some L:=by
 unfold U.syn at h;split at h
 ·cases h
 ·rename_i h0;exact uh h0
theorem wu(s:()):J.read s=U.read s:=by
 unfold J.read U.read;by_cases hs:1500<s.size
 ·rw[OD hs,OD hs]
 rw[OB hs,OB hs];cases YL:U.syn (U.cut s 10) with
 |some i=>rfl
 |none=>
  dsimp only;cases ht:U.aZ (U.aK (U.cut s 10) ((U.cut s 10).length-1)) ((U.cut s 10).length-1) with
  |none=>rfl
  |some S=>
   dsimp only;have hI:=oI (qw YL) (Ow _) ht;cases hp:U.dW S S.length with
   |some l=>
    have:=qh hI (Ow _) hp;dsimp only;rw[OD (by simpa using this)];rfl
   |none=>
    dsimp only;rw[OB zad];have hn:=CN hI;unfold tk at hn;cases hf:br S (U.cut s 10) ((U.cut s 10).length-1) with
    |some i=>
     rw[hf]at hn;dsimp only at hn⊢;rw[hn,OD zaa]
    |none=>
     rw[hf]at hn;dsimp only at hn⊢;rw[hn,OB zaa]
end J
namespace U
def b1:():=⟨#[32]⟩
def bDo:():=⟨#[32,100,111,32]⟩
def bAs:():=⟨#[32,97,115,32]⟩
def Ot(t:())(a:Act):():=
 if a.how.toList == fi then t++bDo++a.how++b1++a.id
 else if a.how.toList == fC then t++bDo++a.how++b1++a.event
 else if a.id.toList == [] then t++bDo++a.how++b1++a.event++b1++dec a.delay.toNat
 else t++bDo++a.how++b1++a.event++b1++dec a.delay.toNat++bAs++a.id
def Dy(A:List Act):Nat->()
 |0=>ByteArray.empty
 |i+1=>match A[i]? with
  |some a=>Ot (Dy A i) a
  |none=>Dy A i
def written(A:List Act):():=Dy A A.length
def nu:():=⟨#[115,101,110,100]⟩
def ia:():=⟨#[99,97,110,99,101,108]⟩
def Mw:():=⟨#[32,101,110,116,101,114]⟩
def Mx:():=⟨#[32,108,101,97,118,101]⟩
def bOn:():=⟨#[32,111,110,32]⟩
def bTo:():=⟨#[32,116,111,32]⟩
def L3:():=⟨#[32,100,101,101,112]⟩
def bNl:():=⟨#[10]⟩
def pad:Nat->()
 |0=>ByteArray.empty
 |n+1=>pad n++b1
def vQ(m:Move):Act:=⟨nu,m.event,m.event,m.delay⟩
def ts(m:Move):Act:=⟨ia,ByteArray.empty,m.event,0⟩
def eD(x:State):Nat->List Act
 |0=>x.enter
 |j+1=>match x.aj[j]? with
  |some m=>if m.after then eD x j++[vQ m] else eD x j
  |none=>eD x j
def cM(x:State):Nat->List Act
 |0=>x.leave
 |j+1=>match x.aj[j]? with
  |some m=>if m.after then cM x j++[ts m] else cM x j
  |none=>cM x j
def L6(t:())(x:State):():=t++pad x.depth.toNat++x.word++b1++x.name
def NL(t:())(x:State):():=if x.deep then L6 t x++L3 else L6 t x
def ends(t p h a:()):():=if a.toList.isEmpty then t else t++p++h++a++bNl
def mv0(p t:())(m:Move):():=t++p++bOn++m.event
def mv1(p t:())(m:Move):():=if m.to.toList.isEmpty then mv0 p t m else mv0 p t m++bTo++m.to
def M4(p t:())(m:Move):():=mv1 p t m++written m.aw++bNl
def M6(p t:())(ms:List Move):Nat->()
 |0=>t
 |j+1=>match ms[j]? with
  |some m=>M4 p (M6 p t ms j) m
  |none=>M6 p t ms j
def st1(t:())(x:State):():=NL t x++bNl
def st2(t:())(x:State):():=ends (st1 t x) (pad x.depth.toNat) Mw (written (eD x x.aj.length))
def st3(t:())(x:State):():=ends (st2 t x) (pad x.depth.toNat) Mx (written (cM x x.aj.length))
def Js(t:())(x:State):():=M6 (pad x.depth.toNat) (st3 t x) x.aj x.aj.length
theorem FA{t:()}(ht:t.size<=1500)(hi:i<=1501):pO (eJ t i):=by
 have h2:(rest t).size<=1500:=by unfold rest;simp;omega
 have h3:∀x∈cut (rest t) 32,x.size<=4096:=fun x hx=>Ox (jy _ 32 _ (Ow _) x hx) zaa;have h4:(cut (rest t) 32).length<=4096:=Ox (oz (rest t) 32 (rest t).size) zaa;unfold eJ;exact Ly h3 h4 zaa
theorem CH(hs:∀x∈P,x.size<=1500)(hk:k<=1501):∀p∈aK P k,pO p.1/\0<=p.2:=by
 intro p hp;unfold aK at hp;obtain⟨i,hi,e⟩:=O7.1 hp;rw[PD]at hi;have h1:(pc P i).size<=1500:=og hs i;have h2:=FA (i:=i) h1 zaa;have e1:p.1=eJ (pc P i) i:=by rw[<- e]
 have e2:p.2=(aY (pc P i):Nat):=by rw[<- e]
 rw[e1,e2];exact⟨h2,zaa⟩
theorem Ln(h:read s=.fu S):S.length<=1501/\∀x∈S,mG x/\x.aj.length<=4096:=by
 unfold read at h;split at h
 ·cases h
 ·rename_i hs;split at h
  ·cases h
  ·split at h
   ·cases h
   ·rename_i S' hT;have hl:=oz s 10 s.size;have Xy:(cut s 10).length<=1501:=by unfold cut;omega
    have hz:∀x∈cut s 10,x.size<=1500:=fun x hx=>Ox (jy s 10 s.size (Ow _) x hx) zaa;have Uw:=wS (CH (k:=(cut s 10).length-1) hz zaa) hT;have hlen:=uo hT;split at h
    ·cases h
    ·split at h
     ·cases h
     ·cases h
      exact⟨zaa,fun x hx=>⟨(Uw x hx).1,by have:=(Uw x hx).2;omega⟩⟩
end U
namespace J
def Js(k:Int)(n:()):():=if k=4 then bB k++U.b1++n++U.L3 else bB k++U.b1++n
def NC:():=⟨#[111,110,32]⟩
def M5(m:U.Move):():=if m.to.toList.isEmpty then NC++m.event else NC++m.event++U.bTo++m.to
end J
theorem w9:(⟨#[112,97,114,97,108,108,101,108,32]⟩:())=J.fX++U.b1:=zac
theorem w6:(⟨#[102,105,110,97,108,32]⟩:())=J.lM++U.b1:=zac
theorem w8:(⟨#[104,105,115,116,111,114,121,32]⟩:())=J.dt++U.b1:=zac
theorem w5:(⟨#[115,116,97,116,101,32]⟩:())=J.lN++U.b1:=zac
end
section
open Go.RowKit Go.Proofs
namespace J
def Kb:():=⟨#[101,110,116,101,114]⟩
def Kc:():=⟨#[108,101,97,118,101]⟩
def IB(d:Nat)(h:())(A:List U.Act):():=U.pad d++h++U.written A++U.bNl
def NF(d:Nat)(h:())(A:List U.Act):():=if A.isEmpty then ByteArray.empty else IB d h A
def ep(d:Nat)(M:List U.Move):Nat->()
 |0=>ByteArray.empty
 |j+1=>match M[j]? with
  |some m=>ep d M j++IB d (M5 m) m.aw
  |none=>ep d M j
def NM(x:U.State):():=IB x.depth.toNat (Js (al x) x.name) []++NF (x.depth.toNat+1) Kb x.enter++NF (x.depth.toNat+1) Kc x.leave
def Nn(x:U.State):():=NM x++ep (x.depth.toNat+1) x.aj x.aj.length
structure nq(A:List U.Act):Prop where
 shape:∀a∈A,Shape a
 small:∀a∈A,U.jT a
 len:A.length<=100000
end J
structure gz(w:World)(x:J.DS)(M:List J.PV):Prop where
 dep0:0<=x.s.depth
 dep:x.s.depth<=5
 name:x.s.name.size<=4096
 mv:M.map (·.m)=x.s.aj
 mlen:M.length<=4096
 aj:w.ownsRow 0 260 5 x.vm.v M.length (M.flatMap J.bl)
 aw:∀y∈M,w.ownsRow 0 271 1 y.v.v y.m.aw.length (y.m.aw.map bm)
 actsG:∀y∈M,U.nD y.m/\J.nq y.m.aw
 enter:w.ownsRow 0 271 1 x.ve.v x.s.enter.length (x.s.enter.map bm)
 enterG:J.nq x.s.enter
 leave:w.ownsRow 0 271 1 x.vl.v x.s.leave.length (x.s.leave.map bm)
 leaveG:J.nq x.s.leave
theorem k8{α:Type}{f:α->List Value}(hf:∀x,(f x).length=n){w:World}{B g cap u j:Nat}{X:List α}{x':α}(hs:w.ownsRow B e n (.slice g X.length cap) X.length (X.flatMap f))(hu:u<X.length)(hj:j<n)(hx:f x'=(f X[u]).set j v):
  (w.setCell (g,u*n+j) v).ownsRow B e n (.slice g X.length cap) X.length ((X.set u x').flatMap f)/\Touch e w (w.setCell (g,u*n+j) v):=by
 rcases hs.2 with⟨h,_⟩|⟨g',cap',cur,h,hb,hg,h1,h2,h3,h4⟩
 ·cases h
 ·simp only[Value.slice.injEq,Option.some.injEq,Addr.mk.injEq,and_true,true_and]at h;obtain⟨rfl,rfl⟩:=h;have oo:=aa w g (u*n+j) v;refine⟨⟨?_,.inr ⟨g,cap,cur.setIfInBounds (u*n+j) v,rfl,hb,OP w g _ _ _ v hg,h1,h2,zaG,?_⟩⟩,jm oo hg⟩
  ·have:=U.kc (f:=f) (n:=n) hf (X.set u x');rw[ON]at this;exact this
  ·rw[Rt,List.take_set,h4];exact sH (f:=f) (n:=n) hf X u j v x' hj hu hx
theorem lh{g:Nat}{w wr wc w5:World}{row:Option Nat}(h:ak g w wr)(hb:Below wr wr wc)(hg:wc.grownBy w5 row)(hr:∀k,row=some k->w.heap.size<=k):ak g w w5:=by
 have s1:=h.size;have s2:=hb.size;exact⟨hg.os.trans (hb.os.trans h.os),hg.tape.trans (hb.tape.trans h.tape),hg.output.trans (hb.output.trans h.output),Ox s1 (Ox s2 hg.size),fun k hk hp=>(hg.block k zaa (fun e=>by have:=hr k e.symm;omega)).trans ((hb.block k zaa).trans (h.block k hk hp))⟩
theorem jn{g o:Nat}{w w5:World}(h:ak g w w5):ak g w (w5.setCell (g,o) v):=h.trans (aa _ _ _ _).ai
theorem qQ{g mb o:Nat}{w w5:World}(h:ak g w w5)(hm:w.heap.size<=mb):ak g w (w5.setCell (mb,o) v):=by
 have oo:=aa w5 mb o v;exact⟨oo.os.trans h.os,oo.tape.trans h.tape,oo.output.trans h.output,by rw[oo.size];exact h.size,fun k hk hp=>(oo.block k zaa).trans (h.block k hk hp)⟩
structure cU(w wr:World)(B g cap:Nat)(X:List J.DS)(u:Nat)(x:J.DS)(ve vl vm:U.Sl)(E L:List U.Act)(Q:List J.PV):Prop where
 ai:ak g w wr
 states:wr.ownsRow B 188 8 (.slice g X.length cap) X.length ((X.set u { x with ve:=ve,vl:=vl,vm:=vm }).flatMap J.aP)
 enter:wr.ownsRow w 271 1 ve.v E.length (E.map bm)
 leave:wr.ownsRow w 271 1 vl.v L.length (L.map bm)
 aj:wr.ownsRow w 260 5 vm.v Q.length (Q.flatMap J.bl)
 ap:apart ve vl
section
variable {w wr:World}{B g cap:Nat}{X:List J.DS}{u:Nat}{x:J.DS}{ve vl vm:U.Sl}{E L:List U.Act}{Q:List J.PV}
theorem cU.aq{wr':World}(G:cU w wr B g cap X u x ve vl vm E L Q)(hb:Below wr wr wr'):cU w wr' B g cap X u x ve vl vm E L Q:=
 ⟨G.ai.trans (aQ hb),bj G.states hb,bj G.enter hb,bj G.leave hb,bj G.aj hb,G.ap⟩
theorem cU.cell(G:cU w wr B g cap X u x ve vl vm E L Q)(hu:u<X.length)(j:Nat)(hj:j<8):wr.cell? (g,u*8+j)=(J.aP { x with ve:=ve,vl:=vl,vm:=vm })[j]?:=by
 have TX:u*8+j<X.length*8:=zaa;have hu':u<(X.set u { x with ve:=ve,vl:=vl,vm:=vm }).length:=za2;rw[G.states.cellAt (u*8+j) TX,U.ka (f:=J.aP) (n:=8) (fun _=>rfl) _ u j hj hu',Q1]
theorem cU.frozen(G:cU w wr B g cap X u x ve vl vm E L Q)(j:Nat):wr.frozen? (g,j)=false:=P7 (aC G.states (OL _)) _
theorem cU.glt(G:cU w wr B g cap X u x ve vl vm E L Q):B<=g/\g<wr.heap.size:=O8 G.states g rfl
theorem cU.MJ(G:cU w wr B g cap X u x ve vl vm E L Q):some g≠ve.v.ownBlock/\some g≠vl.v.ownBlock/\some g≠vm.v.ownBlock:=by
 obtain⟨c',TZ⟩:=bS G.states g rfl;refine⟨fun e=>?_,fun e=>?_,fun e=>?_⟩
 ·obtain⟨c,hc⟩:=bS G.enter _ e.symm;exact zfO
 ·obtain⟨c,hc⟩:=bS G.leave _ e.symm;exact zfO
 ·obtain⟨c,hc⟩:=bS G.aj _ e.symm;exact zfO
theorem cU.GI{wc w5:World}{ve':U.Sl}{a:U.Act}(G:cU w wr B g cap X u x ve vl vm E L Q)(hu:u<X.length)(hb:Below wr wr wc)(hg:wc.grownBy w5 ve.v.ownBlock)
  (TN:w5.ownsRow w 271 1 ve'.v (E.length+1) (E.map bm++[bm a])) (Uy:ve'.v.ownBlock=ve.v.ownBlock\/ve'.v.ownBlock=some wc.heap.size):
  cU w (w5.setCell (g,u*8+5) ve'.v) B g cap X u x ve' vl vm (E++[a]) L Q:=by
 have Gc:=G.aq hb;have TX:=fun k h=>(O8 Gc.enter k h).1;have T1:=dP Gc.enter hg;have hu':u<(X.set u { x with ve:=ve,vl:=vl,vm:=vm }).length:=za2;have hs5:=ag Gc.states T1 zac;have hr:=k8 (f:=J.aP) (n:=8) (fun _=>rfl) (X:=X.set u { x with ve:=ve,vl:=vl,vm:=vm }) (u:=u) (j:=5) (v:=ve'.v) (x':={ x with ve:=ve',vl:=vl,vm:=vm }) (by rw[ON];exact hs5) hu' zac zbb;obtain⟨TO,T2⟩:=hr;rw[RR,ON]at TO;refine⟨jn (lh G.ai hb hg TX),TO,?_,?_,ag (ag Gc.aj T1 zac) T2 zac,?_⟩
 ·rw[OM,Pk];exact ag TN T2 zac
 ·refine ag (Gc.leave.kept hg ?_) T2 zac
  rcases G.ap with h1|h1
  ·rw[h1];cases vl.v.ownBlock<;>simp
  ·exact .inr (fun e=>h1 e.symm)
 ·have Xv:=G.ap;unfold apart at Xv⊢
  rcases Uy with e|e
  ·rw[e];exact Xv
  ·rw[e];refine .inr (fun e2=>?_);have:=(O8 Gc.leave _ e2.symm).2;omega
theorem cU.GJ{wc w5:World}{vl':U.Sl}{a:U.Act}(G:cU w wr B g cap X u x ve vl vm E L Q)(hu:u<X.length)(hb:Below wr wr wc)(hg:wc.grownBy w5 vl.v.ownBlock)
  (TN:w5.ownsRow w 271 1 vl'.v (L.length+1) (L.map bm++[bm a])) (Uy:vl'.v.ownBlock=vl.v.ownBlock\/vl'.v.ownBlock=some wc.heap.size):
  cU w (w5.setCell (g,u*8+6) vl'.v) B g cap X u x ve vl' vm E (L++[a]) Q:=by
 have Gc:=G.aq hb;have TX:=fun k h=>(O8 Gc.leave k h).1;have T1:=dP Gc.leave hg;have hu':u<(X.set u { x with ve:=ve,vl:=vl,vm:=vm }).length:=za2;have hs5:=ag Gc.states T1 zac;have hr:=k8 (f:=J.aP) (n:=8) (fun _=>rfl) (X:=X.set u { x with ve:=ve,vl:=vl,vm:=vm }) (u:=u) (j:=6) (v:=vl'.v) (x':={ x with ve:=ve,vl:=vl',vm:=vm }) (by rw[ON];exact hs5) hu' zac zbb;obtain⟨TO,T2⟩:=hr;rw[RR,ON]at TO;refine⟨jn (lh G.ai hb hg TX),TO,?_,?_,ag (ag Gc.aj T1 zac) T2 zac,?_⟩
 ·exact ag (Gc.enter.kept hg G.ap) T2 zac
 ·rw[OM,Pk];exact ag TN T2 zac
 ·have Xv:=G.ap;unfold apart at Xv⊢
  rcases Uy with e|e
  ·rw[e];exact Xv
  ·rw[e];refine .inr (fun e2=>?_);have:=(O8 Gc.enter _ e2).2;omega
theorem cU.LC{mb cm j:Nat}(G:cU w wr B g cap X u x ve vl ⟨some ⟨mb,0,none⟩,Q.length,cm⟩ E L Q)(hj:j<Q.length):
  cU w ((wr.setCell (mb,j*5+1) (.bool false)).setCell (mb,j*5+2) (.int .u64 0)) B g cap X u x ve vl ⟨some ⟨mb,0,none⟩,Q.length,cm⟩ E L (Q.set j { Q[j] with m:={ Q[j].m with after:=false,delay:=0 } }):=by
 have hmb:=(O8 G.aj mb rfl).1;obtain⟨r1,T1⟩:=k8 (f:=J.bl) (n:=5) (fun _=>rfl) (X:=Q) (u:=j) (j:=1) (v:=.bool false) (x':={ Q[j] with m:={ Q[j].m with after:=false } }) (show wr.ownsRow w 260 5 (.slice mb Q.length cm) Q.length (Q.flatMap J.bl) from G.aj) hj zac rfl;have Ze:j<(Q.set j { Q[j] with m:={ Q[j].m with after:=false } }).length:=by rw[ON];exact hj
 obtain⟨r2,T2⟩:=k8 (f:=J.bl) (n:=5) (fun _=>rfl) (X:=Q.set j { Q[j] with m:={ Q[j].m with after:=false } }) (u:=j) (j:=2) (v:=.int .u64 0) (x':={ Q[j] with m:={ Q[j].m with after:=false,delay:=0 } }) (by rw[ON];exact r1) Ze zac zbb;rw[RR,ON]at r2;refine⟨qQ (qQ G.ai hmb) hmb,ag (ag G.states T1 zac) T2 zac,ag (ag G.enter T1 zac) T2 zac,ag (ag G.leave T1 zac) T2 zac,?_,G.ap⟩;rw[ON];exact r2
theorem cU.begin{w3:World}(hs:w.ownsRow B 188 8 (.slice g X.length cap) X.length (X.flatMap J.aP))(hu:u<X.length)(hx:X[u]=x)(hb:Below w w w3)
  (he:w3.ownsRow w 271 1 ve.v E.length (E.map bm)) (hl:w3.ownsRow w 271 1 vl.v L.length (L.map bm)) (hm:w3.ownsRow w 260 5 vm.v Q.length (Q.flatMap J.bl)) (Xv:apart ve vl):
  cU w (((w3.setCell (g,u*8+5) ve.v).setCell (g,u*8+6) vl.v).setCell (g,u*8+7) vm.v) B g cap X u x ve vl vm E L Q:=by
 have Wv:=bj hs hb;obtain⟨r1,T1⟩:=k8 (f:=J.aP) (n:=8) (fun _=>rfl) (X:=X) (u:=u) (j:=5) (v:=ve.v) (x':={ x with ve:=ve }) Wv hu zac (by rw[hx];rfl);have hu1:u<(X.set u { x with ve:=ve }).length:=za2;obtain⟨r2,T2⟩:=k8 (f:=J.aP) (n:=8) (fun _=>rfl) (X:=X.set u { x with ve:=ve }) (u:=u) (j:=6) (v:=vl.v) (x':={ x with ve:=ve,vl:=vl }) (by rw[ON];exact r1) hu1 zac zbb;rw[RR,ON]at r2;have hu2:u<(X.set u { x with ve:=ve,vl:=vl }).length:=za2;obtain⟨r3,T3⟩:=k8 (f:=J.aP) (n:=8) (fun _=>rfl) (X:=X.set u { x with ve:=ve,vl:=vl }) (u:=u) (j:=7) (v:=vm.v) (x':={ x with ve:=ve,vl:=vl,vm:=vm }) (by rw[ON];exact r2) hu2 zac zbb;rw[RR,ON]at r3;have T:=(T1.trans T2).trans T3;exact⟨jn (jn (jn (aQ hb))),r3,ag he T zac,ag hl T zac,ag hm T zac,Xv⟩
end
namespace J
def dX(m:U.Move):U.Move:=if m.after then{ m with after:=false,delay:=0 } else m
def td(x:U.State):U.State:={ x with enter:=U.eD x x.aj.length,leave:=U.cM x x.aj.length,aj:=x.aj.map dX }
end J
def J.iI(y:J.PV):J.PV:={ y with m:=J.dX y.m }
def J.bh(M:List J.PV)(j:Nat):List J.PV:=(M.take j).map J.iI++M.drop j
theorem J.me(M:List J.PV)(j:Nat)(hj:j<=M.length):(J.bh M j).length=M.length:=by
 unfold J.bh;simp only[List.length_append,List.length_map,List.length_take,List.length_drop];omega
theorem J.nR(M:List J.PV)(j i:Nat)(hj:j<=M.length):(J.bh M j)[i]?=if i<j then(M[i]?).map J.iI else M[i]?:=by
 have hl:((M.take j).map J.iI).length=j:=by rw[OK,PH];omega
 unfold J.bh;by_cases c:i<j
 ·rw[OD c,Pv (by rw[hl];exact c),OF,PC c]
 ·rw[OB c,PE (by rw[hl];omega),hl,List.getElem?_drop]
  congr 1;omega
theorem J.l9(M:List J.PV)(j:Nat)(hj:j<M.length)(h:j<(J.bh M j).length):(J.bh M j)[j]=M[j]:=by
 have:=J.nR M j j zaa;rw[OB zaa,Ou h,Ou hj]at this;exact Pd this
theorem J.oS(M:List J.PV)(j:Nat)(hj:j<M.length):J.bh M (j+1)=(J.bh M j).set j (J.iI M[j]):=by
 have hl:=J.me M j zaa;apply Qo
 intro i;rw[J.nR M (j+1) i zaa,Qv,J.nR M j i zaa];by_cases e:j=i
 ·subst e;rw[OD zaa,OD rfl,OD (by rw[hl];exact hj),Ou hj];rfl
 ·rw[OB e];by_cases c:i<j
  ·rw[OD zaa,OD c]
  ·rw[OB zaa,OB c]
theorem J.yp(M:List J.PV)(j:Nat)(hj:j<M.length)(ha:M[j].m.after=false):J.bh M (j+1)=J.bh M j:=by
 rw[J.oS M j hj];have e:J.iI M[j]=M[j]:=by
  unfold J.iI J.dX;rw[ha];rfl
 rw[e,<- J.l9 M j hj (by rw[J.me M j zaa];exact hj)];exact List.set_getElem_self _
theorem J.AB(M:List J.PV):J.bh M M.length=M.map J.iI:=by
 unfold J.bh;simp
end
section
open Go.RowKit
namespace J
def ly(X:List U.State):Nat->()
 |0=>ByteArray.empty
 |k+1=>match X[k]? with
  |some x=>ly X k++Nn x
  |none=>ly X k
theorem oO(m:U.Move):(dX m).aw=m.aw:=by unfold dX;split<;>rfl
theorem CC{num:Nat}{l r:List ()}{ev t:()}{d:Int}{A:List U.Act}(h:bo num l=some (.move ev true d t A,r)):ev.size≠0:=by
 have h6:U.bQ.size=6:=rfl;cases l with
 |nil=>cases h
 |cons x l=>
  rw[bo]at h
  repeat' split at h
  all_goals first
   |(cases h;done)
   | (obtain ⟨q,h1,h2⟩:=O0.1 h
      first
       |(cases h2;done)
       |(cases h2;rw[Re];omega))
structure qA(x:U.State):Prop where
 dep0:0<=x.depth
 dep:x.depth<=5
 name:x.name.size<=4096
 mlen:x.aj.length<=4096
 aj:∀m∈x.aj,U.nD m/\nq m.aw
 event:∀m∈x.aj,m.after=true->m.event.size≠0
 enter:nq x.enter
 elen:x.enter.length<=4096
 leave:nq x.leave
 llen:x.leave.length<=4096
theorem lr{num:Nat}{l:List ()}{L:PL}(h:bp num l=some L):bo num l=some (L,[]):=by
 unfold bp at h;split at h
 ·rename_i L' h1;cases h
  exact h1
 ·cases h
theorem KK(h:Itm P S n){x:U.State}(hx:x∈S)(hs:U.mG x)(hl:x.aj.length<=4096):qA x:=by
 refine⟨hs.dep0,hs.dep,hs.name,hl,fun m hm=>?_,fun m hm ha=>?_,⟨?_,hs.enter,?_⟩,hs.lenE,⟨?_,hs.leave,?_⟩,hs.lenL⟩
 ·refine⟨hs.aj m hm,?_,(hs.aj m hm).aw,by have:=(hs.aj m hm).len;omega⟩;obtain⟨j,L,_,_,hL,e⟩:=h.fro m.line (.mv m) ⟨rfl,x,hx,hm⟩;cases L with
  |move ev af d t A=>
   cases e
   exact(kS (lr hL)).2.1
  |state k n=>cases e
  |enter A=>cases e
  |leave A=>cases e
 ·obtain⟨j,L,_,_,hL,e⟩:=h.fro m.line (.mv m) ⟨rfl,x,hx,hm⟩;cases L with
  |move ev af d t A=>
   cases e
   simp only at ha;subst ha;exact CC (lr hL)
  |state k n=>cases e
  |enter A=>cases e
  |leave A=>cases e
 ·rcases h.en0 x hx with h0|h0
  ·obtain⟨j,L,_,_,hL,e⟩:=h.fro x.has0 (.en x.enter) ⟨x,hx,rfl,h0,rfl⟩;cases L with
   |enter A=>
    have e':x.enter=A:=by injection e
    rw[e'];exact(kS (lr hL)).1
   |state k n=>cases e
   |move ev af d t A=>cases e
   |leave A=>cases e
  ·rw[h0];simp
 ·have:=hs.lenE;omega
 ·rcases h.lv0 x hx with h0|h0
  ·obtain⟨j,L,_,_,hL,e⟩:=h.fro x.has1 (.lv x.leave) ⟨x,hx,rfl,h0,rfl⟩;cases L with
   |leave A=>
    have e':x.leave=A:=by injection e
    rw[e'];exact(kS (lr hL)).1
   |state k n=>cases e
   |move ev af d t A=>cases e
   |enter A=>cases e
  ·rw[h0];simp
 ·have:=hs.lenL;omega
theorem I5(h:U.read s=.fu S):∀x∈S,qA x/\iG x:=by
 obtain⟨_,Uw⟩:=U.Ln h;unfold U.read at h;split at h
 ·cases h
 ·cases YL:U.syn (U.cut s 10) with
  |some i=>rw[YL]at h;cases h
  |none=>
   rw[YL]at h;dsimp only at h;cases ht:U.aZ (U.aK (U.cut s 10) ((U.cut s 10).length-1)) ((U.cut s 10).length-1) with
   |none=>rw[ht]at h;cases h
   |some S'=>
    rw[ht]at h;dsimp only at h;have hI:=oI (qw YL) (Ow _) ht;split at h
    ·cases h
    ·split at h
     ·cases h
     ·cases h
      intro x hx;exact⟨KK hI hx (Uw x hx).1 (Uw x hx).2,hI.words x hx⟩
theorem D4{x:U.State}(h:qA x):∀j,(∀a∈U.eD x j,Shape a)/\(∀a∈U.eD x j,U.jT a)
 |0=>⟨h.enter.shape,h.enter.small⟩
 |j+1=>by
  obtain⟨ih1,ih2⟩:=D4 h j;rw[U.eD];cases e:x.aj[j]? with
  |none=>exact⟨ih1,ih2⟩
  |some m=>
   dsimp only;have hm:=(h.aj m (OG e)).1;split
   ·refine⟨fun a ha=>?_,fun a ha=>?_⟩
    ·rcases OT.1 ha with ha|ha
     ·exact ih1 a ha
     ·rw[OE.1 ha];exact .inr (.inr rfl)
    ·rcases OT.1 ha with ha|ha
     ·exact ih2 a ha
     ·rw[OE.1 ha];exact⟨(show U.nu.size<=4096 by decide),hm.event,hm.event,hm.delay⟩
   ·exact⟨ih1,ih2⟩
theorem AH{x:U.State}(h:qA x):∀j,(∀a∈U.cM x j,Shape a)/\(∀a∈U.cM x j,U.jT a)
 |0=>⟨h.leave.shape,h.leave.small⟩
 |j+1=>by
  obtain⟨ih1,ih2⟩:=AH h j;rw[U.cM];cases e:x.aj[j]? with
  |none=>exact⟨ih1,ih2⟩
  |some m=>
   dsimp only;have hm:=(h.aj m (OG e)).1;split
   ·refine⟨fun a ha=>?_,fun a ha=>?_⟩
    ·rcases OT.1 ha with ha|ha
     ·exact ih1 a ha
     ·rw[OE.1 ha];exact .inr (.inl ⟨rfl,rfl⟩)
    ·rcases OT.1 ha with ha|ha
     ·exact ih2 a ha
     ·rw[OE.1 ha];exact⟨(show U.ia.size<=4096 by decide),OL _,hm.event,0,rfl,zac⟩
   ·exact⟨ih1,ih2⟩
theorem CI{m:U.Move}(h:U.nD m):U.nD (dX m):=by
 unfold dX;split
 ·exact⟨h.event,h.dst,h.aw,h.len,0,rfl,zac⟩
 ·exact h
