import Derived.Test.YtegmoddppafkfaaGreatDoorM00
import Derived.Test.YtegmoddppafkfaaGreatDoorM16
import Derived.Test.YtegmoddppafkfaaGreatDoorM20
import Derived.Test.YtegmoddppafkfaaGreatDoorM21
import Derived.Test.YtegmoddppafkfaaGreatDoorM22
import Derived.Test.YtegmoddppafkfaaGreatDoorM27
import Derived.Test.YtegmoddppafkfaaGreatDoorSh
import Derived.Lib.AppendIntMem
import Derived.Shelf.Strings.BuilderK
set_option maxRecDepth 100000
set_option maxHeartbeats 8000000
namespace Go.Proofs.YtegmoddppafkfaaGreatDoor
section
open Go.RowKit
namespace Pro
def gX (D:DataW Nat) (tm:Bool) (num:Nat):PL→Bool
 | .state _ n => !decide (nX D n=some (num:Int))
 | .move ev af d t A=>kL D tm ⟨ev,t,af,d,A,num⟩
 | .enter A=>tm&&Ref.dH A
 | .leave A=>tm&&Ref.dH A
def vx (S:List Ref.State) (P:List ByteArray) (k:Nat):Bool:=match bg (k+1) (wl P k) with
 | some L=>gX (aZ S S.length) (dI S) (k+1) L
 | none=>false
def cV (S:List Ref.State) (P:List ByteArray):Nat→Option Nat
 | 0=>none
 | k+1=>match cV S P k with
  | some i=>some i
  | none=>if vx S P k then some k else none
theorem jg {S:List Ref.State} {P:List ByteArray} {i k:Nat} (h:cV S P k=some i):∀ j,k≤j→cV S P j=some i
 | 0,hj=>by rw [Nat.le_zero.1 hj] at h;exact h
 | j+1,hj=>by
  by_cases e:k=j+1
  ·rw [← e];exact h
  ·rw [cV,jg h j (by omega)]
def read (s:ByteArray):Ref.Got :=
 if 1500<s.size then .fault 1 0
 else match Ref.syn (Ref.cut s 10) with
  | some i => .fault 2 ((i:Int)+1)
  | none=>match Ref.bP (Ref.bo (Ref.cut s 10) ((Ref.cut s 10).length-1)) ((Ref.cut s 10).length-1) with
   | none => .fault 3 (Ref.iw (Ref.bo (Ref.cut s 10) ((Ref.cut s 10).length-1)) ((Ref.cut s 10).length-1))
   | some S=>match Ref.eB S S.length with
    | some l => .fault 3 l
    | none=>match cV S (Ref.cut s 10) ((Ref.cut s 10).length-1) with
     | some i => .fault 4 ((i:Int)+1)
     | none => .jE S
abbrev E7 (m:Nat):PL→Prop
 | .state _ _=>True
 | .move _ _ _ t A=>t.size≤8∧(∀ a∈A,Shape a)∧A.length≤m
 | .enter A=>(∀ a∈A,Shape a)∧A.length≤m
 | .leave A=>(∀ a∈A,Shape a)∧A.length≤m
theorem xx {num:Nat} {l r:List ByteArray} {L:PL} (h:aT num l=some (L,r)):E7 l.length L:=by
 have hal:∀ (f:Nat) (l r:List ByteArray) (A:List Ref.Act),fk f l=some (A,r)→A.length≤l.length:=by
  intro f
  induction f with
  | zero=>intro l r A h;cases h;simp
  | succ f ih =>
   intro l r A h
   cases l with
   | nil=>cases h;simp
   | cons x t =>
    rw [fk] at h
    split at h
    ·split at h
     ·cases h
     ·rename_i a r' h1
      split at h
      ·cases h
      ·rename_i A' t' h2
       cases h
       have e1:=im h1
       have e2:=ih _ _ _ h2
       simp only [List.length_cons];omega
    ·cases h;simp
 have hacts:∀ (l r:List ByteArray) (A:List Ref.Act),aN l=some (A,r)→(∀ a∈A,Shape a)∧A.length≤l.length:=fun l r A h=>⟨oq _ _ _ _ h,hal _ _ _ _ h⟩
 have hmove:∀ (l r:List ByteArray) (t:ByteArray) (A:List Ref.Act),eS l=some ((t,A),r)→t.size≤8∧(∀ a∈A,Shape a)∧A.length≤l.length:=by
  intro l r t A h
  unfold eS at h
  split at h
  ·cases h
  ·rename_i t' r' ht
   obtain ⟨⟨A',r2⟩,h1,h2⟩:=Option.map_eq_some_iff.1 h
   cases h2
   obtain ⟨a1,a2⟩:=hacts _ _ _ h1
   cases l with
   | nil=>cases ht;exact ⟨by decide,a1,a2⟩
   | cons y u =>
    rw [pTo] at ht
    split at ht
    ·have:=fO ht
     refine ⟨gJ this.1,a1,?_⟩
     have e:=congrArg List.length this.2
     simp only [List.length_cons] at e ⊢;omega
    ·cases ht;exact ⟨by decide,a1,a2⟩
 cases l with
 | nil=>cases h
 | cons x t =>
  rw [aT] at h
  split at h
  ·obtain ⟨q,h1,h2⟩:=Option.map_eq_some_iff.1 h
   cases h2;trivial
  ·split at h
   ·obtain ⟨q,h1,h2⟩:=Option.map_eq_some_iff.1 h
    cases h2;trivial
   ·split at h
    ·obtain ⟨q,h1,h2⟩:=Option.map_eq_some_iff.1 h
     cases h2;trivial
    ·split at h
     ·obtain ⟨q,h1,h2⟩:=Option.map_eq_some_iff.1 h
      cases h2;trivial
     ·split at h
      ·split at h
       ·cases h
       ·rename_i ev r1 he
        obtain ⟨⟨⟨t',A⟩,r'⟩,h1,h2⟩:=Option.map_eq_some_iff.1 h
        cases h2
        have e:=congrArg List.length (fO he).2
        obtain ⟨a0,a1,a2⟩:=hmove _ _ _ _ h1
        exact ⟨a0,a1,by simp only [List.length_cons] at e ⊢;omega⟩
      ·split at h
       ·split at h
        ·cases h
        ·rename_i d r1 he
         obtain ⟨⟨⟨t',A⟩,r'⟩,h1,h2⟩:=Option.map_eq_some_iff.1 h
         cases h2
         have e:=kR he
         obtain ⟨a0,a1,a2⟩:=hmove _ _ _ _ h1
         exact ⟨a0,a1,by simp only [List.length_cons] at e ⊢;omega⟩
       ·have hdo:∀ (l r:List ByteArray) (A:List Ref.Act),bR l=some (A,r)→(∀ a∈A,Shape a)∧A.length≤l.length:=by
         intro l r A h
         unfold bR at h
         split at h
         ·cases h
         ·cases h
         ·rename_i h1
          cases h
          exact hacts _ _ _ h1
        split at h
        ·obtain ⟨⟨A,r'⟩,h1,h2⟩:=Option.map_eq_some_iff.1 h
         cases h2
         obtain ⟨a1,a2⟩:=hdo _ _ _ h1
         exact ⟨a1,Nat.le_succ_of_le a2⟩
        ·split at h
         ·obtain ⟨⟨A,r'⟩,h1,h2⟩:=Option.map_eq_some_iff.1 h
          cases h2
          obtain ⟨a1,a2⟩:=hdo _ _ _ h1
          exact ⟨a1,Nat.le_succ_of_le a2⟩
         ·cases h
end Pro
structure iH (w:World) (sv:Ref.Sl) (X:List Pro.DS):Prop where
 states:w.ownsRow 0 242 8 sv.v X.length (X.flatMap Pro.aK)
 moves:∀ x∈X,∃ M:List Pro.PV,M.map (·.m)=x.s.moves∧w.ownsRow 0 295 5 x.vm.v M.length (M.flatMap Pro.bk)∧∀ y∈M,w.ownsRow 0 324 1 y.v.v y.m.aj.length (y.m.aj.map bp)
 enter:∀ x∈X,w.ownsRow 0 324 1 x.ve.v x.s.enter.length (x.s.enter.map bp)
 leave:∀ x∈X,w.ownsRow 0 324 1 x.vl.v x.s.leave.length (x.s.leave.map bp)
theorem iH.fe {w w':World} {sv:Ref.Sl} {X:List Pro.DS} {e:TypeId} (h:iH w sv X) (T:Touch e w w') (h1:242≠e) (h2:295≠e) (h3:324≠e):iH w' sv X :=
 ⟨ag h.states T h1,fun x hx=>let ⟨M,m1,m2,m3⟩:=h.moves x hx;⟨M,m1,ag m2 T h2,fun y hy=>ag (m3 y hy) T h3⟩,fun x hx=>ag (h.enter x hx) T h3,fun x hx=>ag (h.leave x hx) T h3⟩
theorem al.jE {w0 w:World} {db mb nm:Nat} {sv pv ov:Ref.Sl} {tm:Bool} {X:List Pro.DS} {SP:List (Int×Int)} {O:List Nat} {PT:Nat→List Nat} {D:DataW Nat} (G:al w0 w db sv pv ov mb tm X SP O PT nm D):iH w sv X:=by
 have hd:∀ x∈X,tW w0 w x:=fun x hx=>by
  obtain ⟨i,hi,rfl⟩:=List.getElem_of_mem hx
  exact G.deep i hi
 exact ⟨aI G.states (Nat.zero_le _),fun x hx=>let ⟨M,m1,m2,m3⟩:=(hd x hx).moves;⟨M,m1,aI m2 (Nat.zero_le _),fun y hy=>aR (m3 y hy) G.bel⟩,fun x hx=>aR (hd x hx).enter G.bel,fun x hx=>aR (hd x hx).leave G.bel⟩
def EE (s:ByteArray) (w:World) (e:Ending) (w':World):Prop:=Below w.heap.size w w'∧match Pro.read s with
 | .fault c l=>∃ b,e = .returned (.tuple #[.pointer none,.iface 159 (.pointer (some ⟨b,0,none⟩))])∧w'.heap[b]?=some (.cells #[.int .i64 c,.int .i64 l] 163 (0,0))
 | .jE S=>∃ cb sv X,e = .returned (.tuple #[.pointer (some ⟨cb,0,none⟩),.nilIface])∧w'.heap[cb]?=some (.cells #[.slice sv.a sv.n sv.c] 232 (0,0))∧X.map (·.s)=S∧iH w' sv X∧S.length≤24
theorem Tryz.Gk (a b c d:Value) (w:World):(method 599 376 (.agg #[a,b,c, d]) "charts/reader.checkNames").run Tryz.prog w = .ok (358,.agg #[a,b,c,d]) w:=by kernel_rfl
theorem Tryz.Gj (a b c d e f g:Value) (w:World):(method 599 380 (.agg #[a,b,c,d,e,f, g]) "charts/reader.checkNames").run Tryz.prog w = .ok (363,.agg #[a,b,c,d,e,f,g]) w:=by kernel_rfl
theorem Cr (s:ByteArray) (w:World) (hv:rY w) (hs:s.size≤1073741824) (S0:List Ref.State) (hok:Pro.read s = .jE S0) (hfl:∀ (k:Nat) (L:Pro.PL),Pro.bg (k+1) (Pro.wl (Ref.cut s 10) k)=some L→Pro.Flat L) :
  Calls Tryz.prog 71 #[.string s] w (EE s w):=by
 have HOK:Hid _:=hok
 have HFL:Hid _:=hfl
 clear hok hfl
 have hmf:∀ (fn:Fn) (first cap:Array Value) (w:World),(Instr.makeFunc fn first cap).run Tryz.prog w = .ok (.func fn first cap) w:=fun _ _ _ _=>rfl
 obtain ⟨w1,hw1⟩:∃ y,y=(w.alloc (.cells #[.pointer none] 165)).alloc (.cells #[.nilIface] 101):=⟨_,rfl⟩
 have hs1:w1.heap.size=w.heap.size+2:=by rw [hw1];simp
 have h0:w1.heap[w.heap.size]?=some (.cells #[.pointer none] 165 (0,0)):=by rw [hw1];exact gn _ _ _
 have h1:w1.heap[w.heap.size+1]?=some (.cells #[.nilIface] 101 (0,0)):=by rw [hw1];exact b8 _ _ _
 have hbw1:Below w.heap.size w w1:=by rw [hw1];exact ((Below.refl _ _).alloc (Nat.le_refl _) _).alloc (by simp) _
 have HRL:Hid (Calls Tryz.prog 106 #[.string s] w1 (da s w1)):=by
  by_cases hbig:1500<s.size
  ·exact pr s w1 hbig hs
  ·exact qq s w1 (hv.ay hbw1) (by omega)
 have HW1:Hid _:=hw1
 go_enter_defers Tryz.func71,Tryz.ntmps71
 go_wp2_with fail
 rw [← HW1.out]
 refine Calls.mono HRL.out ?_
 rintro e w2 h2
 unfold da at h2
 by_cases hbig:1500<s.size
 ·rw [if_pos hbig] at h2
  have HR:Hid (Pro.read s = .fault 1 0):=by unfold Hid;rw [Pro.read,if_pos hbig]
  obtain ⟨hb,b,h5,h6,rfl⟩:=h2
  exact absurd (HOK.out.symm.trans HR.out) (by simp)
 ·rw [if_neg hbig] at h2
  have HPr:Hid (Pro.read s=match Ref.syn (Ref.cut s 10) with
   | some i => .fault 2 ((i:Int)+1)
   | none=>match Ref.bP (Ref.bo (Ref.cut s 10) ((Ref.cut s 10).length-1)) ((Ref.cut s 10).length-1) with
    | none => .fault 3 (Ref.iw (Ref.bo (Ref.cut s 10) ((Ref.cut s 10).length-1)) ((Ref.cut s 10).length-1))
    | some S=>match Ref.eB S S.length with
     | some l => .fault 3 l
     | none=>match Pro.cV S (Ref.cut s 10) ((Ref.cut s 10).length-1) with
      | some i => .fault 4 ((i:Int)+1)
      | none => .jE S):=by unfold Hid;rw [Pro.read,if_neg hbig]
  have HSz:Hid (∀ j,(Ref.pc (Ref.cut s 10) j).size≤1500):=by
   intro j
   unfold Ref.pc
   rw [List.getD_eq_getElem?_getD]
   cases e:(Ref.cut s 10)[j]? with
   | none=>exact Nat.zero_le _
   | some x=>exact Nat.le_trans (oG x (List.mem_of_getElem? e)) (by omega)
  have hPl:(Ref.cut s 10).length≤1501:=Nat.le_trans nU (by omega)
  generalize Ref.cut s 10=P at *
  cases hsyn:Ref.syn P with
  | some i =>
   rw [hsyn] at h2 HPr
   obtain ⟨hb,b,h5,h6,rfl⟩:=h2
   exact absurd (HOK.out.symm.trans HPr.out) (by simp)
  | none =>
   rw [hsyn] at h2 HPr
   obtain ⟨hb2,lb,vs,LS,rfl,hlb,hv0,HL⟩:=h2
   obtain ⟨n,hn⟩:∃ n,n=P.length-1:=⟨_,rfl⟩
   rw [← hn] at HL HPr
   have hlv:=HL.lv
   rw [hlv] at hv0 ⊢
   have hnb:n≤1500:=by omega
   have HC:Hid _:=ph P n lb vs LS w2 hlb HL hv0 hnb HSz.out HFL.out
   have hlbl:=(Array.getElem?_eq_some_iff.1 hlb).1
   have HLB:Hid _:=hlb
   have HHL:Hid _:=HL
   have HVl:Hid (vs.length=n):=hlv
   clear hsyn hlb HL hlv hn hPl hbig hs
   dsimp only
   go_wp2_with fail
   refine Calls.mono HC.out ?_
   rintro e w3 h3
   unfold fm at h3
   cases htr:Ref.bP (Ref.bo P n) n with
   | none =>
    rw [htr] at h3 HPr
    obtain ⟨hb,b,h5,h6,rfl⟩:=h3
    have hb3:=hb2.trans (hb.mono hb2.size)
    exact absurd (HOK.out.symm.trans HPr.out) (by simp)
   | some S =>
    rw [htr] at h3 HPr
    simp only at h3
    cases hpt:Ref.eB S S.length with
    | some l =>
     rw [hpt] at h3
     simp only [hpt] at HPr
     obtain ⟨hb,b,h5,h6,rfl⟩:=h3
     have hb3:=hb2.trans (hb.mono hb2.size)
     exact absurd (HOK.out.symm.trans HPr.out) (by simp)
    | none =>
     rw [hpt] at h3
     simp only [hpt] at HPr
     obtain ⟨db,rfl,hb3,DA⟩:=h3
     have hb13:=hb2.trans (hb3.mono hb2.size)
     clear hpt htr HC
     dsimp only
     go_wp2
     obtain ⟨sv,pv,ov,mb,X,nm,hX,hnm,G⟩:=DA.mem
     have hSl:=DA.inv.len
     have HX:Hid _:=hX
     have hlb3:lb<w3.heap.size:=Nat.lt_of_lt_of_le hlbl hb3.size
     clear DA hX hnm
     go_loopg [15] n (fun q i wr=>∃ k:Nat,q=n-k∧k≤n∧i = .int .i64 k∧Pro.cV S P k=none∧Below w3.heap.size w3 wr)
     case atStart=>exact ⟨0,rfl,Nat.zero_le _,rfl,rfl,Below.refl _ _⟩
     case round =>
      obtain ⟨k,hq,hk,rfl,hnf,hbr⟩:=hrel
      have hbr1:Below w1.heap.size w1 wr:=hb13.trans (hbr.mono hb13.size)
      have HNF:Hid _:=hnf
      by_cases hkn:k<n
      ·obtain ⟨hp,hv⟩:=HHL.out.row k hkn
       have hgood:=Pro.pR hp
       have hll:(Pro.wl P k).length≤1501:=by
        unfold Pro.wl
        have h1:=Pro.rn (Ref.pc P k)
        have h2:=HSz.out k
        exact Nat.le_trans nU (by omega)
       have cv:wr.cell? ⟨lb,k,none⟩=some (vs[k]'(by have:=HVl.out;omega)):=by
        rw [World.cell?_of_block (w:=w3) (hbr.block lb hlb3),World.cell?_of_block (w:=w2) (hb3.block lb hlbl),cell_of_row w2 _ k _ _ _ HLB.out,List.getElem?_toArray,List.getElem?_eq_getElem]
       obtain ⟨L,hL⟩:∃ L,L=LS[k]'(by have:=HHL.out.ll;omega):=⟨_,rfl⟩
       obtain ⟨v,hve⟩:∃ v,v=vs[k]'(by have:=HVl.out;omega):=⟨_,rfl⟩
       obtain ⟨dp,hdp⟩:∃ dp,dp=Ref.a8 (Ref.pc P k):=⟨_,rfl⟩
       rw [← hL,← hve,← hdp] at hv
       rw [← hL] at hp hgood
       rw [← hve] at cv
       have HNB:Hid (Pro.vx S P k=Pro.gX (Pro.aZ S S.length) (Pro.dI S) (k+1) L):=by unfold Hid Pro.vx;rw [hp]
       have hsh:∃ r,Pro.aT (k+1) (Pro.wl P k)=some (L,r):=by
        unfold Pro.bg at hp
        split at hp
        ·rename_i L' h1
         cases hp
         exact ⟨_,h1⟩
        ·cases hp
       obtain ⟨rr,hpl⟩:=hsh
       have hshape:=Pro.xx hpl
       have Gr:=G.ay hbr
       have hflk:=HFL.out k L hp
       clear hL hve hdp hp hpl hnf
       cases L with
      | state kd nme =>
       have hv:v=_:=hv
       subst hv
       have hmS:=Tryz.Gk
       go_wp2_with fail
       refine Calls.mono (pH ((k+1:Nat):Int) dp kd nme Gr (Nat.le_trans hgood.2.2 (by decide))) ?_
       rintro e w5 h5
       unfold r8 at h5
       cases hbad:Pro.gX (Pro.aZ S S.length) (Pro.dI S) (k+1) (.state kd nme) with
       | true =>
        have HRd:Hid (Pro.read s = .fault 4 (((k+1:Nat):Int))):=by
         have h1:Pro.cV S P (k+1)=some k:=by
          rw [Pro.cV,HNF.out];simp only;rw [HNB.out,hbad];rfl
         unfold Hid
         rw [HPr.out,Pro.jg h1 n (by omega)];rfl
        rw [if_neg (by simpa [Pro.gX] using hbad)] at h5
        obtain ⟨hb,b,h7,h6,rfl⟩:=h5
        have hbq:Below w1.heap.size w1 w5:=hbr1.trans (hb.mono hbr1.size)
        have hlq:w1.heap.size≤b:=Nat.le_trans hbr1.size h7
        exact absurd (HOK.out.symm.trans HRd.out) (by simp)
       | false =>
        have HNx:Hid (Pro.cV S P (k+1)=none):=by
         unfold Hid
         rw [Pro.cV,HNF.out];simp only;rw [HNB.out,hbad];rfl
        rw [if_pos (by simpa [Pro.gX] using hbad)] at h5
        obtain ⟨rfl,hb5⟩:=h5
        have hbr5:Below w3.heap.size w3 w5:=hbr.trans (hb5.mono hbr.size)
        clear hbad
        dsimp only
        go_wp2
        go_roundg (n-(k+1))
        case measure=>omega
        case rel=>exact ⟨k+1,rfl,by omega,by go_num,HNx.out,hbr5⟩
      | move ev af dl t A =>
       obtain ⟨va,vn,vc,hv,hown⟩:=hv
       subst hv
       have hmS:=Tryz.Gj
       go_wp2_with fail
       refine Calls.mono (qd ((k+1:Nat):Int) dp ⟨⟨ev,t,af,dl,A,((k+1:Nat):Int)⟩,⟨va,vn,vc⟩⟩ Gr (Nat.le_trans hshape.1 (by decide)) hown hshape.2.1 (Nat.le_trans hshape.2.2 (by omega))) ?_
       rintro e w5 h5
       unfold fl at h5
       cases hbad:Pro.gX (Pro.aZ S S.length) (Pro.dI S) (k+1) (.move ev af dl t A) with
       | true =>
        have HRd:Hid (Pro.read s = .fault 4 (((k+1:Nat):Int))):=by
         have h1:Pro.cV S P (k+1)=some k:=by
          rw [Pro.cV,HNF.out];simp only;rw [HNB.out,hbad];rfl
         unfold Hid
         rw [HPr.out,Pro.jg h1 n (by omega)];rfl
        rw [if_pos (by exact hbad)] at h5
        obtain ⟨hb,b,h7,h6,rfl⟩:=h5
        have hbq:Below w1.heap.size w1 w5:=hbr1.trans (hb.mono hbr1.size)
        have hlq:w1.heap.size≤b:=Nat.le_trans hbr1.size h7
        exact absurd (HOK.out.symm.trans HRd.out) (by simp)
       | false =>
        have HNx:Hid (Pro.cV S P (k+1)=none):=by
         unfold Hid
         rw [Pro.cV,HNF.out];simp only;rw [HNB.out,hbad];rfl
        rw [if_neg (by simpa [Pro.gX] using hbad)] at h5
        obtain ⟨rfl,hb5⟩:=h5
        have hbr5:Below w3.heap.size w3 w5:=hbr.trans (hb5.mono hbr.size)
        clear hbad
        dsimp only
        go_wp2
        go_roundg (n-(k+1))
        case measure=>omega
        case rel=>exact ⟨k+1,rfl,by omega,by go_num,HNx.out,hbr5⟩
      | enter A=>exact False.elim hflk
      | leave A=>exact False.elim hflk
      ·obtain rfl:k=n:=by omega
       have HRd:Hid (Pro.read s = .jE S):=by unfold Hid;rw [HPr.out,HNF.out]
       have Gr:=G.ay hbr
       obtain ⟨c0,_,_,_,_⟩:=Gr.cells
       have hdl:=Gr.dlt
       have g0:=(hbr1.block _ (by omega)).trans h0
       have g1:=(hbr1.block _ (by omega)).trans h1
       have k0:wr.cell? ⟨w.heap.size,0,none⟩=some (.pointer none):=by rw [cell_of_row wr _ _ _ _ _ g0];rfl
       have k1:wr.cell? ⟨w.heap.size+1,0,none⟩=some .nilIface:=by rw [cell_of_row wr _ _ _ _ _ g1];rfl
       have f0:wr.frozen? ⟨w.heap.size,0,none⟩=false:=by simp [World.frozen?,g0]
       have f1:wr.frozen? ⟨w.heap.size+1,0,none⟩=false:=by simp [World.frozen?,g1]
       have l0:w.heap.size<wr.heap.size:=(Array.getElem?_eq_some_iff.1 g0).1
       have l1:w.heap.size+1<wr.heap.size:=(Array.getElem?_eq_some_iff.1 g1).1
       have HG:Hid _:=Gr
       clear hnf G Gr
       go_wp2
       refine leaves_cons (f:=105) (args:=#[.pointer (some ⟨w.heap.size,0,none⟩),.pointer (some ⟨w.heap.size+1,0,none⟩)]) (by simp) (by simp [go_sem]) ?_
       refine (wI _ _ _).mono ?_
       rintro e u' wq ⟨rfl,rfl,rfl⟩
       have oa:=ae wr w.heap.size 0 (.pointer (some ⟨wr.heap.size,0,none⟩))
       have ob:=ae (wr.setCell ⟨w.heap.size,0,none⟩ (.pointer (some ⟨wr.heap.size,0,none⟩))) (w.heap.size+1) 0 .nilIface
       have g1':=(oa.block (w.heap.size+1) (by omega)).trans g1
       have ra:=heap_setCell_same wr w.heap.size 0 _ _ (.pointer (some ⟨wr.heap.size,0,none⟩)) g0
       have rb:=heap_setCell_same _ (w.heap.size+1) 0 _ _ .nilIface g1'
       have ra':=(ob.block w.heap.size (by omega)).trans ra
       have hT:=gP oa g0
       have hT2:=gP ob g1'
       have hC2:=(HG.out.jE.fe hT (by decide) (by decide) (by decide)).fe hT2 (by decide) (by decide) (by decide)
       have hbe:Below w.heap.size w (wr.setCell ⟨w.heap.size,0,none⟩ (.pointer (some ⟨wr.heap.size,0,none⟩))):=oa.below (hbw1.trans (hbr1.mono hbw1.size)) (Nat.le_refl _)
       have hbe2:=ob.below hbe (by omega)
       have hsz:((wr.setCell ⟨w.heap.size,0,none⟩ (.pointer (some ⟨wr.heap.size,0,none⟩))).setCell ⟨w.heap.size+1,0,none⟩ .nilIface).heap.size=wr.heap.size:=by rw [ob.size,oa.size]
       obtain ⟨W6,hW6⟩:∃ y,y=(wr.setCell ⟨w.heap.size,0,none⟩ (.pointer (some ⟨wr.heap.size,0,none⟩))).setCell ⟨w.heap.size+1,0,none⟩ .nilIface:=⟨_,rfl⟩
       rw [← hW6] at ra' rb hC2 hbe2 hsz ⊢
       have q0:(W6.alloc (.cells #[.slice sv.a sv.n sv.c] 232)).cell? ⟨w.heap.size,0,none⟩=some (.pointer (some ⟨wr.heap.size,0,none⟩)):=by
        rw [World.cell?_alloc_lt _ _ ⟨w.heap.size,0,none⟩ (by rw [hsz];exact l0),cell_of_row W6 _ _ _ _ _ ra'];rfl
       have q1:(W6.alloc (.cells #[.slice sv.a sv.n sv.c] 232)).cell? ⟨w.heap.size+1,0,none⟩=some .nilIface:=by
        rw [World.cell?_alloc_lt _ _ ⟨w.heap.size+1,0,none⟩ (by rw [hsz];exact l1),cell_of_row W6 _ _ _ _ _ rb];rfl
       simp [Leaves,settle,results,Tryz.results71,go_sem,q0,q1]
       unfold EE
       rw [HRd.out]
       refine ⟨hbe2.alloc (by omega) _,wr.heap.size,sv,X,rfl,?_,HX.out,hC2.fe (e:=0) (bO ((Below.refl _ _).alloc (Nat.le_refl _) _)) (by decide) (by decide) (by decide),hSl⟩
       rw [← hsz];exact heap_alloc_new _ _
namespace Pro
inductive It where
 | nm (n:ByteArray)
 | mv (m:Ref.Move)
 | en (A:List Ref.Act)
 | lv (A:List Ref.Act)
end Pro
end
end Go.Proofs.YtegmoddppafkfaaGreatDoor
namespace Go.Proofs.YtegmoddppafkfaaGreatDoor
section
open Go.RowKit
namespace Pro
def CM (k:Int) (n:ByteArray):ByteArray:=if k=4 then a7 k++Ref.b1++n++Ref.EH else a7 k++Ref.b1++n
def F4:ByteArray:=⟨#[111,110,32]⟩
def Fz (m:Ref.Move):ByteArray:=if m.to.toList.isEmpty then F4++m.event else F4++m.event++Ref.bTo++m.to
end Pro
theorem w9:(⟨#[112,97,114,97,108,108,101,108,32]⟩:ByteArray)=Pro.eP++Ref.b1:=by decide
theorem w6:(⟨#[102,105,110,97,108,32]⟩:ByteArray)=Pro.jA++Ref.b1:=by decide
theorem w8:(⟨#[104,105,115,116,111,114,121,32]⟩:ByteArray)=Pro.dj++Ref.b1:=by decide
theorem w5:(⟨#[115,116,97,116,101,32]⟩:ByteArray)=Pro.jB++Ref.b1:=by decide
end
end Go.Proofs.YtegmoddppafkfaaGreatDoor
namespace Go.Proofs.YtegmoddppafkfaaGreatDoor
section
open Go.RowKit Go.Proofs
namespace Pro
def Du:ByteArray:=⟨#[101,110,116,101,114]⟩
def Dv:ByteArray:=⟨#[108,101,97,118,101]⟩
def BU (d:Nat) (h:ByteArray) (A:List Ref.Act):ByteArray:=Ref.pad d++h++Ref.written A++Ref.bNl
def F7 (d:Nat) (h:ByteArray) (A:List Ref.Act):ByteArray:=if A.isEmpty then ByteArray.empty else BU d h A
def cU (d:Nat) (M:List Ref.Move):Nat→ByteArray
 | 0=>ByteArray.empty
 | j+1=>match M[j]? with
  | some m=>cU d M j++BU d (Fz m) m.aj
  | none=>cU d M j
def Gh (x:Ref.State):ByteArray:=BU x.depth.toNat (CM (ao x) x.name) []++F7 (x.depth.toNat+1) Du x.enter++F7 (x.depth.toNat+1) Dv x.leave
def FM (x:Ref.State):ByteArray:=Gh x++cU (x.depth.toNat+1) x.moves x.moves.length
structure dA (A:List Ref.Act):Prop where
 shape:∀ a∈A,Shape a
 small:∀ a∈A,Ref.tV a
 len:A.length≤100000
theorem dA.nil:dA []:=⟨by simp,by simp,by simp⟩
end Pro
structure fo (w:World) (x:Pro.DS) (M:List Pro.PV):Prop where
 dep0:0≤x.s.depth
 dep:x.s.depth≤5
 name:x.s.name.size≤4096
 mv:M.map (·.m)=x.s.moves
 mlen:M.length≤4096
 moves:w.ownsRow 0 295 5 x.vm.v M.length (M.flatMap Pro.bk)
 aj:∀ y∈M,w.ownsRow 0 324 1 y.v.v y.m.aj.length (y.m.aj.map bp)
 actsG:∀ y∈M,Ref.od y.m∧Pro.dA y.m.aj
 enter:w.ownsRow 0 324 1 x.ve.v x.s.enter.length (x.s.enter.map bp)
 enterG:Pro.dA x.s.enter
 leave:w.ownsRow 0 324 1 x.vl.v x.s.leave.length (x.s.leave.map bp)
 leaveG:Pro.dA x.s.leave
end
section
open Go.RowKit
namespace Pro
def jt (X:List Ref.State):Nat→ByteArray
 | 0=>ByteArray.empty
 | k+1=>match X[k]? with
  | some x=>jt X k++FM x
  | none=>jt X k
theorem lH (m:Ref.Move):(ic m).aj=m.aj:=by unfold ic;split <;> rfl
end Pro
namespace Pro
structure qA (x:Ref.State):Prop where
 dep0:0≤x.depth
 dep:x.depth≤5
 name:x.name.size≤4096
 mlen:x.moves.length≤4096
 moves:∀ m∈x.moves,Ref.od m∧dA m.aj
 event:∀ m∈x.moves,m.after=true→m.event.size≠0
 enter:dA x.enter
 elen:x.enter.length≤4096
 leave:dA x.leave
 llen:x.leave.length≤4096
theorem yG {x:Ref.State} (h:qA x):∀ j,(∀ a∈Ref.gS x j,Shape a)∧(∀ a∈Ref.gS x j,Ref.tV a)
 | 0=>⟨h.enter.shape,h.enter.small⟩
 | j+1=>by
  obtain ⟨ih1,ih2⟩:=yG h j
  rw [Ref.gS]
  cases e:x.moves[j]? with
  | none=>exact ⟨ih1,ih2⟩
  | some m =>
   dsimp only
   have hm:=(h.moves m (List.mem_of_getElem? e)).1
   split
   ·refine ⟨fun a ha => ?_,fun a ha => ?_⟩
    ·rcases List.mem_append.1 ha with ha | ha
     ·exact ih1 a ha
     ·rw [List.mem_singleton.1 ha];exact .inr (.inr rfl)
    ·rcases List.mem_append.1 ha with ha | ha
     ·exact ih2 a ha
     ·rw [List.mem_singleton.1 ha];exact ⟨(show Ref.ko.size≤4096 by decide),hm.event,hm.event,hm.delay⟩
   ·exact ⟨ih1,ih2⟩
theorem vC {x:Ref.State} (h:qA x):∀ j,(∀ a∈Ref.ef x j,Shape a)∧(∀ a∈Ref.ef x j,Ref.tV a)
 | 0=>⟨h.leave.shape,h.leave.small⟩
 | j+1=>by
  obtain ⟨ih1,ih2⟩:=vC h j
  rw [Ref.ef]
  cases e:x.moves[j]? with
  | none=>exact ⟨ih1,ih2⟩
  | some m =>
   dsimp only
   have hm:=(h.moves m (List.mem_of_getElem? e)).1
   split
   ·refine ⟨fun a ha => ?_,fun a ha => ?_⟩
    ·rcases List.mem_append.1 ha with ha | ha
     ·exact ih1 a ha
     ·rw [List.mem_singleton.1 ha];exact .inr (.inl ⟨rfl,rfl⟩)
    ·rcases List.mem_append.1 ha with ha | ha
     ·exact ih2 a ha
     ·rw [List.mem_singleton.1 ha];exact ⟨(show Ref.fZ.size≤4096 by decide),Nat.zero_le _,hm.event,0,rfl,by decide⟩
   ·exact ⟨ih1,ih2⟩
theorem xz {m:Ref.Move} (h:Ref.od m):Ref.od (ic m):=by
 unfold ic
 split
 ·exact ⟨h.event,h.dst,h.aj,h.len,0,rfl,by decide⟩
 ·exact h
end Pro
end
section
open Go.RowKit Go.Proofs
theorem tS {g:Nat} {w w':World} {c:Array Value} {e:TypeId} {fz:Nat×Nat} (h:ai g w w') (hg:w.heap[g]?=some (.cells c e fz)):Touch e w w' :=
 ⟨h.size,fun k hk hn=>h.block k hk (fun e0=>by subst e0;exact hn _ _ hg)⟩
theorem fo.fe {w w':World} {x:Pro.DS} {M:List Pro.PV} (h:fo w x M) (T:Touch 242 w w'):fo w' x M :=
 ⟨h.dep0,h.dep,h.name,h.mv,h.mlen,ag h.moves T (by decide),fun y hy=>ag (h.aj y hy) T (by decide),h.actsG,ag h.enter T (by decide),h.enterG,ag h.leave T (by decide),h.leaveG⟩
theorem fo.ay {w w':World} {x:Pro.DS} {M:List Pro.PV} (h:fo w x M) (hb:Below w.heap.size w w'):fo w' x M:=h.fe (bO hb)
theorem p5 {α:Type} {f:α→List Value} {a b:α} (h:f a=f b) (l:List α) (k:Nat):(l.set k a).flatMap f=(l.set k b).flatMap f:=by
 rw [List.flatMap_def,List.flatMap_def,List.map_set,List.map_set,h]
theorem Ad {w w':World} {B g cap u:Nat} {Z:List Pro.DS} {x:Pro.DS} {M:List Pro.PV} {ve vl vm:Ref.Sl} (G:eX w w' B g cap Z u x ve vl vm (Ref.gS x.s M.length) (Ref.ef x.s M.length) (M.map Pro.gF)) (hok:Pro.qA x.s) (hm:M.map (·.m)=x.s.moves) (ha:∀ y∈M,w'.ownsRow 0 324 1 y.v.v y.m.aj.length (y.m.aj.map bp)) :
  fo w' { s:=Pro.mQ x.s,vp:=x.vp,ve:=ve,vl:=vl,vm:=vm } (M.map Pro.gF):=by
 have hml:x.s.moves.length=M.length:=by rw [← hm,List.length_map]
 have hmem:∀ y∈M,y.m∈x.s.moves:=fun y hy=>by rw [← hm];exact List.mem_map_of_mem hy
 have hIn:=Pro.yG hok M.length
 have hOut:=Pro.vC hok M.length
 have l1:=uP x.s M.length
 have l2:=rh x.s M.length
 have l3:=hok.mlen
 have l4:=hok.elen
 have l5:=hok.llen
 refine ⟨hok.dep0,hok.dep,hok.name,?_,by rw [List.length_map];omega,?_,?_,?_,?_,?_,?_,?_⟩
 ·show (M.map Pro.gF).map (·.m)=x.s.moves.map Pro.ic
  rw [← hm,List.map_map,List.map_map];rfl
 ·exact aI G.moves (Nat.zero_le _)
 ·intro y hy
  obtain ⟨z,hz,rfl⟩:=List.mem_map.1 hy
  have:=ha z hz
  rw [show (Pro.gF z).m.aj=z.m.aj from Pro.lH z.m]
  exact this
 ·intro y hy
  obtain ⟨z,hz,rfl⟩:=List.mem_map.1 hy
  obtain ⟨h1,h2⟩:=hok.moves z.m (hmem z hz)
  refine ⟨Pro.xz h1,?_⟩
  rw [show (Pro.gF z).m.aj=z.m.aj from Pro.lH z.m]
  exact h2
 ·show w'.ownsRow 0 _ 1 ve.v (Ref.gS x.s x.s.moves.length).length ((Ref.gS x.s x.s.moves.length).map bp)
  rw [hml];exact aI G.enter (Nat.zero_le _)
 ·show Pro.dA (Ref.gS x.s x.s.moves.length)
  rw [hml];exact ⟨hIn.1,hIn.2,by omega⟩
 ·show w'.ownsRow 0 _ 1 vl.v (Ref.ef x.s x.s.moves.length).length ((Ref.ef x.s x.s.moves.length).map bp)
  rw [hml];exact aI G.leave (Nat.zero_le _)
 ·show Pro.dA (Ref.ef x.s x.s.moves.length)
  rw [hml];exact ⟨hOut.1,hOut.2,by omega⟩
structure km (w wr:World) (sv:Ref.Sl) (X Z:List Pro.DS) (k:Nat):Prop where
 bel:Below w.heap.size w wr
 len:Z.length=X.length
 row:wr.ownsRow w.heap.size 242 8 sv.v Z.length (Z.flatMap Pro.aK)
 done:∀ i (h:i<Z.length) (h':i<X.length),i<k→Z[i].s=Pro.mQ X[i].s∧∃ M,fo wr Z[i] M
 rest:∀ i (h:i<Z.length) (h':i<X.length),k≤i→Z[i]=X[i]
theorem km.step {w wr w':World} {X Z:List Pro.DS} {k g cap:Nat} {ve vl vm:Ref.Sl} {M:List Pro.PV} (D:km w wr ⟨some ⟨g,0,none⟩,Z.length,cap⟩ X Z k) (hk':k<X.length) (hok:Pro.qA X[k].s) (hm:M.map (·.m)=X[k].s.moves)
  (ha:∀ y∈M,w.ownsRow 0 324 1 y.v.v y.m.aj.length (y.m.aj.map bp)) (G:eX wr w' w.heap.size g cap Z k X[k] ve vl vm (Ref.gS X[k].s M.length) (Ref.ef X[k].s M.length) (M.map Pro.gF)) :
  km w w' ⟨some ⟨g,0,none⟩,Z.length,cap⟩ X (Z.set k { s:=Pro.mQ X[k].s,vp:=X[k].vp,ve:=ve,vl:=vl,vm:=vm }) (k+1):=by
 obtain ⟨c,hc⟩:=cW D.row g rfl
 have hg:=(World.ownsRow.lt D.row g rfl).1
 have T:=tS G.ah hc
 have hb:Below w.heap.size w w':=G.ah.below D.bel hg D.bel.size
 refine ⟨hb,by rw [List.length_set];exact D.len,?_,?_,?_⟩
 ·have e:=p5 (f:=Pro.aK) (a:={ s:=Pro.mQ X[k].s,vp:=X[k].vp,ve:=ve,vl:=vl,vm:=vm }) (b:={ X[k] with ve:=ve,vl:=vl,vm:=vm }) rfl Z k
  rw [e,List.length_set]
  exact G.states
 ·intro i h h' hi
  rw [List.length_set] at h
  rw [List.getElem_set]
  by_cases e:k=i
  ·subst e
   rw [if_pos rfl]
   exact ⟨rfl,_,Ad G hok hm (fun y hy=>aR (ha y hy) hb)⟩
  ·rw [if_neg e]
   obtain ⟨h1,M',h2⟩:=D.done i h h' (by omega)
   exact ⟨h1,M',h2.fe T⟩
 ·intro i h h' hi
  rw [List.length_set] at h
  rw [List.getElem_set,if_neg (by omega)]
  exact D.rest i h h' (by omega)
def De (X:List Pro.DS) (w:World) (e:Ending) (w':World):Prop:=Below w.heap.size w w'∧∃ cb sv Z,e = .returned (.pointer (some ⟨cb,0,none⟩))∧w'.heap[cb]?=some (.cells #[.slice sv.a sv.n sv.c] 232 (0,0))∧km w w' sv X Z X.length
theorem wN (cb:Nat) (sv:Ref.Sl) (X:List Pro.DS) (w:World) (hc:w.heap[cb]?=some (.cells #[.slice sv.a sv.n sv.c] 232 (0,0))) (hC:iH w sv X) (hXl:X.length≤1000) (hok:∀ x∈X,Pro.qA x.s) (hna:∀ x∈X,∀ m∈x.s.moves,m.after=false) :
  Calls Tryz.prog 76 #[.pointer (some ⟨cb,0,none⟩)] w (De X w):=by
 obtain ⟨sa,sn,sc⟩:=sv
 have c0:w.cell? ⟨cb,0,none⟩=some (.slice sa sn sc):=by rw [cell_of_row w _ _ _ _ _ hc];rfl
 have HC:Hid _:=hC
 have HOK:Hid _:=hok
 have HNA:Hid _:=hna
 have HCl:Hid _:=wL sa sn sc X w hC.states (by omega)
 clear hC hok hc hna
 go_enter Tryz.func76,Tryz.ntmps76
 go_wp2_with fail
 refine Calls.mono HCl.out ?_
 rintro e w1 ⟨⟨ta,tn,tc⟩,rfl,hrow,hb1⟩
 have hnX:tn=X.length:=EP (v:=⟨ta,tn,tc⟩) hrow
 subst hnX
 have HD0:Hid (km w w1 ⟨ta,X.length,tc⟩ X X 0):=⟨hb1,rfl,hrow,fun i _ _ h=>absurd h (by omega),fun i _ _ _=>rfl⟩
 clear hrow hb1 HCl c0
 dsimp only
 go_wp2
 go_loopg [12] X.length (fun q i wr=>∃ (k:Nat) (Z:List Pro.DS),q=X.length-k∧k≤X.length∧i = .int .i64 k∧km w wr ⟨ta,X.length,tc⟩ X Z k)
 case atStart=>exact ⟨0,X,rfl,Nat.zero_le _,rfl,HD0.out⟩
 case round =>
  obtain ⟨k,Z,hq,hk,rfl,D⟩:=hrel
  by_cases hkn:k<X.length
  ·have hZl:=D.len
   obtain ⟨g,cap,hv⟩:=Ref.gI D.row (by omega)
   simp only [Ref.Sl.v,Value.slice.injEq] at hv
   obtain ⟨rfl,-,rfl⟩:=hv
   have hkz:k<Z.length:=by omega
   have hxk:Z[k]=X[k]:=D.rest k hkz hkn (Nat.le_refl _)
   have hD:km w wr ⟨some ⟨g,0,none⟩,Z.length,tc⟩ X Z k:=by rw [hZl];exact D
   have hmem:X[k]∈X:=List.getElem_mem hkn
   obtain ⟨M,hM1,hM2,hM3⟩:=HC.out.moves X[k] hmem
   have hOK:=HOK.out X[k] hmem
   have hMl:M.length≤4096:=by have:=hOK.mlen;rw [← hM1,List.length_map] at this;exact this
   have hcap:X.length≤tc:=by
    rcases D.row.2 with ⟨h,_⟩ | ⟨g',cap',cur,h,_,_,hle,_⟩
    ·cases h
    ·simp [Ref.Sl.v] at h;rw [h.2.2];omega
   have HCL:Hid _:=o0 w.heap.size g tc k Z X[k] M wr hD.row hkz hxk (aR hM2 D.bel) (aR (HC.out.enter X[k] hmem) D.bel) (aR (HC.out.leave X[k] hmem) D.bel) hM1 hMl hOK.elen hOK.llen (fun y hy=>HNA.out X[k] hmem y.m (by rw [← hM1];exact List.mem_map_of_mem hy))
   have HN:Hid (∀ (w':World) ve vl vm,eX wr w' w.heap.size g tc Z k X[k] ve vl vm (Ref.gS X[k].s M.length) (Ref.ef X[k].s M.length) (M.map Pro.gF)→∃ Z',km w w' ⟨some ⟨g,0,none⟩,X.length,tc⟩ X Z' (k+1)):=by
    intro w' ve vl vm G
    have:=hD.step hkn hOK hM1 hM3 G
    rw [hZl] at this
    exact ⟨_,this⟩
   clear hOK hM1 hM2 hM3 hD hxk D hmem hkz hZl
   go_wp2_with fail
   refine Calls.mono HCL.out ?_
   rintro e w2 ⟨rfl,ve,vl,vm,G⟩
   obtain ⟨Z',D'⟩:=HN.out w2 ve vl vm G
   have HD':Hid _:=D'
   clear D' G
   dsimp only
   go_wp2
   go_roundg (X.length-(k+1))
   case measure=>omega
   case rel=>exact ⟨k+1,Z',rfl,by omega,by go_num,HD'.out⟩
  ·have hke:k=X.length:=by omega
   subst hke
   have hbx:Below wr.heap.size wr (wr.alloc (.cells #[.slice ta X.length tc] 232)):=(Below.refl _ _).alloc (Nat.le_refl _) _
   have HD:Hid _:=D
   clear D
   go_wp2
   go_ret
   have D:=HD.out
   refine ⟨D.bel.trans (hbx.mono D.bel.size),wr.heap.size,⟨ta,X.length,tc⟩,Z,rfl,heap_alloc_new _ _,D.bel.trans (hbx.mono D.bel.size),D.len,aR D.row hbx,fun i h h' hi => ?_,D.rest⟩
   obtain ⟨h1,M,h2⟩:=D.done i h h' hi
   exact ⟨h1,M,h2.ay hbx⟩
end
section
open Go.RowKit Go.Proofs Go.Shelf
structure wt (w:World):Prop where
 lib:rY w
 errT:w.cell? ⟨0,0,none⟩=some (.iface 269 (.agg #[.pointer (some ⟨9,101,none⟩)]))
 t6:TabAt 2 Lib.deBruijn64tab w
 t5:TabAt 1 Lib.deBruijn32tab w
 k5:∃ c t fz,w.heap[1]?=some (.cells c t fz)
 lw:Pg.Lw w.heap.size
theorem wt.ay {w w':World} (h:wt w) (hb:Below w.heap.size w w'):wt w' :=
 ⟨h.lib.ay hb,(World.cell?_of_block (hb.block _ (World.block_lt_of_cell? _ _ h.errT))).trans h.errT,Pg.fc h.lw hb h.t6,Pg.bM h.lw hb h.t5,by
  obtain ⟨c,t,fz,e⟩:=h.k5
  exact ⟨c,t,fz,(hb.block _ h.lw.g5).trans e⟩,⟨Nat.lt_of_lt_of_le h.lw.g hb.size,Nat.lt_of_lt_of_le h.lw.g5 hb.size⟩⟩
namespace Pg
def qo (a:Ref.Act):PA:=if a.how.toList == Ref.eh then .raise a.event else if a.how.toList == Ref.eG then .cancel a.id else if a.id.size=0 then .send a.event a.delay.toNat else .sendAs a.event a.delay.toNat a.id
theorem FH {a:Ref.Act} (hd:0≤a.delay):(qo a).v=bp a:=by
 have e:((a.delay.toNat:Nat):Int)=a.delay:=by omega
 unfold qo bp
 split
 ·rfl
 ·split
  ·rfl
  ·split
   ·show Value.iface _ (.agg #[.string a.event,.int .u64 ((a.delay.toNat:Nat):Int)])=_
    rw [e];rfl
   ·show Value.iface _ (.agg #[.string a.event,.int .u64 ((a.delay.toNat:Nat):Int),.string a.id])=_
    rw [e];rfl
theorem CK {a:Ref.Act} (h:Ref.tV a):0≤a.delay:=by
 obtain ⟨n,e,_⟩:=h.delay
 omega
theorem yq {w:World} {v:Ref.Sl} {A:List Ref.Act} (h:w.ownsRow 0 324 1 v.v A.length (A.map bp)) (hG:Pro.dA A) (hk:∀ a∈A,(qo a).ok):du w w.heap.size v (A.map qo):=by
 obtain ⟨va,vn,vc⟩:=v
 have hl:=hG.len
 refine ⟨?_,?_,fun k x hx => ?_,fun x hx => ?_,by rw [List.length_map];omega⟩
 ·rw [List.length_map]
  rcases h.2 with ⟨e,h0⟩ | ⟨g,cap,cur,e,_⟩
  ·simp [Ref.Sl.v] at e;rw [h0];exact e.2.1
  ·simp [Ref.Sl.v] at e;exact e.2.1
 ·rw [List.length_map]
  rcases h.2 with ⟨e,h0⟩ | ⟨g,cap,cur,e,_,_,hle,_⟩
  ·omega
  ·simp [Ref.Sl.v] at e;rw [e.2.2];exact hle
 ·rw [List.getElem?_map] at hx
  obtain ⟨a,ha,rfl⟩:∃ a,A[k]?=some a∧qo a=x:=by
   cases hq:A[k]? with
   | none=>rw [hq] at hx;cases hx
   | some a=>rw [hq] at hx;exact ⟨a,rfl,by simpa using hx⟩
  have hk:=(List.getElem?_eq_some_iff.1 ha).1
  rcases h.2 with ⟨_,h0⟩ | ⟨g,cap,cur,e,_,hg,hle,_,_,h4⟩
  ·omega
  ·simp [Ref.Sl.v] at e
   refine ⟨g,e.1,(Array.getElem?_eq_some_iff.1 hg).1,?_⟩
   rw [cell_of_row w g k _ _ _ hg,FH (CK (hG.small a (List.mem_of_getElem? ha)))]
   have h5:(cur.toList.take (A.length*1))[k]?=(A.map bp)[k]?:=by rw [h4]
   rw [List.getElem?_take,if_pos (by omega)] at h5
   rw [← Array.getElem?_toList,h5,List.getElem?_map,ha]
   rfl
 ·obtain ⟨a,ha,rfl⟩:=List.mem_map.1 hx
  exact hk a ha
theorem PA.Gy {x y:PA} (h:x.v=y.v):x=y:=by
 cases x <;> cases y <;> simp [PA.v] at h <;> (try obtain ⟨rfl,h⟩:=h) <;> (try subst h) <;> (try rfl)
 ·rw [show (_:Nat)=_ from Int.ofNat.inj h]
 ·obtain ⟨h1,rfl⟩:=h
  rw [show (_:Nat)=_ from Int.ofNat.inj h1]
theorem du.uniq {W:World} {lo:Nat} {v:Ref.Sl} {L L':List PA} (h:du W lo v L) (k:du W lo v L'):L=L':=by
 have hl:L.length=L'.length:=by rw [← h.n,← k.n]
 apply List.ext_getElem?
 intro i
 by_cases hi:i<L.length
 ·obtain ⟨x,hx⟩:∃ x,L[i]?=some x:=⟨_,List.getElem?_eq_getElem hi⟩
  obtain ⟨y,hy⟩:∃ y,L'[i]?=some y:=⟨_,List.getElem?_eq_getElem (by omega)⟩
  obtain ⟨a,e1,_,e2⟩:=h.cell i x hx
  obtain ⟨b,e3,_,e4⟩:=k.cell i y hy
  rw [e1] at e3
  cases e3
  rw [e2] at e4
  rw [hx,hy,PA.Gy (Option.some.inj e4)]
 ·rw [List.getElem?_eq_none (by omega),List.getElem?_eq_none (by omega)]
def vY (x:Pro.DS):MS:=⟨Pro.ao x.s,x.s.name,x.s.depth,x.s.up,x.vp,x.ve,x.vl,x.vm⟩
def nh (y:Pro.PV):MV:=⟨y.m.event,y.m.after,y.m.delay,y.m.to,y.v⟩
theorem FB {w wr:World} {sv:Ref.Sl} {X Z:List Pro.DS} (D:km w wr sv X Z X.length):∃ MM:Nat→List Pro.PV,∀ i,(∀ z,Z[i]?=some z→fo wr z (MM i))∧(Z[i]?=none→MM i=[]):=by
 have h:∀ i:Nat,∃ M:List Pro.PV,(∀ z,Z[i]?=some z→fo wr z M)∧(Z[i]?=none→M=[]):=fun i=>by
  cases hz:Z[i]? with
  | none=>exact ⟨[],fun z e=>(by cases e),fun _=>rfl⟩
  | some z =>
   obtain ⟨hi,rfl⟩:=List.getElem?_eq_some_iff.1 hz
   have hi':i<X.length:=by have:=D.len;omega
   obtain ⟨_,M,hM⟩:=D.done i hi hi' hi'
   exact ⟨M,fun z e=>(by cases e;exact hM),fun e=>(by cases e)⟩
 exact Classical.axiomOfChoice h
def vOf (MM:Nat→List Pro.PV) (i:Nat):List MV:=(MM i).map nh
theorem Ff {w wr:World} {cb:Nat} {sv:Ref.Sl} {X Z:List Pro.DS} (D:km w wr sv X Z X.length) (hcb:wr.heap[cb]?=some (.cells #[.slice sv.a sv.n sv.c] 232 (0,0))) (hZ:0<Z.length) {MM:Nat→List Pro.PV} (hM:∀ i,(∀ z,Z[i]?=some z→fo wr z (MM i))∧(Z[i]?=none→MM i=[])):∃ cg cc,ChM wr cb cg cc (Z.map vY) (vOf MM):=by
 obtain ⟨sa,sn,sc⟩:=sv
 rcases D.row.2 with ⟨_,h0⟩ | ⟨g,cap,cur,hv,_,hg,_⟩
 ·omega
 simp [Ref.Sl.v] at hv
 obtain ⟨rfl,rfl,rfl⟩:=hv
 have hrow:Row wr 242 8 Pro.aK (.slice (some ⟨g,0,none⟩) Z.length sc) Z:=aI D.row (Nat.zero_le _)
 refine ⟨g,sc,⟨by rw [List.length_map];exact hcb,⟨cur,(0,0),hg⟩,fun i x hx j v hj => ?_,fun i x hx => ?_⟩⟩
 ·rw [List.getElem?_map] at hx
  cases hz:Z[i]? with
  | none=>rw [hz] at hx;cases hx
  | some z =>
   rw [hz] at hx
   obtain rfl:vY z=x:=by simpa using hx
   obtain ⟨hi,rfl⟩:=List.getElem?_eq_some_iff.1 hz
   have hj':(Pro.aK Z[i])[j]?=some v:=hj
   have hjl:j<8:=by have:=(List.getElem?_eq_some_iff.1 hj').1;simpa [Pro.aK] using this
   exact (Row.cell (n:=8) (f:=Pro.aK) (fun _=>rfl) hrow hjl hi).trans hj'
 ·rw [List.getElem?_map] at hx
  cases hz:Z[i]? with
  | none=>rw [hz] at hx;cases hx
  | some z =>
   rw [hz] at hx
   obtain rfl:vY z=x:=by simpa using hx
   have hw:=(hM i).1 z hz
   obtain ⟨s,vp,ve,vl,⟨ma,mn,mc⟩⟩:=z
   have hmr:=hw.moves
   have hvl:(vOf MM i).length=(MM i).length:=by unfold vOf;rw [List.length_map]
   rw [hvl]
   show mn=(MM i).length∧_
   rcases hmr.2 with ⟨e,h0⟩ | ⟨gm,cap,curm,e,_,hgm,hle,_⟩
   ·simp [Ref.Sl.v] at e
    exact ⟨by omega,.inl h0⟩
   ·simp [Ref.Sl.v] at e
    obtain ⟨rfl,rfl,rfl⟩:=e
    refine ⟨rfl,.inr ⟨gm,curm,(0,0),rfl,hle,hgm,fun j m hm a v hv => ?_⟩⟩
    unfold vOf at hm
    rw [List.getElem?_map] at hm
    cases hy:(MM i)[j]? with
    | none=>rw [hy] at hm;cases hm
    | some y =>
     rw [hy] at hm
     obtain rfl:nh y=m:=by simpa using hm
     obtain ⟨hjl,rfl⟩:=List.getElem?_eq_some_iff.1 hy
     have hv':(Pro.bk (MM i)[j])[a]?=some v:=hv
     have hal:a<5:=by have:=(List.getElem?_eq_some_iff.1 hv').1;simpa [Pro.bk] using this
     have hmr':Row wr 295 5 Pro.bk (.slice (some ⟨gm,0,none⟩) (MM i).length mc) (MM i):=hmr
     exact (Row.cell (n:=5) (f:=Pro.bk) (fun _=>rfl) hmr' hal hjl).trans hv'
end Pg
end
end Go.Proofs.YtegmoddppafkfaaGreatDoor
