import Derived.Test.YtkgklodamkkpgaaGreatDoorM10
set_option maxRecDepth 100000
set_option maxHeartbeats 8000000
namespace Go.Proofs.YtkgklodamkkpgaaGreatDoor
variable {zp:Prop}
theorem zc0 (h:zp:=by
 go_enter func141,ntmps141;go_wp2_with fail;refine (aF p num dep x r _ H).mono ?_;rintro e w1 ⟨rfl,ho,H1⟩;have ht1:=ho.ai;clear ho;dsimp only;go_wp2_with fail;refine (j9 p num dep r _ H1 (hv.ai ht1)).mono ?_;rintro e w2 hq;unfold eA at hq;rw [hn] at hq;obtain ⟨a,n,c,rfl,hown,ht2,H2⟩:=hq;have hown':=aD hown ht1.size;clear hn hown;dsimp only;go_wp2;go_ret;unfold aT;rw [HS.out];exact ⟨_,rfl,⟨a,n,c,rfl,hown'⟩,ht1.trans ht2,H2⟩):zp:=h
theorem zc3 (h:zp:=by
 go_enter func141,ntmps141;go_wp2_with fail;refine (aF p num dep x r _ H).mono ?_;rintro e w1 ⟨rfl,ho,H1⟩;have ht1:=ho.ai;clear ho;dsimp only;go_wp2_with fail;refine (j9 p num dep r _ H1 (hv.ai ht1)).mono ?_;rintro e w2 hq;unfold eA at hq;rw [hn] at hq;obtain ⟨ht,b,h4,h5,rfl⟩:=hq;dsimp only;refine ⟨rfl,?_⟩;unfold aT;rw [HS.out];exact ⟨ht1.trans ht,b,MX ht1.size h4,h5,rfl⟩):zp:=h
theorem zdm (h:zp:=by
 rintro e w2 hq;unfold gN at hq;rw [hn] at hq;obtain ⟨a,n,c,rfl,hown,ht2,H2⟩:=hq;have hown':=aD hown ht4.size;clear hn hown;dsimp only;go_wp2;go_ret;unfold aT;rw [HS.out];exact ⟨_,rfl,⟨a,n,c,rfl,hown'⟩,ht4.trans ht2,H2⟩):zp:=h
theorem zdA (h:zp:=by
 rintro e w2 hq;unfold gN at hq;rw [hn] at hq;obtain ⟨ht,b,h4,h5,rfl⟩:=hq;dsimp only;refine ⟨rfl,?_⟩;unfold aT;rw [HS.out];exact ⟨ht4.trans ht,b,MX ht4.size h4,h5,rfl⟩):zp:=h
theorem zdH (h:zp:=by
 rintro e w2 ⟨hb,b,h4,h5,rfl⟩;dsimp only;refine ⟨rfl,?_⟩;rw [HPost.out];simp only;rw [HS.out];exact ⟨hbw.trans (hb.mono hbs),b,MX hbs h4,h5,rfl⟩):zp:=h
theorem zdK (h:zp:=by
 rintro e w2 hq;obtain ⟨ht,b,h4,h5,rfl⟩:=hq;dsimp only;refine ⟨rfl,?_⟩;unfold aT;rw [HS.out];exact ⟨ht1.trans ht,b,MX ht1.size h4,h5,rfl⟩):zp:=h
theorem zdN (h:zp:=by
 obtain ⟨ht,b,h4,h5,rfl⟩:=hq;dsimp only;refine ⟨rfl,?_⟩;unfold aT;rw [HS.out];exact ⟨ht1.trans ht,b,MX ht1.size h4,h5,rfl⟩):zp:=h
theorem zdQ (h:zp:=by
 rw [rG];cases cI (y::r) with
 | none=>rfl
 | some q =>
  obtain ⟨A,t⟩:=q;cases t with
  | nil=>simp [aE,ex]
  | cons _ _=>rfl):zp:=h
theorem zdV (h:zp:=by
 rintro e w2 ⟨rfl,ht2,H2⟩;dsimp only;go_wp2;go_ret;unfold aT;rw [HS.out];exact ⟨_,rfl,rfl,ht1.trans ht2,H2⟩):zp:=h
theorem zd8 (h:zp:=by
 simp only [if_true];cases gw r with
 | none=>rfl
 | some q=>obtain ⟨⟨_,_⟩,t⟩:=q;cases t <;> rfl):zp:=h
theorem zeg (h:zp:=by
 rw [dB];cases hp:Ref.plain y
 ·simp
 ·cases r with
  | nil=>simp [aE,bs,ex]
  | cons _ _=>simp):zp:=h
theorem zeq (h:zp:=by
 cases gw r with
 | none=>rfl
 | some q=>obtain ⟨q,t⟩:=q;cases t <;> rfl):zp:=h
theorem zes (h:zp:=by
 split
 ·exact ⟨h0 0,h0 1,jb,fun a ha=>absurd ha zad,Ni _⟩
 ·exact dA):zp:=h
theorem zey (h:zp:=by
 rw [Lib.splitB_miss _ _ _ _ hm,pj c _ (by rw [<- hone];exact hm)];rfl):zp:=h
theorem zeB (h:zp:=by
 go_meet
 case rel=>exact ⟨false,rfl,M1,ht1,.inr ⟨rfl,zaL,H1⟩⟩):zp:=h
theorem zeT (h:zp:=by
 cases Ref.cC d
 ·rfl
 ·simp only [if_true];rw [wF,hy];rfl):zp:=h
theorem zfv (h:zp:=by
 split
 ·rfl
 ·split <;> rfl):zp:=h
theorem zaF (h:zp:=by simp [World.frozen?,l5]):zp:=h
theorem zaL (h:zp:=by first | rfl | trivial):zp:=h
theorem zbw (h:zp:=by rw [hw1];exact ((MY _ _).alloc (MR _) _).alloc (by simp) _):zp:=h
theorem zbK (h:zp:=by rw [HPn.out];exact HSYN.out):zp:=h
theorem zbP (h:zp:=by unfold Hid Pro.bk;rw [hp]):zp:=h
theorem zbW (h:zp:=by show A.length<=_;omega):zp:=h
theorem zbZ (h:zp:=by unfold Hid;rw [Pro.bj,Ref.cU,h1,Ref.aM,h2,Ref.b7,h3,Ref.bh,h4,Ref.cOn,h5,Ref.iK,h6,Ref.kZ,h7,Ref.o9,h8,hn];rfl):zp:=h
theorem zb0 (h:zp:=by unfold Hid;rw [Pro.bj,Ref.cU,h1,Ref.aM,h2,Ref.b7,h3,Ref.bh,h4,Ref.cOn,h5,Ref.iK,h6,he];simp only;rw [hn];rfl):zp:=h
theorem zb1 (h:zp:=by unfold Hid;rw [Pro.bj,Ref.cU,h1,Ref.aM,h2,Ref.b7,h3,Ref.bh,h4,Ref.cOn,h5,Ref.iK,h6,Ref.kZ,h7,hn];rfl):zp:=h
theorem zb2 (h:zp:=by unfold Hid;rw [Pro.bj,Ref.cU,h1,Ref.aM,h2,Ref.b7,h3,Ref.bh,h4,Ref.cOn,h5,he];simp only;rw [hn];rfl):zp:=h
theorem zb9 (h:zp:=by unfold Hid;rw [Pro.bj,Ref.cU,h1,Ref.aM,h2,Ref.b7,h3,Ref.bh,h4,hn];rfl):zp:=h
theorem zcd (h:zp:=by unfold Hid;rw [Pro.bj,Ref.cU,h1,Ref.aM,h2,Ref.b7,h3,hn];rfl):zp:=h
theorem zck (h:zp:=by unfold Hid;rw [Pro.bj,Ref.cU,h1,Ref.aM,h2,hn];rfl):zp:=h
open Tryz
variable {a b x c d y s:ByteArray} {l P r:List ByteArray} {n k i:Nat} {A:List Act} {S S':List Ref.State} {w w':World} {vs:List Value}
section
open Go.RowKit
theorem Ka:Tryz.f186.results=#[.cell 4 355]:=rfl
theorem oL:(Tryz.prog.info? 355).map (·.size)=some 7:=zab
namespace Pro
def yz:ByteArray:=⟨#[116,111]⟩
def pTo:List ByteArray->Option (ByteArray×List ByteArray)
 | []=>some (ByteArray.empty,[])
 | y::r=>if y.toList == yz.toList then pOf Ref.plain r else some (ByteArray.empty,y::r)
def gw (l:List ByteArray):Option ((ByteArray×List Ref.Act)×List ByteArray):=match pTo l with
 | none=>none
 | some (t,r)=>(a7 r).map fun q=>((t,q.1),q.2)
end Pro
def gN (p:Nat) (num dep:Int) (ev:ByteArray) (af:Bool) (d:Int) (l:List ByteArray) (w:World) (e:Ending) (w':World):Prop:=match Pro.gw l with
 | none=>cT p 2 num w e w'
 | some ((t,A),r)=>∃ a n c,e = .returned (.agg #[.int .i64 num,.int .i64 dep,.string ev,.bool af,.int .u64 d,.string t,.slice a n c])/\w'.ownsRow w.heap.size 250 1 (.slice a n c) A.length (A.map bg)/\ak p w w'/\ah w' p num dep r
structure wm (w w1:World) (ev t:ByteArray) (af:Bool) (d:Int):Prop where
 m:w1.heap[w.heap.size]?=some (.cells #[ev,af,.int .u64 d,t,.slice none 0 0] 239 (0,0))
 l:w1.heap[w.heap.size+1]?=some (.cells #[(0:Int),(0:Int),ByteArray.empty,false,.int .u64 0,ByteArray.empty,.slice none 0 0] 355 (0,0))
theorem n9 (p:Nat) (num dep:Int) (ev:ByteArray) (af:Bool) (d:Int) (l:List ByteArray) (w:World) (H:ah w p num dep l) (hv:bI p w) :
  () 186 #[p,.agg #[ev,af,.int .u64 d,ByteArray.empty,.slice none 0 0]] w (gN p num dep ev af d l w):=by
 have hpl:=H.lt;have HPM:Hid (Pro.gw l=match Pro.pTo l with | none=>none | some (t,r)=>(Pro.a7 r).map fun q=>((t,q.1),q.2)):=rfl;go_enter func186,ntmps186
 go_upto_region 1 with fail
 obtain ⟨w1,hw1⟩:∃ y,y=(w.alloc (.cells #[ev,af,.int .u64 d,ByteArray.empty,.slice none 0 0] 239)).alloc (.cells #[(0:Int),(0:Int),ByteArray.empty,false,.int .u64 0,ByteArray.empty,.slice none 0 0] 355):=⟨_,rfl⟩;change Code.wp _ _ _ _ ((w.alloc (.cells #[ev,af,.int .u64 d,ByteArray.empty,.slice none 0 0] 239)).alloc (.cells #[(0:Int),(0:Int),ByteArray.empty,false,.int .u64 0,ByteArray.empty,.slice none 0 0] 355));rw [<- hw1];have ht1:ak p w w1:=by rw [hw1];exact ((ak.refl p w).alloc _).alloc _
 have H1:ah w1 p num dep l:=by rw [hw1];exact (H.alloc _).alloc _
 have M1:wm w w1 ev ByteArray.empty af d:=by rw [hw1];exact ⟨eN _ _ _,bR _ _ _⟩
 clear hw1;cases htl:Pro.pTo l with
 | none =>
  cases l with
  | nil=>cases htl
  | cons y r =>
   cases hy:(y.toList == Pro.yz.toList)
   ·rw [Pro.pTo,hy] at htl;cases htl
   ·have hr:Pro.pOf Ref.plain r=none:=by rw [Pro.pTo,hy] at htl;exact htl
    have HS:Hid (Pro.gw (y::r)=none):=by unfold Hid;rw [HPM.out,htl]
    clear HPM;go_wp2_with fail;refine (jT p num dep y r Pro.yz _ H1 hy).mono ?_;rintro e w2 ⟨rfl,ho2,H2⟩;have ht2:=ht1.trans ho2.ai;dsimp only;go_wp2_with fail;refine (ee p num dep r _ H2 (hv.ai ht2)).mono ?_;rintro e w3 h3;rw [hr] at h3;obtain ⟨ht3,b,h4,h5,rfl⟩:=h3;dsimp only;refine ⟨rfl,?_⟩;unfold gN;rw [HS.out];exact ⟨ht2.trans ht3,b,MX ht2.size h4,h5,rfl⟩
 | some q =>
  obtain ⟨t,r⟩:=q;have HS:Hid (Pro.gw l=(Pro.a7 r).map fun q=>((t,q.1),q.2)):=by unfold Hid;rw [HPM.out,htl]
  clear HPM
  go_cut [6] (fun c wx=>∃ b:Bool,c = .bool b/\wm w wx ev ByteArray.empty af d/\ak p w wx/\((b=true/\∃ r0,Pro.pOf Ref.plain r0=some (t,r)/\ah wx p num dep r0)\/(b=false/\t=ByteArray.empty/\ah wx p num dep r)))
  case first =>
   cases l with
   | nil =>
    cases htl
    go_wp2_with (go_at_call 219;refine (skip_none p num dep Pro.yz _ H1).mono ?_;rintro e w9 ⟨rfl,hw9⟩;rw [hw9];clear hw9 w9);exact zeB
   | cons y r1 =>
    cases hy:(y.toList == Pro.yz.toList)
    ·rw [Pro.pTo,hy] at htl;cases htl
     go_wp2_with (go_at_call 219;refine (qM p num dep y r1 Pro.yz _ H1 hy).mono ?_;rintro e w9 ⟨rfl,hw9⟩;rw [hw9];clear hw9 w9);exact zeB
    ·have hr:Pro.pOf Ref.plain r1=some (t,r):=by rw [Pro.pTo,hy] at htl;exact htl
     go_wp2_with (go_at_call 219;refine (jT p num dep y r1 Pro.yz _ H1 hy).mono ?_;rintro e w2 ⟨rfl,ho2,H2⟩);go_meet
     case rel=>exact ⟨true,rfl,⟨(ho2.block _ zaa).trans M1.m,(ho2.block _ zaa).trans M1.l⟩,ht1.trans ho2.ai,.inl ⟨rfl,r1,hr,H2⟩⟩
  case rest =>
   obtain ⟨b,rfl,M2,ht2,hbb⟩:=hcut;clear M1 H1 ht1;obtain ⟨w2,hw2⟩:∃ y:World,y=wc:=⟨wc,rfl⟩;subst hw2
   go_upto_if 6 with fail
   go_cut [] (fun wx=>wm w wx ev t af d/\ak p w wx/\ah wx p num dep r)
   case first =>
    rcases hbb with ⟨rfl,r0,hr0,H2⟩ | ⟨rfl,rfl,H2⟩
    ·go_wp2_with fail;refine (ee p num dep r0 _ H2 (hv.ai ht2)).mono ?_;rintro e w3 h3;rw [hr0] at h3;obtain ⟨rfl,ht3,H3⟩:=h3;have hs2:=ht2.size;have lm:=(MQ.1 M2.m).1;have ll:=(MQ.1 M2.l).1;have m3:=(ht3.block _ lm zaa).trans M2.m;have l3:=(ht3.block _ ll zaa).trans M2.l;have k3:w3.cell? ⟨w,3,none⟩=some ↑ByteArray.empty:=by rw [M0 w3 _ 3 _ _ _ m3];rfl
     have f3:w3.frozen? ⟨w,3,none⟩=false:=by simp [World.frozen?,m3]
     dsimp only;go_wp2;go_meet
     case rel =>
      have oo:=aa w3 w 3 (.string t);refine ⟨⟨?_,(oo.block _ zaa).trans l3⟩,(ht2.trans ht3).iA oo (MR _),H3.only oo hpl⟩;rw [Nn w3 _ 3 _ _ _ m3];rfl
    ·go_wp2;go_meet
     case rel=>exact ⟨M2,ht2,H2⟩
   case rest =>
    obtain ⟨M3,ht3,H3⟩:=hcut;clear M2 ht2 hbb;obtain ⟨w3,hw3⟩:∃ y:World,y=wc:=⟨wc,rfl⟩;subst hw3;go_wp2_with fail;refine (iZ p num dep r _ H3 (hv.ai ht3)).mono ?_;rintro e w4 h4;unfold gL at h4;cases ha:Pro.a7 r with
    | none =>
     rw [ha] at h4;have HS2:Hid (Pro.gw l=none):=by unfold Hid;rw [HS.out,ha];rfl
     obtain ⟨ht4,b,h5,h6,rfl⟩:=h4;dsimp only;refine ⟨rfl,?_⟩;unfold gN;rw [HS2.out];exact ⟨ht3.trans ht4,b,MX ht3.size h5,h6,rfl⟩
    | some q =>
     obtain ⟨A,r'⟩:=q;rw [ha] at h4;have HS2:Hid (Pro.gw l=some ((t,A),r')):=by unfold Hid;rw [HS.out,ha];rfl
     obtain ⟨a,n,c,rfl,hown,ht4,H4⟩:=h4;have hs3:=ht3.size;have lm:=(MQ.1 M3.m).1;have ll:=(MQ.1 M3.l).1;have m4:=(ht4.block _ lm zaa).trans M3.m;have l4:=(ht4.block _ ll zaa).trans M3.l;have hown4:=aD hown hs3;have k4:w4.cell? ⟨w,4,none⟩=some (.slice none 0 0):=by rw [M0 w4 _ 4 _ _ _ m4];rfl
     have f4:w4.frozen? ⟨w,4,none⟩=false:=by simp [World.frozen?,m4]
     have o5:=aa w4 w 4 (.slice a n c);have m5:=Nn w4 w 4 _ _ (.slice a n c) m4;have l5:=(o5.block (w.heap.size+1) zaa).trans l4;have hown5:=mi hown4 o5 m4 zac;have ht5:=(ht3.trans ht4).iA o5 (MR _);have H5:=H4.only o5 hpl;clear HS ha M3 ht3 H3 hown ht4 H4 m4 l4 hown4 o5;dsimp only
     go_upto_region 4 with fail
     generalize w4.setCell ⟨w,4,none⟩ (.slice a n c)=w5 at *;clear k4 f4;obtain ⟨c0,c1⟩:=H5.cells;have y0:w5.cell? w=some ↑ev:=by rw [M0 w5 _ 0 _ _ _ m5];rfl
     have y1:w5.cell? ⟨w,1,none⟩=some (.bool af):=by rw [M0 w5 _ 1 _ _ _ m5];rfl
     have y2:w5.cell? ⟨w,2,none⟩=some (.int .u64 d):=by rw [M0 w5 _ 2 _ _ _ m5];rfl
     have y3:w5.cell? ⟨w,3,none⟩=some ↑t:=by rw [M0 w5 _ 3 _ _ _ m5];rfl
     have y4:w5.cell? ⟨w,4,none⟩=some (.slice a n c):=by rw [M0 w5 _ 4 _ _ _ m5];rfl
     have z0:w5.cell? ⟨w.heap.size+1,0,none⟩=some ↑(0:Int):=by rw [M0 w5 _ 0 _ _ _ l5];rfl
     have q0:w5.frozen? ⟨w.heap.size+1,0,none⟩=false:=zaF;have z1:w5.cell? ⟨w.heap.size+1,1,none⟩=some ↑(0:Int):=by rw [M0 w5 _ 1 _ _ _ l5];rfl
     have q1:w5.frozen? ⟨w.heap.size+1,1,none⟩=false:=zaF;have z2:w5.cell? ⟨w.heap.size+1,2,none⟩=some ↑ByteArray.empty:=by rw [M0 w5 _ 2 _ _ _ l5];rfl
     have q2:w5.frozen? ⟨w.heap.size+1,2,none⟩=false:=zaF;have z3:w5.cell? ⟨w.heap.size+1,3,none⟩=some (.bool false):=by rw [M0 w5 _ 3 _ _ _ l5];rfl
     have q3:w5.frozen? ⟨w.heap.size+1,3,none⟩=false:=zaF;have z4:w5.cell? ⟨w.heap.size+1,4,none⟩=some (.int .u64 0):=by rw [M0 w5 _ 4 _ _ _ l5];rfl
     have q4:w5.frozen? ⟨w.heap.size+1,4,none⟩=false:=zaF;have z5:w5.cell? ⟨w.heap.size+1,5,none⟩=some ↑ByteArray.empty:=by rw [M0 w5 _ 5 _ _ _ l5];rfl
     have q5:w5.frozen? ⟨w.heap.size+1,5,none⟩=false:=zaF;have z6:w5.cell? ⟨w.heap.size+1,6,none⟩=some (.slice none 0 0):=by rw [M0 w5 _ 6 _ _ _ l5];rfl
     have q6:w5.frozen? ⟨w.heap.size+1,6,none⟩=false:=zaF;have hne1:¬ p=w.heap.size+1:=zaa;have hne2:¬ w.heap.size+1=p:=zaa;have hne3:¬ w.heap.size=w.heap.size+1:=zaa;have HH:Hid (w5.ownsRow w 250 1 (.slice a n c) A.length (A.map bg)/\ak p w w5/\ah w5 p num dep r'):=⟨hown5,ht5,H5⟩;have HL5:Hid _:=l5;clear m5 l5 hown5 ht5 H5;refine dU 6 zab zab ?_;simp only [List.take_succ_cons,List.take_zero,List.drop_succ_cons,List.drop_zero]
     repeat still_step
     refine Ov ?_;refine eP rfl 355 (.tmp 4) (.tmp 18) rfl _ 355 _ _ rfl rfl (show w5.drew.heap[w.heap.size+1]?=_ from HL5.out) oL rfl rfl ?_;go_wp2;have G2:=(gS w5.drew (w.heap.size+1) #[(num:Int),(dep:Int),ev,af,.int .u64 d,t,.slice a n c]).J5;refine dP Ka _ 355 _ (0,0) _ rfl (RO _ _ _ _ _ _ (show w5.drew.heap[w.heap.size+1]?=_ from HL5.out)) underlying355 rfl oL rfl ?_;unfold gN;rw [HS2.out];exact ⟨a,n,c,rfl,mi HH.out.1 G2 HL5.out zac,HH.out.2.1.iA G2 zaa,HH.out.2.2.only G2 zaa⟩
namespace Pro
inductive PL where
 | state (k:Int) (name:ByteArray)
 | move (ev:ByteArray) (af:Bool) (d:Int) (dst:ByteArray) (A:List Ref.Act)
 | enter (A:List Ref.Act)
 | leave (A:List Ref.Act)
def bj (num:Nat):List ByteArray->Option (PL×List ByteArray)
 | []=>none
 | x::r =>
  if x.toList == Ref.cU then (pOf Ref.plain r).map fun q=>(.state 0 q.1,q.2)
  else if x.toList == Ref.aM then (pOf Ref.plain r).map fun q=>(.state 1 q.1,q.2)
  else if x.toList == Ref.b7 then (pOf Ref.plain r).map fun q=>(.state 2 q.1,q.2)
  else if x.toList == Ref.bh then (de r).map fun q=>(.state q.1.2 q.1.1,q.2)
  else if x.toList == Ref.cOn then match pOf Ref.b8 r with
   | none=>none
   | some (ev,r1)=>(gw r1).map fun q=>(.move ev false 0 q.1.1 q.1.2,q.2)
  else if x.toList == Ref.iK then match gD r with
   | none=>none
   | some (d,r1)=>(gw r1).map fun q=>(.move (Ref.bM++Ref.dec num) true d q.1.1 q.1.2,q.2)
  else if x.toList == Ref.kZ then (cI r).map fun q=>(.enter q.1,q.2)
  else if x.toList == Ref.o9 then (cI r).map fun q=>(.leave q.1,q.2)
  else none
end Pro
def eW (w:World) (base:Nat) (num dep:Int):Pro.PL->Value->Prop
 | .state k n,v=>v = .iface 351 (.agg #[.int .i64 num,.int .i64 dep,.int .i64 k,.string n])
 | .move ev af d t A,v=>∃ a n c,v = .iface 355 (.agg #[.int .i64 num,.int .i64 dep,.string ev,.bool af,.int .u64 d,.string t,.slice a n c])/\w.ownsRow base 250 1 (.slice a n c) A.length (A.map bg)
 | .enter A,v=>∃ a n c,v = .iface 362 (.agg #[.int .i64 num,.int .i64 dep,.slice a n c])/\w.ownsRow base 250 1 (.slice a n c) A.length (A.map bg)
 | .leave A,v=>∃ a n c,v = .iface 363 (.agg #[.int .i64 num,.int .i64 dep,.slice a n c])/\w.ownsRow base 250 1 (.slice a n c) A.length (A.map bg)
def aT (p num:Nat) (dep:Int) (l:List ByteArray) (w:World) (e:Ending) (w':World):Prop:=match Pro.bj num l with
 | none=>cT p 2 num w e w'
 | some (L,r)=>∃ v,e = .returned v/\eW w' w.heap.size num dep L v/\ak p w w'/\ah w' p num dep r
theorem BQ (p num:Nat) (dep:Int) (x:ByteArray) (r:List ByteArray) (w:World) (H:ah w p num dep (x::r)) (hv:bI p w) (h1:(x.toList == [115,116,97,116,101])=true) :
  () 141 #[p] w (aT p num dep (x::r) w):=by
 cases hn:Pro.pOf Ref.plain r with
 | none =>
  have HS:Hid (Pro.bj num (x::r)=none):=by unfold Hid;rw [Pro.bj,Ref.cU,h1,hn];rfl
  go_enter func141,ntmps141;go_wp2_with fail;refine (aF p num dep x r _ H).mono ?_;rintro e w1 ⟨rfl,ho,H1⟩;have ht1:=ho.ai;clear ho;dsimp only;go_wp2_with fail;refine (oQ p num dep 0 r _ H1 (hv.ai ht1) hn).mono ?_;exact zdK
 | some q =>
  obtain ⟨n,r'⟩:=q;have HS:Hid (Pro.bj num (x::r)=some (.state 0 n,r')):=by unfold Hid;rw [Pro.bj,Ref.cU,h1,hn];rfl
  go_enter func141,ntmps141;go_wp2_with fail;refine (aF p num dep x r _ H).mono ?_;rintro e w1 ⟨rfl,ho,H1⟩;have ht1:=ho.ai;clear ho;dsimp only;go_wp2_with fail;refine (my p num dep 0 r r' n _ H1 (hv.ai ht1) hn).mono ?_;exact zdV
theorem tW (p num:Nat) (dep:Int) (x:ByteArray) (r:List ByteArray) (w:World) (H:ah w p num dep (x::r)) (hv:bI p w) (h1:(x.toList == [115,116,97,116,101])=false) (h2:(x.toList == [112,97,114,97,108,108,101,108])=true) :
  () 141 #[p] w (aT p num dep (x::r) w):=by
 cases hn:Pro.pOf Ref.plain r with
 | none =>
  have HS:Hid (Pro.bj num (x::r)=none):=zck;go_enter func141,ntmps141;go_wp2_with fail;refine (aF p num dep x r _ H).mono ?_;rintro e w1 ⟨rfl,ho,H1⟩;have ht1:=ho.ai;clear ho;dsimp only;go_wp2_with fail;refine (oQ p num dep 1 r _ H1 (hv.ai ht1) hn).mono ?_;exact zdK
 | some q =>
  obtain ⟨n,r'⟩:=q;have HS:Hid (Pro.bj num (x::r)=some (.state 1 n,r')):=zck;go_enter func141,ntmps141;go_wp2_with fail;refine (aF p num dep x r _ H).mono ?_;rintro e w1 ⟨rfl,ho,H1⟩;have ht1:=ho.ai;clear ho;dsimp only;go_wp2_with fail;refine (my p num dep 1 r r' n _ H1 (hv.ai ht1) hn).mono ?_;exact zdV
theorem BN (p num:Nat) (dep:Int) (x:ByteArray) (r:List ByteArray) (w:World) (H:ah w p num dep (x::r)) (hv:bI p w) (h1:(x.toList == [115,116,97,116,101])=false) (h2:(x.toList == [112,97,114,97,108,108,101,108])=false) (h3:(x.toList == [102,105,110,97,108])=true) :
  () 141 #[p] w (aT p num dep (x::r) w):=by
 cases hn:Pro.pOf Ref.plain r with
 | none =>
  have HS:Hid (Pro.bj num (x::r)=none):=zcd;go_enter func141,ntmps141;go_wp2_with fail;refine (aF p num dep x r _ H).mono ?_;rintro e w1 ⟨rfl,ho,H1⟩;have ht1:=ho.ai;clear ho;dsimp only;go_wp2_with fail;refine (oQ p num dep 2 r _ H1 (hv.ai ht1) hn).mono ?_;exact zdK
 | some q =>
  obtain ⟨n,r'⟩:=q;have HS:Hid (Pro.bj num (x::r)=some (.state 2 n,r')):=zcd;go_enter func141,ntmps141;go_wp2_with fail;refine (aF p num dep x r _ H).mono ?_;rintro e w1 ⟨rfl,ho,H1⟩;have ht1:=ho.ai;clear ho;dsimp only;go_wp2_with fail;refine (my p num dep 2 r r' n _ H1 (hv.ai ht1) hn).mono ?_;exact zdV
theorem xk (p num:Nat) (dep:Int) (x:ByteArray) (r:List ByteArray) (w:World) (H:ah w p num dep (x::r)) (hv:bI p w) (h1:(x.toList == [115,116,97,116,101])=false) (h2:(x.toList == [112,97,114,97,108,108,101,108])=false) (h3:(x.toList == [102,105,110,97,108])=false) (h4:(x.toList == [104,105,115,116,111,114,121])=true) :
  () 141 #[p] w (aT p num dep (x::r) w):=by
 cases hn:Pro.de r with
 | none =>
  have HS:Hid (Pro.bj num (x::r)=none):=zb9;go_enter func141,ntmps141;go_wp2_with fail;refine (aF p num dep x r _ H).mono ?_;rintro e w1 ⟨rfl,ho,H1⟩;have ht1:=ho.ai;clear ho;dsimp only;go_wp2_with fail;refine (p6 p num dep r _ H1 (hv.ai ht1)).mono ?_;rintro e w2 hq;rw [hn] at hq;exact zdN
 | some q =>
  obtain ⟨⟨n,kk⟩,r'⟩:=q;have HS:Hid (Pro.bj num (x::r)=some (.state kk n,r')):=zb9;go_enter func141,ntmps141;go_wp2_with fail;refine (aF p num dep x r _ H).mono ?_;rintro e w1 ⟨rfl,ho,H1⟩;have ht1:=ho.ai;clear ho;dsimp only;go_wp2_with fail;refine (p6 p num dep r _ H1 (hv.ai ht1)).mono ?_;rintro e w2 hq;rw [hn] at hq;obtain ⟨rfl,ht2,H2⟩:=hq;clear hn;dsimp only;go_wp2;go_ret;unfold aT;rw [HS.out];exact ⟨_,rfl,rfl,ht1.trans ht2,H2⟩
theorem BL (p num:Nat) (dep:Int) (x:ByteArray) (r:List ByteArray) (w:World) (H:ah w p num dep (x::r)) (hv:bI p w) (h1:(x.toList == [115,116,97,116,101])=false) (h2:(x.toList == [112,97,114,97,108,108,101,108])=false) (h3:(x.toList == [102,105,110,97,108])=false) (h4:(x.toList == [104,105,115,116,111,114,121])=false) (h5:(x.toList == [111,110])=false) (h6:(x.toList == [97,102,116,101,114])=false) (h7:(x.toList == [101,110,116,101,114])=true) :
  () 141 #[p] w (aT p num dep (x::r) w):=by
 cases hn:Pro.cI r with
 | none =>
  have HS:Hid (Pro.bj num (x::r)=none):=zb1;exact zc3
 | some q =>
  obtain ⟨A,r'⟩:=q;have HS:Hid (Pro.bj num (x::r)=some (.enter A,r')):=zb1;exact zc0
theorem BO (p num:Nat) (dep:Int) (x:ByteArray) (r:List ByteArray) (w:World) (H:ah w p num dep (x::r)) (hv:bI p w) (h1:(x.toList == [115,116,97,116,101])=false) (h2:(x.toList == [112,97,114,97,108,108,101,108])=false) (h3:(x.toList == [102,105,110,97,108])=false) (h4:(x.toList == [104,105,115,116,111,114,121])=false) (h5:(x.toList == [111,110])=false) (h6:(x.toList == [97,102,116,101,114])=false) (h7:(x.toList == [101,110,116,101,114])=false) (h8:(x.toList == [108,101,97,118,101])=true) :
  () 141 #[p] w (aT p num dep (x::r) w):=by
 cases hn:Pro.cI r with
 | none =>
  have HS:Hid (Pro.bj num (x::r)=none):=zbZ;exact zc3
 | some q =>
  obtain ⟨A,r'⟩:=q;have HS:Hid (Pro.bj num (x::r)=some (.leave A,r')):=zbZ;exact zc0
theorem JO (p num:Nat) (dep:Int) (x:ByteArray) (r:List ByteArray) (w:World) (H:ah w p num dep (x::r)) (hv:bI p w) (h1:(x.toList == [115,116,97,116,101])=false) (h2:(x.toList == [112,97,114,97,108,108,101,108])=false) (h3:(x.toList == [102,105,110,97,108])=false) (h4:(x.toList == [104,105,115,116,111,114,121])=false) (h5:(x.toList == [111,110])=true) :
  () 141 #[p] w (aT p num dep (x::r) w):=by
 cases he:Pro.pOf Ref.b8 r with
 | none =>
  have HS:Hid (Pro.bj num (x::r)=none):=by unfold Hid;rw [Pro.bj,Ref.cU,h1,Ref.aM,h2,Ref.b7,h3,Ref.bh,h4,Ref.cOn,h5,he];rfl
  go_enter func141,ntmps141;go_wp2_with fail;refine (aF p num dep x r _ H).mono ?_;rintro e w1 ⟨rfl,ho,H1⟩;have ht1:=ho.ai;clear ho;dsimp only;go_wp2_with fail;refine (fw p num dep r _ H1 (hv.ai ht1)).mono ?_;rintro e w2 hq;rw [he] at hq;exact zdN
 | some q =>
  obtain ⟨ev,r1⟩:=q;cases hn:Pro.gw r1 with
  | none =>
   have HS:Hid (Pro.bj num (x::r)=none):=zb2;go_enter func141,ntmps141;go_wp2_with fail;refine (aF p num dep x r _ H).mono ?_;rintro e w1 ⟨rfl,ho,H1⟩;have ht1:=ho.ai;clear ho;dsimp only;go_wp2_with fail;refine (fw p num dep r _ H1 (hv.ai ht1)).mono ?_;rintro e w3 h3;rw [he] at h3;obtain ⟨rfl,ht3,H3⟩:=h3;have ht4:=ht1.trans ht3;clear he H1 ht3;dsimp only;go_wp2_with fail;refine (n9 p num dep ev false 0 r1 _ H3 (hv.ai ht4)).mono ?_;exact zdA
  | some q =>
   obtain ⟨⟨t,A⟩,r'⟩:=q;have HS:Hid (Pro.bj num (x::r)=some (.move ev false 0 t A,r')):=zb2;go_enter func141,ntmps141;go_wp2_with fail;refine (aF p num dep x r _ H).mono ?_;rintro e w1 ⟨rfl,ho,H1⟩;have ht1:=ho.ai;clear ho;dsimp only;go_wp2_with fail;refine (fw p num dep r _ H1 (hv.ai ht1)).mono ?_;rintro e w3 h3;rw [he] at h3;obtain ⟨rfl,ht3,H3⟩:=h3;have ht4:=ht1.trans ht3;clear he H1 ht3;dsimp only;go_wp2_with fail;refine (n9 p num dep ev false 0 r1 _ H3 (hv.ai ht4)).mono ?_;exact zdm
theorem BK (p num:Nat) (dep:Int) (x:ByteArray) (r:List ByteArray) (w:World) (H:ah w p num dep (x::r)) (hv:bI p w) (hnum:num<=1073741824) (h1:(x.toList == [115,116,97,116,101])=false) (h2:(x.toList == [112,97,114,97,108,108,101,108])=false) (h3:(x.toList == [102,105,110,97,108])=false) (h4:(x.toList == [104,105,115,116,111,114,121])=false) (h5:(x.toList == [111,110])=false) (h6:(x.toList == [97,102,116,101,114])=true) :
  () 141 #[p] w (aT p num dep (x::r) w):=by
 cases he:Pro.gD r with
 | none =>
  have HS:Hid (Pro.bj num (x::r)=none):=by unfold Hid;rw [Pro.bj,Ref.cU,h1,Ref.aM,h2,Ref.b7,h3,Ref.bh,h4,Ref.cOn,h5,Ref.iK,h6,he];rfl
  go_enter func141,ntmps141;go_wp2_with fail;refine (aF p num dep x r _ H).mono ?_;rintro e w1 ⟨rfl,ho,H1⟩;have ht1:=ho.ai;clear ho;obtain ⟨c0,c1⟩:=H1.cells;dsimp only;go_wp2_with fail;refine (iT num _ hnum (hv.ai ht1).here).mono ?_;rintro e w5 ⟨rfl,hb5⟩;have ht5:=ht1.trans (aP hb5);have H5:=H1.ao hb5;clear hb5 H1 ht1 c0 c1;dsimp only;go_wp2_with fail;refine (jE p num dep r _ H5 (hv.ai ht5)).mono ?_;rintro e w2 hq;rw [he] at hq;obtain ⟨ht,b,h4,h5,rfl⟩:=hq;dsimp only;refine ⟨rfl,?_⟩;unfold aT;rw [HS.out];exact ⟨ht5.trans ht,b,MX ht5.size h4,h5,rfl⟩
 | some q =>
  obtain ⟨d,r1⟩:=q;cases hn:Pro.gw r1 with
  | none =>
   have HS:Hid (Pro.bj num (x::r)=none):=zb0;go_enter func141,ntmps141;go_wp2_with fail;refine (aF p num dep x r _ H).mono ?_;rintro e w1 ⟨rfl,ho,H1⟩;have ht1:=ho.ai;clear ho;obtain ⟨c0,c1⟩:=H1.cells;dsimp only;go_wp2_with fail;refine (iT num _ hnum (hv.ai ht1).here).mono ?_;rintro e w5 ⟨rfl,hb5⟩;have ht5:=ht1.trans (aP hb5);have H5:=H1.ao hb5;clear hb5 H1 ht1 c0 c1;dsimp only;go_wp2_with fail;refine (jE p num dep r _ H5 (hv.ai ht5)).mono ?_;rintro e w3 h3;rw [he] at h3;obtain ⟨rfl,ht3,H3⟩:=h3;have ht4:=ht5.trans ht3;clear he H5 ht3;dsimp only;go_wp2_with fail;refine (n9 p num dep (Ref.bM++Ref.dec num) true d r1 _ H3 (hv.ai ht4)).mono ?_;exact zdA
  | some q =>
   obtain ⟨⟨t,A⟩,r'⟩:=q;have HS:Hid (Pro.bj num (x::r)=some (.move (Ref.bM++Ref.dec num) true d t A,r')):=zb0;go_enter func141,ntmps141;go_wp2_with fail;refine (aF p num dep x r _ H).mono ?_;rintro e w1 ⟨rfl,ho,H1⟩;have ht1:=ho.ai;clear ho;obtain ⟨c0,c1⟩:=H1.cells;dsimp only;go_wp2_with fail;refine (iT num _ hnum (hv.ai ht1).here).mono ?_;rintro e w5 ⟨rfl,hb5⟩;have ht5:=ht1.trans (aP hb5);have H5:=H1.ao hb5;clear hb5 H1 ht1 c0 c1;dsimp only;go_wp2_with fail;refine (jE p num dep r _ H5 (hv.ai ht5)).mono ?_;rintro e w3 h3;rw [he] at h3;obtain ⟨rfl,ht3,H3⟩:=h3;have ht4:=ht5.trans ht3;clear he H5 ht3;dsimp only;go_wp2_with fail;refine (n9 p num dep (Ref.bM++Ref.dec num) true d r1 _ H3 (hv.ai ht4)).mono ?_;exact zdm
theorem Ey (p num:Nat) (dep:Int) (w:World) (H:ah w p num dep []) :
  () 141 #[p] w (aT p num dep [] w):=by
 go_enter func141,ntmps141;go_wp2_with fail;refine (me p num dep _ H).mono ?_;rintro e w1 h1;obtain ⟨ht,b,h3,h4,rfl⟩:=cE (ak.refl p w) h1;dsimp only;exact ⟨rfl,ht,b,h3,h4,rfl⟩
theorem BP (p num:Nat) (dep:Int) (x:ByteArray) (r:List ByteArray) (w:World) (H:ah w p num dep (x::r)) (h1:(x.toList == [115,116,97,116,101])=false) (h2:(x.toList == [112,97,114,97,108,108,101,108])=false) (h3:(x.toList == [102,105,110,97,108])=false) (h4:(x.toList == [104,105,115,116,111,114,121])=false) (h5:(x.toList == [111,110])=false) (h6:(x.toList == [97,102,116,101,114])=false) (h7:(x.toList == [101,110,116,101,114])=false) (h8:(x.toList == [108,101,97,118,101])=false) :
  () 141 #[p] w (aT p num dep (x::r) w):=by
 have HS:Hid (Pro.bj num (x::r)=none):=by unfold Hid;rw [Pro.bj,Ref.cU,h1,Ref.aM,h2,Ref.b7,h3,Ref.bh,h4,Ref.cOn,h5,Ref.iK,h6,Ref.kZ,h7,Ref.o9,h8];rfl
 go_enter func141,ntmps141;go_wp2_with fail;refine (aF p num dep x r _ H).mono ?_;rintro e w1 ⟨rfl,ho,H1⟩;have ht1:=ho.ai;obtain ⟨c0,c1⟩:=H1.cells;clear ho;dsimp only;go_wp2_with fail;refine (aU num dep 2 _).mono ?_;rintro e w2 hq;obtain ⟨ht,b,h4,h5,rfl⟩:=cE ht1 hq;dsimp only;refine ⟨rfl,?_⟩;unfold aT;rw [HS.out];exact ⟨ht,b,h4,h5,rfl⟩
theorem GR (p num:Nat) (dep:Int) (l:List ByteArray) (w:World) (H:ah w p num dep l) (hv:bI p w) (hnum:num<=1073741824) :
  () 141 #[p] w (aT p num dep l w):=by
 cases l with
 | nil=>exact Ey p num dep w H
 | cons x r =>
  cases h1:(x.toList == [115,116,97,116,101])
  case true=>exact BQ p num dep x r w H hv h1
  cases h2:(x.toList == [112,97,114,97,108,108,101,108])
  case true=>exact tW p num dep x r w H hv h1 h2
  cases h3:(x.toList == [102,105,110,97,108])
  case true=>exact BN p num dep x r w H hv h1 h2 h3
  cases h4:(x.toList == [104,105,115,116,111,114,121])
  case true=>exact xk p num dep x r w H hv h1 h2 h3 h4
  cases h5:(x.toList == [111,110])
  case true=>exact JO p num dep x r w H hv h1 h2 h3 h4 h5
  cases h6:(x.toList == [97,102,116,101,114])
  case true=>exact BK p num dep x r w H hv hnum h1 h2 h3 h4 h5 h6
  cases h7:(x.toList == [101,110,116,101,114])
  case true=>exact BL p num dep x r w H hv h1 h2 h3 h4 h5 h6 h7
  cases h8:(x.toList == [108,101,97,118,101])
  case true=>exact BO p num dep x r w H hv h1 h2 h3 h4 h5 h6 h7 h8
  exact BP p num dep x r w H h1 h2 h3 h4 h5 h6 h7 h8
namespace Pro
theorem L3 (h:(a.toList == b.toList)=true):a=b:=by
 have h:=eq_of_beq h;rw [NY,NY] at h;cases a;cases b
 simp at h;rw [h]
theorem j7 {l:List UInt8} (h:(a.toList == l)=true) (hb:b.toList=l):a=b:=L3 (by rw [hb];exact h)
theorem wR:bDo.toList=Ref.cDo:=zaq
theorem wF:bAs.toList=Ref.cAs:=zaq
theorem dB {P:ByteArray->Bool}:pOf P (x::r)=if P x then some (x,r) else none:=rfl
theorem gW:gD (x::r)=if Ref.cC x then some (Ref.dV x,r) else none:=rfl
theorem EL:dr [c]=none:=by
 unfold dr;rw [dB];split
 ·rfl
 ·rename_i x l1 h;split at h
  ·cases h;rfl
  ·cases h
theorem EM:dr [c,d]=if Ref.called c&&Ref.cC d then some ((c,Ref.dV d,none),[]) else none:=by
 unfold dr;rw [dB];cases Ref.called c
 ·rfl
 ·simp only [Bool.true_and,if_true];rw [gW];cases Ref.cC d <;> rfl
theorem B9 (hy:(y.toList == Ref.cAs)=false):dr (c::d::y::r)=if Ref.called c&&Ref.cC d then some ((c,Ref.dV d,none),y::r) else none:=by
 unfold dr;rw [dB];cases Ref.called c
 ·rfl
 ·simp only [Bool.true_and,if_true];rw [gW];exact zeT
theorem EI (hy:(y.toList == Ref.cAs)=true):dr [c,d,y]=none:=by
 unfold dr;rw [dB];cases Ref.called c
 ·rfl
 ·simp only [if_true];rw [gW];exact zeT
theorem EJ (hy:(y.toList == Ref.cAs)=true):dr (c::d::y::a::r)=if Ref.called c&&Ref.cC d&&Ref.called a then some ((c,Ref.dV d,some a),r) else none:=by
 unfold dr;rw [dB];cases Ref.called c
 ·rfl
 ·simp only [Bool.true_and,if_true];rw [gW];cases Ref.cC d
  ·rfl
  ·simp only [Bool.true_and,if_true];rw [wF,hy,M6 rfl,dB];cases Ref.called a <;> rfl
theorem CL {x:ByteArray} {r:List ByteArray} (h:(x.toList == Ref.cDo)=true) :
  bF r=(Ref.oY (x::r)).map fun q=>(q.1,(x::r).drop q.2):=by
 cases r with
 | nil=>rfl
 | cons y r =>
  rw [bF];cases r with
  | nil =>
   have h2:Ref.oY [x,y]=none:=by unfold Ref.oY;rw [M6 zad]
   rw [h2];split
   ·rfl
   ·exact zfv
  | cons c r =>
   have hl:¬ (x::y::c::r).length<3:=zad;unfold Ref.oY;rw [M4 hl,show Ref.at' (x::y::c::r) 0=x from rfl,h,M6 rfl,show Ref.at' (x::y::c::r) 1=y from rfl,show Ref.at' (x::y::c::r) 2=c from rfl];cases h1:(y.toList == Ref.eT)
   ·simp only [Bool.false_eq_true,if_false];cases h2:(y.toList == Ref.eK)
    ·simp only [Bool.false_eq_true,if_false];cases h3:(y.toList == Ref.k8)
     ·simp
     ·simp only [if_true];have ey:y=mH:=j7 h3 mu;cases r with
      | nil=>rw [M6 zad,EL];rfl
      | cons d r =>
       rw [M4 zad,show Ref.at' (x::y::c::d::r) 3=d from rfl];cases r with
       | nil =>
        rw [M4 zad,EM];cases Ref.called c <;> cases Ref.cC d <;> simp [ey]
       | cons u r =>
        rw [show Ref.at' (x::y::c::d::u::r) 4=u from rfl];cases h4:(u.toList == Ref.cAs)
        ·rw [M4 zad,B9 h4];cases Ref.called c <;> cases Ref.cC d <;> simp [ey]
        ·rw [M6 zad];cases r with
         | nil=>rw [M6 zad,EI h4];rfl
         | cons a r =>
          rw [M4 zad,show Ref.at' (x::y::c::d::u::a::r) 5=a from rfl,EJ h4];cases Ref.called c <;> cases Ref.cC d <;> cases Ref.called a <;> simp [ey]
    ·have ey:y=gG:=j7 h2 gP;have h3:(y.toList == Ref.k8)=false:=by rw [ey,gP];rfl
     rw [h3];simp only [Bool.false_eq_true,if_false,if_true];rw [dB];cases Ref.called c <;> simp [ey]
   ·have ey:y=o7:=j7 h1 nx;simp only [if_true];rw [dB];cases Ref.called c <;> simp [ey]
theorem Fz (h:(x.toList == Ref.cDo)=false):Ref.oY (x::r)=none:=by
 unfold Ref.oY;split
 ·rfl
 ·rw [show Ref.at' (x::r) 0=x from rfl,h];rfl
theorem ur:∀ (n:Nat) (l:List ByteArray),l.length<=n->Ref.aw l=match a7 l with | some (A,[])=>some A | _=>none
 | _,[],_=>rfl
 | 0,x::r,h=>by simp at h
 | n+1,x::r,h=>by
  cases hd:(x.toList == Ref.cDo)
  ·rw [jt (by rw [wR];exact hd)];show Ref.jA (r.length+1) (x::r)=none;rw [Ref.jA,Fz hd]
  ·cases ha:Ref.oY (x::r) with
   | none =>
    have hp:=CL (r:=r) hd;rw [ha] at hp;rw [js (by rw [wR];exact hd) hp];show Ref.jA (r.length+1) (x::r)=none;rw [Ref.jA,ha]
   | some q =>
    obtain ⟨a,k⟩:=q;have hp:=CL (r:=r) hd;rw [ha] at hp;have hb:=Ref.kV ha;have hlen:((x::r).drop k).length<(x::r).length:=by
     rw [QG];have:=hb.1;have:=hb.2;omega
    rw [jr (by rw [wR];exact hd) hp];have ih:=ur n ((x::r).drop k) (by simp only [List.length_cons] at h hlen ⊢;omega);show Ref.jA (r.length+1) (x::r)=_;rw [Ref.jA,ha];simp only;rw [Ref.qW r.length ((x::r).drop k).length _ (by simp only [List.length_cons] at hlen;omega) (MR _)];change (match Ref.aw ((x::r).drop k) with | none=>none | some r'=>some (a::r'))=_;rw [ih];cases a7 ((x::r).drop k) with
    | none=>rfl
    | some q =>
     obtain ⟨A,t⟩:=q;cases t <;> rfl
theorem nF (l:List ByteArray):Ref.aw l=match a7 l with | some (A,[])=>some A | _=>none:=ur l.length l (MR _)
end Pro
end
section
open Go.RowKit
open Go.PlainAid (bt get_bt bt_nonneg bt_le bt_end)
namespace Ref
theorem Lq (n:Nat):∃ k:Nat,m64 n=k/\k<=18446744073709551615:=by
 unfold m64;rw [Qd];exact ⟨n % 18446744073709551616,zaa,zaa⟩
theorem uI (s:ByteArray):∃ n:Nat,dV s=n/\n<=18446744073709551615:=by
 unfold dV;split
 ·exact Lq _
 ·exact ⟨0,rfl,zac⟩
structure jx (a:Act):Prop where
 how:a.how.size<=4096
 event:a.event.size<=4096
 id:a.id.size<=4096
 delay:∃ n:Nat,a.delay=n/\n<=18446744073709551615
structure mP (m:Move):Prop where
 event:m.event.size<=4096
 dst:m.to.size<=4096
 aw:∀ a∈m.aw,jx a
 len:m.aw.length<=4096
 delay:∃ n:Nat,m.delay=n/\n<=18446744073709551615
structure oX (L:jZ):Prop where
 word:L.word.size<=4096
 name:L.name.size<=4096
 m:mP L.m
 aw:∀ a∈L.aw,jx a
 len:L.aw.length<=4096
structure lV (x:State):Prop where
 word:x.word.size<=4096
 name:x.name.size<=4096
 dep0:0<=x.depth
 dep:x.depth<=5
 aj:∀ m∈x.aj,mP m
 enter:∀ a∈x.enter,jx a
 leave:∀ a∈x.leave,jx a
 lenE:x.enter.length<=4096
 lenL:x.leave.length<=4096
theorem IN {a:Act} (hs:∀ x∈l,x.size<=4096) (h:oY l=some (a,n)):jx a:=by
 have h0:=nH hs;unfold oY at h
 repeat' split at h
 all_goals cases h
 all_goals refine ⟨h0 _,?_,?_,?_⟩
 all_goals first | exact h0 _ | exact Ni _ | exact uI _ | exact ⟨0,rfl,zac⟩
theorem yj:∀ (f:Nat) (l:List ByteArray) (A:List Act),(∀ x∈l,x.size<=4096)->jA f l=some A->(∀ a∈A,jx a)/\A.length<=l.length
 | 0,[],A,_,h=>by cases h;exact ⟨fun a ha=>absurd ha zad,MR _⟩
 | _+1,[],A,_,h=>by cases h;exact ⟨fun a ha=>absurd ha zad,MR _⟩
 | 0,x::r,A,_,h=>by cases h
 | f+1,x::r,A,hs,h=>by
  rw [jA] at h;split at h
  ·cases h
  ·rename_i a n h1;split at h
   ·cases h
   ·rename_i r' h2;cases h
    have hb:=kV h1;have ih:=yj f ((x::r).drop n) r' (fun y hy=>hs y (QB hy)) h2;refine ⟨?_,?_⟩
    ·intro b hm
     rcases O5.1 hm with h | h
     ·rw [h];exact IN hs h1
     ·exact ih.1 b h
    ·have:=ih.2;rw [QG] at this;simp only [List.length_cons] at this hb ⊢;omega
theorem wy (hs:∀ x∈l,x.size<=4096) (h:aw l=some A):(∀ a∈A,jx a)/\A.length<=l.length:=yj _ l A hs h
theorem zL {t:ByteArray} (hs:∀ x∈l,x.size<=4096) (h:vh l=some (t,A)):t.size<=4096/\(∀ a∈A,jx a)/\A.length<=l.length:=by
 unfold vh at h;split at h
 ·split at h
  ·cases h
  ·split at h
   ·cases h2:aw (l.drop 2) with
    | none=>rw [h2] at h;cases h
    | some B =>
     rw [h2] at h;cases h
     have:=wy (fun y hy=>hs y (QB hy)) h2;exact ⟨nH hs 1,this.1,MX this.2 zad⟩
   ·cases h
 ·cases h2:aw l with
  | none=>rw [h2] at h;cases h
  | some B =>
   rw [h2] at h;cases h
   exact ⟨Ni _,wy hs h2⟩
theorem jb:mP kB:=⟨Ni _,Ni _,fun a ha=>absurd ha (by simp [kB]),Ni _,0,rfl,zac⟩
theorem dA:oX gC:=⟨Ni _,Ni _,jb,fun a ha=>absurd ha (by simp [gC]),Ni _⟩
theorem Kh {ln:Nat} (hs:∀ x∈l,x.size<=4096) (hl:l.length<=4096) (hln:ln<=1073741824):oX (said l ln):=by
 have h0:=nH hs;have hs2:∀ x∈l.drop 2,x.size<=4096:=fun y hy=>hs y (QB hy);have hs1:∀ x∈l.drop 1,x.size<=4096:=fun y hy=>hs y (QB hy);unfold said;split
 ·exact dA
 ·split
  ·exact zes
  ·split
   ·exact zes
   ·split
    ·split
     ·exact dA
     ·rename_i t A hm;have:=zL hs2 hm;rw [QG] at this;split
      ·exact ⟨Ni _,Ni _,⟨h0 1,this.1,this.2.1,zbW,0,rfl,zac⟩,fun a ha=>absurd ha zad,Ni _⟩
      ·exact dA
    ·split
     ·split
      ·exact dA
      ·rename_i t A hm;have:=zL hs2 hm;rw [QG] at this;have hd:(dec ln).size<=20:=rE zaa;have hk:bM.size<=20:=zac;split
       ·exact ⟨Ni _,Ni _,⟨by show (bM++dec ln).size<=_;rw [PO];omega,this.1,this.2.1,zbW,uI _⟩,fun a ha=>absurd ha zad,Ni _⟩
       ·exact dA
     ·split
      ·split
       ·exact dA
       ·rename_i A hm;have:=wy hs1 hm;rw [QG] at this;exact ⟨Ni _,Ni _,jb,this.1,zbW⟩
      ·exact dA
theorem tv {f:State->State} {y:State} (hy:y∈gq S k f):y∈S\/∃ x∈S,y=f x:=by
 unfold gq at hy;by_cases hk:k<S.length
 ·rcases NB hy with h | h
  ·exact .inl h
  ·refine .inr ⟨S.getD k st0,?_,h⟩;rw [Nh,MU hk];exact NS hk
 ·rw [QL zaa] at hy;exact .inl hy
theorem Bn {X:List SV} {x:SV} (h:fits X x=true):x.s.depth<=5:=by
 unfold fits at h;by_cases hd:x.s.depth<=5
 ·exact hd
 ·have:5<x.s.depth:=zaa;simp [this] at h
theorem Av {x:jZ} {d:Int} (h:bA S i x d=some S') (hd:0<=d) (hx:oX x) (hS:∀ y∈S,lV y/\y.aj.length<=n):∀ y∈S',lV y/\y.aj.length<=n+1:=by
 have hS1:∀ y∈S,lV y/\y.aj.length<=n+1:=fun y hy=>⟨(hS y hy).1,QZ (hS y hy).2⟩;unfold bA at h;split at h
 ·cases h
 ·split at h
  ·split at h
   ·rename_i hf;cases h
    intro y hy
    rcases Nr.1 hy with h | h
    ·exact hS1 y h
    ·rw [M8.1 h];exact ⟨⟨hx.word,hx.name,hd,Bn hf,fun m hm=>absurd hm (by simp [jQ]),fun m hm=>absurd hm (by simp [jQ]),fun m hm=>absurd hm (by simp [jQ]),Ni _,Ni _⟩,Ni _⟩
   ·cases h
  ·split at h
   ·cases h
   ·split at h
    ·cases h
    ·split at h
     ·split at h
      ·cases h
      ·cases h
       intro y hy
       rcases tv hy with h | ⟨z,hz,rfl⟩
       ·exact hS1 y h
       ·obtain ⟨h1,h2⟩:=hS z hz;refine ⟨{ h1 with aj := ?_ },?_⟩
        ·intro m hm
         rcases Nr.1 hm with h | h
         ·exact h1.aj m h
         ·rw [M8.1 h];exact hx.m
        ·simp;omega
     ·split at h
      ·split at h
       ·cases h
       ·cases h
        intro y hy
        rcases tv hy with h | ⟨z,hz,rfl⟩
        ·exact hS1 y h
        ·obtain ⟨h1,h2⟩:=hS1 z hz;exact ⟨{ h1 with enter:=hx.aw,lenE:=hx.len },h2⟩
      ·split at h
       ·split at h
        ·cases h
        ·cases h
         intro y hy
         rcases tv hy with h | ⟨z,hz,rfl⟩
         ·exact hS1 y h
         ·obtain ⟨h1,h2⟩:=hS1 z hz;exact ⟨{ h1 with leave:=hx.aw,lenL:=hx.len },h2⟩
       ·cases h
        exact hS1
theorem vX {A:List (jZ×Int)} (hA:∀ p∈A,oX p.1/\0<=p.2):∀ {i:Nat} {S:List State},a8 A i=some S->∀ y∈S,lV y/\y.aj.length<=i
 | 0,S,h=>by cases h;exact fun y hy=>absurd hy zad
 | i+1,S,h=>by
  rw [a8] at h;split at h
  ·cases h
  ·rename_i S0 h0;have ih:=vX hA h0;split at h
   ·cases h;exact fun y hy=>⟨(ih y hy).1,QZ (ih y hy).2⟩
   ·rename_i x d hx;have:=hA _ (Nc hx);exact Av h this.2 this.1 ih
def i1 (t:ByteArray):Nat->Nat->Nat
 | 0,d=>d
 | f+1,d=>if bt t d=32 then i1 t f (d+1) else d
def dc (t:ByteArray):Nat:=i1 t t.size 0
theorem rm (t:ByteArray):∀ f d,i1 t f d<=d+f
 | 0,d=>MR _
 | f+1,d=>by
  have:=rm t f (d+1);unfold i1;split <;> omega
theorem uz (t:ByteArray):dc t<=t.size:=by have:=rm t t.size 0;unfold dc;omega
def rest (t:ByteArray):ByteArray:=t.extract (dc t) t.size
def ig (t:ByteArray) (i:Nat):jZ:=said (cut (rest t) 32) (i+1)
def pc (P:List ByteArray) (i:Nat):ByteArray:=P.getD i ByteArray.empty
def lN (P:List ByteArray):Nat->Option Nat
 | 0=>none
 | k+1=>match lN P k with
  | some i=>some i
  | none=>if (ig (pc P k) k).kind=0 then some k else none
def syn (P:List ByteArray):Option Nat:=match lN P (P.length-1) with
 | some i=>some i
 | none=>if decide (0<P.length-1)&&(pc P (P.length-1)).toList.isEmpty then none else some (P.length-1)
def aN (P:List ByteArray) (k:Nat):List (jZ×Int):=(List.range k).map fun i=>(ig (pc P i) i,(dc (pc P i):Int))
def gz (A:List (jZ×Int)):Nat->Nat
 | 0=>0
 | i+1=>if (a8 A i).isSome&&(a8 A (i+1)).isNone then i+1 else gz A i
inductive Got where
 | fault (e line:Int)
 | eX (S:List State)
def read (s:ByteArray):Got :=
 if 1500<s.size then .fault 1 0
 else match syn (cut s 10) with
  | some i => .fault 2 ((i:Int)+1)
  | none=>match a8 (aN (cut s 10) ((cut s 10).length-1)) ((cut s 10).length-1) with
   | none => .fault 3 (gz (aN (cut s 10) ((cut s 10).length-1)) ((cut s 10).length-1))
   | some S=>if 0<(dK S S.length).getD 0 then .fault 3 ((dK S S.length).getD 0)
    else if 0<named (S.map emb) then .fault 4 (named (S.map emb))
    else .eX S
theorem xZ {x:jZ} {d:Int} (h:bA S i x d=some S'):S'.length<=S.length+1:=by
 unfold bA gq at h
 repeat' split at h
 all_goals first | (cases h;done) | (cases h;simp)
theorem tu {A:List (jZ×Int)}:∀ {i:Nat} {S:List State},a8 A i=some S->S.length<=i
 | 0,S,h=>by cases h;exact MR _
 | i+1,S,h=>by
  rw [a8] at h;split at h
  ·cases h
  ·rename_i S0 h0;have:=tu h0;split at h
   ·cases h;omega
   ·have:=xZ h;omega
theorem Du {P:List ByteArray}:∀ {k i:Nat},lN P k=some i->∀ j,k<=j->lN P j=some i
 | k,i,h,0,hj=>by rw [R7.1 hj] at h;exact h
 | k,i,h,j+1,hj=>by
  by_cases e:k=j+1
  ·rw [<- e];exact h
  ·rw [lN,Du h j zaa]
theorem Ko (hk:k<P.length-1) (h:lN P k=none) (hb:(ig (pc P k) k).kind=0):syn P=some k:=by
 have:lN P (P.length-1)=some k:=Du (k:=k+1) (by rw [lN,h];simp only;rw [M6 hb]) _ zaa;unfold syn;rw [this]
theorem Am (h:lN P (P.length-1)=none) (hb:¬ (0<P.length-1/\(pc P (P.length-1)).toList.isEmpty=true)):syn P=some (P.length-1):=by
 unfold syn;rw [h];simp only;rw [M4];simpa using hb
theorem Iu (h:lN P (P.length-1)=none) (h0:0<P.length-1) (he:(pc P (P.length-1)).toList.isEmpty=true):syn P=none:=by
 unfold syn;rw [h];simp [h0,he]
theorem E9 (h:lN P k=none) (hb:¬ (ig (pc P k) k).kind=0):lN P (k+1)=none:=by
 rw [lN,h];simp only;rw [M4 hb]
theorem jH {A:List (jZ×Int)} {i:Nat} (h1:(a8 A i).isSome=true) (h2:a8 A (i+1)=none):∀ k,i<k->gz A k=i+1
 | 0,h=>by omega
 | k+1,h=>by
  by_cases e:k=i
  ·rw [gz,e,h1,h2];rfl
  ·have:a8 A k=none:=fM h2 k zaa;rw [gz,this];exact jH h1 h2 k zaa
end Ref
end
section
open Go.RowKit
namespace Pro
theorem Ks:yz.toList=Ref.cTo:=zaq
theorem D3:o6.toList=Ref.CZ:=zaq
def kX:ByteArray:=⟨#[115,116,97,116,101]⟩
def fB:ByteArray:=⟨#[112,97,114,97,108,108,101,108]⟩
def kW:ByteArray:=⟨#[102,105,110,97,108]⟩
def da:ByteArray:=⟨#[104,105,115,116,111,114,121]⟩
theorem iS:kX.toList=Ref.cU:=zaq
theorem fa:fB.toList=Ref.aM:=zaq
theorem iL:kW.toList=Ref.b7:=zaq
theorem bS:da.toList=Ref.bh:=zaq
def bs (k:Int):ByteArray:=if k=0 then kX else if k=1 then fB else if k=2 then kW else da
def aE (num:Nat):PL->Ref.jZ
 | .state k n=>⟨115,bs k,n,decide (k=4),num,Ref.kB,[]⟩
 | .move ev af d t A=>⟨109,ByteArray.empty,ByteArray.empty,false,0,⟨ev,t,af,d,A,num⟩,[]⟩
 | .enter A=>⟨101,ByteArray.empty,ByteArray.empty,false,0,Ref.kB,A⟩
 | .leave A=>⟨108,ByteArray.empty,ByteArray.empty,false,0,Ref.kB,A⟩
def bk (num:Nat) (l:List ByteArray):Option PL:=match bj num l with
 | some (L,[])=>some L
 | _=>none
theorem vi (l:List ByteArray):Ref.vh l=match gw l with | some (q,[])=>some q | _=>none:=by
 unfold Ref.vh gw;cases l with
 | nil=>simp [pTo,nF];rfl
 | cons y r =>
  rw [show Ref.at' (y::r) 0=y from rfl,pTo,Ks];cases hy:(y.toList == Ref.cTo)
  ·rw [M4 zad,M4 zad,nF];simp only;cases a7 (y::r) with
   | none=>rfl
   | some q=>obtain ⟨A,t⟩:=q;cases t <;> rfl
  ·rw [M6 zad,M6 rfl];cases r with
   | nil=>rfl
   | cons z t =>
    rw [M4 zad,show Ref.at' (y::z::t) 1=z from rfl,dB];cases Ref.plain z
    ·rfl
    ·simp only [if_true,List.drop_succ_cons,List.drop_zero];rw [nF];cases a7 t with
     | none=>rfl
     | some q=>obtain ⟨A,u⟩:=q;cases u <;> rfl
theorem xE:a7 (y::r)≠some ([],[]):=by
 cases h:(y.toList == bDo.toList)
 ·rw [jt h];simp
 ·cases h2:bF r with
  | none=>rw [js h h2];simp
  | some q =>
   obtain ⟨a,r'⟩:=q;rw [jr h h2];cases a7 r' <;> simp
theorem rG (y:ByteArray) (r:List ByteArray):Ref.aw (y::r)=match cI (y::r) with | some (A,[])=>some A | _=>none:=by
 rw [nF];unfold cI;cases h:a7 (y::r) with
 | none=>rfl
 | some q =>
  obtain ⟨A,t⟩:=q;cases A with
  | nil=>cases t with
   | nil=>exact absurd h xE
   | cons _ _=>rfl
  | cons a A=>cases t <;> rfl
theorem Ih (num:Nat) (l:List ByteArray):Ref.said l num=((bk num l).map (aE num)).getD Ref.gC:=by
 cases l with
 | nil=>rfl
 | cons x r =>
  cases r with
  | nil =>
   rw [Ref.said,M6 zad];unfold bk bj
   repeat' (first | rfl | split)
   all_goals first | rfl | (simp_all [pOf,de,gD,cI,a7,gu])
  | cons y r =>
   have h2:¬ (x::y::r).length<2:=zad;rw [Ref.said,M4 h2];unfold bk bj;simp only [Ref.is,show Ref.at' (x::y::r) 0=x from rfl,show Ref.at' (x::y::r) 1=y from rfl,List.drop_succ_cons,List.drop_zero];cases hS:(x.toList == Ref.cU)
   ·cases hP:(x.toList == Ref.aM)
    ·cases hF:(x.toList == Ref.b7)
     ·cases hH:(x.toList == Ref.bh)
      ·cases hO:(x.toList == Ref.cOn)
       ·cases hA:(x.toList == Ref.iK)
        ·cases hE:(x.toList == Ref.kZ)
         ·cases hL:(x.toList == Ref.o9)
          ·simp
          ·have ex:Go.PlainAid.bt x 0=108:=by
            rw [j7 (b:=⟨#[108,101,97,118,101]⟩) hL zaq];rfl
           simp only [Bool.or_true,Bool.false_or,Bool.false_eq_true,if_false,if_true];exact zdQ
         ·have ex:Go.PlainAid.bt x 0=101:=by
           rw [j7 (b:=⟨#[101,110,116,101,114]⟩) hE zaq];rfl
          simp only [Bool.true_or,Bool.or_self,Bool.false_eq_true,if_false,if_true];exact zdQ
        ·simp only [Bool.or_self,Bool.false_eq_true,if_false,if_true];rw [vi,gW];cases Ref.cC y
         ·exact zeq
         ·exact zd8
       ·simp only [Bool.or_self,Bool.false_eq_true,if_false,if_true];rw [vi,dB];cases Ref.b8 y
        ·exact zeq
        ·exact zd8
      ·have ex:x=da:=j7 hH bS;simp only [Bool.or_self,Bool.false_eq_true,if_false,if_true];unfold de;rw [dB];cases hp:Ref.plain y
       ·simp
       ·simp only [if_true,Bool.true_and];cases r with
        | nil=>simp [Ref.uH,aE,bs,ex]
        | cons z t =>
         simp only [D3];cases hz:(z.toList == Ref.CZ)
         ·simp [Ref.uH,Ref.is,show Ref.at' (x::y::z::t) 2=z from rfl,hz]
         ·cases t with
          | nil =>
           have ez:z.toList=Ref.CZ:=eq_of_beq hz;simp [Ref.uH,Ref.is,show Ref.at' [da,y,z] 2=z from rfl,ez,aE,bs,ex]
          | cons _ _=>simp [Ref.uH]
     ·have ex:x=kW:=j7 hF iL;simp only [Bool.or_true,Bool.false_eq_true,if_false,if_true];exact zeg
    ·have ex:x=fB:=j7 hP fa;simp only [Bool.true_or,Bool.or_true,Bool.false_eq_true,if_false,if_true];exact zeg
   ·have ex:x=kX:=j7 hS iS;simp only [Bool.true_or,if_true];exact zeg
theorem At (num:Nat) (L:PL):¬ (aE num L).kind=0:=by cases L <;> simp [aE]
end Pro
end
section
open Go.RowKit
open Go.PlainAid (bt get_bt bt_nonneg bt_le bt_end)
namespace Pro
def iW (c:UInt8):List UInt8->List (List UInt8)
 | []=>[[]]
 | x::l=>if x == c then []::iW c l else match iW c l with
  | []=>[[x]]
  | h::t=>(x::h)::t
theorem F9 (c:UInt8) (l:List UInt8):iW c l≠[]:=by
 cases l with
 | nil=>simp [iW]
 | cons x l =>
  rw [iW];split
  ·simp
  ·split <;> simp
theorem pj (c:UInt8):∀ l:List UInt8,Lib.indexByte l c = -1->iW c l=[l]
 | [],_=>rfl
 | x::l,h=>by
  rw [Lib.indexByte] at h;rw [iW];by_cases hx:(x == c)=true
  ·rw [M6 hx] at h;cases h
  ·rw [M4 hx] at h ⊢;by_cases hl:(Lib.indexByte l c == -1)=true
   ·rw [pj c l (by simpa using hl)]
   ·rw [M4 hl] at h;have:=Lib.indexByte_ge l c;omega
theorem yI (c:UInt8):∀ (l:List UInt8) (i:Nat),Lib.indexByte l c=i->iW c l=l.take i::iW c (l.drop (i+1))
 | [],i,h=>by
  have h:(-1:Int)=i:=h;omega
 | x::l,i,h=>by
  rw [Lib.indexByte] at h;rw [iW];by_cases hx:(x == c)=true
  ·rw [M6 hx] at h ⊢;have:i=0:=zaa;subst this;simp
  ·rw [M4 hx] at h ⊢;by_cases hl:(Lib.indexByte l c == -1)=true
   ·rw [M6 hl] at h;omega
   ·rw [M4 hl] at h;have:=Lib.indexByte_ge l c;have hl':¬ Lib.indexByte l c = -1:=by simpa using hl
    obtain ⟨j,rfl⟩:∃ j,i=j+1:=⟨i-1,zaa⟩;rw [yI c l j zaa];simp
theorem uF (c x:UInt8):∀ l:List UInt8,iW c (l++[x])=if x == c then iW c l++[[]] else (iW c l).set ((iW c l).length-1) ((iW c l)[(iW c l).length-1]?.getD []++[x])
 | []=>by
  rw [R4,iW];split <;> rename_i h <;> simp [iW] <;> simpa using h
 | y::l=>by
  rw [RR,iW,uF c x l,iW];have hp:=F9 c l;by_cases hy:(y == c)=true
  ·rw [M6 hy,M6 hy];split
   ·rfl
   ·obtain ⟨h,t,e⟩:=QC hp;rw [e];simp
  ·rw [M4 hy,M4 hy];obtain ⟨h,t,e⟩:=QC hp;rw [e];by_cases hx:(x == c)=true
   ·rw [M6 hx,M6 hx];rfl
   ·rw [M4 hx,M4 hx];cases t with
    | nil=>simp
    | cons u t=>simp
theorem Ah (c:UInt8):∀ (n:Nat) (s:ByteArray),s.size<=n->(Lib.splitB ⟨#[c]⟩ 0 (Lib.countB s ⟨#[c]⟩) s).map (·.data.toList)=iW c s.data.toList:=by
 have hone:∀ s:ByteArray,Lib.indexB s ⟨#[c]⟩=Lib.indexByte s.data.toList c:=by
  intro s;have:=Lib.one s ⟨#[c]⟩ rfl;rw [this]
  congr 1
  show ((c.toNat:Int).toNat).toUInt8=c;simp
 intro n
 induction n with
 | zero =>
  intro s hs;have h0:s.data.toList=[]:=by
   have:=Qh s;exact O1.1 zaa
  have hm:Lib.indexB s ⟨#[c]⟩ = -1:=by rw [hone,h0];rfl
  exact zey
 | succ n ih =>
  intro s hs
  rcases Lib.indexB_cases s ⟨#[c]⟩ with hm | ⟨i,hi,hle⟩
  ·exact zey
  ·have h1:(⟨#[c]⟩:ByteArray).size=1:=rfl;rw [Lib.countB_hit s _ i (by rw [h1];exact MR _) hi,Nat.add_comm 1,Lib.splitB_hit _ _ _ _ i hi,Pj,Lib.extract_from_zero,h1,Rz];rw [ih (s.extract (i+1) s.size) zae,Lib.extract_to_end,yI c s.data.toList i (by rw [<- hone];exact hi)]
theorem yT (h:k<s.size):(s.extract k (k+1)).data.toList=[s.data.toList[k]'(by rw [<- Qh];exact h)]:=by
 rw [Lib.extract_data,Nat.add_sub_cancel_left];rw [List.take_one,List.head?_drop,MU (by rw [<- Qh];exact h)];rfl
theorem qD (h:k<s.size):bt s k=((s.data.toList[k]'(by rw [<- Qh];exact h)).toNat:Int):=by
 rw [<- get_bt s k h];rfl
theorem yv (a b:ByteArray):(a++b).data.toList=a.data.toList++b.data.toList:=zad
theorem rC (s:ByteArray) (c:UInt8):∀ k,k<=s.size->(Ref.dq s (c.toNat:Int) k).map (·.data.toList)=iW c (s.data.toList.take k)
 | 0,_=>by rw [Ref.dq,List.take_zero];rfl
 | k+1,hk=>by
  have hk':k<s.size:=zaa;have hl:k<s.data.toList.length:=by rw [<- Qh];exact hk'
  have ih:=rC s c k zaa;rw [OH,MU hl,Option.toList_some,uF,<- ih];by_cases h:(s.data.toList[k] == c)=true
  ·rw [M6 h,Ref.Jd (by rw [qD hk',eq_of_beq h]),NW];rfl
  ·rw [M4 h,Ref.K8 (by
    rw [qD hk'];intro e;apply h
    have:s.data.toList[k].toNat=c.toNat:=zaa;rw [Rh.1 this];simp),O0,yv,yT hk',Ng,Nf]
   have hp:=Ref.lW s (c.toNat:Int) k;rw [MU zaa];rfl
theorem n6:∀ {a b:List ByteArray},a.map (·.data.toList)=b.map (·.data.toList)->a=b
 | [],[],_=>rfl
 | [],_::_,h=>by simp at h
 | _::_,[],h=>by simp at h
 | x::a,y::b,h=>by
  simp only [List.map_cons,List.cons.injEq] at h;rw [n6 h.2];have:x=y:=by rw [<- R8 x,h.1,R8]
  rw [this]
theorem vO (s:ByteArray) (c:UInt8):Lib.splitB ⟨#[c]⟩ 0 (Lib.countB s ⟨#[c]⟩) s=Ref.cut s (c.toNat:Int):=by
 apply n6
 rw [Ah c s.size s (MR _)];unfold Ref.cut;rw [rC s c s.size (MR _),List.take_of_length_le (by rw [<- Qh];exact MR _)]
theorem D2 (s:ByteArray) (c:UInt8):Lib.countB s ⟨#[c]⟩+1=(Ref.cut s (c.toNat:Int)).length:=by
 rw [<- vO,Lib.splitB_all _ (show 1<=(⟨#[c]⟩:ByteArray).size from MR 1) 0 _ s rfl]
theorem nK (t:ByteArray):∀ (f d:Nat),d+f=t.size->t.data.toList.drop (Ref.i1 t f d)=(t.data.toList.drop d).dropWhile (· == 32)/\d<=Ref.i1 t f d
 | 0,d,h=>by
  rw [Ref.i1,List.drop_eq_nil_of_le (by rw [<- Qh];omega)];exact ⟨rfl,MR _⟩
 | f+1,d,h=>by
  have hd:d<t.size:=zaa;have hl:d<t.data.toList.length:=by rw [<- Qh];exact hd
  rw [Ref.i1,P4 hl,List.dropWhile_cons];by_cases hb:bt t d=32
  ·have hx:(t.data.toList[d] == 32)=true:=by
    rw [qD hd] at hb;have:t.data.toList[d].toNat=(32:UInt8).toNat:=by
     have e:(32:UInt8).toNat=32:=rfl;omega
    rw [Rh.1 this];rfl
   have ih:=nK t f (d+1) zaa;rw [M6 hb,M6 hx];exact ⟨ih.1,by have:=ih.2;omega⟩
  ·have hx:¬ (t.data.toList[d] == 32)=true:=by
    intro e;apply hb
    rw [qD hd,eq_of_beq e];rfl
   rw [M4 hb,M4 hx,P4 hl];exact ⟨rfl,MR _⟩
theorem Fe (t:ByteArray):(⟨(Lib.trimLeftB t.data.toList 32).toArray⟩:ByteArray)=Ref.rest t:=by
 have h:=(nK t t.size 0 zaa).1;rw [List.drop_zero] at h;have e:(Ref.rest t).data.toList=Lib.trimLeftB t.data.toList 32:=by
  unfold Ref.rest Lib.trimLeftB;rw [Lib.extract_to_end];exact h
 rw [<- e,R8]
theorem vF (t:ByteArray):(Ref.rest t).size+Ref.dc t=t.size:=by
 have:=Ref.uz t;unfold Ref.rest;simp;omega
end Pro
end
section
open Go.RowKit
structure wj (w:World):Prop where
 env:Env w
 maxL:∃ m,w.cell? ⟨2,0,none⟩=some ↑(m:Int)
theorem wj.ao (h:wj w) (hb:Below w w w'):wj w' :=
 ⟨h.env.ao hb,let ⟨m,hm⟩:=h.maxL;⟨m,(Nk (hb.block _ (Np _ _ hm))).trans hm⟩⟩
theorem vN (s:ByteArray) (c:UInt8) (w:World) (hv:wj w) (hs:s.size<4294967281):() 88 #[s,.string ⟨#[c]⟩] w fun e w' =>
  e = .returned (.slice w (Ref.cut s (c.toNat:Int)).length (Ref.cut s (c.toNat:Int)).length)/\w'=w.alloc (.cells ((Ref.cut s (c.toNat:Int)).map Value.string).toArray 9):=by
 obtain ⟨m,hm⟩:=hv.maxL;refine (strings_Split s ⟨#[c]⟩ m w hs hm (MR 1)).mono ?_;rintro e w' ⟨rfl,rfl⟩;rw [Pro.vO,Pro.D2];exact ⟨rfl,rfl⟩
theorem tf {b:Nat} {t:TypeId} {fz:Nat×Nat} (h:w.heap[b]?=some (.cells (l.map Value.string).toArray t fz)):qT w b 0 l:=by
 intro i hi;rw [Pd,M0 w b i _ _ _ h];simp [Ref.at',List.getElem?_eq_getElem hi,List.getD_eq_getElem?_getD]
theorem rD {c:Int}:∀ x∈Ref.cut s c,x.size<=s.size:=Ref.i6 s c s.size (MR _)
theorem qF {c:Int}:(Ref.cut s c).length<=s.size+1:=Ref.nO s c s.size
def ir (num:Nat) (t:ByteArray) (w:World) (e:Ending) (w':World):Prop:=match Pro.bk num (Ref.cut (Ref.rest t) 32) with
 | none=>aY 2 num w e w'
 | some L=>Below w.heap.size w w'/\∃ v,e = .returned v/\eW w' w.heap.size num (Ref.dc t) L v
theorem xI {p:Nat} {er line:Int} {w0:World} {e:Ending} (hb:Below w0 w0 w) (hp:w0.heap.size<=p) (h:cT p er line w e w'):aY er line w0 e w':=by
 obtain ⟨ht,b,h2,h3,h4⟩:=h;exact ⟨ht.below hb hp hb.size,b,MX hb.size h2,h3,h4⟩
theorem eW.mono {w:World} {base base':Nat} {num dep:Int} {L:Pro.PL} {v:Value} (h:eW w base num dep L v) (hb:base'<=base):eW w base' num dep L v:=by
 cases L with
 | state k n=>exact h
 | move ev af d t A=>obtain ⟨a,n,c,h1,h2⟩:=h;exact ⟨a,n,c,h1,aD h2 hb⟩
 | enter A=>obtain ⟨a,n,c,h1,h2⟩:=h;exact ⟨a,n,c,h1,aD h2 hb⟩
 | leave A=>obtain ⟨a,n,c,h1,h2⟩:=h;exact ⟨a,n,c,h1,aD h2 hb⟩
theorem xH (num:Nat) (t:ByteArray) (w:World) (hv:wj w) (ht:t.size<=1000000) (hnum:num<=1073741824) :
  () 90 #[(num:Int),t] w (ir num t w):=by
 have hr:=Pro.vF t;have hct:=Pro.Fe t;go_enter func90,ntmps90;go_wp2_with fail;refine (strings_TrimLeft_one t 32 zac _).mono ?_;rintro e w9 ⟨rfl,hw9⟩;rw [hw9,hct];clear hw9 w9 hct;dsimp only;go_wp2_with fail;refine (vN (Ref.rest t) 32 _ hv zaa).mono ?_;rintro e w9 ⟨rfl,hw9⟩;rw [hw9];clear hw9 w9;obtain ⟨l,hl⟩:∃ l,l=Ref.cut (Ref.rest t) ((32:UInt8).toNat:Int):=⟨_,rfl⟩;rw [<- hl];have hlen:l.length<=t.size+1:=by rw [hl];exact MX qF zaa
 have hsz:∀ x∈l,x.size<=t.size:=by rw [hl];exact fun x hx=>MX (rD x hx) zaa
 have HL:Hid _:=hl;clear hl;dsimp only;go_wp2_with fail;have hdep:(t.size:Int)-((Ref.rest t).size:Int)=(Ref.dc t:Int):=zaa;rw [hdep];obtain ⟨w1,hw1⟩:∃ y,y=(w.alloc (.cells (l.map Value.string).toArray 9)).alloc (.cells #[(num:Int),.int .i64 (Ref.dc t),.slice w l.length l.length] 309):=⟨_,rfl⟩;rw [<- hw1];have hb1:Below w w w1:=zbw;have hws:w.heap.size+1<w1.heap.size:=by rw [hw1];simp
 have H1:ah w1 (w.heap.size+1) num (Ref.dc t) l:=by
  rw [hw1];refine ⟨⟨some ⟨w,0,none⟩,l.length,bR _ _ _,MR _,fun _=>⟨w.heap.size,0,rfl,zaa,zae,tf (eN _ _ _)⟩⟩,zaa,fun x hx=>by have:=hsz x hx;omega⟩
 have hv1:bI (w.heap.size+1) w1:=⟨w,zaa,hv.env,hb1⟩;clear hw1 hsz hlen;refine (GR (w.heap.size+1) num (Ref.dc t) l w1 H1 hv1 hnum).mono ?_;rintro e w2 h2;unfold aT at h2;have HP:Hid (ir num t w=fun e w'=>match Pro.bk num l with
  | none=>aY 2 num w e w'
  | some L=>Below w.heap.size w w'/\∃ v,e = .returned v/\eW w' w.heap.size num (Ref.dc t) L v):=by
  unfold Hid ir;rw [HL.out];rfl
 cases hp:Pro.bj num l with
 | none =>
  rw [hp] at h2;have HW:Hid (Pro.bk num l=none):=zbP;obtain ⟨hb,b,h4,h5,rfl⟩:=xI hb1 zaa h2;dsimp only;refine ⟨rfl,?_⟩;rw [HP.out];simp only;rw [HW.out];exact ⟨hb,b,h4,h5,rfl⟩
 | some q =>
  obtain ⟨L,r⟩:=q;rw [hp] at h2;obtain ⟨v,rfl,hL,ht2,H2⟩:=h2;have hb2:Below w w w2:=ht2.below hb1 zaa hb1.size;have hL2:=hL.mono (show w.heap.size<=w1.heap.size by omega);cases r with
  | nil =>
   have HW:Hid (Pro.bk num l=some L):=zbP;clear hp hL ht2 H1 hv1;dsimp only;go_wp2_with fail;refine (Ld (w.heap.size+1) num (Ref.dc t) _ H2).mono ?_;rintro e w9 ⟨rfl,hw9⟩;rw [hw9];clear hw9 w9;dsimp only;go_wp2;go_ret;rw [HP.out];simp only;rw [HW.out];exact ⟨hb2,v,rfl,hL2⟩
  | cons y r =>
   have HW:Hid (Pro.bk num l=none):=zbP;clear hp hL ht2 H1 hv1;dsimp only;go_wp2_with fail;refine (Jh (w.heap.size+1) num (Ref.dc t) (y::r) _ H2 zad).mono ?_;rintro e w3 hq;obtain ⟨hb,b,h4,h5,rfl⟩:=hq;dsimp only;refine ⟨rfl,?_⟩;rw [HP.out];simp only;rw [HW.out];exact ⟨hb2.trans (hb.mono hb2.size),b,MX hb2.size h4,h5,rfl⟩
theorem pg (s:ByteArray) (w:World) (hs:s.size<=281474976710656):() 89 #[s] w fun e w'=>e = .returned s/\Below w w w':=by
 go_enter func89,ntmps89;go_wp2_with fail;refine (stringslite_Clone s _ hs).mono ?_;rintro e w1 ⟨rfl,hb⟩;dsimp only;go_wp2;go_ret;exact ⟨rfl,hb⟩
theorem Gt:(Tryz.prog.info? 148).map (fun i=>(i.zero,i.size,i.bytes))=some (some .nilIface,1,16):=zab
namespace Pro
def wl (P:List ByteArray) (i:Nat):List ByteArray:=Ref.cut (Ref.rest (Ref.pc P i)) 32
theorem ki (P:List ByteArray) (i:Nat):Ref.ig (Ref.pc P i) i=((bk (i+1) (wl P i)).map (aE (i+1))).getD Ref.gC:=Ih (i+1) _
theorem zG (h:bk (i+1) (wl P i)=none):(Ref.ig (Ref.pc P i) i).kind=0:=by rw [ki,h];rfl
theorem p8 {L:PL} (h:bk (i+1) (wl P i)=some L):Ref.ig (Ref.pc P i) i=aE (i+1) L:=by rw [ki,h];rfl
end Pro
structure j5 (w:World) (P:List ByteArray) (k:Nat) (vs:List Value) (LS:List Pro.PL):Prop where
 lv:vs.length=k
 ll:LS.length=k
 row:∀ j (h:j<k),Pro.bk (j+1) (Pro.wl P j)=some (LS[j]'(zaa))/\eW w 0 (j+1:Nat) (Ref.dc (Ref.pc P j)) (LS[j]'(zaa)) (vs[j]'(zaa))
theorem eW.ao {w w':World} {num dep:Int} {L:Pro.PL} {v:Value} (h:eW w 0 num dep L v) (hb:Below w w w'):eW w' 0 num dep L v:=by
 cases L with
 | state k n=>exact h
 | move ev af d t A=>obtain ⟨a,n,c,h1,h2⟩:=h;exact ⟨a,n,c,h1,bc h2 hb⟩
 | enter A=>obtain ⟨a,n,c,h1,h2⟩:=h;exact ⟨a,n,c,h1,bc h2 hb⟩
 | leave A=>obtain ⟨a,n,c,h1,h2⟩:=h;exact ⟨a,n,c,h1,bc h2 hb⟩
theorem eW.tag {w w':World} {num dep:Int} {L:Pro.PL} {v:Value} {g:Nat} {c:Array Value} {t:TypeId} {fz:Nat×Nat} (h:eW w 0 num dep L v) (ho:gY g w w') (hg:w.heap[g]?=some (.cells c t fz)) (hne:250≠t):eW w' 0 num dep L v:=by
 cases L with
 | state k n=>exact h
 | move ev af d t A=>obtain ⟨a,n,c,h1,h2⟩:=h;exact ⟨a,n,c,h1,mi h2 ho hg hne⟩
 | enter A=>obtain ⟨a,n,c,h1,h2⟩:=h;exact ⟨a,n,c,h1,mi h2 ho hg hne⟩
 | leave A=>obtain ⟨a,n,c,h1,h2⟩:=h;exact ⟨a,n,c,h1,mi h2 ho hg hne⟩
theorem eW.iface {w:World} {base:Nat} {num dep:Int} {L:Pro.PL} {v:Value} (h:eW w base num dep L v):∃ t u,v = .iface t u:=by
 cases L with
 | state k n=>exact ⟨_,_,h⟩
 | move ev af d t A=>obtain ⟨a,n,c,h1,h2⟩:=h;exact ⟨_,_,h1⟩
 | enter A=>obtain ⟨a,n,c,h1,h2⟩:=h;exact ⟨_,_,h1⟩
 | leave A=>obtain ⟨a,n,c,h1,h2⟩:=h;exact ⟨_,_,h1⟩
theorem j5.next {LS:List Pro.PL} {v:Value} {L:Pro.PL} (H:j5 w P k vs LS) (hk:∀ num dep L v,eW w 0 num dep L v->eW w' 0 num dep L v)
  (h1:Pro.bk (k+1) (Pro.wl P k)=some L) (h2:eW w' 0 (k+1:Nat) (Ref.dc (Ref.pc P k)) L v):j5 w' P (k+1) (vs++[v]) (LS++[L]):=by
 have hlv:=H.lv;have hll:=H.ll;refine ⟨by simp [hlv],by simp [hll],fun j hj => ?_⟩;by_cases e:j=k
 ·subst e;rw [Ow zaa,Ow zaa];simp only [hlv,hll,Nat.sub_self,List.getElem_cons_zero];exact ⟨h1,h2⟩
 ·have hj':j<k:=zaa;obtain ⟨r1,r2⟩:=H.row j hj';rw [OD zaa,OD zaa];exact ⟨r1,hk _ _ _ _ r2⟩
def dI (s:ByteArray) (w:World) (e:Ending) (w':World):Prop :=
 if 1500<s.size then aY 1 0 w e w'
 else match Ref.syn (Ref.cut s 10) with
  | some i=>aY 2 ((i:Int)+1) w e w'
  | none=>Below w.heap.size w w'/\∃ lb vs LS,e = .returned (.slice (some ⟨lb,0,none⟩) vs.length vs.length)/\w'.heap[lb]?=some (.cells vs.toArray 148 (0,0))/\0<vs.length/\j5 w' (Ref.cut s 10) ((Ref.cut s 10).length-1) vs LS
theorem sN (s:ByteArray) (w:World) (hs:1500<s.size) (hs2:s.size<=1073741824) :
  () 55 #[s] w (dI s w):=by
 go_enter func55,ntmps55;go_wp2_with fail;refine (aU 0 0 1 _).mono ?_;rintro e w1 ⟨hb,b,h4,h5,rfl⟩;dsimp only;refine ⟨rfl,?_⟩;unfold dI;rw [M6 hs];exact ⟨hb,b,h4,h5,rfl⟩
theorem Ik {m:Nat} (hk:vs.length=k) (v:Value):(vs++List.replicate (m+1) Value.nilIface).toArray.setIfInBounds k v=((vs++[v])++List.replicate m Value.nilIface).toArray:=by
 rw [List.setIfInBounds_toArray,Qx _ _ zaa,hk,Qk,List.replicate_succ,List.set_cons_zero];simp
theorem GU (n:Nat):madeCells #[Value.nilIface] n=(List.replicate n Value.nilIface).toArray:=by
 apply Array.ext
 ·simp [madeCells]
 ·intro i h1 h2;simp [madeCells,Nat.mod_one]
theorem ug (s:ByteArray) (w:World) (hv:wj w) (hs:s.size<=1500) :
  () 55 #[s] w (dI s w):=by
 obtain ⟨P,hP⟩:∃ P,P=Ref.cut s ((10:UInt8).toNat:Int):=⟨_,rfl⟩;have hpos:0<P.length:=by rw [hP];exact Ref.lW _ _ _
 obtain ⟨n,hn⟩:∃ n,P.length=n+1:=⟨P.length-1,zaa⟩;clear hpos;have hlen:n<=1500:=by
  have:P.length<=s.size+1:=by rw [hP];exact qF
  omega
 have HSZ:Hid (∀ j,(Ref.pc P j).size<=1500):=by
  intro j;unfold Ref.pc;rw [Nh];cases e:P[j]? with
  | none=>exact Ni _
  | some x=>rw [hP] at e;exact MX (rD x (Nc e)) hs
 have HPost:Hid (dI s w=fun e w'=>match Ref.syn P with
  | some i=>aY 2 ((i:Int)+1) w e w'
  | none=>Below w.heap.size w w'/\∃ lb vs LS,e = .returned (.slice (some ⟨lb,0,none⟩) vs.length vs.length)/\w'.heap[lb]?=some (.cells vs.toArray 148 (0,0))/\0<vs.length/\j5 w' P (P.length-1) vs LS):=by
  funext e w';unfold dI;rw [M4 zaa,hP];rfl
 have hmk:=run_make_row' (P:=prog) 143 148 .nilIface 16 underlying143 Gt rfl .i64 .i64 n zaa zaa;go_enter func55,ntmps55;go_wp2_with fail;refine (pg s _ zaa).mono ?_;rintro e w1 ⟨rfl,hb1⟩;have hv1:=hv.ao hb1;dsimp only;go_wp2_with fail;refine (vN s 10 _ hv1 zaa).mono ?_;rintro e w9 ⟨rfl,hw9⟩;rw [hw9,<- hP];clear hw9 w9;have HPn:Hid (P.length=n+1):=hn;have HP:Hid _:=hP;rw [hn];clear hP hn;dsimp only;go_wp2
 go_loopg [25] n (fun q i wr=>∃ (k:Nat) (vs:List Value) (LS:List Pro.PL),q=n-k/\k<=n/\i = .int .i64 k/\Ref.lN P k=none/\wr.heap[w1.heap.size]?=some (.cells (P.map Value.string).toArray 9 (0,0))/\wr.heap[w1.heap.size+1]?=some (.cells (vs++List.replicate (n-k) Value.nilIface).toArray 148 (0,0))/\j5 wr P k vs LS/\Below w w wr/\Below w1 w1 wr)
 case atStart =>
  refine ⟨0,[],[],rfl,Ni _,rfl,rfl,eN _ _ _,?_,⟨rfl,rfl,fun j h=>absurd h zaa⟩,(hb1.alloc hb1.size _).alloc (by have:=hb1.size;simp;omega) _,((MY _ _).alloc (MR _) _).alloc zad _⟩;rw [bR,GU];rfl
 case round =>
  obtain ⟨k,vs,LS,hq,hk,rfl,hsyn,hPB,hLB,HL,hbw,hbw1⟩:=hrel;have hlv:=HL.lv;have cP:wr.cell? ⟨w1,k,none⟩=some (.string (Ref.pc P k)):=by
   rw [M0 wr _ k _ _ _ hPB];simp only [List.getElem?_toArray,List.getElem?_map,Ref.pc,List.getD_eq_getElem?_getD];rw [MU (show k<P.length by rw [HPn.out];omega)];rfl
  have hbs:=hbw.size;have hbs1:=hbw1.size;have lP:=(MQ.1 hPB).1;have lL:=(MQ.1 hLB).1;by_cases hkn:k<n
  ·have hszk:=HSZ.out k;have hvr:=hv1.ao hbw1;go_wp2_with fail;refine (xH (k+1) (Ref.pc P k) _ hvr zaa zaa).mono ?_;rintro e w2 h2;unfold ir at h2;change (match Pro.bk (k+1) (Pro.wl P k) with | none=>_ | some L=>_) at h2;cases hp:Pro.bk (k+1) (Pro.wl P k) with
   | none =>
    rw [hp] at h2;have HS:Hid (Ref.syn P=some k):=Ref.Ko (by rw [HPn.out];omega) hsyn (Pro.zG hp);obtain ⟨hb,b,h4,h5,rfl⟩:=h2;dsimp only;refine ⟨rfl,?_⟩;rw [HPost.out];simp only;rw [HS.out];exact ⟨hbw.trans (hb.mono hbs),b,MX hbs h4,h5,rfl⟩
   | some L =>
    rw [hp] at h2;obtain ⟨hb2,v,rfl,hLV⟩:=h2;obtain ⟨vt,vu,rfl⟩:=hLV.iface;have hPB2:=(hb2.block _ lP).trans hPB;have hLB2:=(hb2.block _ lL).trans hLB;obtain ⟨m,hm⟩:∃ m,n-k=m+1:=⟨n-k-1,zaa⟩;rw [hm] at hLB2;have cL:w2.cell? ⟨w1.heap.size+1,k,none⟩=some .nilIface:=by
     rw [M0 w2 _ k _ _ _ hLB2,Ps,Oe zaa,hlv,Qk];rfl
    have fL:w2.frozen? ⟨w1.heap.size+1,k,none⟩=false:=by simp [World.frozen?,hLB2]
    have HSY:Hid (Ref.lN P (k+1)=none):=Ref.E9 hsyn (by rw [Pro.p8 hp];exact Pro.At _ _);have HLV:Hid (eW w2 0 ((k+1:Nat):Int) (Ref.dc (Ref.pc P k)) L (.iface vt vu)):=eW.mono hLV (Ni _);have HH:Hid _:=hPB2;have HH2:Hid _:=hLB2;have HM:Hid _:=hm;have HHL:Hid _:=HL;have HPW:Hid _:=hp;clear hLV hPB2 hLB2 hm hPB hLB hsyn cP hp HL;dsimp only;go_wp2
    go_roundg (n-(k+1))
    case measure=>omega
    case rel =>
     have hs1:=hb1.size;have oo:=aa w2 (w1.heap.size+1) k (.iface vt vu);have hb3:=oo.below (hbw.trans (hb2.mono hbs)) zaa;refine ⟨k+1,vs++[.iface vt vu],LS++[L],rfl,zaa,rfl,HSY.out,?_,?_,?_,hb3,oo.below (hbw1.trans (hb2.mono hbs1)) zaa⟩
     ·rw [oo.block _ zaa];exact HH.out
     ·rw [Nn w2 _ k _ _ (.iface vt vu) HH2.out,Ik hlv,show n-(k+1)=m by have:=HM.out;omega]
     ·refine HHL.out.next (fun num dep L' v' h=>(h.ao hb2).tag oo HH2.out zac) HPW.out (eW.tag HLV.out oo HH2.out zac)
  ·obtain rfl:k=n:=zaa;have hn0:k-k=0:=zaa;rw [hn0] at hLB;have hk1500:=hlen;have HLB:Hid _:=hLB;have HHL:Hid _:=HL;have HSYN:Hid _:=hsyn;clear hLB HL hsyn hPB hq hk hkn hn0;by_cases h0:k=0
   ·have HS:Hid (Ref.syn P=some k):=by
     have:=Ref.Am (P:=P) zbK (fun h=>by have:=h.1;rw [HPn.out] at this;omega);rw [HPn.out] at this;exact this
    subst h0;go_wp2_with fail;refine (aU 1 0 2 _).mono ?_;exact zdH
   ·cases hE:(Ref.pc P k).toList.isEmpty
    case true =>
     have HS:Hid (Ref.syn P=none):=by
      refine Ref.Iu (P:=P) zbK (by rw [HPn.out];omega) ?_;rw [HPn.out];exact hE
     have hE':(Ref.pc P k).toList=[]:=PY.1 hE;go_wp2;go_ret;rw [HPost.out];simp only;rw [HS.out];refine ⟨hbw,w1.heap.size+1,vs,LS,?_,?_,?_,?_⟩
     ·rw [hlv];rfl
     ·have:=HLB.out;simpa using this
     ·omega
     ·have:=HHL.out;rw [HPn.out];exact this
    case false =>
     have HS:Hid (Ref.syn P=some k):=by
      have:=Ref.Am (P:=P) zbK (fun h=>by
       have h:=h.2;rw [HPn.out] at h;have:(Ref.pc P k).toList.isEmpty=true:=h;rw [hE] at this;cases this)
      rw [HPn.out] at this;exact this
     go_wp2_with fail;refine (aU (k+1) 0 2 _).mono ?_;exact zdH
