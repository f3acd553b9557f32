import Derived.Test.YtlmdcnflglmkeaaGreatDoorM10
set_option maxRecDepth 100000
set_option maxHeartbeats 8000000
namespace Go.Proofs.YtlmdcnflglmkeaaGreatDoor
variable {zp:Prop}
theorem zcY (h:zp:=by
 go_enter func122,ntmps122;go_wp2_with fail;refine (aF p num dep x r _ H).mono ?_;rintro e w1 ⟨rfl,ho,H1⟩;have ht1:=ho.ai;clear ho;dsimp only;go_wp2_with fail;refine (jY p num dep r _ H1 (hv.ai ht1)).mono ?_;rintro e w2 hq;unfold ew at hq;rw [hn] at hq;obtain ⟨a,n,c,rfl,hown,ht2,H2⟩:=hq;have hown':=aD hown ht1.size;clear hn hown;dsimp only;go_wp2;go_ret;unfold aT;rw [HS.out];exact ⟨_,rfl,⟨a,n,c,rfl,hown'⟩,ht1.trans ht2,H2⟩):zp:=h
theorem zc1 (h:zp:=by
 go_enter func122,ntmps122;go_wp2_with fail;refine (aF p num dep x r _ H).mono ?_;rintro e w1 ⟨rfl,ho,H1⟩;have ht1:=ho.ai;clear ho;dsimp only;go_wp2_with fail;refine (jY p num dep r _ H1 (hv.ai ht1)).mono ?_;rintro e w2 hq;unfold ew at hq;rw [hn] at hq;obtain ⟨ht,b,h4,h5,rfl⟩:=hq;dsimp only;refine ⟨rfl,?_⟩;unfold aT;rw [HS.out];exact ⟨ht1.trans ht,b,Fq ht1.size h4,h5,rfl⟩):zp:=h
theorem zdk (h:zp:=by
 rintro e w2 hq;unfold gI at hq;rw [hn] at hq;obtain ⟨a,n,c,rfl,hown,ht2,H2⟩:=hq;have hown':=aD hown ht4.size;clear hn hown;dsimp only;go_wp2;go_ret;unfold aT;rw [HS.out];exact ⟨_,rfl,⟨a,n,c,rfl,hown'⟩,ht4.trans ht2,H2⟩):zp:=h
theorem zdx (h:zp:=by
 rintro e w2 hq;unfold gI at hq;rw [hn] at hq;obtain ⟨ht,b,h4,h5,rfl⟩:=hq;dsimp only;refine ⟨rfl,?_⟩;unfold aT;rw [HS.out];exact ⟨ht4.trans ht,b,Fq ht4.size h4,h5,rfl⟩):zp:=h
theorem zdD (h:zp:=by
 rintro e w2 ⟨hb,b,h4,h5,rfl⟩;dsimp only;refine ⟨rfl,?_⟩;rw [HPost.out];simp only;rw [HS.out];exact ⟨hbw.trans (hb.mono hbs),b,Fq hbs h4,h5,rfl⟩):zp:=h
theorem zdG (h:zp:=by
 rintro e w2 hq;obtain ⟨ht,b,h4,h5,rfl⟩:=hq;dsimp only;refine ⟨rfl,?_⟩;unfold aT;rw [HS.out];exact ⟨ht1.trans ht,b,Fq ht1.size h4,h5,rfl⟩):zp:=h
theorem zdJ (h:zp:=by
 obtain ⟨ht,b,h4,h5,rfl⟩:=hq;dsimp only;refine ⟨rfl,?_⟩;unfold aT;rw [HS.out];exact ⟨ht1.trans ht,b,Fq ht1.size h4,h5,rfl⟩):zp:=h
theorem zdM (h:zp:=by
 rw [qX];cases cG (y::r) with
 | none=>rfl
 | some q =>
  obtain ⟨A,t⟩:=q;cases t with
  | nil=>simp [aE,ex]
  | cons _ _=>rfl):zp:=h
theorem zdQ (h:zp:=by
 rintro e w2 ⟨rfl,ht2,H2⟩;dsimp only;go_wp2;go_ret;unfold aT;rw [HS.out];exact ⟨_,rfl,rfl,ht1.trans ht2,H2⟩):zp:=h
theorem zd3 (h:zp:=by
 simp only [if_true];cases gu r with
 | none=>rfl
 | some q=>obtain ⟨⟨_,_⟩,t⟩:=q;cases t <;> rfl):zp:=h
theorem zea (h:zp:=by
 rw [dE];cases hp:Ref.plain y
 ·simp
 ·cases r with
  | nil=>simp [aE,bu,ex]
  | cons _ _=>simp):zp:=h
theorem zem (h:zp:=by
 cases gu r with
 | none=>rfl
 | some q=>obtain ⟨q,t⟩:=q;cases t <;> rfl):zp:=h
theorem zen (h:zp:=by
 split
 ·exact ⟨h0 0,h0 1,i6,fun a ha=>absurd ha zad,LL _⟩
 ·exact dC):zp:=h
theorem zet (h:zp:=by
 rw [Lib.splitB_miss _ _ _ _ hm,o0 c _ (by rw [<- hone];exact hm)];rfl):zp:=h
theorem zew (h:zp:=by
 go_meet
 case rel=>exact ⟨false,rfl,M1,ht1,.inr ⟨rfl,zaJ,H1⟩⟩):zp:=h
theorem zeN (h:zp:=by
 cases Ref.cA d
 ·rfl
 ·simp only [if_true];rw [vR,hy];rfl):zp:=h
theorem zfo (h:zp:=by
 split
 ·rfl
 ·split <;> rfl):zp:=h
theorem zaE (h:zp:=by simp [World.frozen?,l5]):zp:=h
theorem zaJ (h:zp:=by first | rfl | trivial):zp:=h
theorem zbu (h:zp:=by rw [hw1];exact ((FP _ _).alloc (u0 _) _).alloc (by simp) _):zp:=h
theorem zbI (h:zp:=by rw [HPn.out];exact HSYN.out):zp:=h
theorem zbO (h:zp:=by unfold Hid Pro.bk;rw [hp]):zp:=h
theorem zbU (h:zp:=by show A.length<=_;omega):zp:=h
theorem zbX (h:zp:=by unfold Hid;rw [Pro.bj,Ref.cT,h1,Ref.aM,h2,Ref.bW,h3,Ref.bh,h4,Ref.cOn,h5,Ref.iG,h6,Ref.kT,h7,Ref.oW,h8,hn];rfl):zp:=h
theorem zbY (h:zp:=by unfold Hid;rw [Pro.bj,Ref.cT,h1,Ref.aM,h2,Ref.bW,h3,Ref.bh,h4,Ref.cOn,h5,Ref.iG,h6,he];simp only;rw [hn];rfl):zp:=h
theorem zbZ (h:zp:=by unfold Hid;rw [Pro.bj,Ref.cT,h1,Ref.aM,h2,Ref.bW,h3,Ref.bh,h4,Ref.cOn,h5,Ref.iG,h6,Ref.kT,h7,hn];rfl):zp:=h
theorem zb0 (h:zp:=by unfold Hid;rw [Pro.bj,Ref.cT,h1,Ref.aM,h2,Ref.bW,h3,Ref.bh,h4,Ref.cOn,h5,he];simp only;rw [hn];rfl):zp:=h
theorem zb7 (h:zp:=by unfold Hid;rw [Pro.bj,Ref.cT,h1,Ref.aM,h2,Ref.bW,h3,Ref.bh,h4,hn];rfl):zp:=h
theorem zcb (h:zp:=by unfold Hid;rw [Pro.bj,Ref.cT,h1,Ref.aM,h2,Ref.bW,h3,hn];rfl):zp:=h
theorem zci (h:zp:=by unfold Hid;rw [Pro.bj,Ref.cT,h1,Ref.aM,h2,hn];rfl):zp:=h
open Tryz
variable {a b x c d y s:ByteArray} {l P r:List ByteArray} {n k i:Nat} {A:List Act} {S S':List Ref.State} {w w':World} {vs:List Value}
section
open Go.RowKit
theorem Jf:Tryz.f178.results=#[.cell 4 358]:=rfl
theorem oG:(Tryz.prog.info? 358).map (·.size)=some 7:=zab
namespace Pro
def xO:ByteArray:=⟨#[116,111]⟩
def pTo:List ByteArray->Option (ByteArray×List ByteArray)
 | []=>some (ByteArray.empty,[])
 | y::r=>if y.toList == xO.toList then pOf Ref.plain r else some (ByteArray.empty,y::r)
def gu (l:List ByteArray):Option ((ByteArray×List Ref.Act)×List ByteArray):=match pTo l with
 | none=>none
 | some (t,r)=>(a7 r).map fun q=>((t,q.1),q.2)
end Pro
def gI (p:Nat) (num dep:Int) (ev:ByteArray) (af:Bool) (d:Int) (l:List ByteArray) (w:World) (e:Ending) (w':World):Prop:=match Pro.gu l with
 | none=>cQ p 2 num w e w'
 | some ((t,A),r)=>∃ a n c,e = .returned (.agg #[.int .i64 num,.int .i64 dep,.string ev,.bool af,.int .u64 d,.string t,.slice a n c])/\w'.ownsRow w.heap.size 235 1 (.slice a n c) A.length (A.map bg)/\ak p w w'/\ah w' p num dep r
structure vH (w w1:World) (ev t:ByteArray) (af:Bool) (d:Int):Prop where
 m:w1.heap[w.heap.size]?=some (.cells #[ev,af,.int .u64 d,t,.slice none 0 0] 224 (0,0))
 l:w1.heap[w.heap.size+1]?=some (.cells #[(0:Int),(0:Int),ByteArray.empty,false,.int .u64 0,ByteArray.empty,.slice none 0 0] 358 (0,0))
theorem nY (p:Nat) (num dep:Int) (ev:ByteArray) (af:Bool) (d:Int) (l:List ByteArray) (w:World) (H:ah w p num dep l) (hv:bH p w) :
  () 178 #[p,.agg #[ev,af,.int .u64 d,ByteArray.empty,.slice none 0 0]] w (gI p num dep ev af d l w):=by
 have hpl:=H.lt;have HPM:Hid (Pro.gu l=match Pro.pTo l with | none=>none | some (t,r)=>(Pro.a7 r).map fun q=>((t,q.1),q.2)):=rfl;go_enter func178,ntmps178
 go_upto_region 1 with fail
 obtain ⟨w1,hw1⟩:∃ y,y=(w.alloc (.cells #[ev,af,.int .u64 d,ByteArray.empty,.slice none 0 0] 224)).alloc (.cells #[(0:Int),(0:Int),ByteArray.empty,false,.int .u64 0,ByteArray.empty,.slice none 0 0] 358):=⟨_,rfl⟩;change Code.wp _ _ _ _ ((w.alloc (.cells #[ev,af,.int .u64 d,ByteArray.empty,.slice none 0 0] 224)).alloc (.cells #[(0:Int),(0:Int),ByteArray.empty,false,.int .u64 0,ByteArray.empty,.slice none 0 0] 358));rw [<- hw1];have ht1:ak p w w1:=by rw [hw1];exact ((ak.refl p w).alloc _).alloc _
 have H1:ah w1 p num dep l:=by rw [hw1];exact (H.alloc _).alloc _
 have M1:vH w w1 ev ByteArray.empty af d:=by rw [hw1];exact ⟨eN _ _ _,bP _ _ _⟩
 clear hw1;cases htl:Pro.pTo l with
 | none =>
  cases l with
  | nil=>cases htl
  | cons y r =>
   cases hy:(y.toList == Pro.xO.toList)
   ·rw [Pro.pTo,hy] at htl;cases htl
   ·have hr:Pro.pOf Ref.plain r=none:=by rw [Pro.pTo,hy] at htl;exact htl
    have HS:Hid (Pro.gu (y::r)=none):=by unfold Hid;rw [HPM.out,htl]
    clear HPM;go_wp2_with fail;refine (jM p num dep y r Pro.xO _ H1 hy).mono ?_;rintro e w2 ⟨rfl,ho2,H2⟩;have ht2:=ht1.trans ho2.ai;dsimp only;go_wp2_with fail;refine (ed p num dep r _ H2 (hv.ai ht2)).mono ?_;rintro e w3 h3;rw [hr] at h3;obtain ⟨ht3,b,h4,h5,rfl⟩:=h3;dsimp only;refine ⟨rfl,?_⟩;unfold gI;rw [HS.out];exact ⟨ht2.trans ht3,b,Fq ht2.size h4,h5,rfl⟩
 | some q =>
  obtain ⟨t,r⟩:=q;have HS:Hid (Pro.gu l=(Pro.a7 r).map fun q=>((t,q.1),q.2)):=by unfold Hid;rw [HPM.out,htl]
  clear HPM
  go_cut [6] (fun c wx=>∃ b:Bool,c = .bool b/\vH w wx ev ByteArray.empty af d/\ak p w wx/\((b=true/\∃ r0,Pro.pOf Ref.plain r0=some (t,r)/\ah wx p num dep r0)\/(b=false/\t=ByteArray.empty/\ah wx p num dep r)))
  case first =>
   cases l with
   | nil =>
    cases htl
    go_wp2_with (go_at_call 222;refine (skip_none p num dep Pro.xO _ H1).mono ?_;rintro e w9 ⟨rfl,hw9⟩;rw [hw9];clear hw9 w9);exact zew
   | cons y r1 =>
    cases hy:(y.toList == Pro.xO.toList)
    ·rw [Pro.pTo,hy] at htl;cases htl
     go_wp2_with (go_at_call 222;refine (qA p num dep y r1 Pro.xO _ H1 hy).mono ?_;rintro e w9 ⟨rfl,hw9⟩;rw [hw9];clear hw9 w9);exact zew
    ·have hr:Pro.pOf Ref.plain r1=some (t,r):=by rw [Pro.pTo,hy] at htl;exact htl
     go_wp2_with (go_at_call 222;refine (jM p num dep y r1 Pro.xO _ H1 hy).mono ?_;rintro e w2 ⟨rfl,ho2,H2⟩);go_meet
     case rel=>exact ⟨true,rfl,⟨(ho2.block _ zaa).trans M1.m,(ho2.block _ zaa).trans M1.l⟩,ht1.trans ho2.ai,.inl ⟨rfl,r1,hr,H2⟩⟩
  case rest =>
   obtain ⟨b,rfl,M2,ht2,hbb⟩:=hcut;clear M1 H1 ht1;obtain ⟨w2,hw2⟩:∃ y:World,y=wc:=⟨wc,rfl⟩;subst hw2
   go_upto_if 6 with fail
   go_cut [] (fun wx=>vH w wx ev t af d/\ak p w wx/\ah wx p num dep r)
   case first =>
    rcases hbb with ⟨rfl,r0,hr0,H2⟩ | ⟨rfl,rfl,H2⟩
    ·go_wp2_with fail;refine (ed p num dep r0 _ H2 (hv.ai ht2)).mono ?_;rintro e w3 h3;rw [hr0] at h3;obtain ⟨rfl,ht3,H3⟩:=h3;have hs2:=ht2.size;have lm:=(ph.1 M2.m).1;have ll:=(ph.1 M2.l).1;have m3:=(ht3.block _ lm zaa).trans M2.m;have l3:=(ht3.block _ ll zaa).trans M2.l;have k3:w3.cell? ⟨w,3,none⟩=some ↑ByteArray.empty:=by rw [JJ w3 _ 3 _ _ _ m3];rfl
     have f3:w3.frozen? ⟨w,3,none⟩=false:=by simp [World.frozen?,m3]
     dsimp only;go_wp2;go_meet
     case rel =>
      have oo:=aa w3 w 3 (.string t);refine ⟨⟨?_,(oo.block _ zaa).trans l3⟩,(ht2.trans ht3).iu oo (u0 _),H3.only oo hpl⟩;rw [LP w3 _ 3 _ _ _ m3];rfl
    ·go_wp2;go_meet
     case rel=>exact ⟨M2,ht2,H2⟩
   case rest =>
    obtain ⟨M3,ht3,H3⟩:=hcut;clear M2 ht2 hbb;obtain ⟨w3,hw3⟩:∃ y:World,y=wc:=⟨wc,rfl⟩;subst hw3;go_wp2_with fail;refine (iW p num dep r _ H3 (hv.ai ht3)).mono ?_;rintro e w4 h4;unfold gH at h4;cases ha:Pro.a7 r with
    | none =>
     rw [ha] at h4;have HS2:Hid (Pro.gu l=none):=by unfold Hid;rw [HS.out,ha];rfl
     obtain ⟨ht4,b,h5,h6,rfl⟩:=h4;dsimp only;refine ⟨rfl,?_⟩;unfold gI;rw [HS2.out];exact ⟨ht3.trans ht4,b,Fq ht3.size h5,h6,rfl⟩
    | some q =>
     obtain ⟨A,r'⟩:=q;rw [ha] at h4;have HS2:Hid (Pro.gu l=some ((t,A),r')):=by unfold Hid;rw [HS.out,ha];rfl
     obtain ⟨a,n,c,rfl,hown,ht4,H4⟩:=h4;have hs3:=ht3.size;have lm:=(ph.1 M3.m).1;have ll:=(ph.1 M3.l).1;have m4:=(ht4.block _ lm zaa).trans M3.m;have l4:=(ht4.block _ ll zaa).trans M3.l;have hown4:=aD hown hs3;have k4:w4.cell? ⟨w,4,none⟩=some (.slice none 0 0):=by rw [JJ w4 _ 4 _ _ _ m4];rfl
     have f4:w4.frozen? ⟨w,4,none⟩=false:=by simp [World.frozen?,m4]
     have o5:=aa w4 w 4 (.slice a n c);have m5:=LP w4 w 4 _ _ (.slice a n c) m4;have l5:=(o5.block (w.heap.size+1) zaa).trans l4;have hown5:=l6 hown4 o5 m4 zac;have ht5:=(ht3.trans ht4).iu o5 (u0 _);have H5:=H4.only o5 hpl;clear HS ha M3 ht3 H3 hown ht4 H4 m4 l4 hown4 o5;dsimp only
     go_upto_region 4 with fail
     generalize w4.setCell ⟨w,4,none⟩ (.slice a n c)=w5 at *;clear k4 f4;obtain ⟨c0,c1⟩:=H5.cells;have y0:w5.cell? w=some ↑ev:=by rw [JJ w5 _ 0 _ _ _ m5];rfl
     have y1:w5.cell? ⟨w,1,none⟩=some (.bool af):=by rw [JJ w5 _ 1 _ _ _ m5];rfl
     have y2:w5.cell? ⟨w,2,none⟩=some (.int .u64 d):=by rw [JJ w5 _ 2 _ _ _ m5];rfl
     have y3:w5.cell? ⟨w,3,none⟩=some ↑t:=by rw [JJ w5 _ 3 _ _ _ m5];rfl
     have y4:w5.cell? ⟨w,4,none⟩=some (.slice a n c):=by rw [JJ w5 _ 4 _ _ _ m5];rfl
     have z0:w5.cell? ⟨w.heap.size+1,0,none⟩=some ↑(0:Int):=by rw [JJ w5 _ 0 _ _ _ l5];rfl
     have q0:w5.frozen? ⟨w.heap.size+1,0,none⟩=false:=zaE;have z1:w5.cell? ⟨w.heap.size+1,1,none⟩=some ↑(0:Int):=by rw [JJ w5 _ 1 _ _ _ l5];rfl
     have q1:w5.frozen? ⟨w.heap.size+1,1,none⟩=false:=zaE;have z2:w5.cell? ⟨w.heap.size+1,2,none⟩=some ↑ByteArray.empty:=by rw [JJ w5 _ 2 _ _ _ l5];rfl
     have q2:w5.frozen? ⟨w.heap.size+1,2,none⟩=false:=zaE;have z3:w5.cell? ⟨w.heap.size+1,3,none⟩=some (.bool false):=by rw [JJ w5 _ 3 _ _ _ l5];rfl
     have q3:w5.frozen? ⟨w.heap.size+1,3,none⟩=false:=zaE;have z4:w5.cell? ⟨w.heap.size+1,4,none⟩=some (.int .u64 0):=by rw [JJ w5 _ 4 _ _ _ l5];rfl
     have q4:w5.frozen? ⟨w.heap.size+1,4,none⟩=false:=zaE;have z5:w5.cell? ⟨w.heap.size+1,5,none⟩=some ↑ByteArray.empty:=by rw [JJ w5 _ 5 _ _ _ l5];rfl
     have q5:w5.frozen? ⟨w.heap.size+1,5,none⟩=false:=zaE;have z6:w5.cell? ⟨w.heap.size+1,6,none⟩=some (.slice none 0 0):=by rw [JJ w5 _ 6 _ _ _ l5];rfl
     have q6:w5.frozen? ⟨w.heap.size+1,6,none⟩=false:=zaE;have hne1:¬ p=w.heap.size+1:=zaa;have hne2:¬ w.heap.size+1=p:=zaa;have hne3:¬ w.heap.size=w.heap.size+1:=zaa;have HH:Hid (w5.ownsRow w 235 1 (.slice a n c) A.length (A.map bg)/\ak p w w5/\ah w5 p num dep r'):=⟨hown5,ht5,H5⟩;have HL5:Hid _:=l5;clear m5 l5 hown5 ht5 H5;refine eH 6 zab zab ?_;simp only [List.take_succ_cons,List.take_zero,List.drop_succ_cons,List.drop_zero]
     repeat still_step
     refine M8 ?_;refine eP rfl 358 (.tmp 4) (.tmp 18) rfl _ 358 _ _ rfl rfl (show w5.drew.heap[w.heap.size+1]?=_ from HL5.out) oG rfl rfl ?_;go_wp2;have G2:=(gP w5.drew (w.heap.size+1) #[(num:Int),(dep:Int),ev,af,.int .u64 d,t,.slice a n c]).I9;refine dQ Jf _ 358 _ (0,0) _ rfl (Qo _ _ _ _ _ _ (show w5.drew.heap[w.heap.size+1]?=_ from HL5.out)) underlying358 rfl oG rfl ?_;unfold gI;rw [HS2.out];exact ⟨a,n,c,rfl,l6 HH.out.1 G2 HL5.out zac,HH.out.2.1.iu G2 zaa,HH.out.2.2.only G2 zaa⟩
namespace Pro
inductive PL where
 | state (k:Int) (name:ByteArray)
 | move (ev:ByteArray) (af:Bool) (d:Int) (dst:ByteArray) (A:List Ref.Act)
 | enter (A:List Ref.Act)
 | leave (A:List Ref.Act)
def bj (num:Nat):List ByteArray->Option (PL×List ByteArray)
 | []=>none
 | x::r =>
  if x.toList == Ref.cT then (pOf Ref.plain r).map fun q=>(.state 0 q.1,q.2)
  else if x.toList == Ref.aM then (pOf Ref.plain r).map fun q=>(.state 1 q.1,q.2)
  else if x.toList == Ref.bW then (pOf Ref.plain r).map fun q=>(.state 2 q.1,q.2)
  else if x.toList == Ref.bh then (dd r).map fun q=>(.state q.1.2 q.1.1,q.2)
  else if x.toList == Ref.cOn then match pOf Ref.bX r with
   | none=>none
   | some (ev,r1)=>(gu r1).map fun q=>(.move ev false 0 q.1.1 q.1.2,q.2)
  else if x.toList == Ref.iG then match gB r with
   | none=>none
   | some (d,r1)=>(gu r1).map fun q=>(.move (Ref.bK++Ref.dec num) true d q.1.1 q.1.2,q.2)
  else if x.toList == Ref.kT then (cG r).map fun q=>(.enter q.1,q.2)
  else if x.toList == Ref.oW then (cG r).map fun q=>(.leave q.1,q.2)
  else none
end Pro
def eV (w:World) (base:Nat) (num dep:Int):Pro.PL->Value->Prop
 | .state k n,v=>v = .iface 354 (.agg #[.int .i64 num,.int .i64 dep,.int .i64 k,.string n])
 | .move ev af d t A,v=>∃ a n c,v = .iface 358 (.agg #[.int .i64 num,.int .i64 dep,.string ev,.bool af,.int .u64 d,.string t,.slice a n c])/\w.ownsRow base 235 1 (.slice a n c) A.length (A.map bg)
 | .enter A,v=>∃ a n c,v = .iface 365 (.agg #[.int .i64 num,.int .i64 dep,.slice a n c])/\w.ownsRow base 235 1 (.slice a n c) A.length (A.map bg)
 | .leave A,v=>∃ a n c,v = .iface 366 (.agg #[.int .i64 num,.int .i64 dep,.slice a n c])/\w.ownsRow base 235 1 (.slice a n c) A.length (A.map bg)
def aT (p num:Nat) (dep:Int) (l:List ByteArray) (w:World) (e:Ending) (w':World):Prop:=match Pro.bj num l with
 | none=>cQ p 2 num w e w'
 | some (L,r)=>∃ v,e = .returned v/\eV w' w.heap.size num dep L v/\ak p w w'/\ah w' p num dep r
theorem Bb (p num:Nat) (dep:Int) (x:ByteArray) (r:List ByteArray) (w:World) (H:ah w p num dep (x::r)) (hv:bH p w) (h1:(x.toList == [115,116,97,116,101])=true) :
  () 122 #[p] w (aT p num dep (x::r) w):=by
 cases hn:Pro.pOf Ref.plain r with
 | none =>
  have HS:Hid (Pro.bj num (x::r)=none):=by unfold Hid;rw [Pro.bj,Ref.cT,h1,hn];rfl
  go_enter func122,ntmps122;go_wp2_with fail;refine (aF p num dep x r _ H).mono ?_;rintro e w1 ⟨rfl,ho,H1⟩;have ht1:=ho.ai;clear ho;dsimp only;go_wp2_with fail;refine (oK p num dep 0 r _ H1 (hv.ai ht1) hn).mono ?_;exact zdG
 | some q =>
  obtain ⟨n,r'⟩:=q;have HS:Hid (Pro.bj num (x::r)=some (.state 0 n,r')):=by unfold Hid;rw [Pro.bj,Ref.cT,h1,hn];rfl
  go_enter func122,ntmps122;go_wp2_with fail;refine (aF p num dep x r _ H).mono ?_;rintro e w1 ⟨rfl,ho,H1⟩;have ht1:=ho.ai;clear ho;dsimp only;go_wp2_with fail;refine (mh p num dep 0 r r' n _ H1 (hv.ai ht1) hn).mono ?_;exact zdQ
theorem tu (p num:Nat) (dep:Int) (x:ByteArray) (r:List ByteArray) (w:World) (H:ah w p num dep (x::r)) (hv:bH p w) (h1:(x.toList == [115,116,97,116,101])=false) (h2:(x.toList == [112,97,114,97,108,108,101,108])=true) :
  () 122 #[p] w (aT p num dep (x::r) w):=by
 cases hn:Pro.pOf Ref.plain r with
 | none =>
  have HS:Hid (Pro.bj num (x::r)=none):=zci;go_enter func122,ntmps122;go_wp2_with fail;refine (aF p num dep x r _ H).mono ?_;rintro e w1 ⟨rfl,ho,H1⟩;have ht1:=ho.ai;clear ho;dsimp only;go_wp2_with fail;refine (oK p num dep 1 r _ H1 (hv.ai ht1) hn).mono ?_;exact zdG
 | some q =>
  obtain ⟨n,r'⟩:=q;have HS:Hid (Pro.bj num (x::r)=some (.state 1 n,r')):=zci;go_enter func122,ntmps122;go_wp2_with fail;refine (aF p num dep x r _ H).mono ?_;rintro e w1 ⟨rfl,ho,H1⟩;have ht1:=ho.ai;clear ho;dsimp only;go_wp2_with fail;refine (mh p num dep 1 r r' n _ H1 (hv.ai ht1) hn).mono ?_;exact zdQ
theorem A8 (p num:Nat) (dep:Int) (x:ByteArray) (r:List ByteArray) (w:World) (H:ah w p num dep (x::r)) (hv:bH p w) (h1:(x.toList == [115,116,97,116,101])=false) (h2:(x.toList == [112,97,114,97,108,108,101,108])=false) (h3:(x.toList == [102,105,110,97,108])=true) :
  () 122 #[p] w (aT p num dep (x::r) w):=by
 cases hn:Pro.pOf Ref.plain r with
 | none =>
  have HS:Hid (Pro.bj num (x::r)=none):=zcb;go_enter func122,ntmps122;go_wp2_with fail;refine (aF p num dep x r _ H).mono ?_;rintro e w1 ⟨rfl,ho,H1⟩;have ht1:=ho.ai;clear ho;dsimp only;go_wp2_with fail;refine (oK p num dep 2 r _ H1 (hv.ai ht1) hn).mono ?_;exact zdG
 | some q =>
  obtain ⟨n,r'⟩:=q;have HS:Hid (Pro.bj num (x::r)=some (.state 2 n,r')):=zcb;go_enter func122,ntmps122;go_wp2_with fail;refine (aF p num dep x r _ H).mono ?_;rintro e w1 ⟨rfl,ho,H1⟩;have ht1:=ho.ai;clear ho;dsimp only;go_wp2_with fail;refine (mh p num dep 2 r r' n _ H1 (hv.ai ht1) hn).mono ?_;exact zdQ
theorem wC (p num:Nat) (dep:Int) (x:ByteArray) (r:List ByteArray) (w:World) (H:ah w p num dep (x::r)) (hv:bH p w) (h1:(x.toList == [115,116,97,116,101])=false) (h2:(x.toList == [112,97,114,97,108,108,101,108])=false) (h3:(x.toList == [102,105,110,97,108])=false) (h4:(x.toList == [104,105,115,116,111,114,121])=true) :
  () 122 #[p] w (aT p num dep (x::r) w):=by
 cases hn:Pro.dd r with
 | none =>
  have HS:Hid (Pro.bj num (x::r)=none):=zb7;go_enter func122,ntmps122;go_wp2_with fail;refine (aF p num dep x r _ H).mono ?_;rintro e w1 ⟨rfl,ho,H1⟩;have ht1:=ho.ai;clear ho;dsimp only;go_wp2_with fail;refine (pP p num dep r _ H1 (hv.ai ht1)).mono ?_;rintro e w2 hq;rw [hn] at hq;exact zdJ
 | some q =>
  obtain ⟨⟨n,kk⟩,r'⟩:=q;have HS:Hid (Pro.bj num (x::r)=some (.state kk n,r')):=zb7;go_enter func122,ntmps122;go_wp2_with fail;refine (aF p num dep x r _ H).mono ?_;rintro e w1 ⟨rfl,ho,H1⟩;have ht1:=ho.ai;clear ho;dsimp only;go_wp2_with fail;refine (pP p num dep r _ H1 (hv.ai ht1)).mono ?_;rintro e w2 hq;rw [hn] at hq;obtain ⟨rfl,ht2,H2⟩:=hq;clear hn;dsimp only;go_wp2;go_ret;unfold aT;rw [HS.out];exact ⟨_,rfl,rfl,ht1.trans ht2,H2⟩
theorem A6 (p num:Nat) (dep:Int) (x:ByteArray) (r:List ByteArray) (w:World) (H:ah w p num dep (x::r)) (hv:bH p w) (h1:(x.toList == [115,116,97,116,101])=false) (h2:(x.toList == [112,97,114,97,108,108,101,108])=false) (h3:(x.toList == [102,105,110,97,108])=false) (h4:(x.toList == [104,105,115,116,111,114,121])=false) (h5:(x.toList == [111,110])=false) (h6:(x.toList == [97,102,116,101,114])=false) (h7:(x.toList == [101,110,116,101,114])=true) :
  () 122 #[p] w (aT p num dep (x::r) w):=by
 cases hn:Pro.cG r with
 | none =>
  have HS:Hid (Pro.bj num (x::r)=none):=zbZ;exact zc1
 | some q =>
  obtain ⟨A,r'⟩:=q;have HS:Hid (Pro.bj num (x::r)=some (.enter A,r')):=zbZ;exact zcY
theorem A9 (p num:Nat) (dep:Int) (x:ByteArray) (r:List ByteArray) (w:World) (H:ah w p num dep (x::r)) (hv:bH p w) (h1:(x.toList == [115,116,97,116,101])=false) (h2:(x.toList == [112,97,114,97,108,108,101,108])=false) (h3:(x.toList == [102,105,110,97,108])=false) (h4:(x.toList == [104,105,115,116,111,114,121])=false) (h5:(x.toList == [111,110])=false) (h6:(x.toList == [97,102,116,101,114])=false) (h7:(x.toList == [101,110,116,101,114])=false) (h8:(x.toList == [108,101,97,118,101])=true) :
  () 122 #[p] w (aT p num dep (x::r) w):=by
 cases hn:Pro.cG r with
 | none =>
  have HS:Hid (Pro.bj num (x::r)=none):=zbX;exact zc1
 | some q =>
  obtain ⟨A,r'⟩:=q;have HS:Hid (Pro.bj num (x::r)=some (.leave A,r')):=zbX;exact zcY
theorem IS (p num:Nat) (dep:Int) (x:ByteArray) (r:List ByteArray) (w:World) (H:ah w p num dep (x::r)) (hv:bH p w) (h1:(x.toList == [115,116,97,116,101])=false) (h2:(x.toList == [112,97,114,97,108,108,101,108])=false) (h3:(x.toList == [102,105,110,97,108])=false) (h4:(x.toList == [104,105,115,116,111,114,121])=false) (h5:(x.toList == [111,110])=true) :
  () 122 #[p] w (aT p num dep (x::r) w):=by
 cases he:Pro.pOf Ref.bX r with
 | none =>
  have HS:Hid (Pro.bj num (x::r)=none):=by unfold Hid;rw [Pro.bj,Ref.cT,h1,Ref.aM,h2,Ref.bW,h3,Ref.bh,h4,Ref.cOn,h5,he];rfl
  go_enter func122,ntmps122;go_wp2_with fail;refine (aF p num dep x r _ H).mono ?_;rintro e w1 ⟨rfl,ho,H1⟩;have ht1:=ho.ai;clear ho;dsimp only;go_wp2_with fail;refine (fu p num dep r _ H1 (hv.ai ht1)).mono ?_;rintro e w2 hq;rw [he] at hq;exact zdJ
 | some q =>
  obtain ⟨ev,r1⟩:=q;cases hn:Pro.gu r1 with
  | none =>
   have HS:Hid (Pro.bj num (x::r)=none):=zb0;go_enter func122,ntmps122;go_wp2_with fail;refine (aF p num dep x r _ H).mono ?_;rintro e w1 ⟨rfl,ho,H1⟩;have ht1:=ho.ai;clear ho;dsimp only;go_wp2_with fail;refine (fu p num dep r _ H1 (hv.ai ht1)).mono ?_;rintro e w3 h3;rw [he] at h3;obtain ⟨rfl,ht3,H3⟩:=h3;have ht4:=ht1.trans ht3;clear he H1 ht3;dsimp only;go_wp2_with fail;refine (nY p num dep ev false 0 r1 _ H3 (hv.ai ht4)).mono ?_;exact zdx
  | some q =>
   obtain ⟨⟨t,A⟩,r'⟩:=q;have HS:Hid (Pro.bj num (x::r)=some (.move ev false 0 t A,r')):=zb0;go_enter func122,ntmps122;go_wp2_with fail;refine (aF p num dep x r _ H).mono ?_;rintro e w1 ⟨rfl,ho,H1⟩;have ht1:=ho.ai;clear ho;dsimp only;go_wp2_with fail;refine (fu p num dep r _ H1 (hv.ai ht1)).mono ?_;rintro e w3 h3;rw [he] at h3;obtain ⟨rfl,ht3,H3⟩:=h3;have ht4:=ht1.trans ht3;clear he H1 ht3;dsimp only;go_wp2_with fail;refine (nY p num dep ev false 0 r1 _ H3 (hv.ai ht4)).mono ?_;exact zdk
theorem A0 (p num:Nat) (dep:Int) (x:ByteArray) (r:List ByteArray) (w:World) (H:ah w p num dep (x::r)) (hv:bH p w) (hnum:num<=1073741824) (h1:(x.toList == [115,116,97,116,101])=false) (h2:(x.toList == [112,97,114,97,108,108,101,108])=false) (h3:(x.toList == [102,105,110,97,108])=false) (h4:(x.toList == [104,105,115,116,111,114,121])=false) (h5:(x.toList == [111,110])=false) (h6:(x.toList == [97,102,116,101,114])=true) :
  () 122 #[p] w (aT p num dep (x::r) w):=by
 cases he:Pro.gB r with
 | none =>
  have HS:Hid (Pro.bj num (x::r)=none):=by unfold Hid;rw [Pro.bj,Ref.cT,h1,Ref.aM,h2,Ref.bW,h3,Ref.bh,h4,Ref.cOn,h5,Ref.iG,h6,he];rfl
  go_enter func122,ntmps122;go_wp2_with fail;refine (aF p num dep x r _ H).mono ?_;rintro e w1 ⟨rfl,ho,H1⟩;have ht1:=ho.ai;clear ho;obtain ⟨c0,c1⟩:=H1.cells;dsimp only;go_wp2_with fail;refine (iQ num _ hnum (hv.ai ht1).here).mono ?_;rintro e w5 ⟨rfl,hb5⟩;have ht5:=ht1.trans (aP hb5);have H5:=H1.aw hb5;clear hb5 H1 ht1 c0 c1;dsimp only;go_wp2_with fail;refine (jz p num dep r _ H5 (hv.ai ht5)).mono ?_;rintro e w2 hq;rw [he] at hq;obtain ⟨ht,b,h4,h5,rfl⟩:=hq;dsimp only;refine ⟨rfl,?_⟩;unfold aT;rw [HS.out];exact ⟨ht5.trans ht,b,Fq ht5.size h4,h5,rfl⟩
 | some q =>
  obtain ⟨d,r1⟩:=q;cases hn:Pro.gu r1 with
  | none =>
   have HS:Hid (Pro.bj num (x::r)=none):=zbY;go_enter func122,ntmps122;go_wp2_with fail;refine (aF p num dep x r _ H).mono ?_;rintro e w1 ⟨rfl,ho,H1⟩;have ht1:=ho.ai;clear ho;obtain ⟨c0,c1⟩:=H1.cells;dsimp only;go_wp2_with fail;refine (iQ num _ hnum (hv.ai ht1).here).mono ?_;rintro e w5 ⟨rfl,hb5⟩;have ht5:=ht1.trans (aP hb5);have H5:=H1.aw hb5;clear hb5 H1 ht1 c0 c1;dsimp only;go_wp2_with fail;refine (jz p num dep r _ H5 (hv.ai ht5)).mono ?_;rintro e w3 h3;rw [he] at h3;obtain ⟨rfl,ht3,H3⟩:=h3;have ht4:=ht5.trans ht3;clear he H5 ht3;dsimp only;go_wp2_with fail;refine (nY p num dep (Ref.bK++Ref.dec num) true d r1 _ H3 (hv.ai ht4)).mono ?_;exact zdx
  | some q =>
   obtain ⟨⟨t,A⟩,r'⟩:=q;have HS:Hid (Pro.bj num (x::r)=some (.move (Ref.bK++Ref.dec num) true d t A,r')):=zbY;go_enter func122,ntmps122;go_wp2_with fail;refine (aF p num dep x r _ H).mono ?_;rintro e w1 ⟨rfl,ho,H1⟩;have ht1:=ho.ai;clear ho;obtain ⟨c0,c1⟩:=H1.cells;dsimp only;go_wp2_with fail;refine (iQ num _ hnum (hv.ai ht1).here).mono ?_;rintro e w5 ⟨rfl,hb5⟩;have ht5:=ht1.trans (aP hb5);have H5:=H1.aw hb5;clear hb5 H1 ht1 c0 c1;dsimp only;go_wp2_with fail;refine (jz p num dep r _ H5 (hv.ai ht5)).mono ?_;rintro e w3 h3;rw [he] at h3;obtain ⟨rfl,ht3,H3⟩:=h3;have ht4:=ht5.trans ht3;clear he H5 ht3;dsimp only;go_wp2_with fail;refine (nY p num dep (Ref.bK++Ref.dec num) true d r1 _ H3 (hv.ai ht4)).mono ?_;exact zdk
theorem DM (p num:Nat) (dep:Int) (w:World) (H:ah w p num dep []) :
  () 122 #[p] w (aT p num dep [] w):=by
 go_enter func122,ntmps122;go_wp2_with fail;refine (lX p num dep _ H).mono ?_;rintro e w1 h1;obtain ⟨ht,b,h3,h4,rfl⟩:=cC (ak.refl p w) h1;dsimp only;exact ⟨rfl,ht,b,h3,h4,rfl⟩
theorem Ba (p num:Nat) (dep:Int) (x:ByteArray) (r:List ByteArray) (w:World) (H:ah w p num dep (x::r)) (h1:(x.toList == [115,116,97,116,101])=false) (h2:(x.toList == [112,97,114,97,108,108,101,108])=false) (h3:(x.toList == [102,105,110,97,108])=false) (h4:(x.toList == [104,105,115,116,111,114,121])=false) (h5:(x.toList == [111,110])=false) (h6:(x.toList == [97,102,116,101,114])=false) (h7:(x.toList == [101,110,116,101,114])=false) (h8:(x.toList == [108,101,97,118,101])=false) :
  () 122 #[p] w (aT p num dep (x::r) w):=by
 have HS:Hid (Pro.bj num (x::r)=none):=by unfold Hid;rw [Pro.bj,Ref.cT,h1,Ref.aM,h2,Ref.bW,h3,Ref.bh,h4,Ref.cOn,h5,Ref.iG,h6,Ref.kT,h7,Ref.oW,h8];rfl
 go_enter func122,ntmps122;go_wp2_with fail;refine (aF p num dep x r _ H).mono ?_;rintro e w1 ⟨rfl,ho,H1⟩;have ht1:=ho.ai;obtain ⟨c0,c1⟩:=H1.cells;clear ho;dsimp only;go_wp2_with fail;refine (aU num dep 2 _).mono ?_;rintro e w2 hq;obtain ⟨ht,b,h4,h5,rfl⟩:=cC ht1 hq;dsimp only;refine ⟨rfl,?_⟩;unfold aT;rw [HS.out];exact ⟨ht,b,h4,h5,rfl⟩
theorem FZ (p num:Nat) (dep:Int) (l:List ByteArray) (w:World) (H:ah w p num dep l) (hv:bH p w) (hnum:num<=1073741824) :
  () 122 #[p] w (aT p num dep l w):=by
 cases l with
 | nil=>exact DM p num dep w H
 | cons x r =>
  cases h1:(x.toList == [115,116,97,116,101])
  case true=>exact Bb p num dep x r w H hv h1
  cases h2:(x.toList == [112,97,114,97,108,108,101,108])
  case true=>exact tu p num dep x r w H hv h1 h2
  cases h3:(x.toList == [102,105,110,97,108])
  case true=>exact A8 p num dep x r w H hv h1 h2 h3
  cases h4:(x.toList == [104,105,115,116,111,114,121])
  case true=>exact wC p num dep x r w H hv h1 h2 h3 h4
  cases h5:(x.toList == [111,110])
  case true=>exact IS p num dep x r w H hv h1 h2 h3 h4 h5
  cases h6:(x.toList == [97,102,116,101,114])
  case true=>exact A0 p num dep x r w H hv hnum h1 h2 h3 h4 h5 h6
  cases h7:(x.toList == [101,110,116,101,114])
  case true=>exact A6 p num dep x r w H hv h1 h2 h3 h4 h5 h6 h7
  cases h8:(x.toList == [108,101,97,118,101])
  case true=>exact A9 p num dep x r w H hv h1 h2 h3 h4 h5 h6 h7 h8
  exact Ba p num dep x r w H h1 h2 h3 h4 h5 h6 h7 h8
namespace Pro
theorem KO (h:(a.toList == b.toList)=true):a=b:=by
 have h:=eq_of_beq h;rw [Mt,Mt] at h;cases a;cases b
 simp at h;rw [h]
theorem jW {l:List UInt8} (h:(a.toList == l)=true) (hb:b.toList=l):a=b:=KO (by rw [hb];exact h)
theorem wa:bDo.toList=Ref.cDo:=zaq
theorem vR:bAs.toList=Ref.cAs:=zaq
theorem dE {P:ByteArray->Bool}:pOf P (x::r)=if P x then some (x,r) else none:=rfl
theorem gS:gB (x::r)=if Ref.cA x then some (Ref.dV x,r) else none:=rfl
theorem D2:dt [c]=none:=by
 unfold dt;rw [dE];split
 ·rfl
 ·rename_i x l1 h;split at h
  ·cases h;rfl
  ·cases h
theorem D3:dt [c,d]=if Ref.called c&&Ref.cA d then some ((c,Ref.dV d,none),[]) else none:=by
 unfold dt;rw [dE];cases Ref.called c
 ·rfl
 ·simp only [Bool.true_and,if_true];rw [gS];cases Ref.cA d <;> rfl
theorem Bq (hy:(y.toList == Ref.cAs)=false):dt (c::d::y::r)=if Ref.called c&&Ref.cA d then some ((c,Ref.dV d,none),y::r) else none:=by
 unfold dt;rw [dE];cases Ref.called c
 ·rfl
 ·simp only [Bool.true_and,if_true];rw [gS];exact zeN
theorem DX (hy:(y.toList == Ref.cAs)=true):dt [c,d,y]=none:=by
 unfold dt;rw [dE];cases Ref.called c
 ·rfl
 ·simp only [if_true];rw [gS];exact zeN
theorem DY (hy:(y.toList == Ref.cAs)=true):dt (c::d::y::a::r)=if Ref.called c&&Ref.cA d&&Ref.called a then some ((c,Ref.dV d,some a),r) else none:=by
 unfold dt;rw [dE];cases Ref.called c
 ·rfl
 ·simp only [Bool.true_and,if_true];rw [gS];cases Ref.cA d
  ·rfl
  ·simp only [Bool.true_and,if_true];rw [vR,hy,LA rfl,dE];cases Ref.called a <;> rfl
theorem Cb {x:ByteArray} {r:List ByteArray} (h:(x.toList == Ref.cDo)=true) :
  bE r=(Ref.oS (x::r)).map fun q=>(q.1,(x::r).drop q.2):=by
 cases r with
 | nil=>rfl
 | cons y r =>
  rw [bE];cases r with
  | nil =>
   have h2:Ref.oS [x,y]=none:=by unfold Ref.oS;rw [LA zad]
   rw [h2];split
   ·rfl
   ·exact zfo
  | cons c r =>
   have hl:¬ (x::y::c::r).length<3:=zad;unfold Ref.oS;rw [KQ hl,show Ref.at' (x::y::c::r) 0=x from rfl,h,LA rfl,show Ref.at' (x::y::c::r) 1=y from rfl,show Ref.at' (x::y::c::r) 2=c from rfl];cases h1:(y.toList == Ref.eS)
   ·simp only [Bool.false_eq_true,if_false];cases h2:(y.toList == Ref.eL)
    ·simp only [Bool.false_eq_true,if_false];cases h3:(y.toList == Ref.kU)
     ·simp
     ·simp only [if_true];have ey:y=mA:=jW h3 l9;cases r with
      | nil=>rw [LA zad,D2];rfl
      | cons d r =>
       rw [KQ zad,show Ref.at' (x::y::c::d::r) 3=d from rfl];cases r with
       | nil =>
        rw [KQ zad,D3];cases Ref.called c <;> cases Ref.cA d <;> simp [ey]
       | cons u r =>
        rw [show Ref.at' (x::y::c::d::u::r) 4=u from rfl];cases h4:(u.toList == Ref.cAs)
        ·rw [KQ zad,Bq h4];cases Ref.called c <;> cases Ref.cA d <;> simp [ey]
        ·rw [LA zad];cases r with
         | nil=>rw [LA zad,DX h4];rfl
         | cons a r =>
          rw [KQ zad,show Ref.at' (x::y::c::d::u::a::r) 5=a from rfl,DY h4];cases Ref.called c <;> cases Ref.cA d <;> cases Ref.called a <;> simp [ey]
    ·have ey:y=gD:=jW h2 gL;have h3:(y.toList == Ref.kU)=false:=by rw [ey,gL];rfl
     rw [h3];simp only [Bool.false_eq_true,if_false,if_true];rw [dE];cases Ref.called c <;> simp [ey]
   ·have ey:y=oU:=jW h1 np;simp only [if_true];rw [dE];cases Ref.called c <;> simp [ey]
theorem EO (h:(x.toList == Ref.cDo)=false):Ref.oS (x::r)=none:=by
 unfold Ref.oS;split
 ·rfl
 ·rw [show Ref.at' (x::r) 0=x from rfl,h];rfl
theorem tP:∀ (n:Nat) (l:List ByteArray),l.length<=n->Ref.au l=match a7 l with | some (A,[])=>some A | _=>none
 | _,[],_=>rfl
 | 0,x::r,h=>by simp at h
 | n+1,x::r,h=>by
  cases hd:(x.toList == Ref.cDo)
  ·rw [jm (by rw [wa];exact hd)];show Ref.ju (r.length+1) (x::r)=none;rw [Ref.ju,EO hd]
  ·cases ha:Ref.oS (x::r) with
   | none =>
    have hp:=Cb (r:=r) hd;rw [ha] at hp;rw [jk (by rw [wa];exact hd) hp];show Ref.ju (r.length+1) (x::r)=none;rw [Ref.ju,ha]
   | some q =>
    obtain ⟨a,k⟩:=q;have hp:=Cb (r:=r) hd;rw [ha] at hp;have hb:=Ref.kP ha;have hlen:((x::r).drop k).length<(x::r).length:=by
     rw [OE];have:=hb.1;have:=hb.2;omega
    rw [ji (by rw [wa];exact hd) hp];have ih:=tP n ((x::r).drop k) (by simp only [List.length_cons] at h hlen ⊢;omega);show Ref.ju (r.length+1) (x::r)=_;rw [Ref.ju,ha];simp only;rw [Ref.qI r.length ((x::r).drop k).length _ (by simp only [List.length_cons] at hlen;omega) (u0 _)];change (match Ref.au ((x::r).drop k) with | none=>none | some r'=>some (a::r'))=_;rw [ih];cases a7 ((x::r).drop k) with
    | none=>rfl
    | some q =>
     obtain ⟨A,t⟩:=q;cases t <;> rfl
theorem nz (l:List ByteArray):Ref.au l=match a7 l with | some (A,[])=>some A | _=>none:=tP l.length l (u0 _)
end Pro
end
section
open Go.RowKit
open Go.PlainAid (bt get_bt bt_nonneg bt_le bt_end)
namespace Ref
theorem Kg (n:Nat):∃ k:Nat,m64 n=k/\k<=18446744073709551615:=by
 unfold m64;rw [On];exact ⟨n % 18446744073709551616,zaa,zaa⟩
theorem ub (s:ByteArray):∃ n:Nat,dV s=n/\n<=18446744073709551615:=by
 unfold dV;split
 ·exact Kg _
 ·exact ⟨0,rfl,zac⟩
structure jq (a:Act):Prop where
 how:a.how.size<=4096
 event:a.event.size<=4096
 id:a.id.size<=4096
 delay:∃ n:Nat,a.delay=n/\n<=18446744073709551615
structure mH (m:Move):Prop where
 event:m.event.size<=4096
 dst:m.to.size<=4096
 au:∀ a∈m.au,jq a
 len:m.au.length<=4096
 delay:∃ n:Nat,m.delay=n/\n<=18446744073709551615
structure oR (L:jS):Prop where
 word:L.word.size<=4096
 name:L.name.size<=4096
 m:mH L.m
 au:∀ a∈L.au,jq a
 len:L.au.length<=4096
structure lN (x:State):Prop where
 word:x.word.size<=4096
 name:x.name.size<=4096
 dep0:0<=x.depth
 dep:x.depth<=5
 aj:∀ m∈x.aj,mH m
 enter:∀ a∈x.enter,jq a
 leave:∀ a∈x.leave,jq a
 lenE:x.enter.length<=4096
 lenL:x.leave.length<=4096
theorem Hh {a:Act} (hs:∀ x∈l,x.size<=4096) (h:oS l=some (a,n)):jq a:=by
 have h0:=nB hs;unfold oS at h
 repeat' split at h
 all_goals cases h
 all_goals refine ⟨h0 _,?_,?_,?_⟩
 all_goals first | exact h0 _ | exact LL _ | exact ub _ | exact ⟨0,rfl,zac⟩
theorem xA:∀ (f:Nat) (l:List ByteArray) (A:List Act),(∀ x∈l,x.size<=4096)->ju f l=some A->(∀ a∈A,jq a)/\A.length<=l.length
 | 0,[],A,_,h=>by cases h;exact ⟨fun a ha=>absurd ha zad,u0 _⟩
 | _+1,[],A,_,h=>by cases h;exact ⟨fun a ha=>absurd ha zad,u0 _⟩
 | 0,x::r,A,_,h=>by cases h
 | f+1,x::r,A,hs,h=>by
  rw [ju] at h;split at h
  ·cases h
  ·rename_i a n h1;split at h
   ·cases h
   ·rename_i r' h2;cases h
    have hb:=kP h1;have ih:=xA f ((x::r).drop n) r' (fun y hy=>hs y (O4 hy)) h2;refine ⟨?_,?_⟩
    ·intro b hm
     rcases NG.1 hm with h | h
     ·rw [h];exact Hh hs h1
     ·exact ih.1 b h
    ·have:=ih.2;rw [OE] at this;simp only [List.length_cons] at this hb ⊢;omega
theorem vL (hs:∀ x∈l,x.size<=4096) (h:au l=some A):(∀ a∈A,jq a)/\A.length<=l.length:=xA _ l A hs h
theorem yW {t:ByteArray} (hs:∀ x∈l,x.size<=4096) (h:uy l=some (t,A)):t.size<=4096/\(∀ a∈A,jq a)/\A.length<=l.length:=by
 unfold uy at h;split at h
 ·split at h
  ·cases h
  ·split at h
   ·cases h2:au (l.drop 2) with
    | none=>rw [h2] at h;cases h
    | some B =>
     rw [h2] at h;cases h
     have:=vL (fun y hy=>hs y (O4 hy)) h2;exact ⟨nB hs 1,this.1,Fq this.2 zad⟩
   ·cases h
 ·cases h2:au l with
  | none=>rw [h2] at h;cases h
  | some B =>
   rw [h2] at h;cases h
   exact ⟨LL _,vL hs h2⟩
theorem i6:mH ki:=⟨LL _,LL _,fun a ha=>absurd ha (by simp [ki]),LL _,0,rfl,zac⟩
theorem dC:oR gA:=⟨LL _,LL _,i6,fun a ha=>absurd ha (by simp [gA]),LL _⟩
theorem Jl {ln:Nat} (hs:∀ x∈l,x.size<=4096) (hl:l.length<=4096) (hln:ln<=1073741824):oR (said l ln):=by
 have h0:=nB hs;have hs2:∀ x∈l.drop 2,x.size<=4096:=fun y hy=>hs y (O4 hy);have hs1:∀ x∈l.drop 1,x.size<=4096:=fun y hy=>hs y (O4 hy);unfold said;split
 ·exact dC
 ·split
  ·exact zen
  ·split
   ·exact zen
   ·split
    ·split
     ·exact dC
     ·rename_i t A hm;have:=yW hs2 hm;rw [OE] at this;split
      ·exact ⟨LL _,LL _,⟨h0 1,this.1,this.2.1,zbU,0,rfl,zac⟩,fun a ha=>absurd ha zad,LL _⟩
      ·exact dC
    ·split
     ·split
      ·exact dC
      ·rename_i t A hm;have:=yW hs2 hm;rw [OE] at this;have hd:(dec ln).size<=20:=qV zaa;have hk:bK.size<=20:=zac;split
       ·exact ⟨LL _,LL _,⟨by show (bK++dec ln).size<=_;rw [Oh];omega,this.1,this.2.1,zbU,ub _⟩,fun a ha=>absurd ha zad,LL _⟩
       ·exact dC
     ·split
      ·split
       ·exact dC
       ·rename_i A hm;have:=vL hs1 hm;rw [OE] at this;exact ⟨LL _,LL _,i6,this.1,zbU⟩
      ·exact dC
theorem sU {f:State->State} {y:State} (hy:y∈gh S k f):y∈S\/∃ x∈S,y=f x:=by
 unfold gh at hy;by_cases hk:k<S.length
 ·rcases L7 hy with h | h
  ·exact .inl h
  ·refine .inr ⟨S.getD k st0,?_,h⟩;rw [LH,ym hk];exact Ml hk
 ·rw [Pf zaa] at hy;exact .inl hy
theorem AJ {X:List SV} {x:SV} (h:fits X x=true):x.s.depth<=5:=by
 unfold fits at h;by_cases hd:x.s.depth<=5
 ·exact hd
 ·have:5<x.s.depth:=zaa;simp [this] at h
theorem zR {x:jS} {d:Int} (h:bB S i x d=some S') (hd:0<=d) (hx:oR x) (hS:∀ y∈S,lN y/\y.aj.length<=n):∀ y∈S',lN y/\y.aj.length<=n+1:=by
 have hS1:∀ y∈S,lN y/\y.aj.length<=n+1:=fun y hy=>⟨(hS y hy).1,O1 (hS y hy).2⟩;unfold bB at h;split at h
 ·cases h
 ·split at h
  ·split at h
   ·rename_i hf;cases h
    intro y hy
    rcases LR.1 hy with h | h
    ·exact hS1 y h
    ·rw [LD.1 h];exact ⟨⟨hx.word,hx.name,hd,AJ hf,fun m hm=>absurd hm (by simp [jJ]),fun m hm=>absurd hm (by simp [jJ]),fun m hm=>absurd hm (by simp [jJ]),LL _,LL _⟩,LL _⟩
   ·cases h
  ·split at h
   ·cases h
   ·split at h
    ·cases h
    ·split at h
     ·split at h
      ·cases h
      ·cases h
       intro y hy
       rcases sU hy with h | ⟨z,hz,rfl⟩
       ·exact hS1 y h
       ·obtain ⟨h1,h2⟩:=hS z hz;refine ⟨{ h1 with aj := ?_ },?_⟩
        ·intro m hm
         rcases LR.1 hm with h | h
         ·exact h1.aj m h
         ·rw [LD.1 h];exact hx.m
        ·simp;omega
     ·split at h
      ·split at h
       ·cases h
       ·cases h
        intro y hy
        rcases sU hy with h | ⟨z,hz,rfl⟩
        ·exact hS1 y h
        ·obtain ⟨h1,h2⟩:=hS1 z hz;exact ⟨{ h1 with enter:=hx.au,lenE:=hx.len },h2⟩
      ·split at h
       ·split at h
        ·cases h
        ·cases h
         intro y hy
         rcases sU hy with h | ⟨z,hz,rfl⟩
         ·exact hS1 y h
         ·obtain ⟨h1,h2⟩:=hS1 z hz;exact ⟨{ h1 with leave:=hx.au,lenL:=hx.len },h2⟩
       ·cases h
        exact hS1
theorem vj {A:List (jS×Int)} (hA:∀ p∈A,oR p.1/\0<=p.2):∀ {i:Nat} {S:List State},a8 A i=some S->∀ y∈S,lN y/\y.aj.length<=i
 | 0,S,h=>by cases h;exact fun y hy=>absurd hy zad
 | i+1,S,h=>by
  rw [a8] at h;split at h
  ·cases h
  ·rename_i S0 h0;have ih:=vj hA h0;split at h
   ·cases h;exact fun y hy=>⟨(ih y hy).1,O1 (ih y hy).2⟩
   ·rename_i x d hx;have:=hA _ (LG hx);exact zR h this.2 this.1 ih
def iX (t:ByteArray):Nat->Nat->Nat
 | 0,d=>d
 | f+1,d=>if bt t d=32 then iX t f (d+1) else d
def da (t:ByteArray):Nat:=iX t t.size 0
theorem qQ (t:ByteArray):∀ f d,iX t f d<=d+f
 | 0,d=>u0 _
 | f+1,d=>by
  have:=qQ t f (d+1);unfold iX;split <;> omega
theorem tT (t:ByteArray):da t<=t.size:=by have:=qQ t t.size 0;unfold da;omega
def rest (t:ByteArray):ByteArray:=t.extract (da t) t.size
def gY (t:ByteArray) (i:Nat):jS:=said (cut (rest t) 32) (i+1)
def pc (P:List ByteArray) (i:Nat):ByteArray:=P.getD i ByteArray.empty
def lE (P:List ByteArray):Nat->Option Nat
 | 0=>none
 | k+1=>match lE P k with
  | some i=>some i
  | none=>if (gY (pc P k) k).kind=0 then some k else none
def syn (P:List ByteArray):Option Nat:=match lE P (P.length-1) with
 | some i=>some i
 | none=>if decide (0<P.length-1)&&(pc P (P.length-1)).toList.isEmpty then none else some (P.length-1)
def aN (P:List ByteArray) (k:Nat):List (jS×Int):=(List.range k).map fun i=>(gY (pc P i) i,(da (pc P i):Int))
def gy (A:List (jS×Int)):Nat->Nat
 | 0=>0
 | i+1=>if (a8 A i).isSome&&(a8 A (i+1)).isNone then i+1 else gy A i
inductive Got where
 | fault (e line:Int)
 | eW (S:List State)
def read (s:ByteArray):Got :=
 if 1500<s.size then .fault 1 0
 else match syn (cut s 10) with
  | some i => .fault 2 ((i:Int)+1)
  | none=>match a8 (aN (cut s 10) ((cut s 10).length-1)) ((cut s 10).length-1) with
   | none => .fault 3 (gy (aN (cut s 10) ((cut s 10).length-1)) ((cut s 10).length-1))
   | some S=>if 0<(dN S S.length).getD 0 then .fault 3 ((dN S S.length).getD 0)
    else if 0<named (S.map emb) then .fault 4 (named (S.map emb))
    else .eW S
theorem xt {x:jS} {d:Int} (h:bB S i x d=some S'):S'.length<=S.length+1:=by
 unfold bB gh at h
 repeat' split at h
 all_goals first | (cases h;done) | (cases h;simp)
theorem sT {A:List (jS×Int)}:∀ {i:Nat} {S:List State},a8 A i=some S->S.length<=i
 | 0,S,h=>by cases h;exact u0 _
 | i+1,S,h=>by
  rw [a8] at h;split at h
  ·cases h
  ·rename_i S0 h0;have:=sT h0;split at h
   ·cases h;omega
   ·have:=xt h;omega
theorem CI {P:List ByteArray}:∀ {k i:Nat},lE P k=some i->∀ j,k<=j->lE P j=some i
 | k,i,h,0,hj=>by rw [QE.1 hj] at h;exact h
 | k,i,h,j+1,hj=>by
  by_cases e:k=j+1
  ·rw [<- e];exact h
  ·rw [lE,CI h j zaa]
theorem Ju (hk:k<P.length-1) (h:lE P k=none) (hb:(gY (pc P k) k).kind=0):syn P=some k:=by
 have:lE P (P.length-1)=some k:=CI (k:=k+1) (by rw [lE,h];simp only;rw [LA hb]) _ zaa;unfold syn;rw [this]
theorem zI (h:lE P (P.length-1)=none) (hb:¬ (0<P.length-1/\(pc P (P.length-1)).toList.isEmpty=true)):syn P=some (P.length-1):=by
 unfold syn;rw [h];simp only;rw [KQ];simpa using hb
theorem GS (h:lE P (P.length-1)=none) (h0:0<P.length-1) (he:(pc P (P.length-1)).toList.isEmpty=true):syn P=none:=by
 unfold syn;rw [h];simp [h0,he]
theorem Em (h:lE P k=none) (hb:¬ (gY (pc P k) k).kind=0):lE P (k+1)=none:=by
 rw [lE,h];simp only;rw [KQ hb]
theorem jA {A:List (jS×Int)} {i:Nat} (h1:(a8 A i).isSome=true) (h2:a8 A (i+1)=none):∀ k,i<k->gy A k=i+1
 | 0,h=>by omega
 | k+1,h=>by
  by_cases e:k=i
  ·rw [gy,e,h1,h2];rfl
  ·have:a8 A k=none:=fI h2 k zaa;rw [gy,this];exact jA h1 h2 k zaa
end Ref
end
section
open Go.RowKit
namespace Pro
theorem Jz:xO.toList=Ref.cTo:=zaq
theorem Df:oT.toList=Ref.Cn:=zaq
def kR:ByteArray:=⟨#[115,116,97,116,101]⟩
def fw:ByteArray:=⟨#[112,97,114,97,108,108,101,108]⟩
def kQ:ByteArray:=⟨#[102,105,110,97,108]⟩
def cZ:ByteArray:=⟨#[104,105,115,116,111,114,121]⟩
theorem iP:kR.toList=Ref.cT:=zaq
theorem fc:fw.toList=Ref.aM:=zaq
theorem iH:kQ.toList=Ref.bW:=zaq
theorem bQ:cZ.toList=Ref.bh:=zaq
def bu (k:Int):ByteArray:=if k=0 then kR else if k=1 then fw else if k=2 then kQ else cZ
def aE (num:Nat):PL->Ref.jS
 | .state k n=>⟨115,bu k,n,decide (k=4),num,Ref.ki,[]⟩
 | .move ev af d t A=>⟨109,ByteArray.empty,ByteArray.empty,false,0,⟨ev,t,af,d,A,num⟩,[]⟩
 | .enter A=>⟨101,ByteArray.empty,ByteArray.empty,false,0,Ref.ki,A⟩
 | .leave A=>⟨108,ByteArray.empty,ByteArray.empty,false,0,Ref.ki,A⟩
def bk (num:Nat) (l:List ByteArray):Option PL:=match bj num l with
 | some (L,[])=>some L
 | _=>none
theorem uz (l:List ByteArray):Ref.uy l=match gu l with | some (q,[])=>some q | _=>none:=by
 unfold Ref.uy gu;cases l with
 | nil=>simp [pTo,nz];rfl
 | cons y r =>
  rw [show Ref.at' (y::r) 0=y from rfl,pTo,Jz];cases hy:(y.toList == Ref.cTo)
  ·rw [KQ zad,KQ zad,nz];simp only;cases a7 (y::r) with
   | none=>rfl
   | some q=>obtain ⟨A,t⟩:=q;cases t <;> rfl
  ·rw [LA zad,LA rfl];cases r with
   | nil=>rfl
   | cons z t =>
    rw [KQ zad,show Ref.at' (y::z::t) 1=z from rfl,dE];cases Ref.plain z
    ·rfl
    ·simp only [if_true,List.drop_succ_cons,List.drop_zero];rw [nz];cases a7 t with
     | none=>rfl
     | some q=>obtain ⟨A,u⟩:=q;cases u <;> rfl
theorem wS:a7 (y::r)≠some ([],[]):=by
 cases h:(y.toList == bDo.toList)
 ·rw [jm h];simp
 ·cases h2:bE r with
  | none=>rw [jk h h2];simp
  | some q =>
   obtain ⟨a,r'⟩:=q;rw [ji h h2];cases a7 r' <;> simp
theorem qX (y:ByteArray) (r:List ByteArray):Ref.au (y::r)=match cG (y::r) with | some (A,[])=>some A | _=>none:=by
 rw [nz];unfold cG;cases h:a7 (y::r) with
 | none=>rfl
 | some q =>
  obtain ⟨A,t⟩:=q;cases A with
  | nil=>cases t with
   | nil=>exact absurd h wS
   | cons _ _=>rfl
  | cons a A=>cases t <;> rfl
theorem GF (num:Nat) (l:List ByteArray):Ref.said l num=((bk num l).map (aE num)).getD Ref.gA:=by
 cases l with
 | nil=>rfl
 | cons x r =>
  cases r with
  | nil =>
   rw [Ref.said,LA zad];unfold bk bj
   repeat' (first | rfl | split)
   all_goals first | rfl | (simp_all [pOf,dd,gB,cG,a7,gq])
  | cons y r =>
   have h2:¬ (x::y::r).length<2:=zad;rw [Ref.said,KQ h2];unfold bk bj;simp only [Ref.is,show Ref.at' (x::y::r) 0=x from rfl,show Ref.at' (x::y::r) 1=y from rfl,List.drop_succ_cons,List.drop_zero];cases hS:(x.toList == Ref.cT)
   ·cases hP:(x.toList == Ref.aM)
    ·cases hF:(x.toList == Ref.bW)
     ·cases hH:(x.toList == Ref.bh)
      ·cases hO:(x.toList == Ref.cOn)
       ·cases hA:(x.toList == Ref.iG)
        ·cases hE:(x.toList == Ref.kT)
         ·cases hL:(x.toList == Ref.oW)
          ·simp
          ·have ex:Go.PlainAid.bt x 0=108:=by
            rw [jW (b:=⟨#[108,101,97,118,101]⟩) hL zaq];rfl
           simp only [Bool.or_true,Bool.false_or,Bool.false_eq_true,if_false,if_true];exact zdM
         ·have ex:Go.PlainAid.bt x 0=101:=by
           rw [jW (b:=⟨#[101,110,116,101,114]⟩) hE zaq];rfl
          simp only [Bool.true_or,Bool.or_self,Bool.false_eq_true,if_false,if_true];exact zdM
        ·simp only [Bool.or_self,Bool.false_eq_true,if_false,if_true];rw [uz,gS];cases Ref.cA y
         ·exact zem
         ·exact zd3
       ·simp only [Bool.or_self,Bool.false_eq_true,if_false,if_true];rw [uz,dE];cases Ref.bX y
        ·exact zem
        ·exact zd3
      ·have ex:x=cZ:=jW hH bQ;simp only [Bool.or_self,Bool.false_eq_true,if_false,if_true];unfold dd;rw [dE];cases hp:Ref.plain y
       ·simp
       ·simp only [if_true,Bool.true_and];cases r with
        | nil=>simp [Ref.ua,aE,bu,ex]
        | cons z t =>
         simp only [Df];cases hz:(z.toList == Ref.Cn)
         ·simp [Ref.ua,Ref.is,show Ref.at' (x::y::z::t) 2=z from rfl,hz]
         ·cases t with
          | nil =>
           have ez:z.toList=Ref.Cn:=eq_of_beq hz;simp [Ref.ua,Ref.is,show Ref.at' [cZ,y,z] 2=z from rfl,ez,aE,bu,ex]
          | cons _ _=>simp [Ref.ua]
     ·have ex:x=kQ:=jW hF iH;simp only [Bool.or_true,Bool.false_eq_true,if_false,if_true];exact zea
    ·have ex:x=fw:=jW hP fc;simp only [Bool.true_or,Bool.or_true,Bool.false_eq_true,if_false,if_true];exact zea
   ·have ex:x=kR:=jW hS iP;simp only [Bool.true_or,if_true];exact zea
theorem zQ (num:Nat) (L:PL):¬ (aE num L).kind=0:=by cases L <;> simp [aE]
end Pro
end
section
open Go.RowKit
open Go.PlainAid (bt get_bt bt_nonneg bt_le bt_end)
namespace Pro
def iT (c:UInt8):List UInt8->List (List UInt8)
 | []=>[[]]
 | x::l=>if x == c then []::iT c l else match iT c l with
  | []=>[[x]]
  | h::t=>(x::h)::t
theorem Fs (c:UInt8) (l:List UInt8):iT c l≠[]:=by
 cases l with
 | nil=>simp [iT]
 | cons x l =>
  rw [iT];split
  ·simp
  ·split <;> simp
theorem o0 (c:UInt8):∀ l:List UInt8,Lib.indexByte l c = -1->iT c l=[l]
 | [],_=>rfl
 | x::l,h=>by
  rw [Lib.indexByte] at h;rw [iT];by_cases hx:(x == c)=true
  ·rw [LA hx] at h;cases h
  ·rw [KQ hx] at h ⊢;by_cases hl:(Lib.indexByte l c == -1)=true
   ·rw [o0 c l (by simpa using hl)]
   ·rw [KQ hl] at h;have:=Lib.indexByte_ge l c;omega
theorem xW (c:UInt8):∀ (l:List UInt8) (i:Nat),Lib.indexByte l c=i->iT c l=l.take i::iT c (l.drop (i+1))
 | [],i,h=>by
  have h:(-1:Int)=i:=h;omega
 | x::l,i,h=>by
  rw [Lib.indexByte] at h;rw [iT];by_cases hx:(x == c)=true
  ·rw [LA hx] at h ⊢;have:i=0:=zaa;subst this;simp
  ·rw [KQ hx] at h ⊢;by_cases hl:(Lib.indexByte l c == -1)=true
   ·rw [LA hl] at h;omega
   ·rw [KQ hl] at h;have:=Lib.indexByte_ge l c;have hl':¬ Lib.indexByte l c = -1:=by simpa using hl
    obtain ⟨j,rfl⟩:∃ j,i=j+1:=⟨i-1,zaa⟩;rw [xW c l j zaa];simp
theorem tY (c x:UInt8):∀ l:List UInt8,iT c (l++[x])=if x == c then iT c l++[[]] else (iT c l).set ((iT c l).length-1) ((iT c l)[(iT c l).length-1]?.getD []++[x])
 | []=>by
  rw [QB,iT];split <;> rename_i h <;> simp [iT] <;> simpa using h
 | y::l=>by
  rw [Qr,iT,tY c x l,iT];have hp:=Fs c l;by_cases hy:(y == c)=true
  ·rw [LA hy,LA hy];split
   ·rfl
   ·obtain ⟨h,t,e⟩:=O5 hp;rw [e];simp
  ·rw [KQ hy,KQ hy];obtain ⟨h,t,e⟩:=O5 hp;rw [e];by_cases hx:(x == c)=true
   ·rw [LA hx,LA hx];rfl
   ·rw [KQ hx,KQ hx];cases t with
    | nil=>simp
    | cons u t=>simp
theorem zC (c:UInt8):∀ (n:Nat) (s:ByteArray),s.size<=n->(Lib.splitB ⟨#[c]⟩ 0 (Lib.countB s ⟨#[c]⟩) s).map (·.data.toList)=iT c s.data.toList:=by
 have hone:∀ s:ByteArray,Lib.indexB s ⟨#[c]⟩=Lib.indexByte s.data.toList c:=by
  intro s;have:=Lib.one s ⟨#[c]⟩ rfl;rw [this]
  congr 1
  show ((c.toNat:Int).toNat).toUInt8=c;simp
 intro n
 induction n with
 | zero =>
  intro s hs;have h0:s.data.toList=[]:=by
   have:=OG s;exact NB.1 zaa
  have hm:Lib.indexB s ⟨#[c]⟩ = -1:=by rw [hone,h0];rfl
  exact zet
 | succ n ih =>
  intro s hs
  rcases Lib.indexB_cases s ⟨#[c]⟩ with hm | ⟨i,hi,hle⟩
  ·exact zet
  ·have h1:(⟨#[c]⟩:ByteArray).size=1:=rfl;rw [Lib.countB_hit s _ i (by rw [h1];exact u0 _) hi,Nat.add_comm 1,Lib.splitB_hit _ _ _ _ i hi,NR,Lib.extract_from_zero,h1,Qy];rw [ih (s.extract (i+1) s.size) zaf,Lib.extract_to_end,xW c s.data.toList i (by rw [<- hone];exact hi)]
theorem yi (h:k<s.size):(s.extract k (k+1)).data.toList=[s.data.toList[k]'(by rw [<- OG];exact h)]:=by
 rw [Lib.extract_data,Nat.add_sub_cancel_left];rw [List.take_one,List.head?_drop,ym (by rw [<- OG];exact h)];rfl
theorem qo (h:k<s.size):bt s k=((s.data.toList[k]'(by rw [<- OG];exact h)).toNat:Int):=by
 rw [<- get_bt s k h];rfl
theorem xJ (a b:ByteArray):(a++b).data.toList=a.data.toList++b.data.toList:=zad
theorem qT (s:ByteArray) (c:UInt8):∀ k,k<=s.size->(Ref.dq s (c.toNat:Int) k).map (·.data.toList)=iT c (s.data.toList.take k)
 | 0,_=>by rw [Ref.dq,List.take_zero];rfl
 | k+1,hk=>by
  have hk':k<s.size:=zaa;have hl:k<s.data.toList.length:=by rw [<- OG];exact hk'
  have ih:=qT s c k zaa;rw [MZ,ym hl,Qg,tY,<- ih];by_cases h:(s.data.toList[k] == c)=true
  ·rw [LA h,Ref.Ii (by rw [qo hk',eq_of_beq h]),Mu];rfl
  ·rw [KQ h,Ref.J2 (by
    rw [qo hk'];intro e;apply h
    have:s.data.toList[k].toNat=c.toNat:=zaa;rw [Pj.1 this];simp),ON,xJ,yi hk',LI,LJ]
   have hp:=Ref.lO s (c.toNat:Int) k;rw [ym zaa];rfl
theorem nV:∀ {a b:List ByteArray},a.map (·.data.toList)=b.map (·.data.toList)->a=b
 | [],[],_=>rfl
 | [],_::_,h=>by simp at h
 | _::_,[],h=>by simp at h
 | x::a,y::b,h=>by
  simp only [List.map_cons,List.cons.injEq] at h;rw [nV h.2];have:x=y:=by rw [<- QF x,h.1,QF]
  rw [this]
theorem uV (s:ByteArray) (c:UInt8):Lib.splitB ⟨#[c]⟩ 0 (Lib.countB s ⟨#[c]⟩) s=Ref.cut s (c.toNat:Int):=by
 apply nV
 rw [zC c s.size s (u0 _)];unfold Ref.cut;rw [qT s c s.size (u0 _),Pt (by rw [<- OG];exact u0 _)]
theorem De (s:ByteArray) (c:UInt8):Lib.countB s ⟨#[c]⟩+1=(Ref.cut s (c.toNat:Int)).length:=by
 rw [<- uV,Lib.splitB_all _ (show 1<=(⟨#[c]⟩:ByteArray).size from u0 1) 0 _ s rfl]
theorem nE (t:ByteArray):∀ (f d:Nat),d+f=t.size->t.data.toList.drop (Ref.iX t f d)=(t.data.toList.drop d).dropWhile (· == 32)/\d<=Ref.iX t f d
 | 0,d,h=>by
  rw [Ref.iX,List.drop_eq_nil_of_le (by rw [<- OG];omega)];exact ⟨rfl,u0 _⟩
 | f+1,d,h=>by
  have hd:d<t.size:=zaa;have hl:d<t.data.toList.length:=by rw [<- OG];exact hd
  rw [Ref.iX,N0 hl,List.dropWhile_cons];by_cases hb:bt t d=32
  ·have hx:(t.data.toList[d] == 32)=true:=by
    rw [qo hd] at hb;have:t.data.toList[d].toNat=(32:UInt8).toNat:=by
     have e:(32:UInt8).toNat=32:=rfl;omega
    rw [Pj.1 this];rfl
   have ih:=nE t f (d+1) zaa;rw [LA hb,LA hx];exact ⟨ih.1,by have:=ih.2;omega⟩
  ·have hx:¬ (t.data.toList[d] == 32)=true:=by
    intro e;apply hb
    rw [qo hd,eq_of_beq e];rfl
   rw [KQ hb,KQ hx,N0 hl];exact ⟨rfl,u0 _⟩
theorem Es (t:ByteArray):(⟨(Lib.trimLeftB t.data.toList 32).toArray⟩:ByteArray)=Ref.rest t:=by
 have h:=(nE t t.size 0 zaa).1;rw [QG] at h;have e:(Ref.rest t).data.toList=Lib.trimLeftB t.data.toList 32:=by
  unfold Ref.rest Lib.trimLeftB;rw [Lib.extract_to_end];exact h
 rw [<- e,QF]
theorem uM (t:ByteArray):(Ref.rest t).size+Ref.da t=t.size:=by
 have:=Ref.tT t;unfold Ref.rest;simp;omega
end Pro
end
section
open Go.RowKit
structure vE (w:World):Prop where
 env:Env w
 maxL:∃ m,w.cell? ⟨2,0,none⟩=some ↑(m:Int)
theorem vE.aw (h:vE w) (hb:Below w w w'):vE w' :=
 ⟨h.env.aw hb,let ⟨m,hm⟩:=h.maxL;⟨m,(LM (hb.block _ (LY _ _ hm))).trans hm⟩⟩
theorem uU (s:ByteArray) (c:UInt8) (w:World) (hv:vE w) (hs:s.size<4294967281):() 75 #[s,.string ⟨#[c]⟩] w fun e w' =>
  e = .returned (.slice w (Ref.cut s (c.toNat:Int)).length (Ref.cut s (c.toNat:Int)).length)/\w'=w.alloc (.cells ((Ref.cut s (c.toNat:Int)).map Value.string).toArray 9):=by
 obtain ⟨m,hm⟩:=hv.maxL;refine (strings_Split s ⟨#[c]⟩ m w hs hm (u0 1)).mono ?_;rintro e w' ⟨rfl,rfl⟩;rw [Pro.uV,Pro.De];exact ⟨rfl,rfl⟩
theorem sK {b:Nat} {t:TypeId} {fz:Nat×Nat} (h:w.heap[b]?=some (.cells (l.map Value.string).toArray t fz)):qG w b 0 l:=by
 intro i hi;rw [NM,JJ w b i _ _ _ h];simp [Ref.at',List.getElem?_eq_getElem hi,List.getD_eq_getElem?_getD]
theorem qU {c:Int}:∀ x∈Ref.cut s c,x.size<=s.size:=Ref.iY s c s.size (u0 _)
theorem qq {c:Int}:(Ref.cut s c).length<=s.size+1:=Ref.nH s c s.size
def ig (num:Nat) (t:ByteArray) (w:World) (e:Ending) (w':World):Prop:=match Pro.bk num (Ref.cut (Ref.rest t) 32) with
 | none=>aY 2 num w e w'
 | some L=>Below w.heap.size w w'/\∃ v,e = .returned v/\eV w' w.heap.size num (Ref.da t) L v
theorem wV {p:Nat} {er line:Int} {w0:World} {e:Ending} (hb:Below w0 w0 w) (hp:w0.heap.size<=p) (h:cQ p er line w e w'):aY er line w0 e w':=by
 obtain ⟨ht,b,h2,h3,h4⟩:=h;exact ⟨ht.below hb hp hb.size,b,Fq hb.size h2,h3,h4⟩
theorem eV.mono {w:World} {base base':Nat} {num dep:Int} {L:Pro.PL} {v:Value} (h:eV w base num dep L v) (hb:base'<=base):eV w base' num dep L v:=by
 cases L with
 | state k n=>exact h
 | move ev af d t A=>obtain ⟨a,n,c,h1,h2⟩:=h;exact ⟨a,n,c,h1,aD h2 hb⟩
 | enter A=>obtain ⟨a,n,c,h1,h2⟩:=h;exact ⟨a,n,c,h1,aD h2 hb⟩
 | leave A=>obtain ⟨a,n,c,h1,h2⟩:=h;exact ⟨a,n,c,h1,aD h2 hb⟩
theorem wU (num:Nat) (t:ByteArray) (w:World) (hv:vE w) (ht:t.size<=1000000) (hnum:num<=1073741824) :
  () 77 #[(num:Int),t] w (ig num t w):=by
 have hr:=Pro.uM t;have hct:=Pro.Es t;go_enter func77,ntmps77;go_wp2_with fail;refine (strings_TrimLeft_one t 32 zac _).mono ?_;rintro e w9 ⟨rfl,hw9⟩;rw [hw9,hct];clear hw9 w9 hct;dsimp only;go_wp2_with fail;refine (uU (Ref.rest t) 32 _ hv zaa).mono ?_;rintro e w9 ⟨rfl,hw9⟩;rw [hw9];clear hw9 w9;obtain ⟨l,hl⟩:∃ l,l=Ref.cut (Ref.rest t) ((32:UInt8).toNat:Int):=⟨_,rfl⟩;rw [<- hl];have hlen:l.length<=t.size+1:=by rw [hl];exact Fq qq zaa
 have hsz:∀ x∈l,x.size<=t.size:=by rw [hl];exact fun x hx=>Fq (qU x hx) zaa
 have HL:Hid _:=hl;clear hl;dsimp only;go_wp2_with fail;have hdep:(t.size:Int)-((Ref.rest t).size:Int)=(Ref.da t:Int):=zaa;rw [hdep];obtain ⟨w1,hw1⟩:∃ y,y=(w.alloc (.cells (l.map Value.string).toArray 9)).alloc (.cells #[(num:Int),.int .i64 (Ref.da t),.slice w l.length l.length] 298):=⟨_,rfl⟩;rw [<- hw1];have hb1:Below w w w1:=zbu;have hws:w.heap.size+1<w1.heap.size:=by rw [hw1];simp
 have H1:ah w1 (w.heap.size+1) num (Ref.da t) l:=by
  rw [hw1];refine ⟨⟨some ⟨w,0,none⟩,l.length,bP _ _ _,u0 _,fun _=>⟨w.heap.size,0,rfl,zaa,zaf,sK (eN _ _ _)⟩⟩,zaa,fun x hx=>by have:=hsz x hx;omega⟩
 have hv1:bH (w.heap.size+1) w1:=⟨w,zaa,hv.env,hb1⟩;clear hw1 hsz hlen;refine (FZ (w.heap.size+1) num (Ref.da t) l w1 H1 hv1 hnum).mono ?_;rintro e w2 h2;unfold aT at h2;have HP:Hid (ig num t w=fun e w'=>match Pro.bk num l with
  | none=>aY 2 num w e w'
  | some L=>Below w.heap.size w w'/\∃ v,e = .returned v/\eV w' w.heap.size num (Ref.da t) L v):=by
  unfold Hid ig;rw [HL.out];rfl
 cases hp:Pro.bj num l with
 | none =>
  rw [hp] at h2;have HW:Hid (Pro.bk num l=none):=zbO;obtain ⟨hb,b,h4,h5,rfl⟩:=wV hb1 zaa h2;dsimp only;refine ⟨rfl,?_⟩;rw [HP.out];simp only;rw [HW.out];exact ⟨hb,b,h4,h5,rfl⟩
 | some q =>
  obtain ⟨L,r⟩:=q;rw [hp] at h2;obtain ⟨v,rfl,hL,ht2,H2⟩:=h2;have hb2:Below w w w2:=ht2.below hb1 zaa hb1.size;have hL2:=hL.mono (show w.heap.size<=w1.heap.size by omega);cases r with
  | nil =>
   have HW:Hid (Pro.bk num l=some L):=zbO;clear hp hL ht2 H1 hv1;dsimp only;go_wp2_with fail;refine (J7 (w.heap.size+1) num (Ref.da t) _ H2).mono ?_;rintro e w9 ⟨rfl,hw9⟩;rw [hw9];clear hw9 w9;dsimp only;go_wp2;go_ret;rw [HP.out];simp only;rw [HW.out];exact ⟨hb2,v,rfl,hL2⟩
  | cons y r =>
   have HW:Hid (Pro.bk num l=none):=zbO;clear hp hL ht2 H1 hv1;dsimp only;go_wp2_with fail;refine (Il (w.heap.size+1) num (Ref.da t) (y::r) _ H2 zad).mono ?_;rintro e w3 hq;obtain ⟨hb,b,h4,h5,rfl⟩:=hq;dsimp only;refine ⟨rfl,?_⟩;rw [HP.out];simp only;rw [HW.out];exact ⟨hb2.trans (hb.mono hb2.size),b,Fq hb2.size h4,h5,rfl⟩
theorem oX (s:ByteArray) (w:World) (hs:s.size<=281474976710656):() 76 #[s] w fun e w'=>e = .returned s/\Below w w w':=by
 go_enter func76,ntmps76;go_wp2_with fail;refine (stringslite_Clone s _ hs).mono ?_;rintro e w1 ⟨rfl,hb⟩;dsimp only;go_wp2;go_ret;exact ⟨rfl,hb⟩
theorem FG:(Tryz.prog.info? 116).map (fun i=>(i.zero,i.size,i.bytes))=some (some .nilIface,1,16):=zab
namespace Pro
def wl (P:List ByteArray) (i:Nat):List ByteArray:=Ref.cut (Ref.rest (Ref.pc P i)) 32
theorem j8 (P:List ByteArray) (i:Nat):Ref.gY (Ref.pc P i) i=((bk (i+1) (wl P i)).map (aE (i+1))).getD Ref.gA:=GF (i+1) _
theorem yS (h:bk (i+1) (wl P i)=none):(Ref.gY (Ref.pc P i) i).kind=0:=by rw [j8,h];rfl
theorem pS {L:PL} (h:bk (i+1) (wl P i)=some L):Ref.gY (Ref.pc P i) i=aE (i+1) L:=by rw [j8,h];rfl
end Pro
structure jT (w:World) (P:List ByteArray) (k:Nat) (vs:List Value) (LS:List Pro.PL):Prop where
 lv:vs.length=k
 ll:LS.length=k
 row:∀ j (h:j<k),Pro.bk (j+1) (Pro.wl P j)=some (LS[j]'(zaa))/\eV w 0 (j+1:Nat) (Ref.da (Ref.pc P j)) (LS[j]'(zaa)) (vs[j]'(zaa))
theorem eV.aw {w w':World} {num dep:Int} {L:Pro.PL} {v:Value} (h:eV w 0 num dep L v) (hb:Below w w w'):eV w' 0 num dep L v:=by
 cases L with
 | state k n=>exact h
 | move ev af d t A=>obtain ⟨a,n,c,h1,h2⟩:=h;exact ⟨a,n,c,h1,bc h2 hb⟩
 | enter A=>obtain ⟨a,n,c,h1,h2⟩:=h;exact ⟨a,n,c,h1,bc h2 hb⟩
 | leave A=>obtain ⟨a,n,c,h1,h2⟩:=h;exact ⟨a,n,c,h1,bc h2 hb⟩
theorem eV.tag {w w':World} {num dep:Int} {L:Pro.PL} {v:Value} {g:Nat} {c:Array Value} {t:TypeId} {fz:Nat×Nat} (h:eV w 0 num dep L v) (ho:gV g w w') (hg:w.heap[g]?=some (.cells c t fz)) (hne:235≠t):eV w' 0 num dep L v:=by
 cases L with
 | state k n=>exact h
 | move ev af d t A=>obtain ⟨a,n,c,h1,h2⟩:=h;exact ⟨a,n,c,h1,l6 h2 ho hg hne⟩
 | enter A=>obtain ⟨a,n,c,h1,h2⟩:=h;exact ⟨a,n,c,h1,l6 h2 ho hg hne⟩
 | leave A=>obtain ⟨a,n,c,h1,h2⟩:=h;exact ⟨a,n,c,h1,l6 h2 ho hg hne⟩
theorem eV.iface {w:World} {base:Nat} {num dep:Int} {L:Pro.PL} {v:Value} (h:eV w base num dep L v):∃ t u,v = .iface t u:=by
 cases L with
 | state k n=>exact ⟨_,_,h⟩
 | move ev af d t A=>obtain ⟨a,n,c,h1,h2⟩:=h;exact ⟨_,_,h1⟩
 | enter A=>obtain ⟨a,n,c,h1,h2⟩:=h;exact ⟨_,_,h1⟩
 | leave A=>obtain ⟨a,n,c,h1,h2⟩:=h;exact ⟨_,_,h1⟩
theorem jT.next {LS:List Pro.PL} {v:Value} {L:Pro.PL} (H:jT w P k vs LS) (hk:∀ num dep L v,eV w 0 num dep L v->eV w' 0 num dep L v)
  (h1:Pro.bk (k+1) (Pro.wl P k)=some L) (h2:eV w' 0 (k+1:Nat) (Ref.da (Ref.pc P k)) L v):jT w' P (k+1) (vs++[v]) (LS++[L]):=by
 have hlv:=H.lv;have hll:=H.ll;refine ⟨by simp [hlv],by simp [hll],fun j hj => ?_⟩;by_cases e:j=k
 ·subst e;rw [M4 zaa,M4 zaa];simp only [hlv,hll,Nat.sub_self,List.getElem_cons_zero];exact ⟨h1,h2⟩
 ·have hj':j<k:=zaa;obtain ⟨r1,r2⟩:=H.row j hj';rw [Na zaa,Na zaa];exact ⟨r1,hk _ _ _ _ r2⟩
def dL (s:ByteArray) (w:World) (e:Ending) (w':World):Prop :=
 if 1500<s.size then aY 1 0 w e w'
 else match Ref.syn (Ref.cut s 10) with
  | some i=>aY 2 ((i:Int)+1) w e w'
  | none=>Below w.heap.size w w'/\∃ lb vs LS,e = .returned (.slice (some ⟨lb,0,none⟩) vs.length vs.length)/\w'.heap[lb]?=some (.cells vs.toArray 116 (0,0))/\0<vs.length/\jT w' (Ref.cut s 10) ((Ref.cut s 10).length-1) vs LS
theorem sj (s:ByteArray) (w:World) (hs:1500<s.size) (hs2:s.size<=1073741824) :
  () 43 #[s] w (dL s w):=by
 go_enter func43,ntmps43;go_wp2_with fail;refine (aU 0 0 1 _).mono ?_;rintro e w1 ⟨hb,b,h4,h5,rfl⟩;dsimp only;refine ⟨rfl,?_⟩;unfold dL;rw [LA hs];exact ⟨hb,b,h4,h5,rfl⟩
theorem GJ {m:Nat} (hk:vs.length=k) (v:Value):(vs++List.replicate (m+1) Value.nilIface).toArray.setIfInBounds k v=((vs++[v])++List.replicate m Value.nilIface).toArray:=by
 rw [List.setIfInBounds_toArray,OZ _ _ zaa,hk,OJ,List.replicate_succ,List.set_cons_zero];simp
theorem F1 (n:Nat):madeCells #[Value.nilIface] n=(List.replicate n Value.nilIface).toArray:=by
 apply Array.ext
 ·simp [madeCells]
 ·intro i h1 h2;simp [madeCells,Nat.mod_one]
theorem tF (s:ByteArray) (w:World) (hv:vE w) (hs:s.size<=1500) :
  () 43 #[s] w (dL s w):=by
 obtain ⟨P,hP⟩:∃ P,P=Ref.cut s ((10:UInt8).toNat:Int):=⟨_,rfl⟩;have hpos:0<P.length:=by rw [hP];exact Ref.lO _ _ _
 obtain ⟨n,hn⟩:∃ n,P.length=n+1:=⟨P.length-1,zaa⟩;clear hpos;have hlen:n<=1500:=by
  have:P.length<=s.size+1:=by rw [hP];exact qq
  omega
 have HSZ:Hid (∀ j,(Ref.pc P j).size<=1500):=by
  intro j;unfold Ref.pc;rw [LH];cases e:P[j]? with
  | none=>exact LL _
  | some x=>rw [hP] at e;exact Fq (qU x (LG e)) hs
 have HPost:Hid (dL s w=fun e w'=>match Ref.syn P with
  | some i=>aY 2 ((i:Int)+1) w e w'
  | none=>Below w.heap.size w w'/\∃ lb vs LS,e = .returned (.slice (some ⟨lb,0,none⟩) vs.length vs.length)/\w'.heap[lb]?=some (.cells vs.toArray 116 (0,0))/\0<vs.length/\jT w' P (P.length-1) vs LS):=by
  funext e w';unfold dL;rw [KQ zaa,hP];rfl
 have hmk:=run_make_row' (P:=prog) 111 116 .nilIface 16 underlying111 FG rfl .i64 .i64 n zaa zaa;go_enter func43,ntmps43;go_wp2_with fail;refine (oX s _ zaa).mono ?_;rintro e w1 ⟨rfl,hb1⟩;have hv1:=hv.aw hb1;dsimp only;go_wp2_with fail;refine (uU s 10 _ hv1 zaa).mono ?_;rintro e w9 ⟨rfl,hw9⟩;rw [hw9,<- hP];clear hw9 w9;have HPn:Hid (P.length=n+1):=hn;have HP:Hid _:=hP;rw [hn];clear hP hn;dsimp only;go_wp2
 go_loopg [25] n (fun q i wr=>∃ (k:Nat) (vs:List Value) (LS:List Pro.PL),q=n-k/\k<=n/\i = .int .i64 k/\Ref.lE P k=none/\wr.heap[w1.heap.size]?=some (.cells (P.map Value.string).toArray 9 (0,0))/\wr.heap[w1.heap.size+1]?=some (.cells (vs++List.replicate (n-k) Value.nilIface).toArray 116 (0,0))/\jT wr P k vs LS/\Below w w wr/\Below w1 w1 wr)
 case atStart =>
  refine ⟨0,[],[],rfl,LL _,rfl,rfl,eN _ _ _,?_,⟨rfl,rfl,fun j h=>absurd h zaa⟩,(hb1.alloc hb1.size _).alloc (by have:=hb1.size;simp;omega) _,((FP _ _).alloc (u0 _) _).alloc zad _⟩;rw [bP,F1];rfl
 case round =>
  obtain ⟨k,vs,LS,hq,hk,rfl,hsyn,hPB,hLB,HL,hbw,hbw1⟩:=hrel;have hlv:=HL.lv;have cP:wr.cell? ⟨w1,k,none⟩=some (.string (Ref.pc P k)):=by
   rw [JJ wr _ k _ _ _ hPB];simp only [List.getElem?_toArray,List.getElem?_map,Ref.pc,List.getD_eq_getElem?_getD];rw [ym (show k<P.length by rw [HPn.out];omega)];rfl
  have hbs:=hbw.size;have hbs1:=hbw1.size;have lP:=(ph.1 hPB).1;have lL:=(ph.1 hLB).1;by_cases hkn:k<n
  ·have hszk:=HSZ.out k;have hvr:=hv1.aw hbw1;go_wp2_with fail;refine (wU (k+1) (Ref.pc P k) _ hvr zaa zaa).mono ?_;rintro e w2 h2;unfold ig at h2;change (match Pro.bk (k+1) (Pro.wl P k) with | none=>_ | some L=>_) at h2;cases hp:Pro.bk (k+1) (Pro.wl P k) with
   | none =>
    rw [hp] at h2;have HS:Hid (Ref.syn P=some k):=Ref.Ju (by rw [HPn.out];omega) hsyn (Pro.yS hp);obtain ⟨hb,b,h4,h5,rfl⟩:=h2;dsimp only;refine ⟨rfl,?_⟩;rw [HPost.out];simp only;rw [HS.out];exact ⟨hbw.trans (hb.mono hbs),b,Fq hbs h4,h5,rfl⟩
   | some L =>
    rw [hp] at h2;obtain ⟨hb2,v,rfl,hLV⟩:=h2;obtain ⟨vt,vu,rfl⟩:=hLV.iface;have hPB2:=(hb2.block _ lP).trans hPB;have hLB2:=(hb2.block _ lL).trans hLB;obtain ⟨m,hm⟩:∃ m,n-k=m+1:=⟨n-k-1,zaa⟩;rw [hm] at hLB2;have cL:w2.cell? ⟨w1.heap.size+1,k,none⟩=some .nilIface:=by
     rw [JJ w2 _ k _ _ _ hLB2,N2,ME zaa,hlv,OJ];rfl
    have fL:w2.frozen? ⟨w1.heap.size+1,k,none⟩=false:=by simp [World.frozen?,hLB2]
    have HSY:Hid (Ref.lE P (k+1)=none):=Ref.Em hsyn (by rw [Pro.pS hp];exact Pro.zQ _ _);have HLV:Hid (eV w2 0 ((k+1:Nat):Int) (Ref.da (Ref.pc P k)) L (.iface vt vu)):=eV.mono hLV (LL _);have HH:Hid _:=hPB2;have HH2:Hid _:=hLB2;have HM:Hid _:=hm;have HHL:Hid _:=HL;have HPW:Hid _:=hp;clear hLV hPB2 hLB2 hm hPB hLB hsyn cP hp HL;dsimp only;go_wp2
    go_roundg (n-(k+1))
    case measure=>omega
    case rel =>
     have hs1:=hb1.size;have oo:=aa w2 (w1.heap.size+1) k (.iface vt vu);have hb3:=oo.below (hbw.trans (hb2.mono hbs)) zaa;refine ⟨k+1,vs++[.iface vt vu],LS++[L],rfl,zaa,rfl,HSY.out,?_,?_,?_,hb3,oo.below (hbw1.trans (hb2.mono hbs1)) zaa⟩
     ·rw [oo.block _ zaa];exact HH.out
     ·rw [LP w2 _ k _ _ (.iface vt vu) HH2.out,GJ hlv,show n-(k+1)=m by have:=HM.out;omega]
     ·refine HHL.out.next (fun num dep L' v' h=>(h.aw hb2).tag oo HH2.out zac) HPW.out (eV.tag HLV.out oo HH2.out zac)
  ·obtain rfl:k=n:=zaa;have hn0:k-k=0:=zaa;rw [hn0] at hLB;have hk1500:=hlen;have HLB:Hid _:=hLB;have HHL:Hid _:=HL;have HSYN:Hid _:=hsyn;clear hLB HL hsyn hPB hq hk hkn hn0;by_cases h0:k=0
   ·have HS:Hid (Ref.syn P=some k):=by
     have:=Ref.zI (P:=P) zbI (fun h=>by have:=h.1;rw [HPn.out] at this;omega);rw [HPn.out] at this;exact this
    subst h0;go_wp2_with fail;refine (aU 1 0 2 _).mono ?_;exact zdD
   ·cases hE:(Ref.pc P k).toList.isEmpty
    case true =>
     have HS:Hid (Ref.syn P=none):=by
      refine Ref.GS (P:=P) zbI (by rw [HPn.out];omega) ?_;rw [HPn.out];exact hE
     have hE':(Ref.pc P k).toList=[]:=Om.1 hE;go_wp2;go_ret;rw [HPost.out];simp only;rw [HS.out];refine ⟨hbw,w1.heap.size+1,vs,LS,?_,?_,?_,?_⟩
     ·rw [hlv];rfl
     ·have:=HLB.out;simpa using this
     ·omega
     ·have:=HHL.out;rw [HPn.out];exact this
    case false =>
     have HS:Hid (Ref.syn P=some k):=by
      have:=Ref.zI (P:=P) zbI (fun h=>by
       have h:=h.2;rw [HPn.out] at h;have:(Ref.pc P k).toList.isEmpty=true:=h;rw [hE] at this;cases this)
      rw [HPn.out] at this;exact this
     go_wp2_with fail;refine (aU (k+1) 0 2 _).mono ?_;exact zdD
