import Derived.Test.YtobhbhmjajobjaaGreatDoorM10
set_option maxRecDepth 100000
set_option maxHeartbeats 8000000
namespace Go.Proofs.YtobhbhmjajobjaaGreatDoor
variable {zp:Prop}
theorem zcY (h:zp:=by
 go_enter func142,ntmps142;go_wp2_with fail;refine (aF p num dep x r _ H).mono ?_;rintro e w1 ⟨rfl,ho,H1⟩;have ht1:=ho.ai;clear ho;dsimp only;go_wp2_with fail;refine (jZ p num dep r _ H1 (hv.ai ht1)).mono ?_;rintro e w2 hq;unfold ew at hq;rw [hn] at hq;obtain ⟨a,n,c,rfl,hown,ht2,H2⟩:=hq;have hown':=aD hown ht1.size;clear hn hown;dsimp only;go_wp2;go_ret;unfold aT;rw [HS.out];exact ⟨_,rfl,⟨a,n,c,rfl,hown'⟩,ht1.trans ht2,H2⟩):zp:=h
theorem zc1 (h:zp:=by
 go_enter func142,ntmps142;go_wp2_with fail;refine (aF p num dep x r _ H).mono ?_;rintro e w1 ⟨rfl,ho,H1⟩;have ht1:=ho.ai;clear ho;dsimp only;go_wp2_with fail;refine (jZ p num dep r _ H1 (hv.ai ht1)).mono ?_;rintro e w2 hq;unfold ew at hq;rw [hn] at hq;obtain ⟨ht,b,h4,h5,rfl⟩:=hq;dsimp only;refine ⟨rfl,?_⟩;unfold aT;rw [HS.out];exact ⟨ht1.trans ht,b,Mv ht1.size h4,h5,rfl⟩):zp:=h
theorem zdk (h:zp:=by
 rintro e w2 hq;unfold gH at hq;rw [hn] at hq;obtain ⟨a,n,c,rfl,hown,ht2,H2⟩:=hq;have hown':=aD hown ht4.size;clear hn hown;dsimp only;go_wp2;go_ret;unfold aT;rw [HS.out];exact ⟨_,rfl,⟨a,n,c,rfl,hown'⟩,ht4.trans ht2,H2⟩):zp:=h
theorem zdx (h:zp:=by
 rintro e w2 hq;unfold gH at hq;rw [hn] at hq;obtain ⟨ht,b,h4,h5,rfl⟩:=hq;dsimp only;refine ⟨rfl,?_⟩;unfold aT;rw [HS.out];exact ⟨ht4.trans ht,b,Mv ht4.size h4,h5,rfl⟩):zp:=h
theorem zdE (h:zp:=by
 rintro e w2 ⟨hb,b,h4,h5,rfl⟩;dsimp only;refine ⟨rfl,?_⟩;rw [HPost.out];simp only;rw [HS.out];exact ⟨hbw.trans (hb.mono hbs),b,Mv hbs h4,h5,rfl⟩):zp:=h
theorem zdH (h:zp:=by
 rintro e w2 hq;obtain ⟨ht,b,h4,h5,rfl⟩:=hq;dsimp only;refine ⟨rfl,?_⟩;unfold aT;rw [HS.out];exact ⟨ht1.trans ht,b,Mv ht1.size h4,h5,rfl⟩):zp:=h
theorem zdK (h:zp:=by
 obtain ⟨ht,b,h4,h5,rfl⟩:=hq;dsimp only;refine ⟨rfl,?_⟩;unfold aT;rw [HS.out];exact ⟨ht1.trans ht,b,Mv ht1.size h4,h5,rfl⟩):zp:=h
theorem zdN (h:zp:=by
 rw [rj];cases cG (y::r) with
 | none=>rfl
 | some q =>
  obtain ⟨A,t⟩:=q;cases t with
  | nil=>simp [aE,ex]
  | cons _ _=>rfl):zp:=h
theorem zdS (h:zp:=by
 rintro e w2 ⟨rfl,ht2,H2⟩;dsimp only;go_wp2;go_ret;unfold aT;rw [HS.out];exact ⟨_,rfl,rfl,ht1.trans ht2,H2⟩):zp:=h
theorem zd5 (h:zp:=by
 simp only [if_true];cases gq r with
 | none=>rfl
 | some q=>obtain ⟨⟨_,_⟩,t⟩:=q;cases t <;> rfl):zp:=h
theorem zed (h:zp:=by
 rw [dB];cases hp:Ref.plain y
 ·simp
 ·cases r with
  | nil=>simp [aE,bu,ex]
  | cons _ _=>simp):zp:=h
theorem zen (h:zp:=by
 cases gq r with
 | none=>rfl
 | some q=>obtain ⟨q,t⟩:=q;cases t <;> rfl):zp:=h
theorem zeo (h:zp:=by
 split
 ·exact ⟨h0 0,h0 1,i1,fun a ha=>absurd ha zad,MJ _⟩
 ·exact dA):zp:=h
theorem zeu (h:zp:=by
 rw [Lib.splitB_miss _ _ _ _ hm,pf c _ (by rw [<- hone];exact hm)];rfl):zp:=h
theorem zex (h:zp:=by
 go_meet
 case rel=>exact ⟨false,rfl,M1,ht1,.inr ⟨rfl,zaK,H1⟩⟩):zp:=h
theorem zeP (h:zp:=by
 cases Ref.cA d
 ·rfl
 ·simp only [if_true];rw [wi,hy];rfl):zp:=h
theorem zfq (h:zp:=by
 split
 ·rfl
 ·split <;> rfl):zp:=h
theorem zaF (h:zp:=by simp [World.frozen?,l5]):zp:=h
theorem zaK (h:zp:=by first | rfl | trivial):zp:=h
theorem zbu (h:zp:=by rw [hw1];exact ((Mw _ _).alloc (Mt _) _).alloc (by simp) _):zp:=h
theorem zbI (h:zp:=by rw [HPn.out];exact HSYN.out):zp:=h
theorem zbN (h:zp:=by unfold Hid Pro.bl;rw [hp]):zp:=h
theorem zbU (h:zp:=by show A.length<=_;omega):zp:=h
theorem zbX (h:zp:=by unfold Hid;rw [Pro.bk,Ref.cT,h1,Ref.aM,h2,Ref.bX,h3,Ref.bj,h4,Ref.cOn,h5,Ref.iG,h6,Ref.kW,h7,Ref.o7,h8,hn];rfl):zp:=h
theorem zbY (h:zp:=by unfold Hid;rw [Pro.bk,Ref.cT,h1,Ref.aM,h2,Ref.bX,h3,Ref.bj,h4,Ref.cOn,h5,Ref.iG,h6,he];simp only;rw [hn];rfl):zp:=h
theorem zbZ (h:zp:=by unfold Hid;rw [Pro.bk,Ref.cT,h1,Ref.aM,h2,Ref.bX,h3,Ref.bj,h4,Ref.cOn,h5,Ref.iG,h6,Ref.kW,h7,hn];rfl):zp:=h
theorem zb0 (h:zp:=by unfold Hid;rw [Pro.bk,Ref.cT,h1,Ref.aM,h2,Ref.bX,h3,Ref.bj,h4,Ref.cOn,h5,he];simp only;rw [hn];rfl):zp:=h
theorem zb7 (h:zp:=by unfold Hid;rw [Pro.bk,Ref.cT,h1,Ref.aM,h2,Ref.bX,h3,Ref.bj,h4,hn];rfl):zp:=h
theorem zcb (h:zp:=by unfold Hid;rw [Pro.bk,Ref.cT,h1,Ref.aM,h2,Ref.bX,h3,hn];rfl):zp:=h
theorem zci (h:zp:=by unfold Hid;rw [Pro.bk,Ref.cT,h1,Ref.aM,h2,hn];rfl):zp:=h
open Tryz
variable {a b x c d y s:ByteArray} {l P r:List ByteArray} {n k i:Nat} {A:List Act} {S S':List Ref.State} {w w':World} {vs:List Value}
section
open Go.RowKit
theorem JO:Tryz.f187.results=#[.cell 4 356]:=rfl
theorem oI:(Tryz.prog.info? 356).map (·.size)=some 7:=zab
namespace Pro
def yk:ByteArray:=⟨#[116,111]⟩
def pTo:List ByteArray->Option (ByteArray×List ByteArray)
 | []=>some (ByteArray.empty,[])
 | y::r=>if y.toList == yk.toList then pOf Ref.plain r else some (ByteArray.empty,y::r)
def gq (l:List ByteArray):Option ((ByteArray×List Ref.Act)×List ByteArray):=match pTo l with
 | none=>none
 | some (t,r)=>(a7 r).map fun q=>((t,q.1),q.2)
end Pro
def gH (p:Nat) (num dep:Int) (ev:ByteArray) (af:Bool) (d:Int) (l:List ByteArray) (w:World) (e:Ending) (w':World):Prop:=match Pro.gq l with
 | none=>cR p 2 num w e w'
 | some ((t,A),r)=>∃ a n c,e = .returned (.agg #[.int .i64 num,.int .i64 dep,.string ev,.bool af,.int .u64 d,.string t,.slice a n c])/\w'.ownsRow w.heap.size 251 1 (.slice a n c) A.length (A.map bh)/\al p w w'/\ah w' p num dep r
structure vV (w w1:World) (ev t:ByteArray) (af:Bool) (d:Int):Prop where
 m:w1.heap[w.heap.size]?=some (.cells #[ev,af,.int .u64 d,t,.slice none 0 0] 240 (0,0))
 l:w1.heap[w.heap.size+1]?=some (.cells #[(0:Int),(0:Int),ByteArray.empty,false,.int .u64 0,ByteArray.empty,.slice none 0 0] 356 (0,0))
theorem n5 (p:Nat) (num dep:Int) (ev:ByteArray) (af:Bool) (d:Int) (l:List ByteArray) (w:World) (H:ah w p num dep l) (hv:bH p w) :
  () 187 #[p,.agg #[ev,af,.int .u64 d,ByteArray.empty,.slice none 0 0]] w (gH p num dep ev af d l w):=by
 have hpl:=H.lt;have HPM:Hid (Pro.gq l=match Pro.pTo l with | none=>none | some (t,r)=>(Pro.a7 r).map fun q=>((t,q.1),q.2)):=rfl;go_enter func187,ntmps187
 go_upto_region 1 with fail
 obtain ⟨w1,hw1⟩:∃ y,y=(w.alloc (.cells #[ev,af,.int .u64 d,ByteArray.empty,.slice none 0 0] 240)).alloc (.cells #[(0:Int),(0:Int),ByteArray.empty,false,.int .u64 0,ByteArray.empty,.slice none 0 0] 356):=⟨_,rfl⟩;change Code.wp _ _ _ _ ((w.alloc (.cells #[ev,af,.int .u64 d,ByteArray.empty,.slice none 0 0] 240)).alloc (.cells #[(0:Int),(0:Int),ByteArray.empty,false,.int .u64 0,ByteArray.empty,.slice none 0 0] 356));rw [<- hw1];have ht1:al p w w1:=by rw [hw1];exact ((al.refl p w).alloc _).alloc _
 have H1:ah w1 p num dep l:=by rw [hw1];exact (H.alloc _).alloc _
 have M1:vV w w1 ev ByteArray.empty af d:=by rw [hw1];exact ⟨eL _ _ _,bQ _ _ _⟩
 clear hw1;cases htl:Pro.pTo l with
 | none =>
  cases l with
  | nil=>cases htl
  | cons y r =>
   cases hy:(y.toList == Pro.yk.toList)
   ·rw [Pro.pTo,hy] at htl;cases htl
   ·have hr:Pro.pOf Ref.plain r=none:=by rw [Pro.pTo,hy] at htl;exact htl
    have HS:Hid (Pro.gq (y::r)=none):=by unfold Hid;rw [HPM.out,htl]
    clear HPM;go_wp2_with fail;refine (jO p num dep y r Pro.yk _ H1 hy).mono ?_;rintro e w2 ⟨rfl,ho2,H2⟩;have ht2:=ht1.trans ho2.ai;dsimp only;go_wp2_with fail;refine (ed p num dep r _ H2 (hv.ai ht2)).mono ?_;rintro e w3 h3;rw [hr] at h3;obtain ⟨ht3,b,h4,h5,rfl⟩:=h3;dsimp only;refine ⟨rfl,?_⟩;unfold gH;rw [HS.out];exact ⟨ht2.trans ht3,b,Mv ht2.size h4,h5,rfl⟩
 | some q =>
  obtain ⟨t,r⟩:=q;have HS:Hid (Pro.gq l=(Pro.a7 r).map fun q=>((t,q.1),q.2)):=by unfold Hid;rw [HPM.out,htl]
  clear HPM
  go_cut [6] (fun c wx=>∃ b:Bool,c = .bool b/\vV w wx ev ByteArray.empty af d/\al p w wx/\((b=true/\∃ r0,Pro.pOf Ref.plain r0=some (t,r)/\ah wx p num dep r0)\/(b=false/\t=ByteArray.empty/\ah wx p num dep r)))
  case first =>
   cases l with
   | nil =>
    cases htl
    go_wp2_with (go_at_call 220;refine (skip_none p num dep Pro.yk _ H1).mono ?_;rintro e w9 ⟨rfl,hw9⟩;rw [hw9];clear hw9 w9);exact zex
   | cons y r1 =>
    cases hy:(y.toList == Pro.yk.toList)
    ·rw [Pro.pTo,hy] at htl;cases htl
     go_wp2_with (go_at_call 220;refine (qD p num dep y r1 Pro.yk _ H1 hy).mono ?_;rintro e w9 ⟨rfl,hw9⟩;rw [hw9];clear hw9 w9);exact zex
    ·have hr:Pro.pOf Ref.plain r1=some (t,r):=by rw [Pro.pTo,hy] at htl;exact htl
     go_wp2_with (go_at_call 220;refine (jO p num dep y r1 Pro.yk _ H1 hy).mono ?_;rintro e w2 ⟨rfl,ho2,H2⟩);go_meet
     case rel=>exact ⟨true,rfl,⟨(ho2.block _ zaa).trans M1.m,(ho2.block _ zaa).trans M1.l⟩,ht1.trans ho2.ai,.inl ⟨rfl,r1,hr,H2⟩⟩
  case rest =>
   obtain ⟨b,rfl,M2,ht2,hbb⟩:=hcut;clear M1 H1 ht1;obtain ⟨w2,hw2⟩:∃ y:World,y=wc:=⟨wc,rfl⟩;subst hw2
   go_upto_if 6 with fail
   go_cut [] (fun wx=>vV w wx ev t af d/\al p w wx/\ah wx p num dep r)
   case first =>
    rcases hbb with ⟨rfl,r0,hr0,H2⟩ | ⟨rfl,rfl,H2⟩
    ·go_wp2_with fail;refine (ed p num dep r0 _ H2 (hv.ai ht2)).mono ?_;rintro e w3 h3;rw [hr0] at h3;obtain ⟨rfl,ht3,H3⟩:=h3;have hs2:=ht2.size;have lm:=(Ms.1 M2.m).1;have ll:=(Ms.1 M2.l).1;have m3:=(ht3.block _ lm zaa).trans M2.m;have l3:=(ht3.block _ ll zaa).trans M2.l;have k3:w3.cell? ⟨w,3,none⟩=some ↑ByteArray.empty:=by rw [My w3 _ 3 _ _ _ m3];rfl
     have f3:w3.frozen? ⟨w,3,none⟩=false:=by simp [World.frozen?,m3]
     dsimp only;go_wp2;go_meet
     case rel =>
      have oo:=aa w3 w 3 (.string t);refine ⟨⟨?_,(oo.block _ zaa).trans l3⟩,(ht2.trans ht3).iu oo (Mt _),H3.only oo hpl⟩;rw [MO w3 _ 3 _ _ _ m3];rfl
    ·go_wp2;go_meet
     case rel=>exact ⟨M2,ht2,H2⟩
   case rest =>
    obtain ⟨M3,ht3,H3⟩:=hcut;clear M2 ht2 hbb;obtain ⟨w3,hw3⟩:∃ y:World,y=wc:=⟨wc,rfl⟩;subst hw3;go_wp2_with fail;refine (iV p num dep r _ H3 (hv.ai ht3)).mono ?_;rintro e w4 h4;unfold gG at h4;cases ha:Pro.a7 r with
    | none =>
     rw [ha] at h4;have HS2:Hid (Pro.gq l=none):=by unfold Hid;rw [HS.out,ha];rfl
     obtain ⟨ht4,b,h5,h6,rfl⟩:=h4;dsimp only;refine ⟨rfl,?_⟩;unfold gH;rw [HS2.out];exact ⟨ht3.trans ht4,b,Mv ht3.size h5,h6,rfl⟩
    | some q =>
     obtain ⟨A,r'⟩:=q;rw [ha] at h4;have HS2:Hid (Pro.gq l=some ((t,A),r')):=by unfold Hid;rw [HS.out,ha];rfl
     obtain ⟨a,n,c,rfl,hown,ht4,H4⟩:=h4;have hs3:=ht3.size;have lm:=(Ms.1 M3.m).1;have ll:=(Ms.1 M3.l).1;have m4:=(ht4.block _ lm zaa).trans M3.m;have l4:=(ht4.block _ ll zaa).trans M3.l;have hown4:=aD hown hs3;have k4:w4.cell? ⟨w,4,none⟩=some (.slice none 0 0):=by rw [My w4 _ 4 _ _ _ m4];rfl
     have f4:w4.frozen? ⟨w,4,none⟩=false:=by simp [World.frozen?,m4]
     have o5:=aa w4 w 4 (.slice a n c);have m5:=MO w4 w 4 _ _ (.slice a n c) m4;have l5:=(o5.block (w.heap.size+1) zaa).trans l4;have hown5:=mg hown4 o5 m4 zac;have ht5:=(ht3.trans ht4).iu o5 (Mt _);have H5:=H4.only o5 hpl;clear HS ha M3 ht3 H3 hown ht4 H4 m4 l4 hown4 o5;dsimp only
     go_upto_region 4 with fail
     generalize w4.setCell ⟨w,4,none⟩ (.slice a n c)=w5 at *;clear k4 f4;obtain ⟨c0,c1⟩:=H5.cells;have y0:w5.cell? w=some ↑ev:=by rw [My w5 _ 0 _ _ _ m5];rfl
     have y1:w5.cell? ⟨w,1,none⟩=some (.bool af):=by rw [My w5 _ 1 _ _ _ m5];rfl
     have y2:w5.cell? ⟨w,2,none⟩=some (.int .u64 d):=by rw [My w5 _ 2 _ _ _ m5];rfl
     have y3:w5.cell? ⟨w,3,none⟩=some ↑t:=by rw [My w5 _ 3 _ _ _ m5];rfl
     have y4:w5.cell? ⟨w,4,none⟩=some (.slice a n c):=by rw [My w5 _ 4 _ _ _ m5];rfl
     have z0:w5.cell? ⟨w.heap.size+1,0,none⟩=some ↑(0:Int):=by rw [My w5 _ 0 _ _ _ l5];rfl
     have q0:w5.frozen? ⟨w.heap.size+1,0,none⟩=false:=zaF;have z1:w5.cell? ⟨w.heap.size+1,1,none⟩=some ↑(0:Int):=by rw [My w5 _ 1 _ _ _ l5];rfl
     have q1:w5.frozen? ⟨w.heap.size+1,1,none⟩=false:=zaF;have z2:w5.cell? ⟨w.heap.size+1,2,none⟩=some ↑ByteArray.empty:=by rw [My w5 _ 2 _ _ _ l5];rfl
     have q2:w5.frozen? ⟨w.heap.size+1,2,none⟩=false:=zaF;have z3:w5.cell? ⟨w.heap.size+1,3,none⟩=some (.bool false):=by rw [My w5 _ 3 _ _ _ l5];rfl
     have q3:w5.frozen? ⟨w.heap.size+1,3,none⟩=false:=zaF;have z4:w5.cell? ⟨w.heap.size+1,4,none⟩=some (.int .u64 0):=by rw [My w5 _ 4 _ _ _ l5];rfl
     have q4:w5.frozen? ⟨w.heap.size+1,4,none⟩=false:=zaF;have z5:w5.cell? ⟨w.heap.size+1,5,none⟩=some ↑ByteArray.empty:=by rw [My w5 _ 5 _ _ _ l5];rfl
     have q5:w5.frozen? ⟨w.heap.size+1,5,none⟩=false:=zaF;have z6:w5.cell? ⟨w.heap.size+1,6,none⟩=some (.slice none 0 0):=by rw [My w5 _ 6 _ _ _ l5];rfl
     have q6:w5.frozen? ⟨w.heap.size+1,6,none⟩=false:=zaF;have hne1:¬ p=w.heap.size+1:=zaa;have hne2:¬ w.heap.size+1=p:=zaa;have hne3:¬ w.heap.size=w.heap.size+1:=zaa;have HH:Hid (w5.ownsRow w 251 1 (.slice a n c) A.length (A.map bh)/\al p w w5/\ah w5 p num dep r'):=⟨hown5,ht5,H5⟩;have HL5:Hid _:=l5;clear m5 l5 hown5 ht5 H5;refine dU 6 zab zab ?_;simp only [List.take_succ_cons,List.take_zero,List.drop_succ_cons,List.drop_zero]
     repeat still_step
     refine N1 ?_;refine eN rfl 356 (.tmp 4) (.tmp 18) rfl _ 356 _ _ rfl rfl (show w5.drew.heap[w.heap.size+1]?=_ from HL5.out) oI rfl rfl ?_;go_wp2;have G2:=(gP w5.drew (w.heap.size+1) #[(num:Int),(dep:Int),ev,af,.int .u64 d,t,.slice a n c]).JJ;refine dP JO _ 356 _ (0,0) _ rfl (Rb _ _ _ _ _ _ (show w5.drew.heap[w.heap.size+1]?=_ from HL5.out)) underlying356 rfl oI rfl ?_;unfold gH;rw [HS2.out];exact ⟨a,n,c,rfl,mg HH.out.1 G2 HL5.out zac,HH.out.2.1.iu G2 zaa,HH.out.2.2.only G2 zaa⟩
namespace Pro
inductive PL where
 | state (k:Int) (name:ByteArray)
 | move (ev:ByteArray) (af:Bool) (d:Int) (dst:ByteArray) (A:List Ref.Act)
 | enter (A:List Ref.Act)
 | leave (A:List Ref.Act)
def bk (num:Nat):List ByteArray->Option (PL×List ByteArray)
 | []=>none
 | x::r =>
  if x.toList == Ref.cT then (pOf Ref.plain r).map fun q=>(.state 0 q.1,q.2)
  else if x.toList == Ref.aM then (pOf Ref.plain r).map fun q=>(.state 1 q.1,q.2)
  else if x.toList == Ref.bX then (pOf Ref.plain r).map fun q=>(.state 2 q.1,q.2)
  else if x.toList == Ref.bj then (de r).map fun q=>(.state q.1.2 q.1.1,q.2)
  else if x.toList == Ref.cOn then match pOf Ref.bZ r with
   | none=>none
   | some (ev,r1)=>(gq r1).map fun q=>(.move ev false 0 q.1.1 q.1.2,q.2)
  else if x.toList == Ref.iG then match gA r with
   | none=>none
   | some (d,r1)=>(gq r1).map fun q=>(.move (Ref.bL++Ref.dec num) true d q.1.1 q.1.2,q.2)
  else if x.toList == Ref.kW then (cG r).map fun q=>(.enter q.1,q.2)
  else if x.toList == Ref.o7 then (cG r).map fun q=>(.leave q.1,q.2)
  else none
end Pro
def eW (w:World) (base:Nat) (num dep:Int):Pro.PL->Value->Prop
 | .state k n,v=>v = .iface 352 (.agg #[.int .i64 num,.int .i64 dep,.int .i64 k,.string n])
 | .move ev af d t A,v=>∃ a n c,v = .iface 356 (.agg #[.int .i64 num,.int .i64 dep,.string ev,.bool af,.int .u64 d,.string t,.slice a n c])/\w.ownsRow base 251 1 (.slice a n c) A.length (A.map bh)
 | .enter A,v=>∃ a n c,v = .iface 363 (.agg #[.int .i64 num,.int .i64 dep,.slice a n c])/\w.ownsRow base 251 1 (.slice a n c) A.length (A.map bh)
 | .leave A,v=>∃ a n c,v = .iface 364 (.agg #[.int .i64 num,.int .i64 dep,.slice a n c])/\w.ownsRow base 251 1 (.slice a n c) A.length (A.map bh)
def aT (p num:Nat) (dep:Int) (l:List ByteArray) (w:World) (e:Ending) (w':World):Prop:=match Pro.bk num l with
 | none=>cR p 2 num w e w'
 | some (L,r)=>∃ v,e = .returned v/\eW w' w.heap.size num dep L v/\al p w w'/\ah w' p num dep r
theorem BA (p num:Nat) (dep:Int) (x:ByteArray) (r:List ByteArray) (w:World) (H:ah w p num dep (x::r)) (hv:bH p w) (h1:(x.toList == [115,116,97,116,101])=true) :
  () 142 #[p] w (aT p num dep (x::r) w):=by
 cases hn:Pro.pOf Ref.plain r with
 | none =>
  have HS:Hid (Pro.bk num (x::r)=none):=by unfold Hid;rw [Pro.bk,Ref.cT,h1,hn];rfl
  go_enter func142,ntmps142;go_wp2_with fail;refine (aF p num dep x r _ H).mono ?_;rintro e w1 ⟨rfl,ho,H1⟩;have ht1:=ho.ai;clear ho;dsimp only;go_wp2_with fail;refine (oN p num dep 0 r _ H1 (hv.ai ht1) hn).mono ?_;exact zdH
 | some q =>
  obtain ⟨n,r'⟩:=q;have HS:Hid (Pro.bk num (x::r)=some (.state 0 n,r')):=by unfold Hid;rw [Pro.bk,Ref.cT,h1,hn];rfl
  go_enter func142,ntmps142;go_wp2_with fail;refine (aF p num dep x r _ H).mono ?_;rintro e w1 ⟨rfl,ho,H1⟩;have ht1:=ho.ai;clear ho;dsimp only;go_wp2_with fail;refine (mu p num dep 0 r r' n _ H1 (hv.ai ht1) hn).mono ?_;exact zdS
theorem tL (p num:Nat) (dep:Int) (x:ByteArray) (r:List ByteArray) (w:World) (H:ah w p num dep (x::r)) (hv:bH p w) (h1:(x.toList == [115,116,97,116,101])=false) (h2:(x.toList == [112,97,114,97,108,108,101,108])=true) :
  () 142 #[p] w (aT p num dep (x::r) w):=by
 cases hn:Pro.pOf Ref.plain r with
 | none =>
  have HS:Hid (Pro.bk num (x::r)=none):=zci;go_enter func142,ntmps142;go_wp2_with fail;refine (aF p num dep x r _ H).mono ?_;rintro e w1 ⟨rfl,ho,H1⟩;have ht1:=ho.ai;clear ho;dsimp only;go_wp2_with fail;refine (oN p num dep 1 r _ H1 (hv.ai ht1) hn).mono ?_;exact zdH
 | some q =>
  obtain ⟨n,r'⟩:=q;have HS:Hid (Pro.bk num (x::r)=some (.state 1 n,r')):=zci;go_enter func142,ntmps142;go_wp2_with fail;refine (aF p num dep x r _ H).mono ?_;rintro e w1 ⟨rfl,ho,H1⟩;have ht1:=ho.ai;clear ho;dsimp only;go_wp2_with fail;refine (mu p num dep 1 r r' n _ H1 (hv.ai ht1) hn).mono ?_;exact zdS
theorem Bu (p num:Nat) (dep:Int) (x:ByteArray) (r:List ByteArray) (w:World) (H:ah w p num dep (x::r)) (hv:bH p w) (h1:(x.toList == [115,116,97,116,101])=false) (h2:(x.toList == [112,97,114,97,108,108,101,108])=false) (h3:(x.toList == [102,105,110,97,108])=true) :
  () 142 #[p] w (aT p num dep (x::r) w):=by
 cases hn:Pro.pOf Ref.plain r with
 | none =>
  have HS:Hid (Pro.bk num (x::r)=none):=zcb;go_enter func142,ntmps142;go_wp2_with fail;refine (aF p num dep x r _ H).mono ?_;rintro e w1 ⟨rfl,ho,H1⟩;have ht1:=ho.ai;clear ho;dsimp only;go_wp2_with fail;refine (oN p num dep 2 r _ H1 (hv.ai ht1) hn).mono ?_;exact zdH
 | some q =>
  obtain ⟨n,r'⟩:=q;have HS:Hid (Pro.bk num (x::r)=some (.state 2 n,r')):=zcb;go_enter func142,ntmps142;go_wp2_with fail;refine (aF p num dep x r _ H).mono ?_;rintro e w1 ⟨rfl,ho,H1⟩;have ht1:=ho.ai;clear ho;dsimp only;go_wp2_with fail;refine (mu p num dep 2 r r' n _ H1 (hv.ai ht1) hn).mono ?_;exact zdS
theorem wT (p num:Nat) (dep:Int) (x:ByteArray) (r:List ByteArray) (w:World) (H:ah w p num dep (x::r)) (hv:bH p w) (h1:(x.toList == [115,116,97,116,101])=false) (h2:(x.toList == [112,97,114,97,108,108,101,108])=false) (h3:(x.toList == [102,105,110,97,108])=false) (h4:(x.toList == [104,105,115,116,111,114,121])=true) :
  () 142 #[p] w (aT p num dep (x::r) w):=by
 cases hn:Pro.de r with
 | none =>
  have HS:Hid (Pro.bk num (x::r)=none):=zb7;go_enter func142,ntmps142;go_wp2_with fail;refine (aF p num dep x r _ H).mono ?_;rintro e w1 ⟨rfl,ho,H1⟩;have ht1:=ho.ai;clear ho;dsimp only;go_wp2_with fail;refine (pT p num dep r _ H1 (hv.ai ht1)).mono ?_;rintro e w2 hq;rw [hn] at hq;exact zdK
 | some q =>
  obtain ⟨⟨n,kk⟩,r'⟩:=q;have HS:Hid (Pro.bk num (x::r)=some (.state kk n,r')):=zb7;go_enter func142,ntmps142;go_wp2_with fail;refine (aF p num dep x r _ H).mono ?_;rintro e w1 ⟨rfl,ho,H1⟩;have ht1:=ho.ai;clear ho;dsimp only;go_wp2_with fail;refine (pT p num dep r _ H1 (hv.ai ht1)).mono ?_;rintro e w2 hq;rw [hn] at hq;obtain ⟨rfl,ht2,H2⟩:=hq;clear hn;dsimp only;go_wp2;go_ret;unfold aT;rw [HS.out];exact ⟨_,rfl,rfl,ht1.trans ht2,H2⟩
theorem Bq (p num:Nat) (dep:Int) (x:ByteArray) (r:List ByteArray) (w:World) (H:ah w p num dep (x::r)) (hv:bH p w) (h1:(x.toList == [115,116,97,116,101])=false) (h2:(x.toList == [112,97,114,97,108,108,101,108])=false) (h3:(x.toList == [102,105,110,97,108])=false) (h4:(x.toList == [104,105,115,116,111,114,121])=false) (h5:(x.toList == [111,110])=false) (h6:(x.toList == [97,102,116,101,114])=false) (h7:(x.toList == [101,110,116,101,114])=true) :
  () 142 #[p] w (aT p num dep (x::r) w):=by
 cases hn:Pro.cG r with
 | none =>
  have HS:Hid (Pro.bk num (x::r)=none):=zbZ;exact zc1
 | some q =>
  obtain ⟨A,r'⟩:=q;have HS:Hid (Pro.bk num (x::r)=some (.enter A,r')):=zbZ;exact zcY
theorem Bv (p num:Nat) (dep:Int) (x:ByteArray) (r:List ByteArray) (w:World) (H:ah w p num dep (x::r)) (hv:bH p w) (h1:(x.toList == [115,116,97,116,101])=false) (h2:(x.toList == [112,97,114,97,108,108,101,108])=false) (h3:(x.toList == [102,105,110,97,108])=false) (h4:(x.toList == [104,105,115,116,111,114,121])=false) (h5:(x.toList == [111,110])=false) (h6:(x.toList == [97,102,116,101,114])=false) (h7:(x.toList == [101,110,116,101,114])=false) (h8:(x.toList == [108,101,97,118,101])=true) :
  () 142 #[p] w (aT p num dep (x::r) w):=by
 cases hn:Pro.cG r with
 | none =>
  have HS:Hid (Pro.bk num (x::r)=none):=zbX;exact zc1
 | some q =>
  obtain ⟨A,r'⟩:=q;have HS:Hid (Pro.bk num (x::r)=some (.leave A,r')):=zbX;exact zcY
theorem Jp (p num:Nat) (dep:Int) (x:ByteArray) (r:List ByteArray) (w:World) (H:ah w p num dep (x::r)) (hv:bH p w) (h1:(x.toList == [115,116,97,116,101])=false) (h2:(x.toList == [112,97,114,97,108,108,101,108])=false) (h3:(x.toList == [102,105,110,97,108])=false) (h4:(x.toList == [104,105,115,116,111,114,121])=false) (h5:(x.toList == [111,110])=true) :
  () 142 #[p] w (aT p num dep (x::r) w):=by
 cases he:Pro.pOf Ref.bZ r with
 | none =>
  have HS:Hid (Pro.bk num (x::r)=none):=by unfold Hid;rw [Pro.bk,Ref.cT,h1,Ref.aM,h2,Ref.bX,h3,Ref.bj,h4,Ref.cOn,h5,he];rfl
  go_enter func142,ntmps142;go_wp2_with fail;refine (aF p num dep x r _ H).mono ?_;rintro e w1 ⟨rfl,ho,H1⟩;have ht1:=ho.ai;clear ho;dsimp only;go_wp2_with fail;refine (fu p num dep r _ H1 (hv.ai ht1)).mono ?_;rintro e w2 hq;rw [he] at hq;exact zdK
 | some q =>
  obtain ⟨ev,r1⟩:=q;cases hn:Pro.gq r1 with
  | none =>
   have HS:Hid (Pro.bk num (x::r)=none):=zb0;go_enter func142,ntmps142;go_wp2_with fail;refine (aF p num dep x r _ H).mono ?_;rintro e w1 ⟨rfl,ho,H1⟩;have ht1:=ho.ai;clear ho;dsimp only;go_wp2_with fail;refine (fu p num dep r _ H1 (hv.ai ht1)).mono ?_;rintro e w3 h3;rw [he] at h3;obtain ⟨rfl,ht3,H3⟩:=h3;have ht4:=ht1.trans ht3;clear he H1 ht3;dsimp only;go_wp2_with fail;refine (n5 p num dep ev false 0 r1 _ H3 (hv.ai ht4)).mono ?_;exact zdx
  | some q =>
   obtain ⟨⟨t,A⟩,r'⟩:=q;have HS:Hid (Pro.bk num (x::r)=some (.move ev false 0 t A,r')):=zb0;go_enter func142,ntmps142;go_wp2_with fail;refine (aF p num dep x r _ H).mono ?_;rintro e w1 ⟨rfl,ho,H1⟩;have ht1:=ho.ai;clear ho;dsimp only;go_wp2_with fail;refine (fu p num dep r _ H1 (hv.ai ht1)).mono ?_;rintro e w3 h3;rw [he] at h3;obtain ⟨rfl,ht3,H3⟩:=h3;have ht4:=ht1.trans ht3;clear he H1 ht3;dsimp only;go_wp2_with fail;refine (n5 p num dep ev false 0 r1 _ H3 (hv.ai ht4)).mono ?_;exact zdk
theorem Bp (p num:Nat) (dep:Int) (x:ByteArray) (r:List ByteArray) (w:World) (H:ah w p num dep (x::r)) (hv:bH p w) (hnum:num<=1073741824) (h1:(x.toList == [115,116,97,116,101])=false) (h2:(x.toList == [112,97,114,97,108,108,101,108])=false) (h3:(x.toList == [102,105,110,97,108])=false) (h4:(x.toList == [104,105,115,116,111,114,121])=false) (h5:(x.toList == [111,110])=false) (h6:(x.toList == [97,102,116,101,114])=true) :
  () 142 #[p] w (aT p num dep (x::r) w):=by
 cases he:Pro.gA r with
 | none =>
  have HS:Hid (Pro.bk num (x::r)=none):=by unfold Hid;rw [Pro.bk,Ref.cT,h1,Ref.aM,h2,Ref.bX,h3,Ref.bj,h4,Ref.cOn,h5,Ref.iG,h6,he];rfl
  go_enter func142,ntmps142;go_wp2_with fail;refine (aF p num dep x r _ H).mono ?_;rintro e w1 ⟨rfl,ho,H1⟩;have ht1:=ho.ai;clear ho;obtain ⟨c0,c1⟩:=H1.cells;dsimp only;go_wp2_with fail;refine (iP num _ hnum (hv.ai ht1).here).mono ?_;rintro e w5 ⟨rfl,hb5⟩;have ht5:=ht1.trans (aP hb5);have H5:=H1.ak hb5;clear hb5 H1 ht1 c0 c1;dsimp only;go_wp2_with fail;refine (jA p num dep r _ H5 (hv.ai ht5)).mono ?_;rintro e w2 hq;rw [he] at hq;obtain ⟨ht,b,h4,h5,rfl⟩:=hq;dsimp only;refine ⟨rfl,?_⟩;unfold aT;rw [HS.out];exact ⟨ht5.trans ht,b,Mv ht5.size h4,h5,rfl⟩
 | some q =>
  obtain ⟨d,r1⟩:=q;cases hn:Pro.gq r1 with
  | none =>
   have HS:Hid (Pro.bk num (x::r)=none):=zbY;go_enter func142,ntmps142;go_wp2_with fail;refine (aF p num dep x r _ H).mono ?_;rintro e w1 ⟨rfl,ho,H1⟩;have ht1:=ho.ai;clear ho;obtain ⟨c0,c1⟩:=H1.cells;dsimp only;go_wp2_with fail;refine (iP num _ hnum (hv.ai ht1).here).mono ?_;rintro e w5 ⟨rfl,hb5⟩;have ht5:=ht1.trans (aP hb5);have H5:=H1.ak hb5;clear hb5 H1 ht1 c0 c1;dsimp only;go_wp2_with fail;refine (jA p num dep r _ H5 (hv.ai ht5)).mono ?_;rintro e w3 h3;rw [he] at h3;obtain ⟨rfl,ht3,H3⟩:=h3;have ht4:=ht5.trans ht3;clear he H5 ht3;dsimp only;go_wp2_with fail;refine (n5 p num dep (Ref.bL++Ref.dec num) true d r1 _ H3 (hv.ai ht4)).mono ?_;exact zdx
  | some q =>
   obtain ⟨⟨t,A⟩,r'⟩:=q;have HS:Hid (Pro.bk num (x::r)=some (.move (Ref.bL++Ref.dec num) true d t A,r')):=zbY;go_enter func142,ntmps142;go_wp2_with fail;refine (aF p num dep x r _ H).mono ?_;rintro e w1 ⟨rfl,ho,H1⟩;have ht1:=ho.ai;clear ho;obtain ⟨c0,c1⟩:=H1.cells;dsimp only;go_wp2_with fail;refine (iP num _ hnum (hv.ai ht1).here).mono ?_;rintro e w5 ⟨rfl,hb5⟩;have ht5:=ht1.trans (aP hb5);have H5:=H1.ak hb5;clear hb5 H1 ht1 c0 c1;dsimp only;go_wp2_with fail;refine (jA p num dep r _ H5 (hv.ai ht5)).mono ?_;rintro e w3 h3;rw [he] at h3;obtain ⟨rfl,ht3,H3⟩:=h3;have ht4:=ht5.trans ht3;clear he H5 ht3;dsimp only;go_wp2_with fail;refine (n5 p num dep (Ref.bL++Ref.dec num) true d r1 _ H3 (hv.ai ht4)).mono ?_;exact zdk
theorem Eb (p num:Nat) (dep:Int) (w:World) (H:ah w p num dep []) :
  () 142 #[p] w (aT p num dep [] w):=by
 go_enter func142,ntmps142;go_wp2_with fail;refine (l8 p num dep _ H).mono ?_;rintro e w1 h1;obtain ⟨ht,b,h3,h4,rfl⟩:=cC (al.refl p w) h1;dsimp only;exact ⟨rfl,ht,b,h3,h4,rfl⟩
theorem Bz (p num:Nat) (dep:Int) (x:ByteArray) (r:List ByteArray) (w:World) (H:ah w p num dep (x::r)) (h1:(x.toList == [115,116,97,116,101])=false) (h2:(x.toList == [112,97,114,97,108,108,101,108])=false) (h3:(x.toList == [102,105,110,97,108])=false) (h4:(x.toList == [104,105,115,116,111,114,121])=false) (h5:(x.toList == [111,110])=false) (h6:(x.toList == [97,102,116,101,114])=false) (h7:(x.toList == [101,110,116,101,114])=false) (h8:(x.toList == [108,101,97,118,101])=false) :
  () 142 #[p] w (aT p num dep (x::r) w):=by
 have HS:Hid (Pro.bk num (x::r)=none):=by unfold Hid;rw [Pro.bk,Ref.cT,h1,Ref.aM,h2,Ref.bX,h3,Ref.bj,h4,Ref.cOn,h5,Ref.iG,h6,Ref.kW,h7,Ref.o7,h8];rfl
 go_enter func142,ntmps142;go_wp2_with fail;refine (aF p num dep x r _ H).mono ?_;rintro e w1 ⟨rfl,ho,H1⟩;have ht1:=ho.ai;obtain ⟨c0,c1⟩:=H1.cells;clear ho;dsimp only;go_wp2_with fail;refine (aU num dep 2 _).mono ?_;rintro e w2 hq;obtain ⟨ht,b,h4,h5,rfl⟩:=cC ht1 hq;dsimp only;refine ⟨rfl,?_⟩;unfold aT;rw [HS.out];exact ⟨ht,b,h4,h5,rfl⟩
theorem Gq (p num:Nat) (dep:Int) (l:List ByteArray) (w:World) (H:ah w p num dep l) (hv:bH p w) (hnum:num<=1073741824) :
  () 142 #[p] w (aT p num dep l w):=by
 cases l with
 | nil=>exact Eb p num dep w H
 | cons x r =>
  cases h1:(x.toList == [115,116,97,116,101])
  case true=>exact BA p num dep x r w H hv h1
  cases h2:(x.toList == [112,97,114,97,108,108,101,108])
  case true=>exact tL p num dep x r w H hv h1 h2
  cases h3:(x.toList == [102,105,110,97,108])
  case true=>exact Bu p num dep x r w H hv h1 h2 h3
  cases h4:(x.toList == [104,105,115,116,111,114,121])
  case true=>exact wT p num dep x r w H hv h1 h2 h3 h4
  cases h5:(x.toList == [111,110])
  case true=>exact Jp p num dep x r w H hv h1 h2 h3 h4 h5
  cases h6:(x.toList == [97,102,116,101,114])
  case true=>exact Bp p num dep x r w H hv hnum h1 h2 h3 h4 h5 h6
  cases h7:(x.toList == [101,110,116,101,114])
  case true=>exact Bq p num dep x r w H hv h1 h2 h3 h4 h5 h6 h7
  cases h8:(x.toList == [108,101,97,118,101])
  case true=>exact Bv p num dep x r w H hv h1 h2 h3 h4 h5 h6 h7 h8
  exact Bz p num dep x r w H h1 h2 h3 h4 h5 h6 h7 h8
namespace Pro
theorem Lz (h:(a.toList == b.toList)=true):a=b:=by
 have h:=eq_of_beq h;rw [NA,NA] at h;cases a;cases b
 simp at h;rw [h]
theorem jX {l:List UInt8} (h:(a.toList == l)=true) (hb:b.toList=l):a=b:=Lz (by rw [hb];exact h)
theorem wD:bDo.toList=Ref.cDo:=zar
theorem wi:bAs.toList=Ref.cAs:=zar
theorem dB {P:ByteArray->Bool}:pOf P (x::r)=if P x then some (x,r) else none:=rfl
theorem gS:gA (x::r)=if Ref.cA x then some (Ref.dV x,r) else none:=rfl
theorem Ep:dr [c]=none:=by
 unfold dr;rw [dB];split
 ·rfl
 ·rename_i x l1 h;split at h
  ·cases h;rfl
  ·cases h
theorem Er:dr [c,d]=if Ref.called c&&Ref.cA d then some ((c,Ref.dV d,none),[]) else none:=by
 unfold dr;rw [dB];cases Ref.called c
 ·rfl
 ·simp only [Bool.true_and,if_true];rw [gS];cases Ref.cA d <;> rfl
theorem BN (hy:(y.toList == Ref.cAs)=false):dr (c::d::y::r)=if Ref.called c&&Ref.cA d then some ((c,Ref.dV d,none),y::r) else none:=by
 unfold dr;rw [dB];cases Ref.called c
 ·rfl
 ·simp only [Bool.true_and,if_true];rw [gS];exact zeP
theorem El (hy:(y.toList == Ref.cAs)=true):dr [c,d,y]=none:=by
 unfold dr;rw [dB];cases Ref.called c
 ·rfl
 ·simp only [if_true];rw [gS];exact zeP
theorem Em (hy:(y.toList == Ref.cAs)=true):dr (c::d::y::a::r)=if Ref.called c&&Ref.cA d&&Ref.called a then some ((c,Ref.dV d,some a),r) else none:=by
 unfold dr;rw [dB];cases Ref.called c
 ·rfl
 ·simp only [Bool.true_and,if_true];rw [gS];cases Ref.cA d
  ·rfl
  ·simp only [Bool.true_and,if_true];rw [wi,hy,MB rfl,dB];cases Ref.called a <;> rfl
theorem Cw {x:ByteArray} {r:List ByteArray} (h:(x.toList == Ref.cDo)=true) :
  bF r=(Ref.oV (x::r)).map fun q=>(q.1,(x::r).drop q.2):=by
 cases r with
 | nil=>rfl
 | cons y r =>
  rw [bF];cases r with
  | nil =>
   have h2:Ref.oV [x,y]=none:=by unfold Ref.oV;rw [MB zad]
   rw [h2];split
   ·rfl
   ·exact zfq
  | cons c r =>
   have hl:¬ (x::y::c::r).length<3:=zad;unfold Ref.oV;rw [Mz hl,show Ref.at' (x::y::c::r) 0=x from rfl,h,MB rfl,show Ref.at' (x::y::c::r) 1=y from rfl,show Ref.at' (x::y::c::r) 2=c from rfl];cases h1:(y.toList == Ref.eS)
   ·simp only [Bool.false_eq_true,if_false];cases h2:(y.toList == Ref.eJ)
    ·simp only [Bool.false_eq_true,if_false];cases h3:(y.toList == Ref.kX)
     ·simp
     ·simp only [if_true];have ey:y=mE:=jX h3 mj;cases r with
      | nil=>rw [MB zad,Ep];rfl
      | cons d r =>
       rw [Mz zad,show Ref.at' (x::y::c::d::r) 3=d from rfl];cases r with
       | nil =>
        rw [Mz zad,Er];cases Ref.called c <;> cases Ref.cA d <;> simp [ey]
       | cons u r =>
        rw [show Ref.at' (x::y::c::d::u::r) 4=u from rfl];cases h4:(u.toList == Ref.cAs)
        ·rw [Mz zad,BN h4];cases Ref.called c <;> cases Ref.cA d <;> simp [ey]
        ·rw [MB zad];cases r with
         | nil=>rw [MB zad,El h4];rfl
         | cons a r =>
          rw [Mz zad,show Ref.at' (x::y::c::d::u::a::r) 5=a from rfl,Em h4];cases Ref.called c <;> cases Ref.cA d <;> cases Ref.called a <;> simp [ey]
    ·have ey:y=gC:=jX h2 gJ;have h3:(y.toList == Ref.kX)=false:=by rw [ey,gJ];rfl
     rw [h3];simp only [Bool.false_eq_true,if_false,if_true];rw [dB];cases Ref.called c <;> simp [ey]
   ·have ey:y=oY:=jX h1 nr;simp only [if_true];rw [dB];cases Ref.called c <;> simp [ey]
theorem Fb (h:(x.toList == Ref.cDo)=false):Ref.oV (x::r)=none:=by
 unfold Ref.oV;split
 ·rfl
 ·rw [show Ref.at' (x::r) 0=x from rfl,h];rfl
theorem ue:∀ (n:Nat) (l:List ByteArray),l.length<=n->Ref.aw l=match a7 l with | some (A,[])=>some A | _=>none
 | _,[],_=>rfl
 | 0,x::r,h=>by simp at h
 | n+1,x::r,h=>by
  cases hd:(x.toList == Ref.cDo)
  ·rw [jo (by rw [wD];exact hd)];show Ref.jw (r.length+1) (x::r)=none;rw [Ref.jw,Fb hd]
  ·cases ha:Ref.oV (x::r) with
   | none =>
    have hp:=Cw (r:=r) hd;rw [ha] at hp;rw [jn (by rw [wD];exact hd) hp];show Ref.jw (r.length+1) (x::r)=none;rw [Ref.jw,ha]
   | some q =>
    obtain ⟨a,k⟩:=q;have hp:=Cw (r:=r) hd;rw [ha] at hp;have hb:=Ref.kS ha;have hlen:((x::r).drop k).length<(x::r).length:=by
     rw [Qd];have:=hb.1;have:=hb.2;omega
    rw [jm (by rw [wD];exact hd) hp];have ih:=ue n ((x::r).drop k) (by simp only [List.length_cons] at h hlen ⊢;omega);show Ref.jw (r.length+1) (x::r)=_;rw [Ref.jw,ha];simp only;rw [Ref.qN r.length ((x::r).drop k).length _ (by simp only [List.length_cons] at hlen;omega) (Mt _)];change (match Ref.aw ((x::r).drop k) with | none=>none | some r'=>some (a::r'))=_;rw [ih];cases a7 ((x::r).drop k) with
    | none=>rfl
    | some q =>
     obtain ⟨A,t⟩:=q;cases t <;> rfl
theorem nB (l:List ByteArray):Ref.aw l=match a7 l with | some (A,[])=>some A | _=>none:=ue l.length l (Mt _)
end Pro
end
section
open Go.RowKit
open Go.PlainAid (bt get_bt bt_nonneg bt_le bt_end)
namespace Ref
theorem K1 (n:Nat):∃ k:Nat,m64 n=k/\k<=18446744073709551615:=by
 unfold m64;rw [PE];exact ⟨n % 18446744073709551616,zaa,zaa⟩
theorem ux (s:ByteArray):∃ n:Nat,dV s=n/\n<=18446744073709551615:=by
 unfold dV;split
 ·exact K1 _
 ·exact ⟨0,rfl,zac⟩
structure js (a:Act):Prop where
 how:a.how.size<=4096
 event:a.event.size<=4096
 id:a.id.size<=4096
 delay:∃ n:Nat,a.delay=n/\n<=18446744073709551615
structure mN (m:Move):Prop where
 event:m.event.size<=4096
 dst:m.to.size<=4096
 aw:∀ a∈m.aw,js a
 len:m.aw.length<=4096
 delay:∃ n:Nat,m.delay=n/\n<=18446744073709551615
structure oU (L:jU):Prop where
 word:L.word.size<=4096
 name:L.name.size<=4096
 m:mN L.m
 aw:∀ a∈L.aw,js a
 len:L.aw.length<=4096
structure lS (x:State):Prop where
 word:x.word.size<=4096
 name:x.name.size<=4096
 dep0:0<=x.depth
 dep:x.depth<=5
 aj:∀ m∈x.aj,mN m
 enter:∀ a∈x.enter,js a
 leave:∀ a∈x.leave,js a
 lenE:x.enter.length<=4096
 lenL:x.leave.length<=4096
theorem Io {a:Act} (hs:∀ x∈l,x.size<=4096) (h:oV l=some (a,n)):js a:=by
 have h0:=nD hs;unfold oV at h
 repeat' split at h
 all_goals cases h
 all_goals refine ⟨h0 _,?_,?_,?_⟩
 all_goals first | exact h0 _ | exact MJ _ | exact ux _ | exact ⟨0,rfl,zac⟩
theorem xS:∀ (f:Nat) (l:List ByteArray) (A:List Act),(∀ x∈l,x.size<=4096)->jw f l=some A->(∀ a∈A,js a)/\A.length<=l.length
 | 0,[],A,_,h=>by cases h;exact ⟨fun a ha=>absurd ha zad,Mt _⟩
 | _+1,[],A,_,h=>by cases h;exact ⟨fun a ha=>absurd ha zad,Mt _⟩
 | 0,x::r,A,_,h=>by cases h
 | f+1,x::r,A,hs,h=>by
  rw [jw] at h;split at h
  ·cases h
  ·rename_i a n h1;split at h
   ·cases h
   ·rename_i r' h2;cases h
    have hb:=kS h1;have ih:=xS f ((x::r).drop n) r' (fun y hy=>hs y (P8 hy)) h2;refine ⟨?_,?_⟩
    ·intro b hm
     rcases OE.1 hm with h | h
     ·rw [h];exact Io hs h1
     ·exact ih.1 b h
    ·have:=ih.2;rw [Qd] at this;simp only [List.length_cons] at this hb ⊢;omega
theorem v7 (hs:∀ x∈l,x.size<=4096) (h:aw l=some A):(∀ a∈A,js a)/\A.length<=l.length:=xS _ l A hs h
theorem zx {t:ByteArray} (hs:∀ x∈l,x.size<=4096) (h:uP l=some (t,A)):t.size<=4096/\(∀ a∈A,js a)/\A.length<=l.length:=by
 unfold uP at h;split at h
 ·split at h
  ·cases h
  ·split at h
   ·cases h2:aw (l.drop 2) with
    | none=>rw [h2] at h;cases h
    | some B =>
     rw [h2] at h;cases h
     have:=v7 (fun y hy=>hs y (P8 hy)) h2;exact ⟨nD hs 1,this.1,Mv this.2 zad⟩
   ·cases h
 ·cases h2:aw l with
  | none=>rw [h2] at h;cases h
  | some B =>
   rw [h2] at h;cases h
   exact ⟨MJ _,v7 hs h2⟩
theorem i1:mN kr:=⟨MJ _,MJ _,fun a ha=>absurd ha (by simp [kr]),MJ _,0,rfl,zac⟩
theorem dA:oU gz:=⟨MJ _,MJ _,i1,fun a ha=>absurd ha (by simp [gz]),MJ _⟩
theorem JU {ln:Nat} (hs:∀ x∈l,x.size<=4096) (hl:l.length<=4096) (hln:ln<=1073741824):oU (said l ln):=by
 have h0:=nD hs;have hs2:∀ x∈l.drop 2,x.size<=4096:=fun y hy=>hs y (P8 hy);have hs1:∀ x∈l.drop 1,x.size<=4096:=fun y hy=>hs y (P8 hy);unfold said;split
 ·exact dA
 ·split
  ·exact zeo
  ·split
   ·exact zeo
   ·split
    ·split
     ·exact dA
     ·rename_i t A hm;have:=zx hs2 hm;rw [Qd] at this;split
      ·exact ⟨MJ _,MJ _,⟨h0 1,this.1,this.2.1,zbU,0,rfl,zac⟩,fun a ha=>absurd ha zad,MJ _⟩
      ·exact dA
    ·split
     ·split
      ·exact dA
      ·rename_i t A hm;have:=zx hs2 hm;rw [Qd] at this;have hd:(dec ln).size<=20:=rh zaa;have hk:bL.size<=20:=zac;split
       ·exact ⟨MJ _,MJ _,⟨by show (bL++dec ln).size<=_;rw [Pe];omega,this.1,this.2.1,zbU,ux _⟩,fun a ha=>absurd ha zad,MJ _⟩
       ·exact dA
     ·split
      ·split
       ·exact dA
       ·rename_i A hm;have:=v7 hs1 hm;rw [Qd] at this;exact ⟨MJ _,MJ _,i1,this.1,zbU⟩
      ·exact dA
theorem tg {f:State->State} {y:State} (hy:y∈gj S k f):y∈S\/∃ x∈S,y=f x:=by
 unfold gj at hy;by_cases hk:k<S.length
 ·rcases M8 hy with h | h
  ·exact .inl h
  ·refine .inr ⟨S.getD k st0,?_,h⟩;rw [MI,Mu hk];exact Ns hk
 ·rw [Qi zaa] at hy;exact .inl hy
theorem A9 {X:List SV} {x:SV} (h:fits X x=true):x.s.depth<=5:=by
 unfold fits at h;by_cases hd:x.s.depth<=5
 ·exact hd
 ·have:5<x.s.depth:=zaa;simp [this] at h
theorem Ah {x:jU} {d:Int} (h:bB S i x d=some S') (hd:0<=d) (hx:oU x) (hS:∀ y∈S,lS y/\y.aj.length<=n):∀ y∈S',lS y/\y.aj.length<=n+1:=by
 have hS1:∀ y∈S,lS y/\y.aj.length<=n+1:=fun y hy=>⟨(hS y hy).1,Qv (hS y hy).2⟩;unfold bB at h;split at h
 ·cases h
 ·split at h
  ·split at h
   ·rename_i hf;cases h
    intro y hy
    rcases MU.1 hy with h | h
    ·exact hS1 y h
    ·rw [ME.1 h];exact ⟨⟨hx.word,hx.name,hd,A9 hf,fun m hm=>absurd hm (by simp [jL]),fun m hm=>absurd hm (by simp [jL]),fun m hm=>absurd hm (by simp [jL]),MJ _,MJ _⟩,MJ _⟩
   ·cases h
  ·split at h
   ·cases h
   ·split at h
    ·cases h
    ·split at h
     ·split at h
      ·cases h
      ·cases h
       intro y hy
       rcases tg hy with h | ⟨z,hz,rfl⟩
       ·exact hS1 y h
       ·obtain ⟨h1,h2⟩:=hS z hz;refine ⟨{ h1 with aj := ?_ },?_⟩
        ·intro m hm
         rcases MU.1 hm with h | h
         ·exact h1.aj m h
         ·rw [ME.1 h];exact hx.m
        ·simp;omega
     ·split at h
      ·split at h
       ·cases h
       ·cases h
        intro y hy
        rcases tg hy with h | ⟨z,hz,rfl⟩
        ·exact hS1 y h
        ·obtain ⟨h1,h2⟩:=hS1 z hz;exact ⟨{ h1 with enter:=hx.aw,lenE:=hx.len },h2⟩
      ·split at h
       ·split at h
        ·cases h
        ·cases h
         intro y hy
         rcases tg hy with h | ⟨z,hz,rfl⟩
         ·exact hS1 y h
         ·obtain ⟨h1,h2⟩:=hS1 z hz;exact ⟨{ h1 with leave:=hx.aw,lenL:=hx.len },h2⟩
       ·cases h
        exact hS1
theorem vK {A:List (jU×Int)} (hA:∀ p∈A,oU p.1/\0<=p.2):∀ {i:Nat} {S:List State},a8 A i=some S->∀ y∈S,lS y/\y.aj.length<=i
 | 0,S,h=>by cases h;exact fun y hy=>absurd hy zad
 | i+1,S,h=>by
  rw [a8] at h;split at h
  ·cases h
  ·rename_i S0 h0;have ih:=vK hA h0;split at h
   ·cases h;exact fun y hy=>⟨(ih y hy).1,Qv (ih y hy).2⟩
   ·rename_i x d hx;have:=hA _ (MG hx);exact Ah h this.2 this.1 ih
def iW (t:ByteArray):Nat->Nat->Nat
 | 0,d=>d
 | f+1,d=>if bt t d=32 then iW t f (d+1) else d
def dc (t:ByteArray):Nat:=iW t t.size 0
theorem qV (t:ByteArray):∀ f d,iW t f d<=d+f
 | 0,d=>Mt _
 | f+1,d=>by
  have:=qV t f (d+1);unfold iW;split <;> omega
theorem uj (t:ByteArray):dc t<=t.size:=by have:=qV t t.size 0;unfold dc;omega
def rest (t:ByteArray):ByteArray:=t.extract (dc t) t.size
def gZ (t:ByteArray) (i:Nat):jU:=said (cut (rest t) 32) (i+1)
def pc (P:List ByteArray) (i:Nat):ByteArray:=P.getD i ByteArray.empty
def lJ (P:List ByteArray):Nat->Option Nat
 | 0=>none
 | k+1=>match lJ P k with
  | some i=>some i
  | none=>if (gZ (pc P k) k).kind=0 then some k else none
def syn (P:List ByteArray):Option Nat:=match lJ P (P.length-1) with
 | some i=>some i
 | none=>if decide (0<P.length-1)&&(pc P (P.length-1)).toList.isEmpty then none else some (P.length-1)
def aN (P:List ByteArray) (k:Nat):List (jU×Int):=(List.range k).map fun i=>(gZ (pc P i) i,(dc (pc P i):Int))
def gx (A:List (jU×Int)):Nat->Nat
 | 0=>0
 | i+1=>if (a8 A i).isSome&&(a8 A (i+1)).isNone then i+1 else gx A i
inductive Got where
 | fault (e line:Int)
 | eO (S:List State)
def read (s:ByteArray):Got :=
 if 1500<s.size then .fault 1 0
 else match syn (cut s 10) with
  | some i => .fault 2 ((i:Int)+1)
  | none=>match a8 (aN (cut s 10) ((cut s 10).length-1)) ((cut s 10).length-1) with
   | none => .fault 3 (gx (aN (cut s 10) ((cut s 10).length-1)) ((cut s 10).length-1))
   | some S=>if 0<(dK S S.length).getD 0 then .fault 3 ((dK S S.length).getD 0)
    else if 0<named (S.map emb) then .fault 4 (named (S.map emb))
    else .eO S
theorem xL {x:jU} {d:Int} (h:bB S i x d=some S'):S'.length<=S.length+1:=by
 unfold bB gj at h
 repeat' split at h
 all_goals first | (cases h;done) | (cases h;simp)
theorem tf {A:List (jU×Int)}:∀ {i:Nat} {S:List State},a8 A i=some S->S.length<=i
 | 0,S,h=>by cases h;exact Mt _
 | i+1,S,h=>by
  rw [a8] at h;split at h
  ·cases h
  ·rename_i S0 h0;have:=tf h0;split at h
   ·cases h;omega
   ·have:=xL h;omega
theorem C6 {P:List ByteArray}:∀ {k i:Nat},lJ P k=some i->∀ j,k<=j->lJ P j=some i
 | k,i,h,0,hj=>by rw [Rz.1 hj] at h;exact h
 | k,i,h,j+1,hj=>by
  by_cases e:k=j+1
  ·rw [<- e];exact h
  ·rw [lJ,C6 h j zaa]
theorem J1 (hk:k<P.length-1) (h:lJ P k=none) (hb:(gZ (pc P k) k).kind=0):syn P=some k:=by
 have:lJ P (P.length-1)=some k:=C6 (k:=k+1) (by rw [lJ,h];simp only;rw [MB hb]) _ zaa;unfold syn;rw [this]
theorem z8 (h:lJ P (P.length-1)=none) (hb:¬ (0<P.length-1/\(pc P (P.length-1)).toList.isEmpty=true)):syn P=some (P.length-1):=by
 unfold syn;rw [h];simp only;rw [Mz];simpa using hb
theorem Ht (h:lJ P (P.length-1)=none) (h0:0<P.length-1) (he:(pc P (P.length-1)).toList.isEmpty=true):syn P=none:=by
 unfold syn;rw [h];simp [h0,he]
theorem EJ (h:lJ P k=none) (hb:¬ (gZ (pc P k) k).kind=0):lJ P (k+1)=none:=by
 rw [lJ,h];simp only;rw [Mz hb]
theorem jC {A:List (jU×Int)} {i:Nat} (h1:(a8 A i).isSome=true) (h2:a8 A (i+1)=none):∀ k,i<k->gx A k=i+1
 | 0,h=>by omega
 | k+1,h=>by
  by_cases e:k=i
  ·rw [gx,e,h1,h2];rfl
  ·have:a8 A k=none:=fK h2 k zaa;rw [gx,this];exact jC h1 h2 k zaa
end Ref
end
section
open Go.RowKit
namespace Pro
theorem J4:yk.toList=Ref.cTo:=zar
theorem DF:oX.toList=Ref.CK:=zar
def kU:ByteArray:=⟨#[115,116,97,116,101]⟩
def fA:ByteArray:=⟨#[112,97,114,97,108,108,101,108]⟩
def kT:ByteArray:=⟨#[102,105,110,97,108]⟩
def da:ByteArray:=⟨#[104,105,115,116,111,114,121]⟩
theorem iO:kU.toList=Ref.cT:=zar
theorem eZ:fA.toList=Ref.aM:=zar
theorem iH:kT.toList=Ref.bX:=zar
theorem bR:da.toList=Ref.bj:=zar
def bu (k:Int):ByteArray:=if k=0 then kU else if k=1 then fA else if k=2 then kT else da
def aE (num:Nat):PL->Ref.jU
 | .state k n=>⟨115,bu k,n,decide (k=4),num,Ref.kr,[]⟩
 | .move ev af d t A=>⟨109,ByteArray.empty,ByteArray.empty,false,0,⟨ev,t,af,d,A,num⟩,[]⟩
 | .enter A=>⟨101,ByteArray.empty,ByteArray.empty,false,0,Ref.kr,A⟩
 | .leave A=>⟨108,ByteArray.empty,ByteArray.empty,false,0,Ref.kr,A⟩
def bl (num:Nat) (l:List ByteArray):Option PL:=match bk num l with
 | some (L,[])=>some L
 | _=>none
theorem uQ (l:List ByteArray):Ref.uP l=match gq l with | some (q,[])=>some q | _=>none:=by
 unfold Ref.uP gq;cases l with
 | nil=>simp [pTo,nB];rfl
 | cons y r =>
  rw [show Ref.at' (y::r) 0=y from rfl,pTo,J4];cases hy:(y.toList == Ref.cTo)
  ·rw [Mz zad,Mz zad,nB];simp only;cases a7 (y::r) with
   | none=>rfl
   | some q=>obtain ⟨A,t⟩:=q;cases t <;> rfl
  ·rw [MB zad,MB rfl];cases r with
   | nil=>rfl
   | cons z t =>
    rw [Mz zad,show Ref.at' (y::z::t) 1=z from rfl,dB];cases Ref.plain z
    ·rfl
    ·simp only [if_true,List.drop_succ_cons,List.drop_zero];rw [nB];cases a7 t with
     | none=>rfl
     | some q=>obtain ⟨A,u⟩:=q;cases u <;> rfl
theorem xr:a7 (y::r)≠some ([],[]):=by
 cases h:(y.toList == bDo.toList)
 ·rw [jo h];simp
 ·cases h2:bF r with
  | none=>rw [jn h h2];simp
  | some q =>
   obtain ⟨a,r'⟩:=q;rw [jm h h2];cases a7 r' <;> simp
theorem rj (y:ByteArray) (r:List ByteArray):Ref.aw (y::r)=match cG (y::r) with | some (A,[])=>some A | _=>none:=by
 rw [nB];unfold cG;cases h:a7 (y::r) with
 | none=>rfl
 | some q =>
  obtain ⟨A,t⟩:=q;cases A with
  | nil=>cases t with
   | nil=>exact absurd h xr
   | cons _ _=>rfl
  | cons a A=>cases t <;> rfl
theorem Hh (num:Nat) (l:List ByteArray):Ref.said l num=((bl num l).map (aE num)).getD Ref.gz:=by
 cases l with
 | nil=>rfl
 | cons x r =>
  cases r with
  | nil =>
   rw [Ref.said,MB zad];unfold bl bk
   repeat' (first | rfl | split)
   all_goals first | rfl | (simp_all [pOf,de,gA,cG,a7,gn])
  | cons y r =>
   have h2:¬ (x::y::r).length<2:=zad;rw [Ref.said,Mz h2];unfold bl bk;simp only [Ref.is,show Ref.at' (x::y::r) 0=x from rfl,show Ref.at' (x::y::r) 1=y from rfl,List.drop_succ_cons,List.drop_zero];cases hS:(x.toList == Ref.cT)
   ·cases hP:(x.toList == Ref.aM)
    ·cases hF:(x.toList == Ref.bX)
     ·cases hH:(x.toList == Ref.bj)
      ·cases hO:(x.toList == Ref.cOn)
       ·cases hA:(x.toList == Ref.iG)
        ·cases hE:(x.toList == Ref.kW)
         ·cases hL:(x.toList == Ref.o7)
          ·simp
          ·have ex:Go.PlainAid.bt x 0=108:=by
            rw [jX (b:=⟨#[108,101,97,118,101]⟩) hL zar];rfl
           simp only [Bool.or_true,Bool.false_or,Bool.false_eq_true,if_false,if_true];exact zdN
         ·have ex:Go.PlainAid.bt x 0=101:=by
           rw [jX (b:=⟨#[101,110,116,101,114]⟩) hE zar];rfl
          simp only [Bool.true_or,Bool.or_self,Bool.false_eq_true,if_false,if_true];exact zdN
        ·simp only [Bool.or_self,Bool.false_eq_true,if_false,if_true];rw [uQ,gS];cases Ref.cA y
         ·exact zen
         ·exact zd5
       ·simp only [Bool.or_self,Bool.false_eq_true,if_false,if_true];rw [uQ,dB];cases Ref.bZ y
        ·exact zen
        ·exact zd5
      ·have ex:x=da:=jX hH bR;simp only [Bool.or_self,Bool.false_eq_true,if_false,if_true];unfold de;rw [dB];cases hp:Ref.plain y
       ·simp
       ·simp only [if_true,Bool.true_and];cases r with
        | nil=>simp [Ref.uw,aE,bu,ex]
        | cons z t =>
         simp only [DF];cases hz:(z.toList == Ref.CK)
         ·simp [Ref.uw,Ref.is,show Ref.at' (x::y::z::t) 2=z from rfl,hz]
         ·cases t with
          | nil =>
           have ez:z.toList=Ref.CK:=eq_of_beq hz;simp [Ref.uw,Ref.is,show Ref.at' [da,y,z] 2=z from rfl,ez,aE,bu,ex]
          | cons _ _=>simp [Ref.uw]
     ·have ex:x=kT:=jX hF iH;simp only [Bool.or_true,Bool.false_eq_true,if_false,if_true];exact zed
    ·have ex:x=fA:=jX hP eZ;simp only [Bool.true_or,Bool.or_true,Bool.false_eq_true,if_false,if_true];exact zed
   ·have ex:x=kU:=jX hS iO;simp only [Bool.true_or,if_true];exact zed
theorem Af (num:Nat) (L:PL):¬ (aE num L).kind=0:=by cases L <;> simp [aE]
end Pro
end
section
open Go.RowKit
open Go.PlainAid (bt get_bt bt_nonneg bt_le bt_end)
namespace Pro
def iS (c:UInt8):List UInt8->List (List UInt8)
 | []=>[[]]
 | x::l=>if x == c then []::iS c l else match iS c l with
  | []=>[[x]]
  | h::t=>(x::h)::t
theorem FL (c:UInt8) (l:List UInt8):iS c l≠[]:=by
 cases l with
 | nil=>simp [iS]
 | cons x l =>
  rw [iS];split
  ·simp
  ·split <;> simp
theorem pf (c:UInt8):∀ l:List UInt8,Lib.indexByte l c = -1->iS c l=[l]
 | [],_=>rfl
 | x::l,h=>by
  rw [Lib.indexByte] at h;rw [iS];by_cases hx:(x == c)=true
  ·rw [MB hx] at h;cases h
  ·rw [Mz hx] at h ⊢;by_cases hl:(Lib.indexByte l c == -1)=true
   ·rw [pf c l (by simpa using hl)]
   ·rw [Mz hl] at h;have:=Lib.indexByte_ge l c;omega
theorem yv (c:UInt8):∀ (l:List UInt8) (i:Nat),Lib.indexByte l c=i->iS c l=l.take i::iS c (l.drop (i+1))
 | [],i,h=>by
  have h:(-1:Int)=i:=h;omega
 | x::l,i,h=>by
  rw [Lib.indexByte] at h;rw [iS];by_cases hx:(x == c)=true
  ·rw [MB hx] at h ⊢;have:i=0:=zaa;subst this;simp
  ·rw [Mz hx] at h ⊢;by_cases hl:(Lib.indexByte l c == -1)=true
   ·rw [MB hl] at h;omega
   ·rw [Mz hl] at h;have:=Lib.indexByte_ge l c;have hl':¬ Lib.indexByte l c = -1:=by simpa using hl
    obtain ⟨j,rfl⟩:∃ j,i=j+1:=⟨i-1,zaa⟩;rw [yv c l j zaa];simp
theorem uu (c x:UInt8):∀ l:List UInt8,iS c (l++[x])=if x == c then iS c l++[[]] else (iS c l).set ((iS c l).length-1) ((iS c l)[(iS c l).length-1]?.getD []++[x])
 | []=>by
  rw [Rv,iS];split <;> rename_i h <;> simp [iS] <;> simpa using h
 | y::l=>by
  rw [Rg,iS,uu c x l,iS];have hp:=FL c l;by_cases hy:(y == c)=true
  ·rw [MB hy,MB hy];split
   ·rfl
   ·obtain ⟨h,t,e⟩:=P9 hp;rw [e];simp
  ·rw [Mz hy,Mz hy];obtain ⟨h,t,e⟩:=P9 hp;rw [e];by_cases hx:(x == c)=true
   ·rw [MB hx,MB hx];rfl
   ·rw [Mz hx,Mz hx];cases t with
    | nil=>simp
    | cons u t=>simp
theorem zW (c:UInt8):∀ (n:Nat) (s:ByteArray),s.size<=n->(Lib.splitB ⟨#[c]⟩ 0 (Lib.countB s ⟨#[c]⟩) s).map (·.data.toList)=iS c s.data.toList:=by
 have hone:∀ s:ByteArray,Lib.indexB s ⟨#[c]⟩=Lib.indexByte s.data.toList c:=by
  intro s;have:=Lib.one s ⟨#[c]⟩ rfl;rw [this]
  congr 1
  show ((c.toNat:Int).toNat).toUInt8=c;simp
 intro n
 induction n with
 | zero =>
  intro s hs;have h0:s.data.toList=[]:=by
   have:=PJ s;exact OA.1 zaa
  have hm:Lib.indexB s ⟨#[c]⟩ = -1:=by rw [hone,h0];rfl
  exact zeu
 | succ n ih =>
  intro s hs
  rcases Lib.indexB_cases s ⟨#[c]⟩ with hm | ⟨i,hi,hle⟩
  ·exact zeu
  ·have h1:(⟨#[c]⟩:ByteArray).size=1:=rfl;rw [Lib.countB_hit s _ i (by rw [h1];exact Mt _) hi,Nat.add_comm 1,Lib.splitB_hit _ _ _ _ i hi,OQ,Lib.extract_from_zero,h1,Rr];rw [ih (s.extract (i+1) s.size) zaf,Lib.extract_to_end,yv c s.data.toList i (by rw [<- hone];exact hi)]
theorem yF (h:k<s.size):(s.extract k (k+1)).data.toList=[s.data.toList[k]'(by rw [<- PJ];exact h)]:=by
 rw [Lib.extract_data,Nat.add_sub_cancel_left];rw [List.take_one,List.head?_drop,Mu (by rw [<- PJ];exact h)];rfl
theorem qt (h:k<s.size):bt s k=((s.data.toList[k]'(by rw [<- PJ];exact h)).toNat:Int):=by
 rw [<- get_bt s k h];rfl
theorem yg (a b:ByteArray):(a++b).data.toList=a.data.toList++b.data.toList:=zad
theorem qZ (s:ByteArray) (c:UInt8):∀ k,k<=s.size->(Ref.dq s (c.toNat:Int) k).map (·.data.toList)=iS c (s.data.toList.take k)
 | 0,_=>by rw [Ref.dq,List.take_zero];rfl
 | k+1,hk=>by
  have hk':k<s.size:=zaa;have hl:k<s.data.toList.length:=by rw [<- PJ];exact hk'
  have ih:=qZ s c k zaa;rw [Oa,Mu hl,Option.toList_some,uu,<- ih];by_cases h:(s.data.toList[k] == c)=true
  ·rw [MB h,Ref.IQ (by rw [qt hk',eq_of_beq h]),Ny];rfl
  ·rw [Mz h,Ref.KK (by
    rw [qt hk'];intro e;apply h
    have:s.data.toList[k].toNat=c.toNat:=zaa;rw [QL.1 this];simp),Ow,yg,yF hk',MH,MF]
   have hp:=Ref.lT s (c.toNat:Int) k;rw [Mu zaa];rfl
theorem nX:∀ {a b:List ByteArray},a.map (·.data.toList)=b.map (·.data.toList)->a=b
 | [],[],_=>rfl
 | [],_::_,h=>by simp at h
 | _::_,[],h=>by simp at h
 | x::a,y::b,h=>by
  simp only [List.map_cons,List.cons.injEq] at h;rw [nX h.2];have:x=y:=by rw [<- RA x,h.1,RA]
  rw [this]
theorem vB (s:ByteArray) (c:UInt8):Lib.splitB ⟨#[c]⟩ 0 (Lib.countB s ⟨#[c]⟩) s=Ref.cut s (c.toNat:Int):=by
 apply nX
 rw [zW c s.size s (Mt _)];unfold Ref.cut;rw [qZ s c s.size (Mt _),List.take_of_length_le (by rw [<- PJ];exact Mt _)]
theorem DE (s:ByteArray) (c:UInt8):Lib.countB s ⟨#[c]⟩+1=(Ref.cut s (c.toNat:Int)).length:=by
 rw [<- vB,Lib.splitB_all _ (show 1<=(⟨#[c]⟩:ByteArray).size from Mt 1) 0 _ s rfl]
theorem nG (t:ByteArray):∀ (f d:Nat),d+f=t.size->t.data.toList.drop (Ref.iW t f d)=(t.data.toList.drop d).dropWhile (· == 32)/\d<=Ref.iW t f d
 | 0,d,h=>by
  rw [Ref.iW,List.drop_eq_nil_of_le (by rw [<- PJ];omega)];exact ⟨rfl,Mt _⟩
 | f+1,d,h=>by
  have hd:d<t.size:=zaa;have hl:d<t.data.toList.length:=by rw [<- PJ];exact hd
  rw [Ref.iW,Pr hl,List.dropWhile_cons];by_cases hb:bt t d=32
  ·have hx:(t.data.toList[d] == 32)=true:=by
    rw [qt hd] at hb;have:t.data.toList[d].toNat=(32:UInt8).toNat:=by
     have e:(32:UInt8).toNat=32:=rfl;omega
    rw [QL.1 this];rfl
   have ih:=nG t f (d+1) zaa;rw [MB hb,MB hx];exact ⟨ih.1,by have:=ih.2;omega⟩
  ·have hx:¬ (t.data.toList[d] == 32)=true:=by
    intro e;apply hb
    rw [qt hd,eq_of_beq e];rfl
   rw [Mz hb,Mz hx,Pr hl];exact ⟨rfl,Mt _⟩
theorem EO (t:ByteArray):(⟨(Lib.trimLeftB t.data.toList 32).toArray⟩:ByteArray)=Ref.rest t:=by
 have h:=(nG t t.size 0 zaa).1;rw [List.drop_zero] at h;have e:(Ref.rest t).data.toList=Lib.trimLeftB t.data.toList 32:=by
  unfold Ref.rest Lib.trimLeftB;rw [Lib.extract_to_end];exact h
 rw [<- e,RA]
theorem vg (t:ByteArray):(Ref.rest t).size+Ref.dc t=t.size:=by
 have:=Ref.uj t;unfold Ref.rest;simp;omega
end Pro
end
section
open Go.RowKit
structure vT (w:World):Prop where
 env:Env w
 maxL:∃ m,w.cell? ⟨2,0,none⟩=some ↑(m:Int)
theorem vT.ak (h:vT w) (hb:Below w w w'):vT w' :=
 ⟨h.env.ak hb,let ⟨m,hm⟩:=h.maxL;⟨m,(MK (hb.block _ (MQ _ _ hm))).trans hm⟩⟩
theorem vA (s:ByteArray) (c:UInt8) (w:World) (hv:vT w) (hs:s.size<4294967281):() 89 #[s,.string ⟨#[c]⟩] w fun e w' =>
  e = .returned (.slice w (Ref.cut s (c.toNat:Int)).length (Ref.cut s (c.toNat:Int)).length)/\w'=w.alloc (.cells ((Ref.cut s (c.toNat:Int)).map Value.string).toArray 9):=by
 obtain ⟨m,hm⟩:=hv.maxL;refine (strings_Split s ⟨#[c]⟩ m w hs hm (Mt 1)).mono ?_;rintro e w' ⟨rfl,rfl⟩;rw [Pro.vB,Pro.DE];exact ⟨rfl,rfl⟩
theorem sU {b:Nat} {t:TypeId} {fz:Nat×Nat} (h:w.heap[b]?=some (.cells (l.map Value.string).toArray t fz)):qL w b 0 l:=by
 intro i hi;rw [OM,My w b i _ _ _ h];simp [Ref.at',List.getElem?_eq_getElem hi,List.getD_eq_getElem?_getD]
theorem re {c:Int}:∀ x∈Ref.cut s c,x.size<=s.size:=Ref.iX s c s.size (Mt _)
theorem qw {c:Int}:(Ref.cut s c).length<=s.size+1:=Ref.nK s c s.size
def ig (num:Nat) (t:ByteArray) (w:World) (e:Ending) (w':World):Prop:=match Pro.bl num (Ref.cut (Ref.rest t) 32) with
 | none=>aY 2 num w e w'
 | some L=>Below w.heap.size w w'/\∃ v,e = .returned v/\eW w' w.heap.size num (Ref.dc t) L v
theorem xw {p:Nat} {er line:Int} {w0:World} {e:Ending} (hb:Below w0 w0 w) (hp:w0.heap.size<=p) (h:cR p er line w e w'):aY er line w0 e w':=by
 obtain ⟨ht,b,h2,h3,h4⟩:=h;exact ⟨ht.below hb hp hb.size,b,Mv hb.size h2,h3,h4⟩
theorem eW.mono {w:World} {base base':Nat} {num dep:Int} {L:Pro.PL} {v:Value} (h:eW w base num dep L v) (hb:base'<=base):eW w base' num dep L v:=by
 cases L with
 | state k n=>exact h
 | move ev af d t A=>obtain ⟨a,n,c,h1,h2⟩:=h;exact ⟨a,n,c,h1,aD h2 hb⟩
 | enter A=>obtain ⟨a,n,c,h1,h2⟩:=h;exact ⟨a,n,c,h1,aD h2 hb⟩
 | leave A=>obtain ⟨a,n,c,h1,h2⟩:=h;exact ⟨a,n,c,h1,aD h2 hb⟩
theorem xv (num:Nat) (t:ByteArray) (w:World) (hv:vT w) (ht:t.size<=1000000) (hnum:num<=1073741824) :
  () 91 #[(num:Int),t] w (ig num t w):=by
 have hr:=Pro.vg t;have hct:=Pro.EO t;go_enter func91,ntmps91;go_wp2_with fail;refine (strings_TrimLeft_one t 32 zac _).mono ?_;rintro e w9 ⟨rfl,hw9⟩;rw [hw9,hct];clear hw9 w9 hct;dsimp only;go_wp2_with fail;refine (vA (Ref.rest t) 32 _ hv zaa).mono ?_;rintro e w9 ⟨rfl,hw9⟩;rw [hw9];clear hw9 w9;obtain ⟨l,hl⟩:∃ l,l=Ref.cut (Ref.rest t) ((32:UInt8).toNat:Int):=⟨_,rfl⟩;rw [<- hl];have hlen:l.length<=t.size+1:=by rw [hl];exact Mv qw zaa
 have hsz:∀ x∈l,x.size<=t.size:=by rw [hl];exact fun x hx=>Mv (re x hx) zaa
 have HL:Hid _:=hl;clear hl;dsimp only;go_wp2_with fail;have hdep:(t.size:Int)-((Ref.rest t).size:Int)=(Ref.dc t:Int):=zaa;rw [hdep];obtain ⟨w1,hw1⟩:∃ y,y=(w.alloc (.cells (l.map Value.string).toArray 9)).alloc (.cells #[(num:Int),.int .i64 (Ref.dc t),.slice w l.length l.length] 310):=⟨_,rfl⟩;rw [<- hw1];have hb1:Below w w w1:=zbu;have hws:w.heap.size+1<w1.heap.size:=by rw [hw1];simp
 have H1:ah w1 (w.heap.size+1) num (Ref.dc t) l:=by
  rw [hw1];refine ⟨⟨some ⟨w,0,none⟩,l.length,bQ _ _ _,Mt _,fun _=>⟨w.heap.size,0,rfl,zaa,zaf,sU (eL _ _ _)⟩⟩,zaa,fun x hx=>by have:=hsz x hx;omega⟩
 have hv1:bH (w.heap.size+1) w1:=⟨w,zaa,hv.env,hb1⟩;clear hw1 hsz hlen;refine (Gq (w.heap.size+1) num (Ref.dc t) l w1 H1 hv1 hnum).mono ?_;rintro e w2 h2;unfold aT at h2;have HP:Hid (ig num t w=fun e w'=>match Pro.bl num l with
  | none=>aY 2 num w e w'
  | some L=>Below w.heap.size w w'/\∃ v,e = .returned v/\eW w' w.heap.size num (Ref.dc t) L v):=by
  unfold Hid ig;rw [HL.out];rfl
 cases hp:Pro.bk num l with
 | none =>
  rw [hp] at h2;have HW:Hid (Pro.bl num l=none):=zbN;obtain ⟨hb,b,h4,h5,rfl⟩:=xw hb1 zaa h2;dsimp only;refine ⟨rfl,?_⟩;rw [HP.out];simp only;rw [HW.out];exact ⟨hb,b,h4,h5,rfl⟩
 | some q =>
  obtain ⟨L,r⟩:=q;rw [hp] at h2;obtain ⟨v,rfl,hL,ht2,H2⟩:=h2;have hb2:Below w w w2:=ht2.below hb1 zaa hb1.size;have hL2:=hL.mono (show w.heap.size<=w1.heap.size by omega);cases r with
  | nil =>
   have HW:Hid (Pro.bl num l=some L):=zbN;clear hp hL ht2 H1 hv1;dsimp only;go_wp2_with fail;refine (KP (w.heap.size+1) num (Ref.dc t) _ H2).mono ?_;rintro e w9 ⟨rfl,hw9⟩;rw [hw9];clear hw9 w9;dsimp only;go_wp2;go_ret;rw [HP.out];simp only;rw [HW.out];exact ⟨hb2,v,rfl,hL2⟩
  | cons y r =>
   have HW:Hid (Pro.bl num l=none):=zbN;clear hp hL ht2 H1 hv1;dsimp only;go_wp2_with fail;refine (IU (w.heap.size+1) num (Ref.dc t) (y::r) _ H2 zad).mono ?_;rintro e w3 hq;obtain ⟨hb,b,h4,h5,rfl⟩:=hq;dsimp only;refine ⟨rfl,?_⟩;rw [HP.out];simp only;rw [HW.out];exact ⟨hb2.trans (hb.mono hb2.size),b,Mv hb2.size h4,h5,rfl⟩
theorem o8 (s:ByteArray) (w:World) (hs:s.size<=281474976710656):() 90 #[s] w fun e w'=>e = .returned s/\Below w w w':=by
 go_enter func90,ntmps90;go_wp2_with fail;refine (stringslite_Clone s _ hs).mono ?_;rintro e w1 ⟨rfl,hb⟩;dsimp only;go_wp2;go_ret;exact ⟨rfl,hb⟩
theorem F4:(Tryz.prog.info? 149).map (fun i=>(i.zero,i.size,i.bytes))=some (some .nilIface,1,16):=zab
namespace Pro
def wl (P:List ByteArray) (i:Nat):List ByteArray:=Ref.cut (Ref.rest (Ref.pc P i)) 32
theorem kc (P:List ByteArray) (i:Nat):Ref.gZ (Ref.pc P i) i=((bl (i+1) (wl P i)).map (aE (i+1))).getD Ref.gz:=Hh (i+1) _
theorem zq (h:bl (i+1) (wl P i)=none):(Ref.gZ (Ref.pc P i) i).kind=0:=by rw [kc,h];rfl
theorem pV {L:PL} (h:bl (i+1) (wl P i)=some L):Ref.gZ (Ref.pc P i) i=aE (i+1) L:=by rw [kc,h];rfl
end Pro
structure jV (w:World) (P:List ByteArray) (k:Nat) (vs:List Value) (LS:List Pro.PL):Prop where
 lv:vs.length=k
 ll:LS.length=k
 row:∀ j (h:j<k),Pro.bl (j+1) (Pro.wl P j)=some (LS[j]'(zaa))/\eW w 0 (j+1:Nat) (Ref.dc (Ref.pc P j)) (LS[j]'(zaa)) (vs[j]'(zaa))
theorem eW.ak {w w':World} {num dep:Int} {L:Pro.PL} {v:Value} (h:eW w 0 num dep L v) (hb:Below w w w'):eW w' 0 num dep L v:=by
 cases L with
 | state k n=>exact h
 | move ev af d t A=>obtain ⟨a,n,c,h1,h2⟩:=h;exact ⟨a,n,c,h1,bf h2 hb⟩
 | enter A=>obtain ⟨a,n,c,h1,h2⟩:=h;exact ⟨a,n,c,h1,bf h2 hb⟩
 | leave A=>obtain ⟨a,n,c,h1,h2⟩:=h;exact ⟨a,n,c,h1,bf h2 hb⟩
theorem eW.tag {w w':World} {num dep:Int} {L:Pro.PL} {v:Value} {g:Nat} {c:Array Value} {t:TypeId} {fz:Nat×Nat} (h:eW w 0 num dep L v) (ho:gV g w w') (hg:w.heap[g]?=some (.cells c t fz)) (hne:251≠t):eW w' 0 num dep L v:=by
 cases L with
 | state k n=>exact h
 | move ev af d t A=>obtain ⟨a,n,c,h1,h2⟩:=h;exact ⟨a,n,c,h1,mg h2 ho hg hne⟩
 | enter A=>obtain ⟨a,n,c,h1,h2⟩:=h;exact ⟨a,n,c,h1,mg h2 ho hg hne⟩
 | leave A=>obtain ⟨a,n,c,h1,h2⟩:=h;exact ⟨a,n,c,h1,mg h2 ho hg hne⟩
theorem eW.iface {w:World} {base:Nat} {num dep:Int} {L:Pro.PL} {v:Value} (h:eW w base num dep L v):∃ t u,v = .iface t u:=by
 cases L with
 | state k n=>exact ⟨_,_,h⟩
 | move ev af d t A=>obtain ⟨a,n,c,h1,h2⟩:=h;exact ⟨_,_,h1⟩
 | enter A=>obtain ⟨a,n,c,h1,h2⟩:=h;exact ⟨_,_,h1⟩
 | leave A=>obtain ⟨a,n,c,h1,h2⟩:=h;exact ⟨_,_,h1⟩
theorem jV.next {LS:List Pro.PL} {v:Value} {L:Pro.PL} (H:jV w P k vs LS) (hk:∀ num dep L v,eW w 0 num dep L v->eW w' 0 num dep L v)
  (h1:Pro.bl (k+1) (Pro.wl P k)=some L) (h2:eW w' 0 (k+1:Nat) (Ref.dc (Ref.pc P k)) L v):jV w' P (k+1) (vs++[v]) (LS++[L]):=by
 have hlv:=H.lv;have hll:=H.ll;refine ⟨by simp [hlv],by simp [hll],fun j hj => ?_⟩;by_cases e:j=k
 ·subst e;rw [N2 zaa,N2 zaa];simp only [hlv,hll,Nat.sub_self,List.getElem_cons_zero];exact ⟨h1,h2⟩
 ·have hj':j<k:=zaa;obtain ⟨r1,r2⟩:=H.row j hj';rw [N6 zaa,N6 zaa];exact ⟨r1,hk _ _ _ _ r2⟩
def dI (s:ByteArray) (w:World) (e:Ending) (w':World):Prop :=
 if 1500<s.size then aY 1 0 w e w'
 else match Ref.syn (Ref.cut s 10) with
  | some i=>aY 2 ((i:Int)+1) w e w'
  | none=>Below w.heap.size w w'/\∃ lb vs LS,e = .returned (.slice (some ⟨lb,0,none⟩) vs.length vs.length)/\w'.heap[lb]?=some (.cells vs.toArray 149 (0,0))/\0<vs.length/\jV w' (Ref.cut s 10) ((Ref.cut s 10).length-1) vs LS
theorem sF (s:ByteArray) (w:World) (hs:1500<s.size) (hs2:s.size<=1073741824) :
  () 56 #[s] w (dI s w):=by
 go_enter func56,ntmps56;go_wp2_with fail;refine (aU 0 0 1 _).mono ?_;rintro e w1 ⟨hb,b,h4,h5,rfl⟩;dsimp only;refine ⟨rfl,?_⟩;unfold dI;rw [MB hs];exact ⟨hb,b,h4,h5,rfl⟩
theorem Hk {m:Nat} (hk:vs.length=k) (v:Value):(vs++List.replicate (m+1) Value.nilIface).toArray.setIfInBounds k v=((vs++[v])++List.replicate m Value.nilIface).toArray:=by
 rw [List.setIfInBounds_toArray,P5 _ _ zaa,hk,PN,List.replicate_succ,List.set_cons_zero];simp
theorem Gt (n:Nat):madeCells #[Value.nilIface] n=(List.replicate n Value.nilIface).toArray:=by
 apply Array.ext
 ·simp [madeCells]
 ·intro i h1 h2;simp [madeCells,Nat.mod_one]
theorem tT (s:ByteArray) (w:World) (hv:vT w) (hs:s.size<=1500) :
  () 56 #[s] w (dI s w):=by
 obtain ⟨P,hP⟩:∃ P,P=Ref.cut s ((10:UInt8).toNat:Int):=⟨_,rfl⟩;have hpos:0<P.length:=by rw [hP];exact Ref.lT _ _ _
 obtain ⟨n,hn⟩:∃ n,P.length=n+1:=⟨P.length-1,zaa⟩;clear hpos;have hlen:n<=1500:=by
  have:P.length<=s.size+1:=by rw [hP];exact qw
  omega
 have HSZ:Hid (∀ j,(Ref.pc P j).size<=1500):=by
  intro j;unfold Ref.pc;rw [MI];cases e:P[j]? with
  | none=>exact MJ _
  | some x=>rw [hP] at e;exact Mv (re x (MG e)) hs
 have HPost:Hid (dI s w=fun e w'=>match Ref.syn P with
  | some i=>aY 2 ((i:Int)+1) w e w'
  | none=>Below w.heap.size w w'/\∃ lb vs LS,e = .returned (.slice (some ⟨lb,0,none⟩) vs.length vs.length)/\w'.heap[lb]?=some (.cells vs.toArray 149 (0,0))/\0<vs.length/\jV w' P (P.length-1) vs LS):=by
  funext e w';unfold dI;rw [Mz zaa,hP];rfl
 have hmk:=run_make_row' (P:=prog) 144 149 .nilIface 16 underlying144 F4 rfl .i64 .i64 n zaa zaa;go_enter func56,ntmps56;go_wp2_with fail;refine (o8 s _ zaa).mono ?_;rintro e w1 ⟨rfl,hb1⟩;have hv1:=hv.ak hb1;dsimp only;go_wp2_with fail;refine (vA s 10 _ hv1 zaa).mono ?_;rintro e w9 ⟨rfl,hw9⟩;rw [hw9,<- hP];clear hw9 w9;have HPn:Hid (P.length=n+1):=hn;have HP:Hid _:=hP;rw [hn];clear hP hn;dsimp only;go_wp2
 go_loopg [25] n (fun q i wr=>∃ (k:Nat) (vs:List Value) (LS:List Pro.PL),q=n-k/\k<=n/\i = .int .i64 k/\Ref.lJ P k=none/\wr.heap[w1.heap.size]?=some (.cells (P.map Value.string).toArray 9 (0,0))/\wr.heap[w1.heap.size+1]?=some (.cells (vs++List.replicate (n-k) Value.nilIface).toArray 149 (0,0))/\jV wr P k vs LS/\Below w w wr/\Below w1 w1 wr)
 case atStart =>
  refine ⟨0,[],[],rfl,MJ _,rfl,rfl,eL _ _ _,?_,⟨rfl,rfl,fun j h=>absurd h zaa⟩,(hb1.alloc hb1.size _).alloc (by have:=hb1.size;simp;omega) _,((Mw _ _).alloc (Mt _) _).alloc zad _⟩;rw [bQ,Gt];rfl
 case round =>
  obtain ⟨k,vs,LS,hq,hk,rfl,hsyn,hPB,hLB,HL,hbw,hbw1⟩:=hrel;have hlv:=HL.lv;have cP:wr.cell? ⟨w1,k,none⟩=some (.string (Ref.pc P k)):=by
   rw [My wr _ k _ _ _ hPB];simp only [List.getElem?_toArray,List.getElem?_map,Ref.pc,List.getD_eq_getElem?_getD];rw [Mu (show k<P.length by rw [HPn.out];omega)];rfl
  have hbs:=hbw.size;have hbs1:=hbw1.size;have lP:=(Ms.1 hPB).1;have lL:=(Ms.1 hLB).1;by_cases hkn:k<n
  ·have hszk:=HSZ.out k;have hvr:=hv1.ak hbw1;go_wp2_with fail;refine (xv (k+1) (Ref.pc P k) _ hvr zaa zaa).mono ?_;rintro e w2 h2;unfold ig at h2;change (match Pro.bl (k+1) (Pro.wl P k) with | none=>_ | some L=>_) at h2;cases hp:Pro.bl (k+1) (Pro.wl P k) with
   | none =>
    rw [hp] at h2;have HS:Hid (Ref.syn P=some k):=Ref.J1 (by rw [HPn.out];omega) hsyn (Pro.zq hp);obtain ⟨hb,b,h4,h5,rfl⟩:=h2;dsimp only;refine ⟨rfl,?_⟩;rw [HPost.out];simp only;rw [HS.out];exact ⟨hbw.trans (hb.mono hbs),b,Mv hbs h4,h5,rfl⟩
   | some L =>
    rw [hp] at h2;obtain ⟨hb2,v,rfl,hLV⟩:=h2;obtain ⟨vt,vu,rfl⟩:=hLV.iface;have hPB2:=(hb2.block _ lP).trans hPB;have hLB2:=(hb2.block _ lL).trans hLB;obtain ⟨m,hm⟩:∃ m,n-k=m+1:=⟨n-k-1,zaa⟩;rw [hm] at hLB2;have cL:w2.cell? ⟨w1.heap.size+1,k,none⟩=some .nilIface:=by
     rw [My w2 _ k _ _ _ hLB2,OZ,NM zaa,hlv,PN];rfl
    have fL:w2.frozen? ⟨w1.heap.size+1,k,none⟩=false:=by simp [World.frozen?,hLB2]
    have HSY:Hid (Ref.lJ P (k+1)=none):=Ref.EJ hsyn (by rw [Pro.pV hp];exact Pro.Af _ _);have HLV:Hid (eW w2 0 ((k+1:Nat):Int) (Ref.dc (Ref.pc P k)) L (.iface vt vu)):=eW.mono hLV (MJ _);have HH:Hid _:=hPB2;have HH2:Hid _:=hLB2;have HM:Hid _:=hm;have HHL:Hid _:=HL;have HPW:Hid _:=hp;clear hLV hPB2 hLB2 hm hPB hLB hsyn cP hp HL;dsimp only;go_wp2
    go_roundg (n-(k+1))
    case measure=>omega
    case rel =>
     have hs1:=hb1.size;have oo:=aa w2 (w1.heap.size+1) k (.iface vt vu);have hb3:=oo.below (hbw.trans (hb2.mono hbs)) zaa;refine ⟨k+1,vs++[.iface vt vu],LS++[L],rfl,zaa,rfl,HSY.out,?_,?_,?_,hb3,oo.below (hbw1.trans (hb2.mono hbs1)) zaa⟩
     ·rw [oo.block _ zaa];exact HH.out
     ·rw [MO w2 _ k _ _ (.iface vt vu) HH2.out,Hk hlv,show n-(k+1)=m by have:=HM.out;omega]
     ·refine HHL.out.next (fun num dep L' v' h=>(h.ak hb2).tag oo HH2.out zac) HPW.out (eW.tag HLV.out oo HH2.out zac)
  ·obtain rfl:k=n:=zaa;have hn0:k-k=0:=zaa;rw [hn0] at hLB;have hk1500:=hlen;have HLB:Hid _:=hLB;have HHL:Hid _:=HL;have HSYN:Hid _:=hsyn;clear hLB HL hsyn hPB hq hk hkn hn0;by_cases h0:k=0
   ·have HS:Hid (Ref.syn P=some k):=by
     have:=Ref.z8 (P:=P) zbI (fun h=>by have:=h.1;rw [HPn.out] at this;omega);rw [HPn.out] at this;exact this
    subst h0;go_wp2_with fail;refine (aU 1 0 2 _).mono ?_;exact zdE
   ·cases hE:(Ref.pc P k).toList.isEmpty
    case true =>
     have HS:Hid (Ref.syn P=none):=by
      refine Ref.Ht (P:=P) zbI (by rw [HPn.out];omega) ?_;rw [HPn.out];exact hE
     have hE':(Ref.pc P k).toList=[]:=Pm.1 hE;go_wp2;go_ret;rw [HPost.out];simp only;rw [HS.out];refine ⟨hbw,w1.heap.size+1,vs,LS,?_,?_,?_,?_⟩
     ·rw [hlv];rfl
     ·have:=HLB.out;simpa using this
     ·omega
     ·have:=HHL.out;rw [HPn.out];exact this
    case false =>
     have HS:Hid (Ref.syn P=some k):=by
      have:=Ref.z8 (P:=P) zbI (fun h=>by
       have h:=h.2;rw [HPn.out] at h;have:(Ref.pc P k).toList.isEmpty=true:=h;rw [hE] at this;cases this)
      rw [HPn.out] at this;exact this
     go_wp2_with fail;refine (aU (k+1) 0 2 _).mono ?_;exact zdE
