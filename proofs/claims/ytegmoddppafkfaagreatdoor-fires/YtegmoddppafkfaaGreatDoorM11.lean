import Derived.Test.YtegmoddppafkfaaGreatDoorM10
set_option maxRecDepth 100000
set_option maxHeartbeats 8000000
namespace Go.Proofs.YtegmoddppafkfaaGreatDoor
variable {zp:Prop}
theorem zcX (h:zp:=by
 go_enter func176,ntmps176;go_wp2_with fail;refine (aF p num dep x r _ H).mono ?_;rintro e w1 ⟨rfl,ho,H1⟩;have ht1:=ho.ai;clear ho;dsimp only;go_wp2_with fail;refine (jR p num dep r _ H1 (hv.ai ht1)).mono ?_;rintro e w2 hq;unfold ee at hq;rw [hn] at hq;obtain ⟨a,n,c,rfl,hown,ht2,H2⟩:=hq;have hown':=aD hown ht1.size;clear hn hown;dsimp only;go_wp2;go_ret;unfold aS;rw [HS.out];exact ⟨_,rfl,⟨a,n,c,rfl,hown'⟩,ht1.trans ht2,H2⟩):zp:=h
theorem zc0 (h:zp:=by
 go_enter func176,ntmps176;go_wp2_with fail;refine (aF p num dep x r _ H).mono ?_;rintro e w1 ⟨rfl,ho,H1⟩;have ht1:=ho.ai;clear ho;dsimp only;go_wp2_with fail;refine (jR p num dep r _ H1 (hv.ai ht1)).mono ?_;rintro e w2 hq;unfold ee at hq;rw [hn] at hq;obtain ⟨ht,b,h4,h5,rfl⟩:=hq;dsimp only;refine ⟨rfl,?_⟩;unfold aS;rw [HS.out];exact ⟨ht1.trans ht,b,La ht1.size h4,h5,rfl⟩):zp:=h
theorem zdj (h:zp:=by
 rintro e w2 hq;unfold gz at hq;rw [hn] at hq;obtain ⟨a,n,c,rfl,hown,ht2,H2⟩:=hq;have hown':=aD hown ht4.size;clear hn hown;dsimp only;go_wp2;go_ret;unfold aS;rw [HS.out];exact ⟨_,rfl,⟨a,n,c,rfl,hown'⟩,ht4.trans ht2,H2⟩):zp:=h
theorem zdw (h:zp:=by
 rintro e w2 hq;unfold gz at hq;rw [hn] at hq;obtain ⟨ht,b,h4,h5,rfl⟩:=hq;dsimp only;refine ⟨rfl,?_⟩;unfold aS;rw [HS.out];exact ⟨ht4.trans ht,b,La ht4.size h4,h5,rfl⟩):zp:=h
theorem zdC (h:zp:=by
 rintro e w2 ⟨hb,b,h4,h5,rfl⟩;dsimp only;refine ⟨rfl,?_⟩;rw [HPost.out];simp only;rw [HS.out];exact ⟨hbw.trans (hb.mono hbs),b,La hbs h4,h5,rfl⟩):zp:=h
theorem zdF (h:zp:=by
 rintro e w2 hq;obtain ⟨ht,b,h4,h5,rfl⟩:=hq;dsimp only;refine ⟨rfl,?_⟩;unfold aS;rw [HS.out];exact ⟨ht1.trans ht,b,La ht1.size h4,h5,rfl⟩):zp:=h
theorem zdJ (h:zp:=by
 obtain ⟨ht,b,h4,h5,rfl⟩:=hq;dsimp only;refine ⟨rfl,?_⟩;unfold aS;rw [HS.out];exact ⟨ht1.trans ht,b,La ht1.size h4,h5,rfl⟩):zp:=h
theorem zdL (h:zp:=by
 rw [qL];cases cD (y::r) with
 | none=>rfl
 | some q =>
  obtain ⟨A,t⟩:=q;cases t with
  | nil=>simp [aE,ex]
  | cons _ _=>rfl):zp:=h
theorem zdP (h:zp:=by
 rintro e w2 ⟨rfl,ht2,H2⟩;dsimp only;go_wp2;go_ret;unfold aS;rw [HS.out];exact ⟨_,rfl,rfl,ht1.trans ht2,H2⟩):zp:=h
theorem zd1 (h:zp:=by
 simp only [if_true];cases fW r with
 | none=>rfl
 | some q=>obtain ⟨⟨_,_⟩,t⟩:=q;cases t <;> rfl):zp:=h
theorem zd8 (h:zp:=by
 rw [dy];cases hp:Ref.plain y
 ·simp
 ·cases r with
  | nil=>simp [aE,bp,ex]
  | cons _ _=>simp):zp:=h
theorem zej (h:zp:=by
 cases fW r with
 | none=>rfl
 | some q=>obtain ⟨q,t⟩:=q;cases t <;> rfl):zp:=h
theorem zek (h:zp:=by
 split
 ·exact ⟨h0 0,h0 1,iV,fun a ha=>absurd ha zad,Lk _⟩
 ·exact dx):zp:=h
theorem zeq (h:zp:=by
 rw [Lib.splitB_miss _ _ _ _ hm,oL c _ (by rw [<- hone];exact hm)];rfl):zp:=h
theorem zet (h:zp:=by
 go_meet
 case rel=>exact ⟨false,rfl,M1,ht1,.inr ⟨rfl,zaL,H1⟩⟩):zp:=h
theorem zeN (h:zp:=by
 cases Ref.cd d
 ·rfl
 ·simp only [if_true];rw [vz,hy];rfl):zp:=h
theorem zaG (h:zp:=by simp [World.frozen?,l5]):zp:=h
theorem zaL (h:zp:=by first | rfl | trivial):zp:=h
theorem zbq (h:zp:=by rw [hw1];exact ((K9 _ _).alloc (K7 _) _).alloc (by simp) _):zp:=h
theorem zbF (h:zp:=by rw [HPn.out];exact HSYN.out):zp:=h
theorem zbK (h:zp:=by unfold Hid Pro.bj;rw [hp]):zp:=h
theorem zbR (h:zp:=by show A.length<=_;omega):zp:=h
theorem zbU (h:zp:=by unfold Hid;rw [Pro.bh,Ref.cJ,h1,Ref.aL,h2,Ref.bV,h3,Ref.bg,h4,Ref.cOn,h5,Ref.iw,h6,Ref.kJ,h7,Ref.oH,h8,hn];rfl):zp:=h
theorem zbV (h:zp:=by unfold Hid;rw [Pro.bh,Ref.cJ,h1,Ref.aL,h2,Ref.bV,h3,Ref.bg,h4,Ref.cOn,h5,Ref.iw,h6,he];simp only;rw [hn];rfl):zp:=h
theorem zbW (h:zp:=by unfold Hid;rw [Pro.bh,Ref.cJ,h1,Ref.aL,h2,Ref.bV,h3,Ref.bg,h4,Ref.cOn,h5,Ref.iw,h6,Ref.kJ,h7,hn];rfl):zp:=h
theorem zbX (h:zp:=by unfold Hid;rw [Pro.bh,Ref.cJ,h1,Ref.aL,h2,Ref.bV,h3,Ref.bg,h4,Ref.cOn,h5,he];simp only;rw [hn];rfl):zp:=h
theorem zb6 (h:zp:=by unfold Hid;rw [Pro.bh,Ref.cJ,h1,Ref.aL,h2,Ref.bV,h3,Ref.bg,h4,hn];rfl):zp:=h
theorem zca (h:zp:=by unfold Hid;rw [Pro.bh,Ref.cJ,h1,Ref.aL,h2,Ref.bV,h3,hn];rfl):zp:=h
theorem zch (h:zp:=by unfold Hid;rw [Pro.bh,Ref.cJ,h1,Ref.aL,h2,hn];rfl):zp:=h
open Tryz
variable {a b x c d y s:ByteArray} {l P r:List ByteArray} {n k i:Nat} {A:List Act} {S S':List Ref.State} {w w':World} {vs:List Value}
section
open Go.RowKit
theorem IP:Tryz.f218.results=#[.cell 4 380]:=rfl
theorem oh:(Tryz.prog.info? 380).map (·.size)=some 7:=zab
namespace Pro
def xv:ByteArray:=⟨#[116,111]⟩
def pTo:List ByteArray->Option (ByteArray×List ByteArray)
 | []=>some (ByteArray.empty,[])
 | y::r=>if y.toList == xv.toList then pOf Ref.plain r else some (ByteArray.empty,y::r)
def fW (l:List ByteArray):Option ((ByteArray×List Ref.Act)×List ByteArray):=match pTo l with
 | none=>none
 | some (t,r)=>(aZ r).map fun q=>((t,q.1),q.2)
end Pro
def gz (p:Nat) (num dep:Int) (ev:ByteArray) (af:Bool) (d:Int) (l:List ByteArray) (w:World) (e:Ending) (w':World):Prop:=match Pro.fW l with
 | none=>cG p 2 num w e w'
 | some ((t,A),r)=>∃ a n c,e = .returned (.agg #[.int .i64 num,.int .i64 dep,.string ev,.bool af,.int .u64 d,.string t,.slice a n c])/\w'.ownsRow w.heap.size 324 1 (.slice a n c) A.length (A.map bf)/\ak p w w'/\ah w' p num dep r
structure uY (w w1:World) (ev t:ByteArray) (af:Bool) (d:Int):Prop where
 m:w1.heap[w.heap.size]?=some (.cells #[ev,af,.int .u64 d,t,.slice none 0 0] 295 (0,0))
 l:w1.heap[w.heap.size+1]?=some (.cells #[(0:Int),(0:Int),ByteArray.empty,false,.int .u64 0,ByteArray.empty,.slice none 0 0] 380 (0,0))
theorem nM (p:Nat) (num dep:Int) (ev:ByteArray) (af:Bool) (d:Int) (l:List ByteArray) (w:World) (H:ah w p num dep l) (hv:bE p w) :
  () 218 #[p,.agg #[ev,af,.int .u64 d,ByteArray.empty,.slice none 0 0]] w (gz p num dep ev af d l w):=by
 have hpl:=H.lt;have HPM:Hid (Pro.fW l=match Pro.pTo l with | none=>none | some (t,r)=>(Pro.aZ r).map fun q=>((t,q.1),q.2)):=rfl;go_enter func218,ntmps218
 go_upto_region 1 with fail
 obtain ⟨w1,hw1⟩:∃ y,y=(w.alloc (.cells #[ev,af,.int .u64 d,ByteArray.empty,.slice none 0 0] 295)).alloc (.cells #[(0:Int),(0:Int),ByteArray.empty,false,.int .u64 0,ByteArray.empty,.slice none 0 0] 380):=⟨_,rfl⟩;change Code.wp _ _ _ _ ((w.alloc (.cells #[ev,af,.int .u64 d,ByteArray.empty,.slice none 0 0] 295)).alloc (.cells #[(0:Int),(0:Int),ByteArray.empty,false,.int .u64 0,ByteArray.empty,.slice none 0 0] 380));rw [<- hw1];have ht1:ak p w w1:=by rw [hw1];exact ((ak.refl p w).alloc _).alloc _
 have H1:ah w1 p num dep l:=by rw [hw1];exact (H.alloc _).alloc _
 have M1:uY w w1 ev ByteArray.empty af d:=by rw [hw1];exact ⟨eF _ _ _,bM _ _ _⟩
 clear hw1;cases htl:Pro.pTo l with
 | none =>
  cases l with
  | nil=>cases htl
  | cons y r =>
   cases hy:(y.toList == Pro.xv.toList)
   ·rw [Pro.pTo,hy] at htl;cases htl
   ·have hr:Pro.pOf Ref.plain r=none:=by rw [Pro.pTo,hy] at htl;exact htl
    have HS:Hid (Pro.fW (y::r)=none):=by unfold Hid;rw [HPM.out,htl]
    clear HPM;go_wp2_with fail;refine (jF p num dep y r Pro.xv _ H1 hy).mono ?_;rintro e w2 ⟨rfl,ho2,H2⟩;have ht2:=ht1.trans ho2.ai;dsimp only;go_wp2_with fail;refine (dS p num dep r _ H2 (hv.ai ht2)).mono ?_;rintro e w3 h3;rw [hr] at h3;obtain ⟨ht3,b,h4,h5,rfl⟩:=h3;dsimp only;refine ⟨rfl,?_⟩;unfold gz;rw [HS.out];exact ⟨ht2.trans ht3,b,La ht2.size h4,h5,rfl⟩
 | some q =>
  obtain ⟨t,r⟩:=q;have HS:Hid (Pro.fW l=(Pro.aZ r).map fun q=>((t,q.1),q.2)):=by unfold Hid;rw [HPM.out,htl]
  clear HPM
  go_cut [6] (fun c wx=>∃ b:Bool,c = .bool b/\uY w wx ev ByteArray.empty af d/\ak p w wx/\((b=true/\∃ r0,Pro.pOf Ref.plain r0=some (t,r)/\ah wx p num dep r0)\/(b=false/\t=ByteArray.empty/\ah wx p num dep r)))
  case first =>
   cases l with
   | nil =>
    cases htl
    go_wp2_with (go_at_call 245;refine (skip_none p num dep Pro.xv _ H1).mono ?_;rintro e w9 ⟨rfl,hw9⟩;rw [hw9];clear hw9 w9);exact zet
   | cons y r1 =>
    cases hy:(y.toList == Pro.xv.toList)
    ·rw [Pro.pTo,hy] at htl;cases htl
     go_wp2_with (go_at_call 245;refine (qi p num dep y r1 Pro.xv _ H1 hy).mono ?_;rintro e w9 ⟨rfl,hw9⟩;rw [hw9];clear hw9 w9);exact zet
    ·have hr:Pro.pOf Ref.plain r1=some (t,r):=by rw [Pro.pTo,hy] at htl;exact htl
     go_wp2_with (go_at_call 245;refine (jF p num dep y r1 Pro.xv _ H1 hy).mono ?_;rintro e w2 ⟨rfl,ho2,H2⟩);go_meet
     case rel=>exact ⟨true,rfl,⟨(ho2.block _ zaa).trans M1.m,(ho2.block _ zaa).trans M1.l⟩,ht1.trans ho2.ai,.inl ⟨rfl,r1,hr,H2⟩⟩
  case rest =>
   obtain ⟨b,rfl,M2,ht2,hbb⟩:=hcut;clear M1 H1 ht1;obtain ⟨w2,hw2⟩:∃ y:World,y=wc:=⟨wc,rfl⟩;subst hw2
   go_upto_if 6 with fail
   go_cut [] (fun wx=>uY w wx ev t af d/\ak p w wx/\ah wx p num dep r)
   case first =>
    rcases hbb with ⟨rfl,r0,hr0,H2⟩ | ⟨rfl,rfl,H2⟩
    ·go_wp2_with fail;refine (dS p num dep r0 _ H2 (hv.ai ht2)).mono ?_;rintro e w3 h3;rw [hr0] at h3;obtain ⟨rfl,ht3,H3⟩:=h3;have hs2:=ht2.size;have lm:=(K6.1 M2.m).1;have ll:=(K6.1 M2.l).1;have m3:=(ht3.block _ lm zaa).trans M2.m;have l3:=(ht3.block _ ll zaa).trans M2.l;have k3:w3.cell? ⟨w,3,none⟩=some ↑ByteArray.empty:=by rw [Lb w3 _ 3 _ _ _ m3];rfl
     have f3:w3.frozen? ⟨w,3,none⟩=false:=by simp [World.frozen?,m3]
     dsimp only;go_wp2;go_meet
     case rel =>
      have oo:=aa w3 w 3 (.string t);refine ⟨⟨?_,(oo.block _ zaa).trans l3⟩,(ht2.trans ht3).gY oo (K7 _),H3.only oo hpl⟩;rw [Lp w3 _ 3 _ _ _ m3];rfl
    ·go_wp2;go_meet
     case rel=>exact ⟨M2,ht2,H2⟩
   case rest =>
    obtain ⟨M3,ht3,H3⟩:=hcut;clear M2 ht2 hbb;obtain ⟨w3,hw3⟩:∃ y:World,y=wc:=⟨wc,rfl⟩;subst hw3;go_wp2_with fail;refine (iQ p num dep r _ H3 (hv.ai ht3)).mono ?_;rintro e w4 h4;unfold gy at h4;cases ha:Pro.aZ r with
    | none =>
     rw [ha] at h4;have HS2:Hid (Pro.fW l=none):=by unfold Hid;rw [HS.out,ha];rfl
     obtain ⟨ht4,b,h5,h6,rfl⟩:=h4;dsimp only;refine ⟨rfl,?_⟩;unfold gz;rw [HS2.out];exact ⟨ht3.trans ht4,b,La ht3.size h5,h6,rfl⟩
    | some q =>
     obtain ⟨A,r'⟩:=q;rw [ha] at h4;have HS2:Hid (Pro.fW l=some ((t,A),r')):=by unfold Hid;rw [HS.out,ha];rfl
     obtain ⟨a,n,c,rfl,hown,ht4,H4⟩:=h4;have hs3:=ht3.size;have lm:=(K6.1 M3.m).1;have ll:=(K6.1 M3.l).1;have m4:=(ht4.block _ lm zaa).trans M3.m;have l4:=(ht4.block _ ll zaa).trans M3.l;have hown4:=aD hown hs3;have k4:w4.cell? ⟨w,4,none⟩=some (.slice none 0 0):=by rw [Lb w4 _ 4 _ _ _ m4];rfl
     have f4:w4.frozen? ⟨w,4,none⟩=false:=by simp [World.frozen?,m4]
     have o5:=aa w4 w 4 (.slice a n c);have m5:=Lp w4 w 4 _ _ (.slice a n c) m4;have l5:=(o5.block (w.heap.size+1) zaa).trans l4;have hown5:=lR hown4 o5 m4 zac;have ht5:=(ht3.trans ht4).gY o5 (K7 _);have H5:=H4.only o5 hpl;clear HS ha M3 ht3 H3 hown ht4 H4 m4 l4 hown4 o5;dsimp only
     go_upto_region 4 with fail
     generalize w4.setCell ⟨w,4,none⟩ (.slice a n c)=w5 at *;clear k4 f4;obtain ⟨c0,c1⟩:=H5.cells;have y0:w5.cell? w=some ↑ev:=by rw [Lb w5 _ 0 _ _ _ m5];rfl
     have y1:w5.cell? ⟨w,1,none⟩=some (.bool af):=by rw [Lb w5 _ 1 _ _ _ m5];rfl
     have y2:w5.cell? ⟨w,2,none⟩=some (.int .u64 d):=by rw [Lb w5 _ 2 _ _ _ m5];rfl
     have y3:w5.cell? ⟨w,3,none⟩=some ↑t:=by rw [Lb w5 _ 3 _ _ _ m5];rfl
     have y4:w5.cell? ⟨w,4,none⟩=some (.slice a n c):=by rw [Lb w5 _ 4 _ _ _ m5];rfl
     have z0:w5.cell? ⟨w.heap.size+1,0,none⟩=some ↑(0:Int):=by rw [Lb w5 _ 0 _ _ _ l5];rfl
     have q0:w5.frozen? ⟨w.heap.size+1,0,none⟩=false:=zaG;have z1:w5.cell? ⟨w.heap.size+1,1,none⟩=some ↑(0:Int):=by rw [Lb w5 _ 1 _ _ _ l5];rfl
     have q1:w5.frozen? ⟨w.heap.size+1,1,none⟩=false:=zaG;have z2:w5.cell? ⟨w.heap.size+1,2,none⟩=some ↑ByteArray.empty:=by rw [Lb w5 _ 2 _ _ _ l5];rfl
     have q2:w5.frozen? ⟨w.heap.size+1,2,none⟩=false:=zaG;have z3:w5.cell? ⟨w.heap.size+1,3,none⟩=some (.bool false):=by rw [Lb w5 _ 3 _ _ _ l5];rfl
     have q3:w5.frozen? ⟨w.heap.size+1,3,none⟩=false:=zaG;have z4:w5.cell? ⟨w.heap.size+1,4,none⟩=some (.int .u64 0):=by rw [Lb w5 _ 4 _ _ _ l5];rfl
     have q4:w5.frozen? ⟨w.heap.size+1,4,none⟩=false:=zaG;have z5:w5.cell? ⟨w.heap.size+1,5,none⟩=some ↑ByteArray.empty:=by rw [Lb w5 _ 5 _ _ _ l5];rfl
     have q5:w5.frozen? ⟨w.heap.size+1,5,none⟩=false:=zaG;have z6:w5.cell? ⟨w.heap.size+1,6,none⟩=some (.slice none 0 0):=by rw [Lb w5 _ 6 _ _ _ l5];rfl
     have q6:w5.frozen? ⟨w.heap.size+1,6,none⟩=false:=zaG;have hne1:¬ p=w.heap.size+1:=zaa;have hne2:¬ w.heap.size+1=p:=zaa;have hne3:¬ w.heap.size=w.heap.size+1:=zaa;have HH:Hid (w5.ownsRow w 324 1 (.slice a n c) A.length (A.map bf)/\ak p w w5/\ah w5 p num dep r'):=⟨hown5,ht5,H5⟩;have HL5:Hid _:=l5;clear m5 l5 hown5 ht5 H5;refine ew 6 zab zab ?_;simp only [List.take_succ_cons,List.take_zero,List.drop_succ_cons,List.drop_zero]
     repeat still_step
     refine MD ?_;refine eH rfl 380 (.tmp 4) (.tmp 18) rfl _ 380 _ _ rfl rfl (show w5.drew.heap[w.heap.size+1]?=_ from HL5.out) oh rfl rfl ?_;go_wp2;have G2:=(iY w5.drew (w.heap.size+1) #[(num:Int),(dep:Int),ev,af,.int .u64 d,t,.slice a n c]).II;refine dJ IP _ 380 _ (0,0) _ rfl (PO _ _ _ _ _ _ (show w5.drew.heap[w.heap.size+1]?=_ from HL5.out)) underlying380 rfl oh rfl ?_;unfold gz;rw [HS2.out];exact ⟨a,n,c,rfl,lR HH.out.1 G2 HL5.out zac,HH.out.2.1.gY G2 zaa,HH.out.2.2.only G2 zaa⟩
namespace Pro
inductive PL where
 | state (k:Int) (name:ByteArray)
 | move (ev:ByteArray) (af:Bool) (d:Int) (dst:ByteArray) (A:List Ref.Act)
 | enter (A:List Ref.Act)
 | leave (A:List Ref.Act)
def bh (num:Nat):List ByteArray->Option (PL×List ByteArray)
 | []=>none
 | x::r =>
  if x.toList == Ref.cJ then (pOf Ref.plain r).map fun q=>(.state 0 q.1,q.2)
  else if x.toList == Ref.aL then (pOf Ref.plain r).map fun q=>(.state 1 q.1,q.2)
  else if x.toList == Ref.bV then (pOf Ref.plain r).map fun q=>(.state 2 q.1,q.2)
  else if x.toList == Ref.bg then (cZ r).map fun q=>(.state q.1.2 q.1.1,q.2)
  else if x.toList == Ref.cOn then match pOf Ref.bW r with
   | none=>none
   | some (ev,r1)=>(fW r1).map fun q=>(.move ev false 0 q.1.1 q.1.2,q.2)
  else if x.toList == Ref.iw then match gi r with
   | none=>none
   | some (d,r1)=>(fW r1).map fun q=>(.move (Ref.bI++Ref.dec num) true d q.1.1 q.1.2,q.2)
  else if x.toList == Ref.kJ then (cD r).map fun q=>(.enter q.1,q.2)
  else if x.toList == Ref.oH then (cD r).map fun q=>(.leave q.1,q.2)
  else none
end Pro
def eN (w:World) (base:Nat) (num dep:Int):Pro.PL->Value->Prop
 | .state k n,v=>v = .iface 376 (.agg #[.int .i64 num,.int .i64 dep,.int .i64 k,.string n])
 | .move ev af d t A,v=>∃ a n c,v = .iface 380 (.agg #[.int .i64 num,.int .i64 dep,.string ev,.bool af,.int .u64 d,.string t,.slice a n c])/\w.ownsRow base 324 1 (.slice a n c) A.length (A.map bf)
 | .enter A,v=>∃ a n c,v = .iface 387 (.agg #[.int .i64 num,.int .i64 dep,.slice a n c])/\w.ownsRow base 324 1 (.slice a n c) A.length (A.map bf)
 | .leave A,v=>∃ a n c,v = .iface 388 (.agg #[.int .i64 num,.int .i64 dep,.slice a n c])/\w.ownsRow base 324 1 (.slice a n c) A.length (A.map bf)
def aS (p num:Nat) (dep:Int) (l:List ByteArray) (w:World) (e:Ending) (w':World):Prop:=match Pro.bh num l with
 | none=>cG p 2 num w e w'
 | some (L,r)=>∃ v,e = .returned v/\eN w' w.heap.size num dep L v/\ak p w w'/\ah w' p num dep r
theorem AP (p num:Nat) (dep:Int) (x:ByteArray) (r:List ByteArray) (w:World) (H:ah w p num dep (x::r)) (hv:bE p w) (h1:(x.toList == [115,116,97,116,101])=true) :
  () 176 #[p] w (aS p num dep (x::r) w):=by
 cases hn:Pro.pOf Ref.plain r with
 | none =>
  have HS:Hid (Pro.bh num (x::r)=none):=by unfold Hid;rw [Pro.bh,Ref.cJ,h1,hn];rfl
  go_enter func176,ntmps176;go_wp2_with fail;refine (aF p num dep x r _ H).mono ?_;rintro e w1 ⟨rfl,ho,H1⟩;have ht1:=ho.ai;clear ho;dsimp only;go_wp2_with fail;refine (ou p num dep 0 r _ H1 (hv.ai ht1) hn).mono ?_;exact zdF
 | some q =>
  obtain ⟨n,r'⟩:=q;have HS:Hid (Pro.bh num (x::r)=some (.state 0 n,r')):=by unfold Hid;rw [Pro.bh,Ref.cJ,h1,hn];rfl
  go_enter func176,ntmps176;go_wp2_with fail;refine (aF p num dep x r _ H).mono ?_;rintro e w1 ⟨rfl,ho,H1⟩;have ht1:=ho.ai;clear ho;dsimp only;go_wp2_with fail;refine (lY p num dep 0 r r' n _ H1 (hv.ai ht1) hn).mono ?_;exact zdP
theorem sY (p num:Nat) (dep:Int) (x:ByteArray) (r:List ByteArray) (w:World) (H:ah w p num dep (x::r)) (hv:bE p w) (h1:(x.toList == [115,116,97,116,101])=false) (h2:(x.toList == [112,97,114,97,108,108,101,108])=true) :
  () 176 #[p] w (aS p num dep (x::r) w):=by
 cases hn:Pro.pOf Ref.plain r with
 | none =>
  have HS:Hid (Pro.bh num (x::r)=none):=zch;go_enter func176,ntmps176;go_wp2_with fail;refine (aF p num dep x r _ H).mono ?_;rintro e w1 ⟨rfl,ho,H1⟩;have ht1:=ho.ai;clear ho;dsimp only;go_wp2_with fail;refine (ou p num dep 1 r _ H1 (hv.ai ht1) hn).mono ?_;exact zdF
 | some q =>
  obtain ⟨n,r'⟩:=q;have HS:Hid (Pro.bh num (x::r)=some (.state 1 n,r')):=zch;go_enter func176,ntmps176;go_wp2_with fail;refine (aF p num dep x r _ H).mono ?_;rintro e w1 ⟨rfl,ho,H1⟩;have ht1:=ho.ai;clear ho;dsimp only;go_wp2_with fail;refine (lY p num dep 1 r r' n _ H1 (hv.ai ht1) hn).mono ?_;exact zdP
theorem AM (p num:Nat) (dep:Int) (x:ByteArray) (r:List ByteArray) (w:World) (H:ah w p num dep (x::r)) (hv:bE p w) (h1:(x.toList == [115,116,97,116,101])=false) (h2:(x.toList == [112,97,114,97,108,108,101,108])=false) (h3:(x.toList == [102,105,110,97,108])=true) :
  () 176 #[p] w (aS p num dep (x::r) w):=by
 cases hn:Pro.pOf Ref.plain r with
 | none =>
  have HS:Hid (Pro.bh num (x::r)=none):=zca;go_enter func176,ntmps176;go_wp2_with fail;refine (aF p num dep x r _ H).mono ?_;rintro e w1 ⟨rfl,ho,H1⟩;have ht1:=ho.ai;clear ho;dsimp only;go_wp2_with fail;refine (ou p num dep 2 r _ H1 (hv.ai ht1) hn).mono ?_;exact zdF
 | some q =>
  obtain ⟨n,r'⟩:=q;have HS:Hid (Pro.bh num (x::r)=some (.state 2 n,r')):=zca;go_enter func176,ntmps176;go_wp2_with fail;refine (aF p num dep x r _ H).mono ?_;rintro e w1 ⟨rfl,ho,H1⟩;have ht1:=ho.ai;clear ho;dsimp only;go_wp2_with fail;refine (lY p num dep 2 r r' n _ H1 (hv.ai ht1) hn).mono ?_;exact zdP
theorem vZ (p num:Nat) (dep:Int) (x:ByteArray) (r:List ByteArray) (w:World) (H:ah w p num dep (x::r)) (hv:bE p w) (h1:(x.toList == [115,116,97,116,101])=false) (h2:(x.toList == [112,97,114,97,108,108,101,108])=false) (h3:(x.toList == [102,105,110,97,108])=false) (h4:(x.toList == [104,105,115,116,111,114,121])=true) :
  () 176 #[p] w (aS p num dep (x::r) w):=by
 cases hn:Pro.cZ r with
 | none =>
  have HS:Hid (Pro.bh num (x::r)=none):=zb6;go_enter func176,ntmps176;go_wp2_with fail;refine (aF p num dep x r _ H).mono ?_;rintro e w1 ⟨rfl,ho,H1⟩;have ht1:=ho.ai;clear ho;dsimp only;go_wp2_with fail;refine (pB p num dep r _ H1 (hv.ai ht1)).mono ?_;rintro e w2 hq;rw [hn] at hq;exact zdJ
 | some q =>
  obtain ⟨⟨n,kk⟩,r'⟩:=q;have HS:Hid (Pro.bh num (x::r)=some (.state kk n,r')):=zb6;go_enter func176,ntmps176;go_wp2_with fail;refine (aF p num dep x r _ H).mono ?_;rintro e w1 ⟨rfl,ho,H1⟩;have ht1:=ho.ai;clear ho;dsimp only;go_wp2_with fail;refine (pB p num dep r _ H1 (hv.ai ht1)).mono ?_;rintro e w2 hq;rw [hn] at hq;obtain ⟨rfl,ht2,H2⟩:=hq;clear hn;dsimp only;go_wp2;go_ret;unfold aS;rw [HS.out];exact ⟨_,rfl,rfl,ht1.trans ht2,H2⟩
theorem AK (p num:Nat) (dep:Int) (x:ByteArray) (r:List ByteArray) (w:World) (H:ah w p num dep (x::r)) (hv:bE p w) (h1:(x.toList == [115,116,97,116,101])=false) (h2:(x.toList == [112,97,114,97,108,108,101,108])=false) (h3:(x.toList == [102,105,110,97,108])=false) (h4:(x.toList == [104,105,115,116,111,114,121])=false) (h5:(x.toList == [111,110])=false) (h6:(x.toList == [97,102,116,101,114])=false) (h7:(x.toList == [101,110,116,101,114])=true) :
  () 176 #[p] w (aS p num dep (x::r) w):=by
 cases hn:Pro.cD r with
 | none =>
  have HS:Hid (Pro.bh num (x::r)=none):=zbW;exact zc0
 | some q =>
  obtain ⟨A,r'⟩:=q;have HS:Hid (Pro.bh num (x::r)=some (.enter A,r')):=zbW;exact zcX
theorem AN (p num:Nat) (dep:Int) (x:ByteArray) (r:List ByteArray) (w:World) (H:ah w p num dep (x::r)) (hv:bE p w) (h1:(x.toList == [115,116,97,116,101])=false) (h2:(x.toList == [112,97,114,97,108,108,101,108])=false) (h3:(x.toList == [102,105,110,97,108])=false) (h4:(x.toList == [104,105,115,116,111,114,121])=false) (h5:(x.toList == [111,110])=false) (h6:(x.toList == [97,102,116,101,114])=false) (h7:(x.toList == [101,110,116,101,114])=false) (h8:(x.toList == [108,101,97,118,101])=true) :
  () 176 #[p] w (aS p num dep (x::r) w):=by
 cases hn:Pro.cD r with
 | none =>
  have HS:Hid (Pro.bh num (x::r)=none):=zbU;exact zc0
 | some q =>
  obtain ⟨A,r'⟩:=q;have HS:Hid (Pro.bh num (x::r)=some (.leave A,r')):=zbU;exact zcX
theorem Iq (p num:Nat) (dep:Int) (x:ByteArray) (r:List ByteArray) (w:World) (H:ah w p num dep (x::r)) (hv:bE p w) (h1:(x.toList == [115,116,97,116,101])=false) (h2:(x.toList == [112,97,114,97,108,108,101,108])=false) (h3:(x.toList == [102,105,110,97,108])=false) (h4:(x.toList == [104,105,115,116,111,114,121])=false) (h5:(x.toList == [111,110])=true) :
  () 176 #[p] w (aS p num dep (x::r) w):=by
 cases he:Pro.pOf Ref.bW r with
 | none =>
  have HS:Hid (Pro.bh num (x::r)=none):=by unfold Hid;rw [Pro.bh,Ref.cJ,h1,Ref.aL,h2,Ref.bV,h3,Ref.bg,h4,Ref.cOn,h5,he];rfl
  go_enter func176,ntmps176;go_wp2_with fail;refine (aF p num dep x r _ H).mono ?_;rintro e w1 ⟨rfl,ho,H1⟩;have ht1:=ho.ai;clear ho;dsimp only;go_wp2_with fail;refine (fh p num dep r _ H1 (hv.ai ht1)).mono ?_;rintro e w2 hq;rw [he] at hq;exact zdJ
 | some q =>
  obtain ⟨ev,r1⟩:=q;cases hn:Pro.fW r1 with
  | none =>
   have HS:Hid (Pro.bh num (x::r)=none):=zbX;go_enter func176,ntmps176;go_wp2_with fail;refine (aF p num dep x r _ H).mono ?_;rintro e w1 ⟨rfl,ho,H1⟩;have ht1:=ho.ai;clear ho;dsimp only;go_wp2_with fail;refine (fh p num dep r _ H1 (hv.ai ht1)).mono ?_;rintro e w3 h3;rw [he] at h3;obtain ⟨rfl,ht3,H3⟩:=h3;have ht4:=ht1.trans ht3;clear he H1 ht3;dsimp only;go_wp2_with fail;refine (nM p num dep ev false 0 r1 _ H3 (hv.ai ht4)).mono ?_;exact zdw
  | some q =>
   obtain ⟨⟨t,A⟩,r'⟩:=q;have HS:Hid (Pro.bh num (x::r)=some (.move ev false 0 t A,r')):=zbX;go_enter func176,ntmps176;go_wp2_with fail;refine (aF p num dep x r _ H).mono ?_;rintro e w1 ⟨rfl,ho,H1⟩;have ht1:=ho.ai;clear ho;dsimp only;go_wp2_with fail;refine (fh p num dep r _ H1 (hv.ai ht1)).mono ?_;rintro e w3 h3;rw [he] at h3;obtain ⟨rfl,ht3,H3⟩:=h3;have ht4:=ht1.trans ht3;clear he H1 ht3;dsimp only;go_wp2_with fail;refine (nM p num dep ev false 0 r1 _ H3 (hv.ai ht4)).mono ?_;exact zdj
theorem AJ (p num:Nat) (dep:Int) (x:ByteArray) (r:List ByteArray) (w:World) (H:ah w p num dep (x::r)) (hv:bE p w) (hnum:num<=1073741824) (h1:(x.toList == [115,116,97,116,101])=false) (h2:(x.toList == [112,97,114,97,108,108,101,108])=false) (h3:(x.toList == [102,105,110,97,108])=false) (h4:(x.toList == [104,105,115,116,111,114,121])=false) (h5:(x.toList == [111,110])=false) (h6:(x.toList == [97,102,116,101,114])=true) :
  () 176 #[p] w (aS p num dep (x::r) w):=by
 cases he:Pro.gi r with
 | none =>
  have HS:Hid (Pro.bh num (x::r)=none):=by unfold Hid;rw [Pro.bh,Ref.cJ,h1,Ref.aL,h2,Ref.bV,h3,Ref.bg,h4,Ref.cOn,h5,Ref.iw,h6,he];rfl
  go_enter func176,ntmps176;go_wp2_with fail;refine (aF p num dep x r _ H).mono ?_;rintro e w1 ⟨rfl,ho,H1⟩;have ht1:=ho.ai;clear ho;obtain ⟨c0,c1⟩:=H1.cells;dsimp only;go_wp2_with fail;refine (iH num _ hnum (hv.ai ht1).here).mono ?_;rintro e w5 ⟨rfl,hb5⟩;have ht5:=ht1.trans (aO hb5);have H5:=H1.aq hb5;clear hb5 H1 ht1 c0 c1;dsimp only;go_wp2_with fail;refine (js p num dep r _ H5 (hv.ai ht5)).mono ?_;rintro e w2 hq;rw [he] at hq;obtain ⟨ht,b,h4,h5,rfl⟩:=hq;dsimp only;refine ⟨rfl,?_⟩;unfold aS;rw [HS.out];exact ⟨ht5.trans ht,b,La ht5.size h4,h5,rfl⟩
 | some q =>
  obtain ⟨d,r1⟩:=q;cases hn:Pro.fW r1 with
  | none =>
   have HS:Hid (Pro.bh num (x::r)=none):=zbV;go_enter func176,ntmps176;go_wp2_with fail;refine (aF p num dep x r _ H).mono ?_;rintro e w1 ⟨rfl,ho,H1⟩;have ht1:=ho.ai;clear ho;obtain ⟨c0,c1⟩:=H1.cells;dsimp only;go_wp2_with fail;refine (iH num _ hnum (hv.ai ht1).here).mono ?_;rintro e w5 ⟨rfl,hb5⟩;have ht5:=ht1.trans (aO hb5);have H5:=H1.aq hb5;clear hb5 H1 ht1 c0 c1;dsimp only;go_wp2_with fail;refine (js p num dep r _ H5 (hv.ai ht5)).mono ?_;rintro e w3 h3;rw [he] at h3;obtain ⟨rfl,ht3,H3⟩:=h3;have ht4:=ht5.trans ht3;clear he H5 ht3;dsimp only;go_wp2_with fail;refine (nM p num dep (Ref.bI++Ref.dec num) true d r1 _ H3 (hv.ai ht4)).mono ?_;exact zdw
  | some q =>
   obtain ⟨⟨t,A⟩,r'⟩:=q;have HS:Hid (Pro.bh num (x::r)=some (.move (Ref.bI++Ref.dec num) true d t A,r')):=zbV;go_enter func176,ntmps176;go_wp2_with fail;refine (aF p num dep x r _ H).mono ?_;rintro e w1 ⟨rfl,ho,H1⟩;have ht1:=ho.ai;clear ho;obtain ⟨c0,c1⟩:=H1.cells;dsimp only;go_wp2_with fail;refine (iH num _ hnum (hv.ai ht1).here).mono ?_;rintro e w5 ⟨rfl,hb5⟩;have ht5:=ht1.trans (aO hb5);have H5:=H1.aq hb5;clear hb5 H1 ht1 c0 c1;dsimp only;go_wp2_with fail;refine (js p num dep r _ H5 (hv.ai ht5)).mono ?_;rintro e w3 h3;rw [he] at h3;obtain ⟨rfl,ht3,H3⟩:=h3;have ht4:=ht5.trans ht3;clear he H5 ht3;dsimp only;go_wp2_with fail;refine (nM p num dep (Ref.bI++Ref.dec num) true d r1 _ H3 (hv.ai ht4)).mono ?_;exact zdj
theorem Dr (p num:Nat) (dep:Int) (w:World) (H:ah w p num dep []) :
  () 176 #[p] w (aS p num dep [] w):=by
 go_enter func176,ntmps176;go_wp2_with fail;refine (lN p num dep _ H).mono ?_;rintro e w1 h1;obtain ⟨ht,b,h3,h4,rfl⟩:=cy (ak.refl p w) h1;dsimp only;exact ⟨rfl,ht,b,h3,h4,rfl⟩
theorem AO (p num:Nat) (dep:Int) (x:ByteArray) (r:List ByteArray) (w:World) (H:ah w p num dep (x::r)) (h1:(x.toList == [115,116,97,116,101])=false) (h2:(x.toList == [112,97,114,97,108,108,101,108])=false) (h3:(x.toList == [102,105,110,97,108])=false) (h4:(x.toList == [104,105,115,116,111,114,121])=false) (h5:(x.toList == [111,110])=false) (h6:(x.toList == [97,102,116,101,114])=false) (h7:(x.toList == [101,110,116,101,114])=false) (h8:(x.toList == [108,101,97,118,101])=false) :
  () 176 #[p] w (aS p num dep (x::r) w):=by
 have HS:Hid (Pro.bh num (x::r)=none):=by unfold Hid;rw [Pro.bh,Ref.cJ,h1,Ref.aL,h2,Ref.bV,h3,Ref.bg,h4,Ref.cOn,h5,Ref.iw,h6,Ref.kJ,h7,Ref.oH,h8];rfl
 go_enter func176,ntmps176;go_wp2_with fail;refine (aF p num dep x r _ H).mono ?_;rintro e w1 ⟨rfl,ho,H1⟩;have ht1:=ho.ai;obtain ⟨c0,c1⟩:=H1.cells;clear ho;dsimp only;go_wp2_with fail;refine (aT num dep 2 _).mono ?_;rintro e w2 hq;obtain ⟨ht,b,h4,h5,rfl⟩:=cy ht1 hq;dsimp only;refine ⟨rfl,?_⟩;unfold aS;rw [HS.out];exact ⟨ht,b,h4,h5,rfl⟩
theorem Fy (p num:Nat) (dep:Int) (l:List ByteArray) (w:World) (H:ah w p num dep l) (hv:bE p w) (hnum:num<=1073741824) :
  () 176 #[p] w (aS p num dep l w):=by
 cases l with
 | nil=>exact Dr p num dep w H
 | cons x r =>
  cases h1:(x.toList == [115,116,97,116,101])
  case true=>exact AP p num dep x r w H hv h1
  cases h2:(x.toList == [112,97,114,97,108,108,101,108])
  case true=>exact sY p num dep x r w H hv h1 h2
  cases h3:(x.toList == [102,105,110,97,108])
  case true=>exact AM p num dep x r w H hv h1 h2 h3
  cases h4:(x.toList == [104,105,115,116,111,114,121])
  case true=>exact vZ p num dep x r w H hv h1 h2 h3 h4
  cases h5:(x.toList == [111,110])
  case true=>exact Iq p num dep x r w H hv h1 h2 h3 h4 h5
  cases h6:(x.toList == [97,102,116,101,114])
  case true=>exact AJ p num dep x r w H hv hnum h1 h2 h3 h4 h5 h6
  cases h7:(x.toList == [101,110,116,101,114])
  case true=>exact AK p num dep x r w H hv h1 h2 h3 h4 h5 h6 h7
  cases h8:(x.toList == [108,101,97,118,101])
  case true=>exact AN p num dep x r w H hv h1 h2 h3 h4 h5 h6 h7 h8
  exact AO p num dep x r w H h1 h2 h3 h4 h5 h6 h7 h8
namespace Pro
theorem Kl (h:(a.toList == b.toList)=true):a=b:=by
 have h:=eq_of_beq h;rw [L8,L8] at h;cases a;cases b
 simp at h;rw [h]
theorem jP {l:List UInt8} (h:(a.toList == l)=true) (hb:b.toList=l):a=b:=Kl (by rw [hb];exact h)
theorem vK:bDo.toList=Ref.cDo:=zas
theorem vz:bAs.toList=Ref.cAs:=zas
theorem dy {P:ByteArray->Bool}:pOf P (x::r)=if P x then some (x,r) else none:=rfl
theorem gH:gi (x::r)=if Ref.cd x then some (Ref.dN x,r) else none:=rfl
theorem DG:dh [c]=none:=by
 unfold dh;rw [dy];split
 ·rfl
 ·rename_i x l1 h;split at h
  ·cases h;rfl
  ·cases h
theorem DH:dh [c,d]=if Ref.called c&&Ref.cd d then some ((c,Ref.dN d,none),[]) else none:=by
 unfold dh;rw [dy];cases Ref.called c
 ·rfl
 ·simp only [Bool.true_and,if_true];rw [gH];cases Ref.cd d <;> rfl
theorem A6 (hy:(y.toList == Ref.cAs)=false):dh (c::d::y::r)=if Ref.called c&&Ref.cd d then some ((c,Ref.dN d,none),y::r) else none:=by
 unfold dh;rw [dy];cases Ref.called c
 ·rfl
 ·simp only [Bool.true_and,if_true];rw [gH];exact zeN
theorem DD (hy:(y.toList == Ref.cAs)=true):dh [c,d,y]=none:=by
 unfold dh;rw [dy];cases Ref.called c
 ·rfl
 ·simp only [if_true];rw [gH];exact zeN
theorem DE (hy:(y.toList == Ref.cAs)=true):dh (c::d::y::a::r)=if Ref.called c&&Ref.cd d&&Ref.called a then some ((c,Ref.dN d,some a),r) else none:=by
 unfold dh;rw [dy];cases Ref.called c
 ·rfl
 ·simp only [Bool.true_and,if_true];rw [gH];cases Ref.cd d
  ·rfl
  ·simp only [Bool.true_and,if_true];rw [vz,hy,Lg rfl,dy];cases Ref.called a <;> rfl
theorem BO {x:ByteArray} {r:List ByteArray} (h:(x.toList == Ref.cDo)=true) :
  bB r=(Ref.oC (x::r)).map fun q=>(q.1,(x::r).drop q.2):=by
 cases r with
 | nil=>rfl
 | cons y r =>
  rw [bB];cases r with
  | nil =>
   have h2:Ref.oC [x,y]=none:=by unfold Ref.oC;rw [Lg zad]
   rw [h2];split
   ·rfl
   ·split
    ·rfl
    ·split <;> rfl
  | cons c r =>
   have hl:¬ (x::y::c::r).length<3:=zad;unfold Ref.oC;rw [Ld hl,show Ref.at' (x::y::c::r) 0=x from rfl,h,Lg rfl,show Ref.at' (x::y::c::r) 1=y from rfl,show Ref.at' (x::y::c::r) 2=c from rfl];cases h1:(y.toList == Ref.eK)
   ·simp only [Bool.false_eq_true,if_false];cases h2:(y.toList == Ref.eE)
    ·simp only [Bool.false_eq_true,if_false];cases h3:(y.toList == Ref.kK)
     ·simp
     ·simp only [if_true];have ey:y=mh:=jP h3 lU;cases r with
      | nil=>rw [Lg zad,DG];rfl
      | cons d r =>
       rw [Ld zad,show Ref.at' (x::y::c::d::r) 3=d from rfl];cases r with
       | nil =>
        rw [Ld zad,DH];cases Ref.called c <;> cases Ref.cd d <;> simp [ey]
       | cons u r =>
        rw [show Ref.at' (x::y::c::d::u::r) 4=u from rfl];cases h4:(u.toList == Ref.cAs)
        ·rw [Ld zad,A6 h4];cases Ref.called c <;> cases Ref.cd d <;> simp [ey]
        ·rw [Lg zad];cases r with
         | nil=>rw [Lg zad,DD h4];rfl
         | cons a r =>
          rw [Ld zad,show Ref.at' (x::y::c::d::u::a::r) 5=a from rfl,DE h4];cases Ref.called c <;> cases Ref.cd d <;> cases Ref.called a <;> simp [ey]
    ·have ey:y=gq:=jP h2 gB;have h3:(y.toList == Ref.kK)=false:=by rw [ey,gB];rfl
     rw [h3];simp only [Bool.false_eq_true,if_false,if_true];rw [dy];cases Ref.called c <;> simp [ey]
   ·have ey:y=oE:=jP h1 mQ;simp only [if_true];rw [dy];cases Ref.called c <;> simp [ey]
theorem Eo (h:(x.toList == Ref.cDo)=false):Ref.oC (x::r)=none:=by
 unfold Ref.oC;split
 ·rfl
 ·rw [show Ref.at' (x::r) 0=x from rfl,h];rfl
theorem tz:∀ (n:Nat) (l:List ByteArray),l.length<=n->Ref.ax l=match aZ l with | some (A,[])=>some A | _=>none
 | _,[],_=>rfl
 | 0,x::r,h=>by simp at h
 | n+1,x::r,h=>by
  cases hd:(x.toList == Ref.cDo)
  ·rw [jf (by rw [vK];exact hd)];show Ref.jn (r.length+1) (x::r)=none;rw [Ref.jn,Eo hd]
  ·cases ha:Ref.oC (x::r) with
   | none =>
    have hp:=BO (r:=r) hd;rw [ha] at hp;rw [je (by rw [vK];exact hd) hp];show Ref.jn (r.length+1) (x::r)=none;rw [Ref.jn,ha]
   | some q =>
    obtain ⟨a,k⟩:=q;have hp:=BO (r:=r) hd;rw [ha] at hp;have hb:=Ref.kE ha;have hlen:((x::r).drop k).length<(x::r).length:=by
     rw [OE];have:=hb.1;have:=hb.2;omega
    rw [jd (by rw [vK];exact hd) hp];have ih:=tz n ((x::r).drop k) (by simp only [List.length_cons] at h hlen ⊢;omega);show Ref.jn (r.length+1) (x::r)=_;rw [Ref.jn,ha];simp only;rw [Ref.qu r.length ((x::r).drop k).length _ (by simp only [List.length_cons] at hlen;omega) (K7 _)];change (match Ref.ax ((x::r).drop k) with | none=>none | some r'=>some (a::r'))=_;rw [ih];cases aZ ((x::r).drop k) with
    | none=>rfl
    | some q =>
     obtain ⟨A,t⟩:=q;cases t <;> rfl
theorem nh (l:List ByteArray):Ref.ax l=match aZ l with | some (A,[])=>some A | _=>none:=tz l.length l (K7 _)
end Pro
end
section
open Go.RowKit
open Go.PlainAid (bt get_bt bt_nonneg bt_le bt_end)
namespace Ref
theorem JT (n:Nat):∃ k:Nat,m64 n=k/\k<=18446744073709551615:=by
 unfold m64;rw [NY];exact ⟨n % 18446744073709551616,zaa,zaa⟩
theorem tP (s:ByteArray):∃ n:Nat,dN s=n/\n<=18446744073709551615:=by
 unfold dN;split
 ·exact JT _
 ·exact ⟨0,rfl,zac⟩
structure ji (a:Act):Prop where
 how:a.how.size<=4096
 event:a.event.size<=4096
 id:a.id.size<=4096
 delay:∃ n:Nat,a.delay=n/\n<=18446744073709551615
structure mx (m:Move):Prop where
 event:m.event.size<=4096
 dst:m.to.size<=4096
 ax:∀ a∈m.ax,ji a
 len:m.ax.length<=4096
 delay:∃ n:Nat,m.delay=n/\n<=18446744073709551615
structure oB (L:jL):Prop where
 word:L.word.size<=4096
 name:L.name.size<=4096
 m:mx L.m
 ax:∀ a∈L.ax,ji a
 len:L.ax.length<=4096
structure lA (x:State):Prop where
 word:x.word.size<=4096
 name:x.name.size<=4096
 dep0:0<=x.depth
 dep:x.depth<=5
 aj:∀ m∈x.aj,mx m
 enter:∀ a∈x.enter,ji a
 leave:∀ a∈x.leave,ji a
 lenE:x.enter.length<=4096
 lenL:x.leave.length<=4096
theorem GK {a:Act} (hs:∀ x∈l,x.size<=4096) (h:oC l=some (a,n)):ji a:=by
 have h0:=nj hs;unfold oC at h
 repeat' split at h
 all_goals cases h
 all_goals refine ⟨h0 _,?_,?_,?_⟩
 all_goals first | exact h0 _ | exact Lk _ | exact tP _ | exact ⟨0,rfl,zac⟩
theorem xg:∀ (f:Nat) (l:List ByteArray) (A:List Act),(∀ x∈l,x.size<=4096)->jn f l=some A->(∀ a∈A,ji a)/\A.length<=l.length
 | 0,[],A,_,h=>by cases h;exact ⟨fun a ha=>absurd ha zad,K7 _⟩
 | _+1,[],A,_,h=>by cases h;exact ⟨fun a ha=>absurd ha zad,K7 _⟩
 | 0,x::r,A,_,h=>by cases h
 | f+1,x::r,A,hs,h=>by
  rw [jn] at h;split at h
  ·cases h
  ·rename_i a n h1;split at h
   ·cases h
   ·rename_i r' h2;cases h
    have hb:=kE h1;have ih:=xg f ((x::r).drop n) r' (fun y hy=>hs y (Oy hy)) h2;refine ⟨?_,?_⟩
    ·intro b hm
     rcases Na.1 hm with h | h
     ·rw [h];exact GK hs h1
     ·exact ih.1 b h
    ·have:=ih.2;rw [OE] at this;simp only [List.length_cons] at this hb ⊢;omega
theorem vh (hs:∀ x∈l,x.size<=4096) (h:ax l=some A):(∀ a∈A,ji a)/\A.length<=l.length:=xg _ l A hs h
theorem yD {t:ByteArray} (hs:∀ x∈l,x.size<=4096) (h:ug l=some (t,A)):t.size<=4096/\(∀ a∈A,ji a)/\A.length<=l.length:=by
 unfold ug at h;split at h
 ·split at h
  ·cases h
  ·split at h
   ·cases h2:ax (l.drop 2) with
    | none=>rw [h2] at h;cases h
    | some B =>
     rw [h2] at h;cases h
     have:=vh (fun y hy=>hs y (Oy hy)) h2;exact ⟨nj hs 1,this.1,La this.2 zad⟩
   ·cases h
 ·cases h2:ax l with
  | none=>rw [h2] at h;cases h
  | some B =>
   rw [h2] at h;cases h
   exact ⟨Lk _,vh hs h2⟩
theorem iV:mx j7:=⟨Lk _,Lk _,fun a ha=>absurd ha (by simp [j7]),Lk _,0,rfl,zac⟩
theorem dx:oB gh:=⟨Lk _,Lk _,iV,fun a ha=>absurd ha (by simp [gh]),Lk _⟩
theorem IW {ln:Nat} (hs:∀ x∈l,x.size<=4096) (hl:l.length<=4096) (hln:ln<=1073741824):oB (said l ln):=by
 have h0:=nj hs;have hs2:∀ x∈l.drop 2,x.size<=4096:=fun y hy=>hs y (Oy hy);have hs1:∀ x∈l.drop 1,x.size<=4096:=fun y hy=>hs y (Oy hy);unfold said;split
 ·exact dx
 ·split
  ·exact zek
  ·split
   ·exact zek
   ·split
    ·split
     ·exact dx
     ·rename_i t A hm;have:=yD hs2 hm;rw [OE] at this;split
      ·exact ⟨Lk _,Lk _,⟨h0 1,this.1,this.2.1,zbR,0,rfl,zac⟩,fun a ha=>absurd ha zad,Lk _⟩
      ·exact dx
    ·split
     ·split
      ·exact dx
      ·rename_i t A hm;have:=yD hs2 hm;rw [OE] at this;have hd:(dec ln).size<=20:=qJ zaa;have hk:bI.size<=20:=zac;split
       ·exact ⟨Lk _,Lk _,⟨by show (bI++dec ln).size<=_;rw [NS];omega,this.1,this.2.1,zbR,tP _⟩,fun a ha=>absurd ha zad,Lk _⟩
       ·exact dx
     ·split
      ·split
       ·exact dx
       ·rename_i A hm;have:=vh hs1 hm;rw [OE] at this;exact ⟨Lk _,Lk _,iV,this.1,zbR⟩
      ·exact dx
theorem sI {f:State->State} {y:State} (hy:y∈fR S k f):y∈S\/∃ x∈S,y=f x:=by
 unfold fR at hy;by_cases hk:k<S.length
 ·rcases LH hy with h | h
  ·exact .inl h
  ·refine .inr ⟨S.getD k st0,?_,h⟩;rw [Lm,K8 hk];exact L9 hk
 ·rw [OM zaa] at hy;exact .inl hy
theorem Ar {X:List SV} {x:SV} (h:fits X x=true):x.s.depth<=5:=by
 unfold fits at h;by_cases hd:x.s.depth<=5
 ·exact hd
 ·have:5<x.s.depth:=zaa;simp [this] at h
theorem zv {x:jL} {d:Int} (h:bu S i x d=some S') (hd:0<=d) (hx:oB x) (hS:∀ y∈S,lA y/\y.aj.length<=n):∀ y∈S',lA y/\y.aj.length<=n+1:=by
 have hS1:∀ y∈S,lA y/\y.aj.length<=n+1:=fun y hy=>⟨(hS y hy).1,O2 (hS y hy).2⟩;unfold bu at h;split at h
 ·cases h
 ·split at h
  ·split at h
   ·rename_i hf;cases h
    intro y hy
    rcases Lz.1 hy with h | h
    ·exact hS1 y h
    ·rw [Li.1 h];exact ⟨⟨hx.word,hx.name,hd,Ar hf,fun m hm=>absurd hm (by simp [jC]),fun m hm=>absurd hm (by simp [jC]),fun m hm=>absurd hm (by simp [jC]),Lk _,Lk _⟩,Lk _⟩
   ·cases h
  ·split at h
   ·cases h
   ·split at h
    ·cases h
    ·split at h
     ·split at h
      ·cases h
      ·cases h
       intro y hy
       rcases sI hy with h | ⟨z,hz,rfl⟩
       ·exact hS1 y h
       ·obtain ⟨h1,h2⟩:=hS z hz;refine ⟨{ h1 with aj := ?_ },?_⟩
        ·intro m hm
         rcases Lz.1 hm with h | h
         ·exact h1.aj m h
         ·rw [Li.1 h];exact hx.m
        ·simp;omega
     ·split at h
      ·split at h
       ·cases h
       ·cases h
        intro y hy
        rcases sI hy with h | ⟨z,hz,rfl⟩
        ·exact hS1 y h
        ·obtain ⟨h1,h2⟩:=hS1 z hz;exact ⟨{ h1 with enter:=hx.ax,lenE:=hx.len },h2⟩
      ·split at h
       ·split at h
        ·cases h
        ·cases h
         intro y hy
         rcases sI hy with h | ⟨z,hz,rfl⟩
         ·exact hS1 y h
         ·obtain ⟨h1,h2⟩:=hS1 z hz;exact ⟨{ h1 with leave:=hx.ax,lenL:=hx.len },h2⟩
       ·cases h
        exact hS1
theorem uK {A:List (jL×Int)} (hA:∀ p∈A,oB p.1/\0<=p.2):∀ {i:Nat} {S:List State},a7 A i=some S->∀ y∈S,lA y/\y.aj.length<=i
 | 0,S,h=>by cases h;exact fun y hy=>absurd hy zad
 | i+1,S,h=>by
  rw [a7] at h;split at h
  ·cases h
  ·rename_i S0 h0;have ih:=uK hA h0;split at h
   ·cases h;exact fun y hy=>⟨(ih y hy).1,O2 (ih y hy).2⟩
   ·rename_i x d hx;have:=hA _ (Lj hx);exact zv h this.2 this.1 ih
def iR (t:ByteArray):Nat->Nat->Nat
 | 0,d=>d
 | f+1,d=>if bt t d=32 then iR t f (d+1) else d
def cX (t:ByteArray):Nat:=iR t t.size 0
theorem qE (t:ByteArray):∀ f d,iR t f d<=d+f
 | 0,d=>K7 _
 | f+1,d=>by
  have:=qE t f (d+1);unfold iR;split <;> omega
theorem tF (t:ByteArray):cX t<=t.size:=by have:=qE t t.size 0;unfold cX;omega
def rest (t:ByteArray):ByteArray:=t.extract (cX t) t.size
def gN (t:ByteArray) (i:Nat):jL:=said (cut (rest t) 32) (i+1)
def pc (P:List ByteArray) (i:Nat):ByteArray:=P.getD i ByteArray.empty
def lg (P:List ByteArray):Nat->Option Nat
 | 0=>none
 | k+1=>match lg P k with
  | some i=>some i
  | none=>if (gN (pc P k) k).kind=0 then some k else none
def syn (P:List ByteArray):Option Nat:=match lg P (P.length-1) with
 | some i=>some i
 | none=>if decide (0<P.length-1)&&(pc P (P.length-1)).toList.isEmpty then none else some (P.length-1)
def aM (P:List ByteArray) (k:Nat):List (jL×Int):=(List.range k).map fun i=>(gN (pc P i) i,(cX (pc P i):Int))
def gb (A:List (jL×Int)):Nat->Nat
 | 0=>0
 | i+1=>if (a7 A i).isSome&&(a7 A (i+1)).isNone then i+1 else gb A i
inductive Got where
 | fault (e line:Int)
 | fF (S:List State)
def read (s:ByteArray):Got :=
 if 1500<s.size then .fault 1 0
 else match syn (cut s 10) with
  | some i => .fault 2 ((i:Int)+1)
  | none=>match a7 (aM (cut s 10) ((cut s 10).length-1)) ((cut s 10).length-1) with
   | none => .fault 3 (gb (aM (cut s 10) ((cut s 10).length-1)) ((cut s 10).length-1))
   | some S=>if 0<(dF S S.length).getD 0 then .fault 3 ((dF S S.length).getD 0)
    else if 0<named (S.map emb) then .fault 4 (named (S.map emb))
    else .fF S
theorem wU {x:jL} {d:Int} (h:bu S i x d=some S'):S'.length<=S.length+1:=by
 unfold bu fR at h
 repeat' split at h
 all_goals first | (cases h;done) | (cases h;simp)
theorem sH {A:List (jL×Int)}:∀ {i:Nat} {S:List State},a7 A i=some S->S.length<=i
 | 0,S,h=>by cases h;exact K7 _
 | i+1,S,h=>by
  rw [a7] at h;split at h
  ·cases h
  ·rename_i S0 h0;have:=sH h0;split at h
   ·cases h;omega
   ·have:=wU h;omega
theorem Cu {P:List ByteArray}:∀ {k i:Nat},lg P k=some i->∀ j,k<=j->lg P j=some i
 | k,i,h,0,hj=>by rw [P8.1 hj] at h;exact h
 | k,i,h,j+1,hj=>by
  by_cases e:k=j+1
  ·rw [<- e];exact h
  ·rw [lg,Cu h j zaa]
theorem I5 (hk:k<P.length-1) (h:lg P k=none) (hb:(gN (pc P k) k).kind=0):syn P=some k:=by
 have:lg P (P.length-1)=some k:=Cu (k:=k+1) (by rw [lg,h];simp only;rw [Lg hb]) _ zaa;unfold syn;rw [this]
theorem zl (h:lg P (P.length-1)=none) (hb:¬ (0<P.length-1/\(pc P (P.length-1)).toList.isEmpty=true)):syn P=some (P.length-1):=by
 unfold syn;rw [h];simp only;rw [Ld];simpa using hb
theorem Gp (h:lg P (P.length-1)=none) (h0:0<P.length-1) (he:(pc P (P.length-1)).toList.isEmpty=true):syn P=none:=by
 unfold syn;rw [h];simp [h0,he]
theorem D3 (h:lg P k=none) (hb:¬ (gN (pc P k) k).kind=0):lg P (k+1)=none:=by
 rw [lg,h];simp only;rw [Ld hb]
theorem jt {A:List (jL×Int)} {i:Nat} (h1:(a7 A i).isSome=true) (h2:a7 A (i+1)=none):∀ k,i<k->gb A k=i+1
 | 0,h=>by omega
 | k+1,h=>by
  by_cases e:k=i
  ·rw [gb,e,h1,h2];rfl
  ·have:a7 A k=none:=fy h2 k zaa;rw [gb,this];exact jt h1 h2 k zaa
end Ref
end
section
open Go.RowKit
namespace Pro
theorem I6:xv.toList=Ref.cTo:=zas
theorem CX:oD.toList=Ref.B1:=zas
def kH:ByteArray:=⟨#[115,116,97,116,101]⟩
def fi:ByteArray:=⟨#[112,97,114,97,108,108,101,108]⟩
def kG:ByteArray:=⟨#[102,105,110,97,108]⟩
def cW:ByteArray:=⟨#[104,105,115,116,111,114,121]⟩
theorem iG:kH.toList=Ref.cJ:=zas
theorem eS:fi.toList=Ref.aL:=zas
theorem iz:kG.toList=Ref.bV:=zas
theorem bO:cW.toList=Ref.bg:=zas
def bp (k:Int):ByteArray:=if k=0 then kH else if k=1 then fi else if k=2 then kG else cW
def aE (num:Nat):PL->Ref.jL
 | .state k n=>⟨115,bp k,n,decide (k=4),num,Ref.j7,[]⟩
 | .move ev af d t A=>⟨109,ByteArray.empty,ByteArray.empty,false,0,⟨ev,t,af,d,A,num⟩,[]⟩
 | .enter A=>⟨101,ByteArray.empty,ByteArray.empty,false,0,Ref.j7,A⟩
 | .leave A=>⟨108,ByteArray.empty,ByteArray.empty,false,0,Ref.j7,A⟩
def bj (num:Nat) (l:List ByteArray):Option PL:=match bh num l with
 | some (L,[])=>some L
 | _=>none
theorem uh (l:List ByteArray):Ref.ug l=match fW l with | some (q,[])=>some q | _=>none:=by
 unfold Ref.ug fW;cases l with
 | nil=>simp [pTo,nh];rfl
 | cons y r =>
  rw [show Ref.at' (y::r) 0=y from rfl,pTo,I6];cases hy:(y.toList == Ref.cTo)
  ·rw [Ld zad,Ld zad,nh];simp only;cases aZ (y::r) with
   | none=>rfl
   | some q=>obtain ⟨A,t⟩:=q;cases t <;> rfl
  ·rw [Lg zad,Lg rfl];cases r with
   | nil=>rfl
   | cons z t =>
    rw [Ld zad,show Ref.at' (y::z::t) 1=z from rfl,dy];cases Ref.plain z
    ·rfl
    ·simp only [if_true,List.drop_succ_cons,List.drop_zero];rw [nh];cases aZ t with
     | none=>rfl
     | some q=>obtain ⟨A,u⟩:=q;cases u <;> rfl
theorem wB:aZ (y::r)≠some ([],[]):=by
 cases h:(y.toList == bDo.toList)
 ·rw [jf h];simp
 ·cases h2:bB r with
  | none=>rw [je h h2];simp
  | some q =>
   obtain ⟨a,r'⟩:=q;rw [jd h h2];cases aZ r' <;> simp
theorem qL (y:ByteArray) (r:List ByteArray):Ref.ax (y::r)=match cD (y::r) with | some (A,[])=>some A | _=>none:=by
 rw [nh];unfold cD;cases h:aZ (y::r) with
 | none=>rfl
 | some q =>
  obtain ⟨A,t⟩:=q;cases A with
  | nil=>cases t with
   | nil=>exact absurd h wB
   | cons _ _=>rfl
  | cons a A=>cases t <;> rfl
theorem Gd (num:Nat) (l:List ByteArray):Ref.said l num=((bj num l).map (aE num)).getD Ref.gh:=by
 cases l with
 | nil=>rfl
 | cons x r =>
  cases r with
  | nil =>
   rw [Ref.said,Lg zad];unfold bj bh
   repeat' (first | rfl | split)
   all_goals first | rfl | (simp_all [pOf,cZ,gi,cD,aZ,fV])
  | cons y r =>
   have h2:¬ (x::y::r).length<2:=zad;rw [Ref.said,Ld h2];unfold bj bh;simp only [Ref.is,show Ref.at' (x::y::r) 0=x from rfl,show Ref.at' (x::y::r) 1=y from rfl,List.drop_succ_cons,List.drop_zero];cases hS:(x.toList == Ref.cJ)
   ·cases hP:(x.toList == Ref.aL)
    ·cases hF:(x.toList == Ref.bV)
     ·cases hH:(x.toList == Ref.bg)
      ·cases hO:(x.toList == Ref.cOn)
       ·cases hA:(x.toList == Ref.iw)
        ·cases hE:(x.toList == Ref.kJ)
         ·cases hL:(x.toList == Ref.oH)
          ·simp
          ·have ex:Go.PlainAid.bt x 0=108:=by
            rw [jP (b:=⟨#[108,101,97,118,101]⟩) hL zas];rfl
           simp only [Bool.or_true,Bool.false_or,Bool.false_eq_true,if_false,if_true];exact zdL
         ·have ex:Go.PlainAid.bt x 0=101:=by
           rw [jP (b:=⟨#[101,110,116,101,114]⟩) hE zas];rfl
          simp only [Bool.true_or,Bool.or_self,Bool.false_eq_true,if_false,if_true];exact zdL
        ·simp only [Bool.or_self,Bool.false_eq_true,if_false,if_true];rw [uh,gH];cases Ref.cd y
         ·exact zej
         ·exact zd1
       ·simp only [Bool.or_self,Bool.false_eq_true,if_false,if_true];rw [uh,dy];cases Ref.bW y
        ·exact zej
        ·exact zd1
      ·have ex:x=cW:=jP hH bO;simp only [Bool.or_self,Bool.false_eq_true,if_false,if_true];unfold cZ;rw [dy];cases hp:Ref.plain y
       ·simp
       ·simp only [if_true,Bool.true_and];cases r with
        | nil=>simp [Ref.tO,aE,bp,ex]
        | cons z t =>
         simp only [CX];cases hz:(z.toList == Ref.B1)
         ·simp [Ref.tO,Ref.is,show Ref.at' (x::y::z::t) 2=z from rfl,hz]
         ·cases t with
          | nil =>
           have ez:z.toList=Ref.B1:=eq_of_beq hz;simp [Ref.tO,Ref.is,show Ref.at' [cW,y,z] 2=z from rfl,ez,aE,bp,ex]
          | cons _ _=>simp [Ref.tO]
     ·have ex:x=kG:=jP hF iz;simp only [Bool.or_true,Bool.false_eq_true,if_false,if_true];exact zd8
    ·have ex:x=fi:=jP hP eS;simp only [Bool.true_or,Bool.or_true,Bool.false_eq_true,if_false,if_true];exact zd8
   ·have ex:x=kH:=jP hS iG;simp only [Bool.true_or,if_true];exact zd8
theorem zr (num:Nat) (L:PL):¬ (aE num L).kind=0:=by cases L <;> simp [aE]
end Pro
end
section
open Go.RowKit
open Go.PlainAid (bt get_bt bt_nonneg bt_le bt_end)
namespace Pro
def iM (c:UInt8):List UInt8->List (List UInt8)
 | []=>[[]]
 | x::l=>if x == c then []::iM c l else match iM c l with
  | []=>[[x]]
  | h::t=>(x::h)::t
theorem EU (c:UInt8) (l:List UInt8):iM c l≠[]:=by
 cases l with
 | nil=>simp [iM]
 | cons x l =>
  rw [iM];split
  ·simp
  ·split <;> simp
theorem oL (c:UInt8):∀ l:List UInt8,Lib.indexByte l c = -1->iM c l=[l]
 | [],_=>rfl
 | x::l,h=>by
  rw [Lib.indexByte] at h;rw [iM];by_cases hx:(x == c)=true
  ·rw [Lg hx] at h;cases h
  ·rw [Ld hx] at h ⊢;by_cases hl:(Lib.indexByte l c == -1)=true
   ·rw [oL c l (by simpa using hl)]
   ·rw [Ld hl] at h;have:=Lib.indexByte_ge l c;omega
theorem xC (c:UInt8):∀ (l:List UInt8) (i:Nat),Lib.indexByte l c=i->iM c l=l.take i::iM c (l.drop (i+1))
 | [],i,h=>by
  have h:(-1:Int)=i:=h;omega
 | x::l,i,h=>by
  rw [Lib.indexByte] at h;rw [iM];by_cases hx:(x == c)=true
  ·rw [Lg hx] at h ⊢;have:i=0:=zaa;subst this;simp
  ·rw [Ld hx] at h ⊢;by_cases hl:(Lib.indexByte l c == -1)=true
   ·rw [Lg hl] at h;omega
   ·rw [Ld hl] at h;have:=Lib.indexByte_ge l c;have hl':¬ Lib.indexByte l c = -1:=by simpa using hl
    obtain ⟨j,rfl⟩:∃ j,i=j+1:=⟨i-1,zaa⟩;rw [xC c l j zaa];simp
theorem tM (c x:UInt8):∀ l:List UInt8,iM c (l++[x])=if x == c then iM c l++[[]] else (iM c l).set ((iM c l).length-1) ((iM c l)[(iM c l).length-1]?.getD []++[x])
 | []=>by
  rw [P5,iM];split <;> rename_i h <;> simp [iM] <;> simpa using h
 | y::l=>by
  rw [PU,iM,tM c x l,iM];have hp:=EU c l;by_cases hy:(y == c)=true
  ·rw [Lg hy,Lg hy];split
   ·rfl
   ·obtain ⟨h,t,e⟩:=Oz hp;rw [e];simp
  ·rw [Ld hy,Ld hy];obtain ⟨h,t,e⟩:=Oz hp;rw [e];by_cases hx:(x == c)=true
   ·rw [Lg hx,Lg hx];rfl
   ·rw [Ld hx,Ld hx];cases t with
    | nil=>simp
    | cons u t=>simp
theorem zg (c:UInt8):∀ (n:Nat) (s:ByteArray),s.size<=n->(Lib.splitB ⟨#[c]⟩ 0 (Lib.countB s ⟨#[c]⟩) s).map (·.data.toList)=iM c s.data.toList:=by
 have hone:∀ s:ByteArray,Lib.indexB s ⟨#[c]⟩=Lib.indexByte s.data.toList c:=by
  intro s;have:=Lib.one s ⟨#[c]⟩ rfl;rw [this]
  congr 1
  show ((c.toNat:Int).toNat).toUInt8=c;simp
 intro n
 induction n with
 | zero =>
  intro s hs;have h0:s.data.toList=[]:=by
   have:=Of s;exact Nt.1 zaa
  have hm:Lib.indexB s ⟨#[c]⟩ = -1:=by rw [hone,h0];rfl
  exact zeq
 | succ n ih =>
  intro s hs
  rcases Lib.indexB_cases s ⟨#[c]⟩ with hm | ⟨i,hi,hle⟩
  ·exact zeq
  ·have h1:(⟨#[c]⟩:ByteArray).size=1:=rfl;rw [Lib.countB_hit s _ i (by rw [h1];exact K7 _) hi,Nat.add_comm 1,Lib.splitB_hit _ _ _ _ i hi,NM,Lib.extract_from_zero,h1,Nat.add_zero];rw [ih (s.extract (i+1) s.size) zaf,Lib.extract_to_end,xC c s.data.toList i (by rw [<- hone];exact hi)]
theorem xL (h:k<s.size):(s.extract k (k+1)).data.toList=[s.data.toList[k]'(by rw [<- Of];exact h)]:=by
 rw [Lib.extract_data,Nat.add_sub_cancel_left];rw [List.take_one,List.head?_drop,K8 (by rw [<- Of];exact h)];rfl
theorem p5 (h:k<s.size):bt s k=((s.data.toList[k]'(by rw [<- Of];exact h)).toNat:Int):=by
 rw [<- get_bt s k h];rfl
theorem xq (a b:ByteArray):(a++b).data.toList=a.data.toList++b.data.toList:=zad
theorem qH (s:ByteArray) (c:UInt8):∀ k,k<=s.size->(Ref.de s (c.toNat:Int) k).map (·.data.toList)=iM c (s.data.toList.take k)
 | 0,_=>by rw [Ref.de,List.take_zero];rfl
 | k+1,hk=>by
  have hk':k<s.size:=zaa;have hl:k<s.data.toList.length:=by rw [<- Of];exact hk'
  have ih:=qH s c k zaa;rw [ML,K8 hl,Option.toList_some,tM,<- ih];by_cases h:(s.data.toList[k] == c)=true
  ·rw [Lg h,Ref.Hi (by rw [p5 hk',eq_of_beq h]),Mc];rfl
  ·rw [Ld h,Ref.JG (by
    rw [p5 hk'];intro e;apply h
    have:s.data.toList[k].toNat=c.toNat:=zaa;rw [Pk.1 this];simp),OF,xq,xL hk',Lt,Lv]
   have hp:=Ref.lD s (c.toNat:Int) k;rw [K8 zaa];rfl
theorem nJ:∀ {a b:List ByteArray},a.map (·.data.toList)=b.map (·.data.toList)->a=b
 | [],[],_=>rfl
 | [],_::_,h=>by simp at h
 | _::_,[],h=>by simp at h
 | x::a,y::b,h=>by
  simp only [List.map_cons,List.cons.injEq] at h;rw [nJ h.2];have:x=y:=by rw [<- P9 x,h.1,P9]
  rw [this]
theorem uD (s:ByteArray) (c:UInt8):Lib.splitB ⟨#[c]⟩ 0 (Lib.countB s ⟨#[c]⟩) s=Ref.cut s (c.toNat:Int):=by
 apply nJ
 rw [zg c s.size s (K7 _)];unfold Ref.cut;rw [qH s c s.size (K7 _),List.take_of_length_le (by rw [<- Of];exact K7 _)]
theorem CW (s:ByteArray) (c:UInt8):Lib.countB s ⟨#[c]⟩+1=(Ref.cut s (c.toNat:Int)).length:=by
 rw [<- uD,Lib.splitB_all _ (show 1<=(⟨#[c]⟩:ByteArray).size from K7 1) 0 _ s rfl]
theorem nr (t:ByteArray):∀ (f d:Nat),d+f=t.size->t.data.toList.drop (Ref.iR t f d)=(t.data.toList.drop d).dropWhile (· == 32)/\d<=Ref.iR t f d
 | 0,d,h=>by
  rw [Ref.iR,List.drop_eq_nil_of_le (by rw [<- Of];omega)];exact ⟨rfl,K7 _⟩
 | f+1,d,h=>by
  have hd:d<t.size:=zaa;have hl:d<t.data.toList.length:=by rw [<- Of];exact hd
  rw [Ref.iR,N3 hl,List.dropWhile_cons];by_cases hb:bt t d=32
  ·have hx:(t.data.toList[d] == 32)=true:=by
    rw [p5 hd] at hb;have:t.data.toList[d].toNat=(32:UInt8).toNat:=by
     have e:(32:UInt8).toNat=32:=rfl;omega
    rw [Pk.1 this];rfl
   have ih:=nr t f (d+1) zaa;rw [Lg hb,Lg hx];exact ⟨ih.1,by have:=ih.2;omega⟩
  ·have hx:¬ (t.data.toList[d] == 32)=true:=by
    intro e;apply hb
    rw [p5 hd,eq_of_beq e];rfl
   rw [Ld hb,Ld hx,N3 hl];exact ⟨rfl,K7 _⟩
theorem D8 (t:ByteArray):(⟨(Lib.trimLeftB t.data.toList 32).toArray⟩:ByteArray)=Ref.rest t:=by
 have h:=(nr t t.size 0 zaa).1;rw [List.drop_zero] at h;have e:(Ref.rest t).data.toList=Lib.trimLeftB t.data.toList 32:=by
  unfold Ref.rest Lib.trimLeftB;rw [Lib.extract_to_end];exact h
 rw [<- e,P9]
theorem uu (t:ByteArray):(Ref.rest t).size+Ref.cX t=t.size:=by
 have:=Ref.tF t;unfold Ref.rest;simp;omega
end Pro
end
section
open Go.RowKit
structure uV (w:World):Prop where
 env:Env w
 maxL:∃ m,w.cell? ⟨3,0,none⟩=some ↑(m:Int)
theorem uV.aq (h:uV w) (hb:Below w w w'):uV w' :=
 ⟨h.env.aq hb,let ⟨m,hm⟩:=h.maxL;⟨m,(Ln (hb.block _ (LC _ _ hm))).trans hm⟩⟩
theorem uC (s:ByteArray) (c:UInt8) (w:World) (hv:uV w) (hs:s.size<4294967281):() 140 #[s,.string ⟨#[c]⟩] w fun e w' =>
  e = .returned (.slice w (Ref.cut s (c.toNat:Int)).length (Ref.cut s (c.toNat:Int)).length)/\w'=w.alloc (.cells ((Ref.cut s (c.toNat:Int)).map Value.string).toArray 9):=by
 obtain ⟨m,hm⟩:=hv.maxL;refine (strings_Split s ⟨#[c]⟩ m w hs hm (K7 1)).mono ?_;rintro e w' ⟨rfl,rfl⟩;rw [Pro.uD,Pro.CW];exact ⟨rfl,rfl⟩
theorem sy {b:Nat} {t:TypeId} {fz:Nat×Nat} (h:w.heap[b]?=some (.cells (l.map Value.string).toArray t fz)):qq w b 0 l:=by
 intro i hi;rw [Nq,Lb w b i _ _ _ h];simp [Ref.at',List.getElem?_eq_getElem hi,List.getD_eq_getElem?_getD]
theorem qI {c:Int}:∀ x∈Ref.cut s c,x.size<=s.size:=Ref.iS s c s.size (K7 _)
theorem p7 {c:Int}:(Ref.cut s c).length<=s.size+1:=Ref.nu s c s.size
def gS (num:Nat) (t:ByteArray) (w:World) (e:Ending) (w':World):Prop:=match Pro.bj num (Ref.cut (Ref.rest t) 32) with
 | none=>aW 2 num w e w'
 | some L=>Below w.heap.size w w'/\∃ v,e = .returned v/\eN w' w.heap.size num (Ref.cX t) L v
theorem wE {p:Nat} {er line:Int} {w0:World} {e:Ending} (hb:Below w0 w0 w) (hp:w0.heap.size<=p) (h:cG p er line w e w'):aW er line w0 e w':=by
 obtain ⟨ht,b,h2,h3,h4⟩:=h;exact ⟨ht.below hb hp hb.size,b,La hb.size h2,h3,h4⟩
theorem eN.mono {w:World} {base base':Nat} {num dep:Int} {L:Pro.PL} {v:Value} (h:eN w base num dep L v) (hb:base'<=base):eN w base' num dep L v:=by
 cases L with
 | state k n=>exact h
 | move ev af d t A=>obtain ⟨a,n,c,h1,h2⟩:=h;exact ⟨a,n,c,h1,aD h2 hb⟩
 | enter A=>obtain ⟨a,n,c,h1,h2⟩:=h;exact ⟨a,n,c,h1,aD h2 hb⟩
 | leave A=>obtain ⟨a,n,c,h1,h2⟩:=h;exact ⟨a,n,c,h1,aD h2 hb⟩
theorem wD (num:Nat) (t:ByteArray) (w:World) (hv:uV w) (ht:t.size<=1000000) (hnum:num<=1073741824) :
  () 142 #[(num:Int),t] w (gS num t w):=by
 have hr:=Pro.uu t;have hct:=Pro.D8 t;go_enter func142,ntmps142;go_wp2_with fail;refine (strings_TrimLeft_one t 32 zac _).mono ?_;rintro e w9 ⟨rfl,hw9⟩;rw [hw9,hct];clear hw9 w9 hct;dsimp only;go_wp2_with fail;refine (uC (Ref.rest t) 32 _ hv zaa).mono ?_;rintro e w9 ⟨rfl,hw9⟩;rw [hw9];clear hw9 w9;obtain ⟨l,hl⟩:∃ l,l=Ref.cut (Ref.rest t) ((32:UInt8).toNat:Int):=⟨_,rfl⟩;rw [<- hl];have hlen:l.length<=t.size+1:=by rw [hl];exact La p7 zaa
 have hsz:∀ x∈l,x.size<=t.size:=by rw [hl];exact fun x hx=>La (qI x hx) zaa
 have HL:Hid _:=hl;clear hl;dsimp only;go_wp2_with fail;have hdep:(t.size:Int)-((Ref.rest t).size:Int)=(Ref.cX t:Int):=zaa;rw [hdep];obtain ⟨w1,hw1⟩:∃ y,y=(w.alloc (.cells (l.map Value.string).toArray 9)).alloc (.cells #[(num:Int),.int .i64 (Ref.cX t),.slice w l.length l.length] 343):=⟨_,rfl⟩;rw [<- hw1];have hb1:Below w w w1:=zbq;have hws:w.heap.size+1<w1.heap.size:=by rw [hw1];simp
 have H1:ah w1 (w.heap.size+1) num (Ref.cX t) l:=by
  rw [hw1];refine ⟨⟨some ⟨w,0,none⟩,l.length,bM _ _ _,K7 _,fun _=>⟨w.heap.size,0,rfl,zaa,zaf,sy (eF _ _ _)⟩⟩,zaa,fun x hx=>by have:=hsz x hx;omega⟩
 have hv1:bE (w.heap.size+1) w1:=⟨w,zaa,hv.env,hb1⟩;clear hw1 hsz hlen;refine (Fy (w.heap.size+1) num (Ref.cX t) l w1 H1 hv1 hnum).mono ?_;rintro e w2 h2;unfold aS at h2;have HP:Hid (gS num t w=fun e w'=>match Pro.bj num l with
  | none=>aW 2 num w e w'
  | some L=>Below w.heap.size w w'/\∃ v,e = .returned v/\eN w' w.heap.size num (Ref.cX t) L v):=by
  unfold Hid gS;rw [HL.out];rfl
 cases hp:Pro.bh num l with
 | none =>
  rw [hp] at h2;have HW:Hid (Pro.bj num l=none):=zbK;obtain ⟨hb,b,h4,h5,rfl⟩:=wE hb1 zaa h2;dsimp only;refine ⟨rfl,?_⟩;rw [HP.out];simp only;rw [HW.out];exact ⟨hb,b,h4,h5,rfl⟩
 | some q =>
  obtain ⟨L,r⟩:=q;rw [hp] at h2;obtain ⟨v,rfl,hL,ht2,H2⟩:=h2;have hb2:Below w w w2:=ht2.below hb1 zaa hb1.size;have hL2:=hL.mono (show w.heap.size<=w1.heap.size by omega);cases r with
  | nil =>
   have HW:Hid (Pro.bj num l=some L):=zbK;clear hp hL ht2 H1 hv1;dsimp only;go_wp2_with fail;refine (JL (w.heap.size+1) num (Ref.cX t) _ H2).mono ?_;rintro e w9 ⟨rfl,hw9⟩;rw [hw9];clear hw9 w9;dsimp only;go_wp2;go_ret;rw [HP.out];simp only;rw [HW.out];exact ⟨hb2,v,rfl,hL2⟩
  | cons y r =>
   have HW:Hid (Pro.bj num l=none):=zbK;clear hp hL ht2 H1 hv1;dsimp only;go_wp2_with fail;refine (Hl (w.heap.size+1) num (Ref.cX t) (y::r) _ H2 zad).mono ?_;rintro e w3 hq;obtain ⟨hb,b,h4,h5,rfl⟩:=hq;dsimp only;refine ⟨rfl,?_⟩;rw [HP.out];simp only;rw [HW.out];exact ⟨hb2.trans (hb.mono hb2.size),b,La hb2.size h4,h5,rfl⟩
theorem oI (s:ByteArray) (w:World) (hs:s.size<=281474976710656):() 141 #[s] w fun e w'=>e = .returned s/\Below w w w':=by
 go_enter func141,ntmps141;go_wp2_with fail;refine (stringslite_Clone s _ hs).mono ?_;rintro e w1 ⟨rfl,hb⟩;dsimp only;go_wp2;go_ret;exact ⟨rfl,hb⟩
theorem Fc:(Tryz.prog.info? 224).map (fun i=>(i.zero,i.size,i.bytes))=some (some .nilIface,1,16):=zab
namespace Pro
def wl (P:List ByteArray) (i:Nat):List ByteArray:=Ref.cut (Ref.rest (Ref.pc P i)) 32
theorem jX (P:List ByteArray) (i:Nat):Ref.gN (Ref.pc P i) i=((bj (i+1) (wl P i)).map (aE (i+1))).getD Ref.gh:=Gd (i+1) _
theorem yx (h:bj (i+1) (wl P i)=none):(Ref.gN (Ref.pc P i) i).kind=0:=by rw [jX,h];rfl
theorem pE {L:PL} (h:bj (i+1) (wl P i)=some L):Ref.gN (Ref.pc P i) i=aE (i+1) L:=by rw [jX,h];rfl
end Pro
structure jM (w:World) (P:List ByteArray) (k:Nat) (vs:List Value) (LS:List Pro.PL):Prop where
 lv:vs.length=k
 ll:LS.length=k
 row:∀ j (h:j<k),Pro.bj (j+1) (Pro.wl P j)=some (LS[j]'(zaa))/\eN w 0 (j+1:Nat) (Ref.cX (Ref.pc P j)) (LS[j]'(zaa)) (vs[j]'(zaa))
theorem eN.aq {w w':World} {num dep:Int} {L:Pro.PL} {v:Value} (h:eN w 0 num dep L v) (hb:Below w w w'):eN w' 0 num dep L v:=by
 cases L with
 | state k n=>exact h
 | move ev af d t A=>obtain ⟨a,n,c,h1,h2⟩:=h;exact ⟨a,n,c,h1,aY h2 hb⟩
 | enter A=>obtain ⟨a,n,c,h1,h2⟩:=h;exact ⟨a,n,c,h1,aY h2 hb⟩
 | leave A=>obtain ⟨a,n,c,h1,h2⟩:=h;exact ⟨a,n,c,h1,aY h2 hb⟩
theorem eN.tag {w w':World} {num dep:Int} {L:Pro.PL} {v:Value} {g:Nat} {c:Array Value} {t:TypeId} {fz:Nat×Nat} (h:eN w 0 num dep L v) (ho:gJ g w w') (hg:w.heap[g]?=some (.cells c t fz)) (hne:324≠t):eN w' 0 num dep L v:=by
 cases L with
 | state k n=>exact h
 | move ev af d t A=>obtain ⟨a,n,c,h1,h2⟩:=h;exact ⟨a,n,c,h1,lR h2 ho hg hne⟩
 | enter A=>obtain ⟨a,n,c,h1,h2⟩:=h;exact ⟨a,n,c,h1,lR h2 ho hg hne⟩
 | leave A=>obtain ⟨a,n,c,h1,h2⟩:=h;exact ⟨a,n,c,h1,lR h2 ho hg hne⟩
theorem eN.iface {w:World} {base:Nat} {num dep:Int} {L:Pro.PL} {v:Value} (h:eN w base num dep L v):∃ t u,v = .iface t u:=by
 cases L with
 | state k n=>exact ⟨_,_,h⟩
 | move ev af d t A=>obtain ⟨a,n,c,h1,h2⟩:=h;exact ⟨_,_,h1⟩
 | enter A=>obtain ⟨a,n,c,h1,h2⟩:=h;exact ⟨_,_,h1⟩
 | leave A=>obtain ⟨a,n,c,h1,h2⟩:=h;exact ⟨_,_,h1⟩
theorem jM.next {LS:List Pro.PL} {v:Value} {L:Pro.PL} (H:jM w P k vs LS) (hk:∀ num dep L v,eN w 0 num dep L v->eN w' 0 num dep L v)
  (h1:Pro.bj (k+1) (Pro.wl P k)=some L) (h2:eN w' 0 (k+1:Nat) (Ref.cX (Ref.pc P k)) L v):jM w' P (k+1) (vs++[v]) (LS++[L]):=by
 have hlv:=H.lv;have hll:=H.ll;refine ⟨by simp [hlv],by simp [hll],fun j hj => ?_⟩;by_cases e:j=k
 ·subst e;rw [ME zaa,ME zaa];simp only [hlv,hll,Nat.sub_self,List.getElem_cons_zero];exact ⟨h1,h2⟩
 ·have hj':j<k:=zaa;obtain ⟨r1,r2⟩:=H.row j hj';rw [MH zaa,MH zaa];exact ⟨r1,hk _ _ _ _ r2⟩
def dD (s:ByteArray) (w:World) (e:Ending) (w':World):Prop :=
 if 1500<s.size then aW 1 0 w e w'
 else match Ref.syn (Ref.cut s 10) with
  | some i=>aW 2 ((i:Int)+1) w e w'
  | none=>Below w.heap.size w w'/\∃ lb vs LS,e = .returned (.slice (some ⟨lb,0,none⟩) vs.length vs.length)/\w'.heap[lb]?=some (.cells vs.toArray 224 (0,0))/\0<vs.length/\jM w' (Ref.cut s 10) ((Ref.cut s 10).length-1) vs LS
theorem rW (s:ByteArray) (w:World) (hs:1500<s.size) (hs2:s.size<=1073741824) :
  () 106 #[s] w (dD s w):=by
 go_enter func106,ntmps106;go_wp2_with fail;refine (aT 0 0 1 _).mono ?_;rintro e w1 ⟨hb,b,h4,h5,rfl⟩;dsimp only;refine ⟨rfl,?_⟩;unfold dD;rw [Lg hs];exact ⟨hb,b,h4,h5,rfl⟩
theorem Gg {m:Nat} (hk:vs.length=k) (v:Value):(vs++List.replicate (m+1) Value.nilIface).toArray.setIfInBounds k v=((vs++[v])++List.replicate m Value.nilIface).toArray:=by
 rw [List.setIfInBounds_toArray,Ov _ _ zaa,hk,Oh,List.replicate_succ,List.set_cons_zero];simp
theorem FA (n:Nat):madeCells #[Value.nilIface] n=(List.replicate n Value.nilIface).toArray:=by
 apply Array.ext
 ·simp [madeCells]
 ·intro i h1 h2;simp [madeCells,Nat.mod_one]
theorem tj (s:ByteArray) (w:World) (hv:uV w) (hs:s.size<=1500) :
  () 106 #[s] w (dD s w):=by
 obtain ⟨P,hP⟩:∃ P,P=Ref.cut s ((10:UInt8).toNat:Int):=⟨_,rfl⟩;have hpos:0<P.length:=by rw [hP];exact Ref.lD _ _ _
 obtain ⟨n,hn⟩:∃ n,P.length=n+1:=⟨P.length-1,zaa⟩;clear hpos;have hlen:n<=1500:=by
  have:P.length<=s.size+1:=by rw [hP];exact p7
  omega
 have HSZ:Hid (∀ j,(Ref.pc P j).size<=1500):=by
  intro j;unfold Ref.pc;rw [Lm];cases e:P[j]? with
  | none=>exact Lk _
  | some x=>rw [hP] at e;exact La (qI x (Lj e)) hs
 have HPost:Hid (dD s w=fun e w'=>match Ref.syn P with
  | some i=>aW 2 ((i:Int)+1) w e w'
  | none=>Below w.heap.size w w'/\∃ lb vs LS,e = .returned (.slice (some ⟨lb,0,none⟩) vs.length vs.length)/\w'.heap[lb]?=some (.cells vs.toArray 224 (0,0))/\0<vs.length/\jM w' P (P.length-1) vs LS):=by
  funext e w';unfold dD;rw [Ld zaa,hP];rfl
 have hmk:=run_make_row' (P:=prog) 219 224 .nilIface 16 underlying219 Fc rfl .i64 .i64 n zaa zaa;go_enter func106,ntmps106;go_wp2_with fail;refine (oI s _ zaa).mono ?_;rintro e w1 ⟨rfl,hb1⟩;have hv1:=hv.aq hb1;dsimp only;go_wp2_with fail;refine (uC s 10 _ hv1 zaa).mono ?_;rintro e w9 ⟨rfl,hw9⟩;rw [hw9,<- hP];clear hw9 w9;have HPn:Hid (P.length=n+1):=hn;have HP:Hid _:=hP;rw [hn];clear hP hn;dsimp only;go_wp2
 go_loopg [25] n (fun q i wr=>∃ (k:Nat) (vs:List Value) (LS:List Pro.PL),q=n-k/\k<=n/\i = .int .i64 k/\Ref.lg P k=none/\wr.heap[w1.heap.size]?=some (.cells (P.map Value.string).toArray 9 (0,0))/\wr.heap[w1.heap.size+1]?=some (.cells (vs++List.replicate (n-k) Value.nilIface).toArray 224 (0,0))/\jM wr P k vs LS/\Below w w wr/\Below w1 w1 wr)
 case atStart =>
  refine ⟨0,[],[],rfl,Lk _,rfl,rfl,eF _ _ _,?_,⟨rfl,rfl,fun j h=>absurd h zaa⟩,(hb1.alloc hb1.size _).alloc (by have:=hb1.size;simp;omega) _,((K9 _ _).alloc (K7 _) _).alloc zad _⟩;rw [bM,FA];rfl
 case round =>
  obtain ⟨k,vs,LS,hq,hk,rfl,hsyn,hPB,hLB,HL,hbw,hbw1⟩:=hrel;have hlv:=HL.lv;have cP:wr.cell? ⟨w1,k,none⟩=some (.string (Ref.pc P k)):=by
   rw [Lb wr _ k _ _ _ hPB];simp only [List.getElem?_toArray,List.getElem?_map,Ref.pc,List.getD_eq_getElem?_getD];rw [K8 (show k<P.length by rw [HPn.out];omega)];rfl
  have hbs:=hbw.size;have hbs1:=hbw1.size;have lP:=(K6.1 hPB).1;have lL:=(K6.1 hLB).1;by_cases hkn:k<n
  ·have hszk:=HSZ.out k;have hvr:=hv1.aq hbw1;go_wp2_with fail;refine (wD (k+1) (Ref.pc P k) _ hvr zaa zaa).mono ?_;rintro e w2 h2;unfold gS at h2;change (match Pro.bj (k+1) (Pro.wl P k) with | none=>_ | some L=>_) at h2;cases hp:Pro.bj (k+1) (Pro.wl P k) with
   | none =>
    rw [hp] at h2;have HS:Hid (Ref.syn P=some k):=Ref.I5 (by rw [HPn.out];omega) hsyn (Pro.yx hp);obtain ⟨hb,b,h4,h5,rfl⟩:=h2;dsimp only;refine ⟨rfl,?_⟩;rw [HPost.out];simp only;rw [HS.out];exact ⟨hbw.trans (hb.mono hbs),b,La hbs h4,h5,rfl⟩
   | some L =>
    rw [hp] at h2;obtain ⟨hb2,v,rfl,hLV⟩:=h2;obtain ⟨vt,vu,rfl⟩:=hLV.iface;have hPB2:=(hb2.block _ lP).trans hPB;have hLB2:=(hb2.block _ lL).trans hLB;obtain ⟨m,hm⟩:∃ m,n-k=m+1:=⟨n-k-1,zaa⟩;rw [hm] at hLB2;have cL:w2.cell? ⟨w1.heap.size+1,k,none⟩=some .nilIface:=by
     rw [Lb w2 _ k _ _ _ hLB2,NG,Mj zaa,hlv,Oh];rfl
    have fL:w2.frozen? ⟨w1.heap.size+1,k,none⟩=false:=by simp [World.frozen?,hLB2]
    have HSY:Hid (Ref.lg P (k+1)=none):=Ref.D3 hsyn (by rw [Pro.pE hp];exact Pro.zr _ _);have HLV:Hid (eN w2 0 ((k+1:Nat):Int) (Ref.cX (Ref.pc P k)) L (.iface vt vu)):=eN.mono hLV (Lk _);have HH:Hid _:=hPB2;have HH2:Hid _:=hLB2;have HM:Hid _:=hm;have HHL:Hid _:=HL;have HPW:Hid _:=hp;clear hLV hPB2 hLB2 hm hPB hLB hsyn cP hp HL;dsimp only;go_wp2
    go_roundg (n-(k+1))
    case measure=>omega
    case rel =>
     have hs1:=hb1.size;have oo:=aa w2 (w1.heap.size+1) k (.iface vt vu);have hb3:=oo.below (hbw.trans (hb2.mono hbs)) zaa;refine ⟨k+1,vs++[.iface vt vu],LS++[L],rfl,zaa,rfl,HSY.out,?_,?_,?_,hb3,oo.below (hbw1.trans (hb2.mono hbs1)) zaa⟩
     ·rw [oo.block _ zaa];exact HH.out
     ·rw [Lp w2 _ k _ _ (.iface vt vu) HH2.out,Gg hlv,show n-(k+1)=m by have:=HM.out;omega]
     ·refine HHL.out.next (fun num dep L' v' h=>(h.aq hb2).tag oo HH2.out zac) HPW.out (eN.tag HLV.out oo HH2.out zac)
  ·obtain rfl:k=n:=zaa;have hn0:k-k=0:=zaa;rw [hn0] at hLB;have hk1500:=hlen;have HLB:Hid _:=hLB;have HHL:Hid _:=HL;have HSYN:Hid _:=hsyn;clear hLB HL hsyn hPB hq hk hkn hn0;by_cases h0:k=0
   ·have HS:Hid (Ref.syn P=some k):=by
     have:=Ref.zl (P:=P) zbF (fun h=>by have:=h.1;rw [HPn.out] at this;omega);rw [HPn.out] at this;exact this
    subst h0;go_wp2_with fail;refine (aT 1 0 2 _).mono ?_;exact zdC
   ·cases hE:(Ref.pc P k).toList.isEmpty
    case true =>
     have HS:Hid (Ref.syn P=none):=by
      refine Ref.Gp (P:=P) zbF (by rw [HPn.out];omega) ?_;rw [HPn.out];exact hE
     have hE':(Ref.pc P k).toList=[]:=NX.1 hE;go_wp2;go_ret;rw [HPost.out];simp only;rw [HS.out];refine ⟨hbw,w1.heap.size+1,vs,LS,?_,?_,?_,?_⟩
     ·rw [hlv];rfl
     ·have:=HLB.out;simpa using this
     ·omega
     ·have:=HHL.out;rw [HPn.out];exact this
    case false =>
     have HS:Hid (Ref.syn P=some k):=by
      have:=Ref.zl (P:=P) zbF (fun h=>by
       have h:=h.2;rw [HPn.out] at h;have:(Ref.pc P k).toList.isEmpty=true:=h;rw [hE] at this;cases this)
      rw [HPn.out] at this;exact this
     go_wp2_with fail;refine (aT (k+1) 0 2 _).mono ?_;exact zdC
