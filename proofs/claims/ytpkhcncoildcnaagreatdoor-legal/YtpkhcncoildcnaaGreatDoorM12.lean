import Derived.Test.YtpkhcncoildcnaaGreatDoorM11
set_option maxRecDepth 100000
set_option maxHeartbeats 8000000
namespace Go.Proofs.YtpkhcncoildcnaaGreatDoor
variable {zp:Prop}
theorem zc6(h:zp:=by
 go_enter func145,ntmps145;go_wp2_with fail;refine(aH p num dep x r _ H).mono ?_;rintro e w1 ⟨rfl,ho,H1⟩;have TR:=ho.ai;clear ho;dsimp only;go_wp2_with fail;refine(kJ p num dep r _ H1 (hv.ai TR)).mono ?_;rintro e w2 hq;unfold eS at hq;rw[hn]at hq;obtain⟨a,n,c,rfl,TN,Ur,H2⟩:=hq;have Uz:=aC TN TR.size;clear hn TN;dsimp only;go_wp2;go_ret;unfold aU;rw[HS.out];exact⟨_,rfl,⟨a,n,c,rfl,Uz⟩,TR.trans Ur,H2⟩):zp:=h
theorem zc9(h:zp:=by
 go_enter func145,ntmps145;go_wp2_with fail;refine(aH p num dep x r _ H).mono ?_;rintro e w1 ⟨rfl,ho,H1⟩;have TR:=ho.ai;clear ho;dsimp only;go_wp2_with fail;refine(kJ p num dep r _ H1 (hv.ai TR)).mono ?_;rintro e w2 hq;unfold eS at hq;rw[hn]at hq;obtain⟨ht,b,h4,h5,rfl⟩:=hq;dsimp only;refine⟨rfl,?_⟩;unfold aU;rw[HS.out];exact⟨TR.trans ht,b,Ox TR.size h4,h5,rfl⟩):zp:=h
theorem zds(h:zp:=by
 rintro e w2 hq;unfold iq at hq;rw[hn]at hq;obtain⟨a,n,c,rfl,TN,Ur,H2⟩:=hq;have Uz:=aC TN VL.size;clear hn TN;dsimp only;go_wp2;go_ret;unfold aU;rw[HS.out];exact⟨_,rfl,⟨a,n,c,rfl,Uz⟩,VL.trans Ur,H2⟩):zp:=h
theorem zdF(h:zp:=by
 rintro e w2 hq;unfold iq at hq;rw[hn]at hq;obtain⟨ht,b,h4,h5,rfl⟩:=hq;dsimp only;refine⟨rfl,?_⟩;unfold aU;rw[HS.out];exact⟨VL.trans ht,b,Ox VL.size h4,h5,rfl⟩):zp:=h
theorem zdN(h:zp:=by
 rintro e w2 ⟨hb,b,h4,h5,rfl⟩;dsimp only;refine⟨rfl,?_⟩;rw[Z8.out];simp only;rw[HS.out];exact⟨Ui.trans (hb.mono U5),b,Ox U5 h4,h5,rfl⟩):zp:=h
theorem zdQ(h:zp:=by
 rintro e w2 hq;obtain⟨ht,b,h4,h5,rfl⟩:=hq;dsimp only;refine⟨rfl,?_⟩;unfold aU;rw[HS.out];exact⟨TR.trans ht,b,Ox TR.size h4,h5,rfl⟩):zp:=h
theorem zdT(h:zp:=by
 obtain⟨ht,b,h4,h5,rfl⟩:=hq;dsimp only;refine⟨rfl,?_⟩;unfold aU;rw[HS.out];exact⟨TR.trans ht,b,Ox TR.size h4,h5,rfl⟩):zp:=h
theorem zdV(h:zp:=by
 rw[sC];cases cW (y::r) with
 |none=>rfl
 |some q=>
  obtain⟨A,t⟩:=q;cases t with
  |nil=>simp[aF,ex]
  |cons _ _=>rfl):zp:=h
theorem zd1(h:zp:=by
 rintro e w2 ⟨rfl,Ur,H2⟩;dsimp only;go_wp2;go_ret;unfold aU;rw[HS.out];exact⟨_,rfl,rfl,TR.trans Ur,H2⟩):zp:=h
theorem zef(h:zp:=by
 simp only[if_true];cases gQ r with
 |none=>rfl
 |some q=>obtain⟨⟨_,_⟩,t⟩:=q;cases t<;>rfl):zp:=h
theorem zep(h:zp:=by
 rw[dN];cases hp:U.plain y
 ·simp
 ·cases r with
  |nil=>simp[aF,bB,ex]
  |cons _ _=>simp):zp:=h
theorem zeA(h:zp:=by
 cases gQ r with
 |none=>rfl
 |some q=>obtain⟨q,t⟩:=q;cases t<;>rfl):zp:=h
theorem zeC(h:zp:=by
 split
 ·exact⟨h0 0,h0 1,jC,fun a ha=>absurd ha zad,OL _⟩
 ·exact dK):zp:=h
theorem zeI(h:zp:=by
 rw[Lib.splitB_miss _ _ _ _ hm,pX c _ (by rw[<- U1];exact hm)];rfl):zp:=h
theorem zeL(h:zp:=by
 go_meet
 case rel=>exact⟨false,rfl,M1,TR,.inr ⟨rfl,zaM,H1⟩⟩):zp:=h
theorem ze6(h:zp:=by
 cases U.cJ d
 ·rfl
 ·simp only[if_true];rw[xz,hy];rfl):zp:=h
theorem zaF(h:zp:=by simp[World.frozen?,l5]):zp:=h
theorem zaM(h:zp:=by first|rfl|trivial):zp:=h
theorem zbA(h:zp:=by rw[Ul];exact((Oy _ _).alloc (Ow _) _).alloc (by simp) _):zp:=h
theorem zbQ(h:zp:=by rw[HPn.out];exact HSYN.out):zp:=h
theorem zbV(h:zp:=by unfold Hid J.bp;rw[hp]):zp:=h
theorem zb2(h:zp:=by show A.length<=_;omega):zp:=h
theorem zb5(h:zp:=by unfold Hid;rw[J.bo,U.cy,h1,U.aE,h2,U.bT,h3,U.aO,h4,U.cOn,h5,U.ja,h6,U.kI,h7,U.nI,h8,hn];rfl):zp:=h
theorem zb6(h:zp:=by unfold Hid;rw[J.bo,U.cy,h1,U.aE,h2,U.bT,h3,U.aO,h4,U.cOn,h5,U.ja,h6,he];simp only;rw[hn];rfl):zp:=h
theorem zb7(h:zp:=by unfold Hid;rw[J.bo,U.cy,h1,U.aE,h2,U.bT,h3,U.aO,h4,U.cOn,h5,U.ja,h6,U.kI,h7,hn];rfl):zp:=h
theorem zb8(h:zp:=by unfold Hid;rw[J.bo,U.cy,h1,U.aE,h2,U.bT,h3,U.aO,h4,U.cOn,h5,he];simp only;rw[hn];rfl):zp:=h
theorem zcf(h:zp:=by unfold Hid;rw[J.bo,U.cy,h1,U.aE,h2,U.bT,h3,U.aO,h4,hn];rfl):zp:=h
theorem zcj(h:zp:=by unfold Hid;rw[J.bo,U.cy,h1,U.aE,h2,U.bT,h3,hn];rfl):zp:=h
theorem zcq(h:zp:=by unfold Hid;rw[J.bo,U.cy,h1,U.aE,h2,hn];rfl):zp:=h
open Tryz
variable {a b x c d y t s:()}{l P r:List ()}{n k i:Nat}{A:List Act}{S S':List U.State}{w w':World}{vs:List Value}
section
open Go.RowKit
theorem Lp:Tryz.f195.results=#[.cell 4 368]:=rfl
theorem pC:(Tryz.prog.info? 368).map (·.size)=some 7:=zab
namespace J
def zx:():=⟨#[116,111]⟩
def pTo:List ()->Option (()×List ())
 |[]=>some (ByteArray.empty,[])
 |y::r=>if y.toList == zx.toList then pOf U.plain r else some (ByteArray.empty,y::r)
def gQ(l:List ()):Option ((()×List U.Act)×List ()):=match pTo l with
 |none=>none
 |some (t,r)=>(bg r).map fun q=>((t,q.1),q.2)
end J
def iq(p:Nat)(num dep:Int)(ev:())(af:Bool)(d:Int)(l:List ())(w:World)(e:Ending)(w':World):Prop:=match J.gQ l with
 |none=>da p 2 num w e w'
 |some ((t,A),r)=>∃a n c,e=.returned (.agg #[.int .i64 num,.int .i64 dep,.string ev,.bool af,.int .u64 d,.string t,.slice a n c])/\w'.ownsRow w.heap.size 271 1 (.slice a n c) A.length (A.map bm)/\ak p w w'/\ah w' p num dep r
structure xk(w w1:World)(ev t:())(af:Bool)(d:Int):Prop where
 m:w1.heap[w.heap.size]?=some (.cells #[ev,af,.int .u64 d,t,.slice none 0 0] 260 (0,0))
 l:w1.heap[w.heap.size+1]?=some (.cells #[(0:Int),(0:Int),ByteArray.empty,false,.int .u64 0,ByteArray.empty,.slice none 0 0] 368 (0,0))
theorem oR(p:Nat)(num dep:Int)(ev:())(af:Bool)(d:Int)(l:List ())(w:World)(H:ah w p num dep l)(hv:bL p w):
  () 195 #[p,.agg #[ev,af,.int .u64 d,ByteArray.empty,.slice none 0 0]] w (iq p num dep ev af d l w):=by
 have Uo:=H.lt;have HPM:Hid (J.gQ l=match J.pTo l with|none=>none|some (t,r)=>(J.bg r).map fun q=>((t,q.1),q.2)):=rfl;go_enter func195,ntmps195
 go_upto_region 1 with fail
 obtain⟨w1,Ul⟩:∃y,y=(w.alloc (.cells #[ev,af,.int .u64 d,ByteArray.empty,.slice none 0 0] 260)).alloc (.cells #[(0:Int),(0:Int),ByteArray.empty,false,.int .u64 0,ByteArray.empty,.slice none 0 0] 368):=⟨_,rfl⟩;change Code.wp _ _ _ _ ((w.alloc (.cells #[ev,af,.int .u64 d,ByteArray.empty,.slice none 0 0] 260)).alloc (.cells #[(0:Int),(0:Int),ByteArray.empty,false,.int .u64 0,ByteArray.empty,.slice none 0 0] 368));rw[<- Ul];have TR:ak p w w1:=by rw[Ul];exact((ak.refl p w).alloc _).alloc _
 have H1:ah w1 p num dep l:=by rw[Ul];exact(H.alloc _).alloc _
 have M1:xk w w1 ev ByteArray.empty af d:=by rw[Ul];exact⟨fk _ _ _,bU _ _ _⟩
 clear Ul;cases Vo:J.pTo l with
 |none=>
  cases l with
  |nil=>cases Vo
  |cons y r=>
   cases hy:(y.toList == J.zx.toList)
   ·rw[J.pTo,hy]at Vo;cases Vo
   ·have hr:J.pOf U.plain r=none:=by rw[J.pTo,hy]at Vo;exact Vo
    have HS:Hid (J.gQ (y::r)=none):=by unfold Hid;rw[HPM.out,Vo]
    clear HPM;go_wp2_with fail;refine(kr p num dep y r J.zx _ H1 hy).mono ?_;rintro e w2 ⟨rfl,ho2,H2⟩;have Ur:=TR.trans ho2.ai;dsimp only;go_wp2_with fail;refine(eF p num dep r _ H2 (hv.ai Ur)).mono ?_;rintro e w3 h3;rw[hr]at h3;obtain⟨U0,b,h4,h5,rfl⟩:=h3;dsimp only;refine⟨rfl,?_⟩;unfold iq;rw[HS.out];exact⟨Ur.trans U0,b,Ox Ur.size h4,h5,rfl⟩
 |some q=>
  obtain⟨t,r⟩:=q;have HS:Hid (J.gQ l=(J.bg r).map fun q=>((t,q.1),q.2)):=by unfold Hid;rw[HPM.out,Vo]
  clear HPM
  go_cut[6] (fun c wx=>∃b:Bool,c=.bool b/\xk w wx ev ByteArray.empty af d/\ak p w wx/\((b=true/\∃r0,J.pOf U.plain r0=some (t,r)/\ah wx p num dep r0)\/(b=false/\t=ByteArray.empty/\ah wx p num dep r)))
  case first=>
   cases l with
   |nil=>
    cases Vo
    go_wp2_with(go_at_call 222;refine(skip_none p num dep J.zx _ H1).mono ?_;rintro e w9 ⟨rfl,Pg⟩;rw[Pg];clear Pg w9);exact zeL
   |cons y r1=>
    cases hy:(y.toList == J.zx.toList)
    ·rw[J.pTo,hy]at Vo;cases Vo
     go_wp2_with(go_at_call 222;refine(rM p num dep y r1 J.zx _ H1 hy).mono ?_;rintro e w9 ⟨rfl,Pg⟩;rw[Pg];clear Pg w9);exact zeL
    ·have hr:J.pOf U.plain r1=some (t,r):=by rw[J.pTo,hy]at Vo;exact Vo
     go_wp2_with(go_at_call 222;refine(kr p num dep y r1 J.zx _ H1 hy).mono ?_;rintro e w2 ⟨rfl,ho2,H2⟩);go_meet
     case rel=>exact⟨true,rfl,⟨(ho2.block _ zaa).trans M1.m,(ho2.block _ zaa).trans M1.l⟩,TR.trans ho2.ai,.inl ⟨rfl,r1,hr,H2⟩⟩
  case rest=>
   obtain⟨b,rfl,M2,Ur,hbb⟩:=hcut;clear M1 H1 TR;obtain⟨w2,hw2⟩:∃y:World,y=wc:=⟨wc,rfl⟩;subst hw2
   go_upto_if 6 with fail
   go_cut[] (fun wx=>xk w wx ev t af d/\ak p w wx/\ah wx p num dep r)
   case first=>
    rcases hbb with⟨rfl,r0,YQ,H2⟩|⟨rfl,rfl,H2⟩
    ·go_wp2_with fail;refine(eF p num dep r0 _ H2 (hv.ai Ur)).mono ?_;rintro e w3 h3;rw[YQ]at h3;obtain⟨rfl,U0,H3⟩:=h3;have hs2:=Ur.size;have lm:=(Ov.1 M2.m).1;have ll:=(Ov.1 M2.l).1;have m3:=(U0.block _ lm zaa).trans M2.m;have l3:=(U0.block _ ll zaa).trans M2.l;have k3:w3.cell? (w,3)=some ↑ByteArray.empty:=by rw[OA w3 _ 3 _ _ _ m3];rfl
     have f3:w3.frozen? (w,3)=false:=by simp[World.frozen?,m3]
     dsimp only;go_wp2;go_meet
     case rel=>
      have oo:=aa w3 w 3 (.string t);refine⟨⟨?_,(oo.block _ zaa).trans l3⟩,(Ur.trans U0).iS oo (Ow _),H3.only oo Uo⟩;rw[OP w3 _ 3 _ _ _ m3];rfl
    ·go_wp2;go_meet
     case rel=>exact⟨M2,Ur,H2⟩
   case rest=>
    obtain⟨M3,U0,H3⟩:=hcut;clear M2 Ur hbb;obtain⟨w3,hw3⟩:∃y:World,y=wc:=⟨wc,rfl⟩;subst hw3;go_wp2_with fail;refine(jw p num dep r _ H3 (hv.ai U0)).mono ?_;rintro e w4 h4;unfold im at h4;cases ha:J.bg r with
    |none=>
     rw[ha]at h4;have Zv:Hid (J.gQ l=none):=by unfold Hid;rw[HS.out,ha];rfl
     obtain⟨VL,b,h5,h6,rfl⟩:=h4;dsimp only;refine⟨rfl,?_⟩;unfold iq;rw[Zv.out];exact⟨U0.trans VL,b,Ox U0.size h5,h6,rfl⟩
    |some q=>
     obtain⟨A,r'⟩:=q;rw[ha]at h4;have Zv:Hid (J.gQ l=some ((t,A),r')):=by unfold Hid;rw[HS.out,ha];rfl
     obtain⟨a,n,c,rfl,TN,VL,H4⟩:=h4;have Wv:=U0.size;have lm:=(Ov.1 M3.m).1;have ll:=(Ov.1 M3.l).1;have m4:=(VL.block _ lm zaa).trans M3.m;have l4:=(VL.block _ ll zaa).trans M3.l;have hown4:=aC TN Wv;have k4:w4.cell? (w,4)=some (.slice none 0 0):=by rw[OA w4 _ 4 _ _ _ m4];rfl
     have f4:w4.frozen? (w,4)=false:=by simp[World.frozen?,m4]
     have o5:=aa w4 w 4 (.slice a n c);have m5:=OP w4 w 4 _ _ (.slice a n c) m4;have l5:=(o5.block (w.heap.size+1) zaa).trans l4;have TQ:=mU hown4 o5 m4 zac;have YI:=(U0.trans VL).iS o5 (Ow _);have H5:=H4.only o5 Uo;clear HS ha M3 U0 H3 TN VL H4 m4 l4 hown4 o5;dsimp only
     go_upto_region 4 with fail
     generalize w4.setCell (w,4) (.slice a n c)=w5 at *;clear k4 f4;obtain⟨c0,c1⟩:=H5.cells;have y0:w5.cell? w=some ↑ev:=by rw[OA w5 _ 0 _ _ _ m5];rfl
     have y1:w5.cell? (w,1)=some (.bool af):=by rw[OA w5 _ 1 _ _ _ m5];rfl
     have y2:w5.cell? (w,2)=some (.int .u64 d):=by rw[OA w5 _ 2 _ _ _ m5];rfl
     have y3:w5.cell? (w,3)=some ↑t:=by rw[OA w5 _ 3 _ _ _ m5];rfl
     have y4:w5.cell? (w,4)=some (.slice a n c):=by rw[OA w5 _ 4 _ _ _ m5];rfl
     have z0:w5.cell? ↑(w.heap.size+1)=some ↑(0:Int):=by rw[OA w5 _ 0 _ _ _ l5];rfl
     have q0:w5.frozen? ↑(w.heap.size+1)=false:=zaF;have z1:w5.cell? (w.heap.size+1,1)=some ↑(0:Int):=by rw[OA w5 _ 1 _ _ _ l5];rfl
     have q1:w5.frozen? (w.heap.size+1,1)=false:=zaF;have z2:w5.cell? (w.heap.size+1,2)=some ↑ByteArray.empty:=by rw[OA w5 _ 2 _ _ _ l5];rfl
     have q2:w5.frozen? (w.heap.size+1,2)=false:=zaF;have z3:w5.cell? (w.heap.size+1,3)=some (.bool false):=by rw[OA w5 _ 3 _ _ _ l5];rfl
     have q3:w5.frozen? (w.heap.size+1,3)=false:=zaF;have z4:w5.cell? (w.heap.size+1,4)=some (.int .u64 0):=by rw[OA w5 _ 4 _ _ _ l5];rfl
     have q4:w5.frozen? (w.heap.size+1,4)=false:=zaF;have z5:w5.cell? (w.heap.size+1,5)=some ↑ByteArray.empty:=by rw[OA w5 _ 5 _ _ _ l5];rfl
     have q5:w5.frozen? (w.heap.size+1,5)=false:=zaF;have z6:w5.cell? (w.heap.size+1,6)=some (.slice none 0 0):=by rw[OA w5 _ 6 _ _ _ l5];rfl
     have q6:w5.frozen? (w.heap.size+1,6)=false:=zaF;have Z1:¬p=w.heap.size+1:=zaa;have hne2:¬w.heap.size+1=p:=zaa;have hne3:¬w.heap.size=w.heap.size+1:=zaa;have HH:Hid (w5.ownsRow w 271 1 (.slice a n c) A.length (A.map bm)/\ak p w w5/\ah w5 p num dep r'):=⟨TQ,YI,H5⟩;have HL5:Hid _:=l5;clear m5 l5 TQ YI H5;refine fa 6 zab zab ?_;simp only[List.take_succ_cons,List.take_zero,List.drop_succ_cons,List.drop_zero]
     repeat still_step
     refine P8 ?_;refine fs rfl 368 (.tmp 4) (.tmp 18) rfl _ 368 _ _ rfl rfl (show w5.drew.heap[w.heap.size+1]?=_ from HL5.out) pC rfl rfl ?_;go_wp2;have G2:=(iA w5.drew (w.heap.size+1) #[(num:Int),(dep:Int),ev,af,.int .u64 d,t,.slice a n c]).Lh;refine ee Lp _ 368 _ (0,0) _ rfl (Tq _ _ _ _ _ _ (show w5.drew.heap[w.heap.size+1]?=_ from HL5.out)) underlying368 rfl pC rfl ?_;unfold iq;rw[Zv.out];exact⟨a,n,c,rfl,mU HH.out.1 G2 HL5.out zac,HH.out.2.1.iS G2 zaa,HH.out.2.2.only G2 zaa⟩
namespace J
inductive PL where
 |state (k:Int) (name:())
 |move (ev:()) (af:Bool) (d:Int) (dst:()) (A:List U.Act)
 |enter (A:List U.Act)
 |leave (A:List U.Act)
def bo(num:Nat):List ()->Option (PL×List ())
 |[]=>none
 |x::r=>
  if x.toList == U.cy then(pOf U.plain r).map fun q=>(.state 0 q.1,q.2)
  else if x.toList == U.aE then(pOf U.plain r).map fun q=>(.state 1 q.1,q.2)
  else if x.toList == U.bT then(pOf U.plain r).map fun q=>(.state 2 q.1,q.2)
  else if x.toList == U.aO then(dw r).map fun q=>(.state q.1.2 q.1.1,q.2)
  else if x.toList == U.cOn then match pOf U.cB r with
   |none=>none
   |some (ev,r1)=>(gQ r1).map fun q=>(.move ev false 0 q.1.1 q.1.2,q.2)
  else if x.toList == U.ja then match gX r with
   |none=>none
   |some (d,r1)=>(gQ r1).map fun q=>(.move (U.bQ++U.dec num) true d q.1.1 q.1.2,q.2)
  else if x.toList == U.kI then(cW r).map fun q=>(.enter q.1,q.2)
  else if x.toList == U.nI then(cW r).map fun q=>(.leave q.1,q.2)
  else none
end J
def fG(w:World)(base:Nat)(num dep:Int):J.PL->Value->Prop
 |.state k n,v=>v=.iface 364 (.agg #[.int .i64 num,.int .i64 dep,.int .i64 k,.string n])
 |.move ev af d t A,v=>∃a n c,v=.iface 368 (.agg #[.int .i64 num,.int .i64 dep,.string ev,.bool af,.int .u64 d,.string t,.slice a n c])/\w.ownsRow base 271 1 (.slice a n c) A.length (A.map bm)
 |.enter A,v=>∃a n c,v=.iface 375 (.agg #[.int .i64 num,.int .i64 dep,.slice a n c])/\w.ownsRow base 271 1 (.slice a n c) A.length (A.map bm)
 |.leave A,v=>∃a n c,v=.iface 376 (.agg #[.int .i64 num,.int .i64 dep,.slice a n c])/\w.ownsRow base 271 1 (.slice a n c) A.length (A.map bm)
def aU(p num:Nat)(dep:Int)(l:List ())(w:World)(e:Ending)(w':World):Prop:=match J.bo num l with
 |none=>da p 2 num w e w'
 |some (L,r)=>∃v,e=.returned v/\fG w' w.heap.size num dep L v/\ak p w w'/\ah w' p num dep r
theorem CG(p num:Nat)(dep:Int)(x:())(r:List ())(w:World)(H:ah w p num dep (x::r))(hv:bL p w)(h1:(x.toList == [115,116,97,116,101])=true):
  () 145 #[p] w (aU p num dep (x::r) w):=by
 cases hn:J.pOf U.plain r with
 |none=>
  have HS:Hid (J.bo num (x::r)=none):=by unfold Hid;rw[J.bo,U.cy,h1,hn];rfl
  go_enter func145,ntmps145;go_wp2_with fail;refine(aH p num dep x r _ H).mono ?_;rintro e w1 ⟨rfl,ho,H1⟩;have TR:=ho.ai;clear ho;dsimp only;go_wp2_with fail;refine(pG p num dep 0 r _ H1 (hv.ai TR) hn).mono ?_;exact zdQ
 |some q=>
  obtain⟨n,r'⟩:=q;have HS:Hid (J.bo num (x::r)=some (.state 0 n,r')):=by unfold Hid;rw[J.bo,U.cy,h1,hn];rfl
  go_enter func145,ntmps145;go_wp2_with fail;refine(aH p num dep x r _ H).mono ?_;rintro e w1 ⟨rfl,ho,H1⟩;have TR:=ho.ai;clear ho;dsimp only;go_wp2_with fail;refine(ni p num dep 0 r r' n _ H1 (hv.ai TR) hn).mono ?_;exact zd1
theorem uO(p num:Nat)(dep:Int)(x:())(r:List ())(w:World)(H:ah w p num dep (x::r))(hv:bL p w)(h1:(x.toList == [115,116,97,116,101])=false)(h2:(x.toList == [112,97,114,97,108,108,101,108])=true):
  () 145 #[p] w (aU p num dep (x::r) w):=by
 cases hn:J.pOf U.plain r with
 |none=>
  have HS:Hid (J.bo num (x::r)=none):=zcq;go_enter func145,ntmps145;go_wp2_with fail;refine(aH p num dep x r _ H).mono ?_;rintro e w1 ⟨rfl,ho,H1⟩;have TR:=ho.ai;clear ho;dsimp only;go_wp2_with fail;refine(pG p num dep 1 r _ H1 (hv.ai TR) hn).mono ?_;exact zdQ
 |some q=>
  obtain⟨n,r'⟩:=q;have HS:Hid (J.bo num (x::r)=some (.state 1 n,r')):=zcq;go_enter func145,ntmps145;go_wp2_with fail;refine(aH p num dep x r _ H).mono ?_;rintro e w1 ⟨rfl,ho,H1⟩;have TR:=ho.ai;clear ho;dsimp only;go_wp2_with fail;refine(ni p num dep 1 r r' n _ H1 (hv.ai TR) hn).mono ?_;exact zd1
theorem CD(p num:Nat)(dep:Int)(x:())(r:List ())(w:World)(H:ah w p num dep (x::r))(hv:bL p w)(h1:(x.toList == [115,116,97,116,101])=false)(h2:(x.toList == [112,97,114,97,108,108,101,108])=false)(h3:(x.toList == [102,105,110,97,108])=true):
  () 145 #[p] w (aU p num dep (x::r) w):=by
 cases hn:J.pOf U.plain r with
 |none=>
  have HS:Hid (J.bo num (x::r)=none):=zcj;go_enter func145,ntmps145;go_wp2_with fail;refine(aH p num dep x r _ H).mono ?_;rintro e w1 ⟨rfl,ho,H1⟩;have TR:=ho.ai;clear ho;dsimp only;go_wp2_with fail;refine(pG p num dep 2 r _ H1 (hv.ai TR) hn).mono ?_;exact zdQ
 |some q=>
  obtain⟨n,r'⟩:=q;have HS:Hid (J.bo num (x::r)=some (.state 2 n,r')):=zcj;go_enter func145,ntmps145;go_wp2_with fail;refine(aH p num dep x r _ H).mono ?_;rintro e w1 ⟨rfl,ho,H1⟩;have TR:=ho.ai;clear ho;dsimp only;go_wp2_with fail;refine(ni p num dep 2 r r' n _ H1 (hv.ai TR) hn).mono ?_;exact zd1
theorem yg(p num:Nat)(dep:Int)(x:())(r:List ())(w:World)(H:ah w p num dep (x::r))(hv:bL p w)(h1:(x.toList == [115,116,97,116,101])=false)(h2:(x.toList == [112,97,114,97,108,108,101,108])=false)(h3:(x.toList == [102,105,110,97,108])=false)(h4:(x.toList == [104,105,115,116,111,114,121])=true):
  () 145 #[p] w (aU p num dep (x::r) w):=by
 cases hn:J.dw r with
 |none=>
  have HS:Hid (J.bo num (x::r)=none):=zcf;go_enter func145,ntmps145;go_wp2_with fail;refine(aH p num dep x r _ H).mono ?_;rintro e w1 ⟨rfl,ho,H1⟩;have TR:=ho.ai;clear ho;dsimp only;go_wp2_with fail;refine(qI p num dep r _ H1 (hv.ai TR)).mono ?_;rintro e w2 hq;rw[hn]at hq;exact zdT
 |some q=>
  obtain⟨⟨n,kk⟩,r'⟩:=q;have HS:Hid (J.bo num (x::r)=some (.state kk n,r')):=zcf;go_enter func145,ntmps145;go_wp2_with fail;refine(aH p num dep x r _ H).mono ?_;rintro e w1 ⟨rfl,ho,H1⟩;have TR:=ho.ai;clear ho;dsimp only;go_wp2_with fail;refine(qI p num dep r _ H1 (hv.ai TR)).mono ?_;rintro e w2 hq;rw[hn]at hq;obtain⟨rfl,Ur,H2⟩:=hq;clear hn;dsimp only;go_wp2;go_ret;unfold aU;rw[HS.out];exact⟨_,rfl,rfl,TR.trans Ur,H2⟩
theorem CB(p num:Nat)(dep:Int)(x:())(r:List ())(w:World)(H:ah w p num dep (x::r))(hv:bL p w)(h1:(x.toList == [115,116,97,116,101])=false)(h2:(x.toList == [112,97,114,97,108,108,101,108])=false)(h3:(x.toList == [102,105,110,97,108])=false)(h4:(x.toList == [104,105,115,116,111,114,121])=false)(h5:(x.toList == [111,110])=false)(h6:(x.toList == [97,102,116,101,114])=false)(h7:(x.toList == [101,110,116,101,114])=true):
  () 145 #[p] w (aU p num dep (x::r) w):=by
 cases hn:J.cW r with
 |none=>
  have HS:Hid (J.bo num (x::r)=none):=zb7;exact zc9
 |some q=>
  obtain⟨A,r'⟩:=q;have HS:Hid (J.bo num (x::r)=some (.enter A,r')):=zb7;exact zc6
theorem CE(p num:Nat)(dep:Int)(x:())(r:List ())(w:World)(H:ah w p num dep (x::r))(hv:bL p w)(h1:(x.toList == [115,116,97,116,101])=false)(h2:(x.toList == [112,97,114,97,108,108,101,108])=false)(h3:(x.toList == [102,105,110,97,108])=false)(h4:(x.toList == [104,105,115,116,111,114,121])=false)(h5:(x.toList == [111,110])=false)(h6:(x.toList == [97,102,116,101,114])=false)(h7:(x.toList == [101,110,116,101,114])=false)(h8:(x.toList == [108,101,97,118,101])=true):
  () 145 #[p] w (aU p num dep (x::r) w):=by
 cases hn:J.cW r with
 |none=>
  have HS:Hid (J.bo num (x::r)=none):=zb5;exact zc9
 |some q=>
  obtain⟨A,r'⟩:=q;have HS:Hid (J.bo num (x::r)=some (.leave A,r')):=zb5;exact zc6
theorem KX(p num:Nat)(dep:Int)(x:())(r:List ())(w:World)(H:ah w p num dep (x::r))(hv:bL p w)(h1:(x.toList == [115,116,97,116,101])=false)(h2:(x.toList == [112,97,114,97,108,108,101,108])=false)(h3:(x.toList == [102,105,110,97,108])=false)(h4:(x.toList == [104,105,115,116,111,114,121])=false)(h5:(x.toList == [111,110])=true):
  () 145 #[p] w (aU p num dep (x::r) w):=by
 cases he:J.pOf U.cB r with
 |none=>
  have HS:Hid (J.bo num (x::r)=none):=by unfold Hid;rw[J.bo,U.cy,h1,U.aE,h2,U.bT,h3,U.aO,h4,U.cOn,h5,he];rfl
  go_enter func145,ntmps145;go_wp2_with fail;refine(aH p num dep x r _ H).mono ?_;rintro e w1 ⟨rfl,ho,H1⟩;have TR:=ho.ai;clear ho;dsimp only;go_wp2_with fail;refine(fV p num dep r _ H1 (hv.ai TR)).mono ?_;rintro e w2 hq;rw[he]at hq;exact zdT
 |some q=>
  obtain⟨ev,r1⟩:=q;cases hn:J.gQ r1 with
  |none=>
   have HS:Hid (J.bo num (x::r)=none):=zb8;go_enter func145,ntmps145;go_wp2_with fail;refine(aH p num dep x r _ H).mono ?_;rintro e w1 ⟨rfl,ho,H1⟩;have TR:=ho.ai;clear ho;dsimp only;go_wp2_with fail;refine(fV p num dep r _ H1 (hv.ai TR)).mono ?_;rintro e w3 h3;rw[he]at h3;obtain⟨rfl,U0,H3⟩:=h3;have VL:=TR.trans U0;clear he H1 U0;dsimp only;go_wp2_with fail;refine(oR p num dep ev false 0 r1 _ H3 (hv.ai VL)).mono ?_;exact zdF
  |some q=>
   obtain⟨⟨t,A⟩,r'⟩:=q;have HS:Hid (J.bo num (x::r)=some (.move ev false 0 t A,r')):=zb8;go_enter func145,ntmps145;go_wp2_with fail;refine(aH p num dep x r _ H).mono ?_;rintro e w1 ⟨rfl,ho,H1⟩;have TR:=ho.ai;clear ho;dsimp only;go_wp2_with fail;refine(fV p num dep r _ H1 (hv.ai TR)).mono ?_;rintro e w3 h3;rw[he]at h3;obtain⟨rfl,U0,H3⟩:=h3;have VL:=TR.trans U0;clear he H1 U0;dsimp only;go_wp2_with fail;refine(oR p num dep ev false 0 r1 _ H3 (hv.ai VL)).mono ?_;exact zds
theorem CA(p num:Nat)(dep:Int)(x:())(r:List ())(w:World)(H:ah w p num dep (x::r))(hv:bL p w)(VZ:num<=1073741824)(h1:(x.toList == [115,116,97,116,101])=false)(h2:(x.toList == [112,97,114,97,108,108,101,108])=false)(h3:(x.toList == [102,105,110,97,108])=false)(h4:(x.toList == [104,105,115,116,111,114,121])=false)(h5:(x.toList == [111,110])=false)(h6:(x.toList == [97,102,116,101,114])=true):
  () 145 #[p] w (aU p num dep (x::r) w):=by
 cases he:J.gX r with
 |none=>
  have HS:Hid (J.bo num (x::r)=none):=by unfold Hid;rw[J.bo,U.cy,h1,U.aE,h2,U.bT,h3,U.aO,h4,U.cOn,h5,U.ja,h6,he];rfl
  go_enter func145,ntmps145;go_wp2_with fail;refine(aH p num dep x r _ H).mono ?_;rintro e w1 ⟨rfl,ho,H1⟩;have TR:=ho.ai;clear ho;obtain⟨c0,c1⟩:=H1.cells;dsimp only;go_wp2_with fail;refine(jk num _ VZ (hv.ai TR).here).mono ?_;rintro e w5 ⟨rfl,Vl⟩;have YI:=TR.trans (aQ Vl);have H5:=H1.aq Vl;clear Vl H1 TR c0 c1;dsimp only;go_wp2_with fail;refine(j7 p num dep r _ H5 (hv.ai YI)).mono ?_;rintro e w2 hq;rw[he]at hq;obtain⟨ht,b,h4,h5,rfl⟩:=hq;dsimp only;refine⟨rfl,?_⟩;unfold aU;rw[HS.out];exact⟨YI.trans ht,b,Ox YI.size h4,h5,rfl⟩
 |some q=>
  obtain⟨d,r1⟩:=q;cases hn:J.gQ r1 with
  |none=>
   have HS:Hid (J.bo num (x::r)=none):=zb6;go_enter func145,ntmps145;go_wp2_with fail;refine(aH p num dep x r _ H).mono ?_;rintro e w1 ⟨rfl,ho,H1⟩;have TR:=ho.ai;clear ho;obtain⟨c0,c1⟩:=H1.cells;dsimp only;go_wp2_with fail;refine(jk num _ VZ (hv.ai TR).here).mono ?_;rintro e w5 ⟨rfl,Vl⟩;have YI:=TR.trans (aQ Vl);have H5:=H1.aq Vl;clear Vl H1 TR c0 c1;dsimp only;go_wp2_with fail;refine(j7 p num dep r _ H5 (hv.ai YI)).mono ?_;rintro e w3 h3;rw[he]at h3;obtain⟨rfl,U0,H3⟩:=h3;have VL:=YI.trans U0;clear he H5 U0;dsimp only;go_wp2_with fail;refine(oR p num dep (U.bQ++U.dec num) true d r1 _ H3 (hv.ai VL)).mono ?_;exact zdF
  |some q=>
   obtain⟨⟨t,A⟩,r'⟩:=q;have HS:Hid (J.bo num (x::r)=some (.move (U.bQ++U.dec num) true d t A,r')):=zb6;go_enter func145,ntmps145;go_wp2_with fail;refine(aH p num dep x r _ H).mono ?_;rintro e w1 ⟨rfl,ho,H1⟩;have TR:=ho.ai;clear ho;obtain⟨c0,c1⟩:=H1.cells;dsimp only;go_wp2_with fail;refine(jk num _ VZ (hv.ai TR).here).mono ?_;rintro e w5 ⟨rfl,Vl⟩;have YI:=TR.trans (aQ Vl);have H5:=H1.aq Vl;clear Vl H1 TR c0 c1;dsimp only;go_wp2_with fail;refine(j7 p num dep r _ H5 (hv.ai YI)).mono ?_;rintro e w3 h3;rw[he]at h3;obtain⟨rfl,U0,H3⟩:=h3;have VL:=YI.trans U0;clear he H5 U0;dsimp only;go_wp2_with fail;refine(oR p num dep (U.bQ++U.dec num) true d r1 _ H3 (hv.ai VL)).mono ?_;exact zds
theorem FC(p num:Nat)(dep:Int)(w:World)(H:ah w p num dep []):
  () 145 #[p] w (aU p num dep [] w):=by
 go_enter func145,ntmps145;go_wp2_with fail;refine(mR p num dep _ H).mono ?_;rintro e w1 h1;obtain⟨ht,b,h3,h4,rfl⟩:=cQ (ak.refl p w) h1;dsimp only;exact⟨rfl,ht,b,h3,h4,rfl⟩
theorem CF(p num:Nat)(dep:Int)(x:())(r:List ())(w:World)(H:ah w p num dep (x::r))(h1:(x.toList == [115,116,97,116,101])=false)(h2:(x.toList == [112,97,114,97,108,108,101,108])=false)(h3:(x.toList == [102,105,110,97,108])=false)(h4:(x.toList == [104,105,115,116,111,114,121])=false)(h5:(x.toList == [111,110])=false)(h6:(x.toList == [97,102,116,101,114])=false)(h7:(x.toList == [101,110,116,101,114])=false)(h8:(x.toList == [108,101,97,118,101])=false):
  () 145 #[p] w (aU p num dep (x::r) w):=by
 have HS:Hid (J.bo num (x::r)=none):=by unfold Hid;rw[J.bo,U.cy,h1,U.aE,h2,U.bT,h3,U.aO,h4,U.cOn,h5,U.ja,h6,U.kI,h7,U.nI,h8];rfl
 go_enter func145,ntmps145;go_wp2_with fail;refine(aH p num dep x r _ H).mono ?_;rintro e w1 ⟨rfl,ho,H1⟩;have TR:=ho.ai;obtain⟨c0,c1⟩:=H1.cells;clear ho;dsimp only;go_wp2_with fail;refine(aV num dep 2 _).mono ?_;rintro e w2 hq;obtain⟨ht,b,h4,h5,rfl⟩:=cQ TR hq;dsimp only;refine⟨rfl,?_⟩;unfold aU;rw[HS.out];exact⟨ht,b,h4,h5,rfl⟩
theorem IC(p num:Nat)(dep:Int)(l:List ())(w:World)(H:ah w p num dep l)(hv:bL p w)(VZ:num<=1073741824):
  () 145 #[p] w (aU p num dep l w):=by
 cases l with
 |nil=>exact FC p num dep w H
 |cons x r=>
  cases h1:(x.toList == [115,116,97,116,101])
  case true=>exact CG p num dep x r w H hv h1
  cases h2:(x.toList == [112,97,114,97,108,108,101,108])
  case true=>exact uO p num dep x r w H hv h1 h2
  cases h3:(x.toList == [102,105,110,97,108])
  case true=>exact CD p num dep x r w H hv h1 h2 h3
  cases h4:(x.toList == [104,105,115,116,111,114,121])
  case true=>exact yg p num dep x r w H hv h1 h2 h3 h4
  cases h5:(x.toList == [111,110])
  case true=>exact KX p num dep x r w H hv h1 h2 h3 h4 h5
  cases h6:(x.toList == [97,102,116,101,114])
  case true=>exact CA p num dep x r w H hv VZ h1 h2 h3 h4 h5 h6
  cases h7:(x.toList == [101,110,116,101,114])
  case true=>exact CB p num dep x r w H hv h1 h2 h3 h4 h5 h6 h7
  cases h8:(x.toList == [108,101,97,118,101])
  case true=>exact CE p num dep x r w H hv h1 h2 h3 h4 h5 h6 h7 h8
  exact CF p num dep x r w H h1 h2 h3 h4 h5 h6 h7 h8
namespace J
theorem ND(h:(a.toList == b.toList)=true):a=b:=by
 have h:=eq_of_beq h;rw[Pr,Pr]at h;cases a;cases b
 simp at h;rw[h]
theorem kG{l:List UInt8}(h:(a.toList == l)=true)(hb:b.toList=l):a=b:=ND (by rw[hb];exact h)
theorem xL:bDo.toList=U.cDo:=zar
theorem xz:bAs.toList=U.cAs:=zar
theorem dN{P:()->Bool}:pOf P (x::r)=if P x then some (x,r) else none:=rfl
theorem iD:gX (x::r)=if U.cJ x then some (U.et x,r) else none:=rfl
theorem FN:dB [c]=none:=by
 unfold dB;rw[dN];split
 ·rfl
 ·rename_i x l1 h;split at h
  ·cases h;rfl
  ·cases h
theorem FO:dB [c,d]=if U.called c&&U.cJ d then some ((c,U.et d,none),[]) else none:=by
 unfold dB;rw[dN];cases U.called c
 ·rfl
 ·simp only[Bool.true_and,if_true];rw[iD];cases U.cJ d<;>rfl
theorem CT(hy:(y.toList == U.cAs)=false):dB (c::d::y::r)=if U.called c&&U.cJ d then some ((c,U.et d,none),y::r) else none:=by
 unfold dB;rw[dN];cases U.called c
 ·rfl
 ·simp only[Bool.true_and,if_true];rw[iD];exact ze6
theorem FK(hy:(y.toList == U.cAs)=true):dB [c,d,y]=none:=by
 unfold dB;rw[dN];cases U.called c
 ·rfl
 ·simp only[if_true];rw[iD];exact ze6
theorem FL(hy:(y.toList == U.cAs)=true):dB (c::d::y::a::r)=if U.called c&&U.cJ d&&U.called a then some ((c,U.et d,some a),r) else none:=by
 unfold dB;rw[dN];cases U.called c
 ·rfl
 ·simp only[Bool.true_and,if_true];rw[iD];cases U.cJ d
  ·rfl
  ·simp only[Bool.true_and,if_true];rw[xz,hy,OD rfl,dN];cases U.called a<;>rfl
theorem DC{x:()}{r:List ()}(h:(x.toList == U.cDo)=true):
  bI r=(U.pP (x::r)).map fun q=>(q.1,(x::r).drop q.2):=by
 cases r with
 |nil=>rfl
 |cons y r=>
  rw[bI];cases r with
  |nil=>
   have h2:U.pP [x,y]=none:=by unfold U.pP;rw[OD zad]
   rw[h2];split
   ·rfl
   ·split
    ·rfl
    ·split<;>rfl
  |cons c r=>
   have hl:¬(x::y::c::r).length<3:=zad;unfold U.pP;rw[OB hl,show U.at' (x::y::c::r) 0=x from rfl,h,OD rfl,show U.at' (x::y::c::r) 1=y from rfl,show U.at' (x::y::c::r) 2=c from rfl];cases h1:(y.toList == U.fC)
   ·simp only[Bool.false_eq_true,if_false];cases h2:(y.toList == U.fi)
    ·simp only[Bool.false_eq_true,if_false];cases h3:(y.toList == U.lQ)
     ·simp
     ·simp only[if_true];have ey:y=nu:=kG h3 mZ;cases r with
      |nil=>rw[OD zad,FN];rfl
      |cons d r=>
       rw[OB zad,show U.at' (x::y::c::d::r) 3=d from rfl];cases r with
       |nil=>
        rw[OB zad,FO];cases U.called c<;>cases U.cJ d<;>simp[ey]
       |cons u r=>
        rw[show U.at' (x::y::c::d::u::r) 4=u from rfl];cases h4:(u.toList == U.cAs)
        ·rw[OB zad,CT h4];cases U.called c<;>cases U.cJ d<;>simp[ey]
        ·rw[OD zad];cases r with
         |nil=>rw[OD zad,FK h4];rfl
         |cons a r=>
          rw[OB zad,show U.at' (x::y::c::d::u::a::r) 5=a from rfl,FL h4];cases U.called c<;>cases U.cJ d<;>cases U.called a<;>simp[ey]
    ·have ey:y=ia:=kG h2 iu;have h3:(y.toList == U.lQ)=false:=by rw[ey,iu];rfl
     rw[h3];simp only[Bool.false_eq_true,if_false,if_true];rw[dN];cases U.called c<;>simp[ey]
   ·have ey:y=pS:=kG h1 nY;simp only[if_true];rw[dN];cases U.called c<;>simp[ey]
theorem GB(h:(x.toList == U.cDo)=false):U.pP (x::r)=none:=by
 unfold U.pP;split
 ·rfl
 ·rw[show U.at' (x::r) 0=x from rfl,h];rfl
theorem vj:∀(n:Nat) (l:List ()),l.length<=n->U.aw l=match bg l with|some (A,[])=>some A|_=>none
 |_,[],_=>rfl
 |0,x::r,h=>by simp at h
 |n+1,x::r,h=>by
  cases hd:(x.toList == U.cDo)
  ·rw[jP (by rw[xL];exact hd)];show U.jX (r.length+1) (x::r)=none;rw[U.jX,GB hd]
  ·cases ha:U.pP (x::r) with
   |none=>
    have hp:=DC (r:=r) hd;rw[ha]at hp;rw[jO (by rw[xL];exact hd) hp];show U.jX (r.length+1) (x::r)=none;rw[U.jX,ha]
   |some q=>
    obtain⟨a,k⟩:=q;have hp:=DC (r:=r) hd;rw[ha]at hp;have hb:=U.lK ha;have hlen:((x::r).drop k).length<(x::r).length:=by
     rw[Si];have:=hb.1;have:=hb.2;omega
    rw[jN (by rw[xL];exact hd) hp];have ih:=vj n ((x::r).drop k) (by simp only[List.length_cons]at h hlen⊢;omega);show U.jX (r.length+1) (x::r)=_;rw[U.jX,ha];simp only;rw[U.rV r.length ((x::r).drop k).length _ (by simp only[List.length_cons]at hlen;omega) (Ow _)];change(match U.aw ((x::r).drop k) with|none=>none|some r'=>some (a::r'))=_;rw[ih];cases bg ((x::r).drop k) with
    |none=>rfl
    |some q=>
     obtain⟨A,t⟩:=q;cases t<;>rfl
theorem n9(l:List ()):U.aw l=match bg l with|some (A,[])=>some A|_=>none:=vj l.length l (Ow _)
end J
end
section
open Go.RowKit
open Go.PlainAid (bt get_bt bt_nonneg bt_le bt_end)
namespace U
theorem MZ(n:Nat):∃k:Nat,m64 n=k/\k<=18446744073709551615:=by
 unfold m64;rw[RH];exact⟨n % 18446744073709551616,zaa,zaa⟩
theorem vH(s:()):∃n:Nat,et s=n/\n<=18446744073709551615:=by
 unfold et;split
 ·exact MZ _
 ·exact⟨0,rfl,zac⟩
structure jT(a:Act):Prop where
 how:a.how.size<=4096
 event:a.event.size<=4096
 id:a.id.size<=4096
 delay:∃n:Nat,a.delay=n/\n<=18446744073709551615
structure nD(m:Move):Prop where
 event:m.event.size<=4096
 dst:m.to.size<=4096
 aw:∀a∈m.aw,jT a
 len:m.aw.length<=4096
 delay:∃n:Nat,m.delay=n/\n<=18446744073709551615
structure pO(L:kD):Prop where
 word:L.word.size<=4096
 name:L.name.size<=4096
 m:nD L.m
 aw:∀a∈L.aw,jT a
 len:L.aw.length<=4096
structure mG(x:State):Prop where
 word:x.word.size<=4096
 name:x.name.size<=4096
 dep0:0<=x.depth
 dep:x.depth<=5
 aj:∀m∈x.aj,nD m
 enter:∀a∈x.enter,jT a
 leave:∀a∈x.leave,jT a
 lenE:x.enter.length<=4096
 lenL:x.leave.length<=4096
theorem JT{a:Act}(hs:∀x∈l,x.size<=4096)(h:pP l=some (a,n)):jT a:=by
 have h0:=og hs;unfold pP at h
 repeat' split at h
 all_goals cases h
 all_goals refine⟨h0 _,?_,?_,?_⟩
 all_goals first|exact h0 _|exact OL _|exact vH _|exact⟨0,rfl,zac⟩
theorem zg:∀(f:Nat) (l:List ()) (A:List Act),(∀x∈l,x.size<=4096)->jX f l=some A->(∀a∈A,jT a)/\A.length<=l.length
 |0,[],A,_,h=>by cases h;exact⟨fun a ha=>absurd ha zad,Ow _⟩
 |_+1,[],A,_,h=>by cases h;exact⟨fun a ha=>absurd ha zad,Ow _⟩
 |0,x::r,A,_,h=>by cases h
 |f+1,x::r,A,hs,h=>by
  rw[jX]at h;split at h
  ·cases h
  ·rename_i a n h1;split at h
   ·cases h
   ·rename_i r' h2;cases h
    have hb:=lK h1;have ih:=zg f ((x::r).drop n) r' (fun y hy=>hs y (Sd hy)) h2;refine⟨?_,?_⟩
    ·intro b hm
     rcases P2.1 hm with h|h
     ·rw[h];exact JT hs h1
     ·exact ih.1 b h
    ·have:=ih.2;rw[Si]at this;simp only[List.length_cons]at this hb⊢;omega
theorem xt(hs:∀x∈l,x.size<=4096)(h:aw l=some A):(∀a∈A,jT a)/\A.length<=l.length:=zg _ l A hs h
theorem AA(hs:∀x∈l,x.size<=4096)(h:v7 l=some (t,A)):t.size<=4096/\(∀a∈A,jT a)/\A.length<=l.length:=by
 unfold v7 at h;split at h
 ·split at h
  ·cases h
  ·split at h
   ·cases h2:aw (l.drop 2) with
    |none=>rw[h2]at h;cases h
    |some B=>
     rw[h2]at h;cases h
     have:=xt (fun y hy=>hs y (Sd hy)) h2;exact⟨og hs 1,this.1,Ox this.2 zad⟩
   ·cases h
 ·cases h2:aw l with
  |none=>rw[h2]at h;cases h
  |some B=>
   rw[h2]at h;cases h
   exact⟨OL _,xt hs h2⟩
theorem jC:nD kY:=⟨OL _,OL _,fun a ha=>absurd ha (by simp[kY]),OL _,0,rfl,zac⟩
theorem dK:pO gE:=⟨OL _,OL _,jC,fun a ha=>absurd ha (by simp[gE]),OL _⟩
theorem Ly{ln:Nat}(hs:∀x∈l,x.size<=4096)(hl:l.length<=4096)(hln:ln<=1073741824):pO (said l ln):=by
 have h0:=og hs;have hs2:∀x∈l.drop 2,x.size<=4096:=fun y hy=>hs y (Sd hy);have Wg:∀x∈l.drop 1,x.size<=4096:=fun y hy=>hs y (Sd hy);unfold said;split
 ·exact dK
 ·split
  ·exact zeC
  ·split
   ·exact zeC
   ·split
    ·split
     ·exact dK
     ·rename_i t A hm;have:=AA hs2 hm;rw[Si]at this;split
      ·exact⟨OL _,OL _,⟨h0 1,this.1,this.2.1,zb2,0,rfl,zac⟩,fun a ha=>absurd ha zad,OL _⟩
      ·exact dK
    ·split
     ·split
      ·exact dK
      ·rename_i t A hm;have:=AA hs2 hm;rw[Si]at this;have hd:(dec ln).size<=20:=sA zaa;have hk:bQ.size<=20:=zac;split
       ·exact⟨OL _,OL _,⟨by show(bQ++dec ln).size<=_;rw[Re];omega,this.1,this.2.1,zb2,vH _⟩,fun a ha=>absurd ha zad,OL _⟩
       ·exact dK
     ·split
      ·split
       ·exact dK
       ·rename_i A hm;have:=xt Wg hm;rw[Si]at this;exact⟨OL _,OL _,jC,this.1,zb2⟩
      ·exact dK
theorem ur{f:State->State}{y:State}(hy:y∈gu S k f):y∈S\/∃x∈S,y=f x:=by
 unfold gu at hy;by_cases hk:k<S.length
 ·rcases O6 hy with h|h
  ·exact .inl h
  ·refine .inr ⟨S.getD k st0,?_,h⟩;rw[OJ,Ou hk];exact Pl hk
 ·rw[RD zaa]at hy;exact .inl hy
theorem Cj{X:List SV}{x:SV}(h:fits X x=true):x.s.depth<=5:=by
 unfold fits at h;by_cases hd:x.s.depth<=5
 ·exact hd
 ·have:5<x.s.depth:=zaa;simp[this]at h
theorem Bk{x:kD}{d:Int}(h:bk S i x d=some S')(hd:0<=d)(hx:pO x)(hS:∀y∈S,mG y/\y.aj.length<=n):∀y∈S',mG y/\y.aj.length<=n+1:=by
 have hS1:∀y∈S,mG y/\y.aj.length<=n+1:=fun y hy=>⟨(hS y hy).1,SE (hS y hy).2⟩;unfold bk at h;split at h
 ·cases h
 ·split at h
  ·split at h
   ·rename_i hf;cases h
    intro y hy
    rcases OT.1 hy with h|h
    ·exact hS1 y h
    ·rw[OE.1 h];exact⟨⟨hx.word,hx.name,hd,Cj hf,fun m hm=>absurd hm (by simp[km]),fun m hm=>absurd hm (by simp[km]),fun m hm=>absurd hm (by simp[km]),OL _,OL _⟩,OL _⟩
   ·cases h
  ·split at h
   ·cases h
   ·split at h
    ·cases h
    ·split at h
     ·split at h
      ·cases h
      ·cases h
       intro y hy
       rcases ur hy with h|⟨z,hz,rfl⟩
       ·exact hS1 y h
       ·obtain⟨h1,h2⟩:=hS z hz;refine⟨{ h1 with aj:=?_ },?_⟩
        ·intro m hm
         rcases OT.1 hm with h|h
         ·exact h1.aj m h
         ·rw[OE.1 h];exact hx.m
        ·simp;omega
     ·split at h
      ·split at h
       ·cases h
       ·cases h
        intro y hy
        rcases ur hy with h|⟨z,hz,rfl⟩
        ·exact hS1 y h
        ·obtain⟨h1,h2⟩:=hS1 z hz;exact⟨{ h1 with enter:=hx.aw,lenE:=hx.len },h2⟩
      ·split at h
       ·split at h
        ·cases h
        ·cases h
         intro y hy
         rcases ur hy with h|⟨z,hz,rfl⟩
         ·exact hS1 y h
         ·obtain⟨h1,h2⟩:=hS1 z hz;exact⟨{ h1 with leave:=hx.aw,lenL:=hx.len },h2⟩
       ·cases h
        exact hS1
theorem wS{A:List (kD×Int)}(hA:∀p∈A,pO p.1/\0<=p.2):∀{i:Nat} {S:List State},aZ A i=some S->∀y∈S,mG y/\y.aj.length<=i
 |0,S,h=>by cases h;exact fun y hy=>absurd hy zad
 |i+1,S,h=>by
  rw[aZ]at h;split at h
  ·cases h
  ·rename_i S0 h0;have ih:=wS hA h0;split at h
   ·cases h;exact fun y hy=>⟨(ih y hy).1,SE (ih y hy).2⟩
   ·rename_i x d hx;have:=hA _ (OG hx);exact Bk h this.2 this.1 ih
def eL(t:()):Nat->Nat->Nat
 |0,d=>d
 |f+1,d=>if bt t d=32 then eL t f (d+1) else d
def aY(t:()):Nat:=eL t t.size 0
theorem zy{d:Nat}(hd:d<t.size)(h:aY t=eL t (t.size-d) d)(hb:bt t d=32):aY t=eL t (t.size-(d+1)) (d+1):=by
 rw[h,show t.size-d=(t.size-(d+1))+1 from by omega,eL,OD hb]
theorem zz{d:Nat}(hd:d<t.size)(h:aY t=eL t (t.size-d) d)(hb:¬bt t d=32):aY t=d:=by
 rw[h,show t.size-d=(t.size-(d+1))+1 from by omega,eL,OB hb]
theorem sh(t:()):∀f d,eL t f d<=d+f
 |0,d=>Ow _
 |f+1,d=>by
  have:=sh t f (d+1);unfold eL;split<;>omega
theorem vx(t:()):aY t<=t.size:=by have:=sh t t.size 0;unfold aY;omega
def rest(t:()):():=t.extract (aY t) t.size
def eJ(t:())(i:Nat):kD:=said (cut (rest t) 32) (i+1)
def pc(P:List ())(i:Nat):():=P.getD i ByteArray.empty
def lg(P:List ()):Nat->Option Nat
 |0=>none
 |k+1=>match lg P k with
  |some i=>some i
  |none=>if(eJ (pc P k) k).kind=0 then some k else none
def syn(P:List ()):Option Nat:=match lg P (P.length-1) with
 |some i=>some i
 |none=>if decide (0<P.length-1)&&(pc P (P.length-1)).toList.isEmpty then none else some (P.length-1)
def aK(P:List ())(k:Nat):List (kD×Int):=(List.range k).map fun i=>(eJ (pc P i) i,(aY (pc P i):Int))
def gV(A:List (kD×Int)):Nat->Nat
 |0=>0
 |i+1=>if(aZ A i).isSome&&(aZ A (i+1)).isNone then i+1 else gV A i
inductive Got where
 |fault (e line:Int)
 |fu (S:List State)
def read(s:()):Got:=
 if 1500<s.size then .fault 1 0
 else match syn (cut s 10) with
  |some i=>.fault 2 ((i:Int)+1)
  |none=>match aZ (aK (cut s 10) ((cut s 10).length-1)) ((cut s 10).length-1) with
   |none=>.fault 3 (gV (aK (cut s 10) ((cut s 10).length-1)) ((cut s 10).length-1))
   |some S=>if 0<(dW S S.length).getD 0 then .fault 3 ((dW S S.length).getD 0)
    else if 0<named (S.map emb) then .fault 4 (named (S.map emb))
    else .fu S
theorem yW{x:kD}{d:Int}(h:bk S i x d=some S'):S'.length<=S.length+1:=by
 unfold bk gu at h
 repeat' split at h
 all_goals first|(cases h;done)|(cases h;simp)
theorem uo{A:List (kD×Int)}:∀{i:Nat} {S:List State},aZ A i=some S->S.length<=i
 |0,S,h=>by cases h;exact Ow _
 |i+1,S,h=>by
  rw[aZ]at h;split at h
  ·cases h
  ·rename_i S0 h0;have:=uo h0;split at h
   ·cases h;omega
   ·have:=yW h;omega
theorem Es{P:List ()}:∀{k i:Nat},lg P k=some i->∀j,k<=j->lg P j=some i
 |k,i,h,0,hj=>by rw[TI.1 hj]at h;exact h
 |k,i,h,j+1,hj=>by
  by_cases e:k=j+1
  ·rw[<- e];exact h
  ·rw[lg,Es h j zaa]
theorem LI(hk:k<P.length-1)(h:lg P k=none)(hb:(eJ (pc P k) k).kind=0):syn P=some k:=by
 have:lg P (P.length-1)=some k:=Es (k:=k+1) (by rw[lg,h];simp only;rw[OD hb]) _ zaa;unfold syn;rw[this]
theorem Bc(h:lg P (P.length-1)=none)(hb:¬(0<P.length-1/\(pc P (P.length-1)).toList.isEmpty=true)):syn P=some (P.length-1):=by
 unfold syn;rw[h];simp only;rw[OB];simpa using hb
theorem Jw(h:lg P (P.length-1)=none)(h0:0<P.length-1)(he:(pc P (P.length-1)).toList.isEmpty=true):syn P=none:=by
 unfold syn;rw[h];simp[h0,he]
theorem Gb(h:lg P k=none)(hb:¬(eJ (pc P k) k).kind=0):lg P (k+1)=none:=by
 rw[lg,h];simp only;rw[OB hb]
theorem j8{A:List (kD×Int)}{i:Nat}(h1:(aZ A i).isSome=true)(h2:aZ A (i+1)=none):∀k,i<k->gV A k=i+1
 |0,h=>by omega
 |k+1,h=>by
  by_cases e:k=i
  ·rw[gV,e,h1,h2];rfl
  ·have:aZ A k=none:=gi h2 k zaa;rw[gV,this];exact j8 h1 h2 k zaa
end U
end
section
open Go.RowKit
namespace J
theorem LL:zx.toList=U.cTo:=zar
theorem E2:pR.toList=U.DT:=zar
def lN:():=⟨#[115,116,97,116,101]⟩
def fX:():=⟨#[112,97,114,97,108,108,101,108]⟩
def lM:():=⟨#[102,105,110,97,108]⟩
def dt:():=⟨#[104,105,115,116,111,114,121]⟩
theorem ji:lN.toList=U.cy:=zar
theorem fI:fX.toList=U.aE:=zar
theorem jb:lM.toList=U.bT:=zar
theorem bV:dt.toList=U.aO:=zar
def bB(k:Int):():=if k=0 then lN else if k=1 then fX else if k=2 then lM else dt
def aF(num:Nat):PL->U.kD
 |.state k n=>⟨115,bB k,n,decide (k=4),num,U.kY,[]⟩
 |.move ev af d t A=>⟨109,ByteArray.empty,ByteArray.empty,false,0,⟨ev,t,af,d,A,num⟩,[]⟩
 |.enter A=>⟨101,ByteArray.empty,ByteArray.empty,false,0,U.kY,A⟩
 |.leave A=>⟨108,ByteArray.empty,ByteArray.empty,false,0,U.kY,A⟩
def bp(num:Nat)(l:List ()):Option PL:=match bo num l with
 |some (L,[])=>some L
 |_=>none
theorem v8(l:List ()):U.v7 l=match gQ l with|some (q,[])=>some q|_=>none:=by
 unfold U.v7 gQ;cases l with
 |nil=>simp[pTo,n9];rfl
 |cons y r=>
  rw[show U.at' (y::r) 0=y from rfl,pTo,LL];cases hy:(y.toList == U.cTo)
  ·rw[OB zad,OB zad,n9];simp only;cases bg (y::r) with
   |none=>rfl
   |some q=>obtain⟨A,t⟩:=q;cases t<;>rfl
  ·rw[OD zad,OD rfl];cases r with
   |nil=>rfl
   |cons z t=>
    rw[OB zad,show U.at' (y::z::t) 1=z from rfl,dN];cases U.plain z
    ·rfl
    ·simp only[if_true,List.drop_succ_cons,List.drop_zero];rw[n9];cases bg t with
     |none=>rfl
     |some q=>obtain⟨A,u⟩:=q;cases u<;>rfl
theorem yB:bg (y::r)≠some ([],[]):=by
 cases h:(y.toList == bDo.toList)
 ·rw[jP h];simp
 ·cases h2:bI r with
  |none=>rw[jO h h2];simp
  |some q=>
   obtain⟨a,r'⟩:=q;rw[jN h h2];cases bg r'<;>simp
theorem sC(y:())(r:List ()):U.aw (y::r)=match cW (y::r) with|some (A,[])=>some A|_=>none:=by
 rw[n9];unfold cW;cases h:bg (y::r) with
 |none=>rfl
 |some q=>
  obtain⟨A,t⟩:=q;cases A with
  |nil=>cases t with
   |nil=>exact absurd h yB
   |cons _ _=>rfl
  |cons a A=>cases t<;>rfl
theorem Jk(num:Nat)(l:List ()):U.said l num=((bp num l).map (aF num)).getD U.gE:=by
 cases l with
 |nil=>rfl
 |cons x r=>
  cases r with
  |nil=>
   rw[U.said,OD zad];unfold bp bo
   repeat' (first|rfl|split)
   all_goals first|rfl|(simp_all [pOf,dw,gX,cW,bg,gP])
  |cons y r=>
   have h2:¬(x::y::r).length<2:=zad;rw[U.said,OB h2];unfold bp bo;simp only[U.is,show U.at' (x::y::r) 0=x from rfl,show U.at' (x::y::r) 1=y from rfl,List.drop_succ_cons,List.drop_zero];cases hS:(x.toList == U.cy)
   ·cases hP:(x.toList == U.aE)
    ·cases hF:(x.toList == U.bT)
     ·cases hH:(x.toList == U.aO)
      ·cases hO:(x.toList == U.cOn)
       ·cases hA:(x.toList == U.ja)
        ·cases hE:(x.toList == U.kI)
         ·cases hL:(x.toList == U.nI)
          ·simp
          ·have ex:Go.PlainAid.bt x 0=108:=by
            rw[kG (b:=⟨#[108,101,97,118,101]⟩) hL zar];rfl
           simp only[Bool.or_true,Bool.false_or,Bool.false_eq_true,if_false,if_true];exact zdV
         ·have ex:Go.PlainAid.bt x 0=101:=by
           rw[kG (b:=⟨#[101,110,116,101,114]⟩) hE zar];rfl
          simp only[Bool.true_or,Bool.or_self,Bool.false_eq_true,if_false,if_true];exact zdV
        ·simp only[Bool.or_self,Bool.false_eq_true,if_false,if_true];rw[v8,iD];cases U.cJ y
         ·exact zeA
         ·exact zef
       ·simp only[Bool.or_self,Bool.false_eq_true,if_false,if_true];rw[v8,dN];cases U.cB y
        ·exact zeA
        ·exact zef
      ·have ex:x=dt:=kG hH bV;simp only[Bool.or_self,Bool.false_eq_true,if_false,if_true];unfold dw;rw[dN];cases hp:U.plain y
       ·simp
       ·simp only[if_true,Bool.true_and];cases r with
        |nil=>simp[U.vG,aF,bB,ex]
        |cons z t=>
         simp only[E2];cases hz:(z.toList == U.DT)
         ·simp[U.vG,U.is,show U.at' (x::y::z::t) 2=z from rfl,hz]
         ·cases t with
          |nil=>
           have ez:z.toList=U.DT:=eq_of_beq hz;simp[U.vG,U.is,show U.at' [dt,y,z] 2=z from rfl,ez,aF,bB,ex]
          |cons _ _=>simp[U.vG]
     ·have ex:x=lM:=kG hF jb;simp only[Bool.or_true,Bool.false_eq_true,if_false,if_true];exact zep
    ·have ex:x=fX:=kG hP fI;simp only[Bool.true_or,Bool.or_true,Bool.false_eq_true,if_false,if_true];exact zep
   ·have ex:x=lN:=kG hS ji;simp only[Bool.true_or,if_true];exact zep
theorem Bi(num:Nat)(L:PL):¬(aF num L).kind=0:=by cases L<;>simp[aF]
end J
end
section
open Go.RowKit
open Go.PlainAid (bt get_bt bt_nonneg bt_le bt_end)
namespace J
def jo(c:UInt8):List UInt8->List (List UInt8)
 |[]=>[[]]
 |x::l=>if x == c then[]::jo c l else match jo c l with
  |[]=>[[x]]
  |h::t=>(x::h)::t
theorem Hk(c:UInt8)(l:List UInt8):jo c l≠[]:=by
 cases l with
 |nil=>simp[jo]
 |cons x l=>
  rw[jo];split
  ·simp
  ·split<;>simp
theorem pX(c:UInt8):∀l:List UInt8,Lib.indexByte l c=-1->jo c l=[l]
 |[],_=>rfl
 |x::l,h=>by
  rw[Lib.indexByte]at h;rw[jo];by_cases hx:(x == c)=true
  ·rw[OD hx]at h;cases h
  ·rw[OB hx]at h⊢;by_cases hl:(Lib.indexByte l c == -1)=true
   ·rw[pX c l (by simpa using hl)]
   ·rw[OB hl]at h;have:=Lib.indexByte_ge l c;omega
theorem zJ(c:UInt8):∀(l:List UInt8) (i:Nat),Lib.indexByte l c=i->jo c l=l.take i::jo c (l.drop (i+1))
 |[],i,h=>by
  have h:(-1:Int)=i:=h;omega
 |x::l,i,h=>by
  rw[Lib.indexByte]at h;rw[jo];by_cases hx:(x == c)=true
  ·rw[OD hx]at h⊢;have:i=0:=zaa;subst this;simp
  ·rw[OB hx]at h⊢;by_cases hl:(Lib.indexByte l c == -1)=true
   ·rw[OD hl]at h;omega
   ·rw[OB hl]at h;have:=Lib.indexByte_ge l c;have Xy:¬Lib.indexByte l c=-1:=by simpa using hl
    obtain⟨j,rfl⟩:∃j,i=j+1:=⟨i-1,zaa⟩;rw[zJ c l j zaa];simp
theorem vE(c x:UInt8):∀l:List UInt8,jo c (l++[x])=if x == c then jo c l++[[]] else(jo c l).set ((jo c l).length-1) ((jo c l)[(jo c l).length-1]?.getD []++[x])
 |[]=>by
  rw[TG,jo];split<;>rename_i h<;>simp[jo]<;>simpa using h
 |y::l=>by
  rw[Tw,jo,vE c x l,jo];have hp:=Hk c l;by_cases hy:(y == c)=true
  ·rw[OD hy,OD hy];split
   ·rfl
   ·obtain⟨h,t,e⟩:=Se hp;rw[e];simp
  ·rw[OB hy,OB hy];obtain⟨h,t,e⟩:=Se hp;rw[e];by_cases hx:(x == c)=true
   ·rw[OD hx,OD hx];rfl
   ·rw[OB hx,OB hx];cases t with
    |nil=>simp
    |cons u t=>simp
theorem A6(c:UInt8):∀(n:Nat) (s:()),s.size<=n->(Lib.splitB ⟨#[c]⟩ 0 (Lib.countB s ⟨#[c]⟩) s).map (·.data.toList)=jo c s.data.toList:=by
 have U1:∀s:(),Lib.indexB s ⟨#[c]⟩=Lib.indexByte s.data.toList c:=by
  intro s;have:=Lib.one s ⟨#[c]⟩ rfl;rw[this]
  congr 1
  show((c.toNat:Int).toNat).toUInt8=c;simp
 intro n
 induction n with
 |zero=>
  intro s hs;have h0:s.data.toList=[]:=by
   have:=RN s;exact Qx.1 zaa
  have hm:Lib.indexB s ⟨#[c]⟩=-1:=by rw[U1,h0];rfl
  exact zeI
 |succ n ih=>
  intro s hs
  rcases Lib.indexB_cases s ⟨#[c]⟩ with hm|⟨i,hi,hle⟩
  ·exact zeI
  ·have h1:(⟨#[c]⟩:()).size=1:=rfl;rw[Lib.countB_hit s _ i (by rw[h1];exact Ow _) hi,Nat.add_comm 1,Lib.splitB_hit _ _ _ _ i hi,QQ,Lib.extract_from_zero,h1,S9];rw[ih (s.extract (i+1) s.size) zae,Lib.extract_to_end,zJ c s.data.toList i (by rw[<- U1];exact hi)]
theorem zT(h:k<s.size):(s.extract k (k+1)).data.toList=[s.data.toList[k]'(by rw[<- RN];exact h)]:=by
 rw[Lib.extract_data,Nat.add_sub_cancel_left];rw[List.take_one,List.head?_drop,Ou (by rw[<- RN];exact h)];rfl
theorem rB(h:k<s.size):bt s k=((s.data.toList[k]'(by rw[<- RN];exact h)).toNat:Int):=by
 rw[<- get_bt s k h];rfl
theorem zr(a b:()):(a++b).data.toList=a.data.toList++b.data.toList:=zad
theorem sx(s:())(c:UInt8):∀k,k<=s.size->(U.bO s (c.toNat:Int) k).map (·.data.toList)=jo c (s.data.toList.take k)
 |0,_=>by rw[U.bO,List.take_zero];rfl
 |k+1,hk=>by
  have UD:k<s.size:=zaa;have hl:k<s.data.toList.length:=by rw[<- RN];exact UD
  have ih:=sx s c k zaa;rw[PQ,Ou hl,Th,vE,<- ih];by_cases h:(s.data.toList[k] == c)=true
  ·rw[OD h,U.xH (by rw[rB UD,eq_of_beq h]),Pk];rfl
  ·rw[OB h,U.B2 (by
    rw[rB UD];intro e;apply h
    have:s.data.toList[k].toNat=c.toNat:=zaa;rw[SX.1 this];simp),Qw,zr,zT UD,OK,OF]
   have hp:=U.mJ s (c.toNat:Int) k;rw[Ou zaa];rfl
theorem oP:∀{a b:List ()},a.map (·.data.toList)=b.map (·.data.toList)->a=b
 |[],[],_=>rfl
 |[],_::_,h=>by simp at h
 |_::_,[],h=>by simp at h
 |x::a,y::b,h=>by
  simp only[List.map_cons,List.cons.injEq]at h;rw[oP h.2];have:x=y:=by rw[<- TJ x,h.1,TJ]
  rw[this]
theorem wJ(s:())(c:UInt8):Lib.splitB ⟨#[c]⟩ 0 (Lib.countB s ⟨#[c]⟩) s=U.cut s (c.toNat:Int):=by
 apply oP
 rw[A6 c s.size s (Ow _)];unfold U.cut;rw[sx s c s.size (Ow _),List.take_of_length_le (by rw[<- RN];exact Ow _)]
theorem E0(s:())(c:UInt8):Lib.countB s ⟨#[c]⟩+1=(U.cut s (c.toNat:Int)).length:=by
 rw[<- wJ,Lib.splitB_all _ (show 1<=(⟨#[c]⟩:()).size from Ow 1) 0 _ s rfl]
theorem oq(t:()):∀(f d:Nat),d+f=t.size->t.data.toList.drop (U.eL t f d)=(t.data.toList.drop d).dropWhile (· == 32)/\d<=U.eL t f d
 |0,d,h=>by
  rw[U.eL,List.drop_eq_nil_of_le (by rw[<- RN];omega)];exact⟨rfl,Ow _⟩
 |f+1,d,h=>by
  have hd:d<t.size:=zaa;have hl:d<t.data.toList.length:=by rw[<- RN];exact hd
  rw[U.eL,Rx hl,List.dropWhile_cons];by_cases hb:bt t d=32
  ·have hx:(t.data.toList[d] == 32)=true:=by
    rw[rB hd]at hb;have:t.data.toList[d].toNat=(32:UInt8).toNat:=by
     have e:(32:UInt8).toNat=32:=rfl;omega
    rw[SX.1 this];rfl
   have ih:=oq t f (d+1) zaa;rw[OD hb,OD hx];exact⟨ih.1,by have:=ih.2;omega⟩
  ·have hx:¬(t.data.toList[d] == 32)=true:=by
    intro e;apply hb
    rw[rB hd,eq_of_beq e];rfl
   rw[OB hb,OB hx,Rx hl];exact⟨rfl,Ow _⟩
theorem Gg(t:()):(⟨(Lib.trimLeftB t.data.toList 32).toArray⟩:())=U.rest t:=by
 have h:=(oq t t.size 0 zaa).1;rw[List.drop_zero]at h;have e:(U.rest t).data.toList=Lib.trimLeftB t.data.toList 32:=by
  unfold U.rest Lib.trimLeftB;rw[Lib.extract_to_end];exact h
 rw[<- e,TJ]
theorem wz(t:()):(U.rest t).size+U.aY t=t.size:=by
 have:=U.vx t;unfold U.rest;simp;omega
end J
end
section
open Go.RowKit
structure xh(w:World):Prop where
 env:Env w
 maxL:∃m,w.cell? ⟨2,0,none⟩=some ↑(m:Int)
theorem xh.aq(h:xh w)(hb:Below w w w'):xh w':=
 ⟨h.env.aq hb,let⟨m,hm⟩:=h.maxL;⟨m,(OO (hb.block _ (OW _ _ hm))).trans hm⟩⟩
theorem wI(s:())(c:UInt8)(w:World)(hv:xh w)(hs:s.size<4294967281):() 94 #[s,.string ⟨#[c]⟩] w fun e w'=>
  e=.returned (.slice w (U.cut s (c.toNat:Int)).length (U.cut s (c.toNat:Int)).length)/\w'=w.alloc (.cells ((U.cut s (c.toNat:Int)).map Value.string).toArray 9):=by
 obtain⟨m,hm⟩:=hv.maxL;refine(strings_Split s ⟨#[c]⟩ m w hs hm (Ow 1)).mono ?_;rintro e w' ⟨rfl,rfl⟩;rw[J.wJ,J.E0];exact⟨rfl,rfl⟩
theorem ud{b:Nat}{t:TypeId}{fz:Nat×Nat}(h:w.heap[b]?=some (.cells (l.map Value.string).toArray t fz)):rT w b 0 l:=by
 intro i hi;rw[QC,OA w b i _ _ _ h];simp[U.at',List.getElem?_eq_getElem hi,List.getD_eq_getElem?_getD]
theorem sy{c:Int}:∀x∈U.cut s c,x.size<=s.size:=U.jy s c s.size (Ow _)
theorem rD{c:Int}:(U.cut s c).length<=s.size+1:=U.oz s c s.size
def iK(num:Nat)(t:())(w:World)(e:Ending)(w':World):Prop:=match J.bp num (U.cut (U.rest t) 32) with
 |none=>bc 2 num w e w'
 |some L=>Below w.heap.size w w'/\∃v,e=.returned v/\fG w' w.heap.size num (U.aY t) L v
theorem yE{p:Nat}{er line:Int}{w0:World}{e:Ending}(hb:Below w0 w0 w)(hp:w0.heap.size<=p)(h:da p er line w e w'):bc er line w0 e w':=by
 obtain⟨ht,b,h2,h3,h4⟩:=h;exact⟨ht.below hb hp hb.size,b,Ox hb.size h2,h3,h4⟩
theorem fG.mono{w:World}{base base':Nat}{num dep:Int}{L:J.PL}{v:Value}(h:fG w base num dep L v)(hb:base'<=base):fG w base' num dep L v:=by
 cases L with
 |state k n=>exact h
 |move ev af d t A=>obtain⟨a,n,c,h1,h2⟩:=h;exact⟨a,n,c,h1,aC h2 hb⟩
 |enter A=>obtain⟨a,n,c,h1,h2⟩:=h;exact⟨a,n,c,h1,aC h2 hb⟩
 |leave A=>obtain⟨a,n,c,h1,h2⟩:=h;exact⟨a,n,c,h1,aC h2 hb⟩
theorem yD(num:Nat)(t:())(w:World)(hv:xh w)(ht:t.size<=1000000)(VZ:num<=1073741824):
  () 96 #[(num:Int),t] w (iK num t w):=by
 have hr:=J.wz t;have hct:=J.Gg t;go_enter func96,ntmps96;go_wp2_with fail;refine(strings_TrimLeft_one t 32 zac _).mono ?_;rintro e w9 ⟨rfl,Pg⟩;rw[Pg,hct];clear Pg w9 hct;dsimp only;go_wp2_with fail;refine(wI (U.rest t) 32 _ hv zaa).mono ?_;rintro e w9 ⟨rfl,Pg⟩;rw[Pg];clear Pg w9;obtain⟨l,hl⟩:∃l,l=U.cut (U.rest t) ((32:UInt8).toNat:Int):=⟨_,rfl⟩;rw[<- hl];have hlen:l.length<=t.size+1:=by rw[hl];exact Ox rD zaa
 have T6:∀x∈l,x.size<=t.size:=by rw[hl];exact fun x hx=>Ox (sy x hx) zaa
 have HL:Hid _:=hl;clear hl;dsimp only;go_wp2_with fail;have Xc:(t.size:Int)-((U.rest t).size:Int)=(U.aY t:Int):=zaa;rw[Xc];obtain⟨w1,Ul⟩:∃y,y=(w.alloc (.cells (l.map Value.string).toArray 9)).alloc (.cells #[(num:Int),.int .i64 (U.aY t),.slice w l.length l.length] 319):=⟨_,rfl⟩;rw[<- Ul];have TM:Below w w w1:=zbA;have hws:w.heap.size+1<w1.heap.size:=by rw[Ul];simp
 have H1:ah w1 (w.heap.size+1) num (U.aY t) l:=by
  rw[Ul];refine⟨⟨some ⟨w,0,none⟩,l.length,bU _ _ _,Ow _,fun _=>⟨w.heap.size,0,rfl,zaa,zae,ud (fk _ _ _)⟩⟩,zaa,fun x hx=>by have:=T6 x hx;omega⟩
 have UP:bL (w.heap.size+1) w1:=⟨w,zaa,hv.env,TM⟩;clear Ul T6 hlen;refine(IC (w.heap.size+1) num (U.aY t) l w1 H1 UP VZ).mono ?_;rintro e w2 h2;unfold aU at h2;have HP:Hid (iK num t w=fun e w'=>match J.bp num l with
  |none=>bc 2 num w e w'
  |some L=>Below w.heap.size w w'/\∃v,e=.returned v/\fG w' w.heap.size num (U.aY t) L v):=by
  unfold Hid iK;rw[HL.out];rfl
 cases hp:J.bo num l with
 |none=>
  rw[hp]at h2;have HW:Hid (J.bp num l=none):=zbV;obtain⟨hb,b,h4,h5,rfl⟩:=yE TM zaa h2;dsimp only;refine⟨rfl,?_⟩;rw[HP.out];simp only;rw[HW.out];exact⟨hb,b,h4,h5,rfl⟩
 |some q=>
  obtain⟨L,r⟩:=q;rw[hp]at h2;obtain⟨v,rfl,hL,Ur,H2⟩:=h2;have TP:Below w w w2:=Ur.below TM zaa TM.size;have hL2:=hL.mono (show w.heap.size<=w1.heap.size by omega);cases r with
  |nil=>
   have HW:Hid (J.bp num l=some L):=zbV;clear hp hL Ur H1 UP;dsimp only;go_wp2_with fail;refine(MI (w.heap.size+1) num (U.aY t) _ H2).mono ?_;rintro e w9 ⟨rfl,Pg⟩;rw[Pg];clear Pg w9;dsimp only;go_wp2;go_ret;rw[HP.out];simp only;rw[HW.out];exact⟨TP,v,rfl,hL2⟩
  |cons y r=>
   have HW:Hid (J.bp num l=none):=zbV;clear hp hL Ur H1 UP;dsimp only;go_wp2_with fail;refine(Kn (w.heap.size+1) num (U.aY t) (y::r) _ H2 zad).mono ?_;rintro e w3 hq;obtain⟨hb,b,h4,h5,rfl⟩:=hq;dsimp only;refine⟨rfl,?_⟩;rw[HP.out];simp only;rw[HW.out];exact⟨TP.trans (hb.mono TP.size),b,Ox TP.size h4,h5,rfl⟩
theorem pV(s:())(w:World)(hs:s.size<=281474976710656):() 95 #[s] w fun e w'=>e=.returned s/\Below w w w':=by
 go_enter func95,ntmps95;go_wp2_with fail;refine(stringslite_Clone s _ hs).mono ?_;rintro e w1 ⟨rfl,hb⟩;dsimp only;go_wp2;go_ret;exact⟨rfl,hb⟩
theorem Ib:(Tryz.prog.info? 167).map (fun i=>(i.zero,i.size,i.bytes))=some (some .nilIface,1,16):=zab
namespace J
def wl(P:List ())(i:Nat):List ():=U.cut (U.rest (U.pc P i)) 32
theorem kR(P:List ())(i:Nat):U.eJ (U.pc P i) i=((bp (i+1) (wl P i)).map (aF (i+1))).getD U.gE:=Jk (i+1) _
theorem Av(h:bp (i+1) (wl P i)=none):(U.eJ (U.pc P i) i).kind=0:=by rw[kR,h];rfl
theorem qK{L:PL}(h:bp (i+1) (wl P i)=some L):U.eJ (U.pc P i) i=aF (i+1) L:=by rw[kR,h];rfl
end J
structure kE(w:World)(P:List ())(k:Nat)(vs:List Value)(LS:List J.PL):Prop where
 lv:vs.length=k
 ll:LS.length=k
 row:∀j (h:j<k),J.bp (j+1) (J.wl P j)=some (LS[j]'(zaa))/\fG w 0 (j+1:Nat) (U.aY (U.pc P j)) (LS[j]'(zaa)) (vs[j]'(zaa))
theorem fG.aq{w w':World}{num dep:Int}{L:J.PL}{v:Value}(h:fG w 0 num dep L v)(hb:Below w w w'):fG w' 0 num dep L v:=by
 cases L with
 |state k n=>exact h
 |move ev af d t A=>obtain⟨a,n,c,h1,h2⟩:=h;exact⟨a,n,c,h1,bj h2 hb⟩
 |enter A=>obtain⟨a,n,c,h1,h2⟩:=h;exact⟨a,n,c,h1,bj h2 hb⟩
 |leave A=>obtain⟨a,n,c,h1,h2⟩:=h;exact⟨a,n,c,h1,bj h2 hb⟩
theorem fG.tag{w w':World}{num dep:Int}{L:J.PL}{v:Value}{g:Nat}{c:Array Value}{t:TypeId}{fz:Nat×Nat}(h:fG w 0 num dep L v)(ho:iF g w w')(hg:w.heap[g]?=some (.cells c t fz))(TU:271≠t):fG w' 0 num dep L v:=by
 cases L with
 |state k n=>exact h
 |move ev af d t A=>obtain⟨a,n,c,h1,h2⟩:=h;exact⟨a,n,c,h1,mU h2 ho hg TU⟩
 |enter A=>obtain⟨a,n,c,h1,h2⟩:=h;exact⟨a,n,c,h1,mU h2 ho hg TU⟩
 |leave A=>obtain⟨a,n,c,h1,h2⟩:=h;exact⟨a,n,c,h1,mU h2 ho hg TU⟩
theorem fG.iface{w:World}{base:Nat}{num dep:Int}{L:J.PL}{v:Value}(h:fG w base num dep L v):∃t u,v=.iface t u:=by
 cases L with
 |state k n=>exact⟨_,_,h⟩
 |move ev af d t A=>obtain⟨a,n,c,h1,h2⟩:=h;exact⟨_,_,h1⟩
 |enter A=>obtain⟨a,n,c,h1,h2⟩:=h;exact⟨_,_,h1⟩
 |leave A=>obtain⟨a,n,c,h1,h2⟩:=h;exact⟨_,_,h1⟩
theorem kE.next{LS:List J.PL}{v:Value}{L:J.PL}(H:kE w P k vs LS)(hk:∀num dep L v,fG w 0 num dep L v->fG w' 0 num dep L v)
  (h1:J.bp (k+1) (J.wl P k)=some L) (h2:fG w' 0 (k+1:Nat) (U.aY (U.pc P k)) L v):kE w' P (k+1) (vs++[v]) (LS++[L]):=by
 have Xb:=H.lv;have hll:=H.ll;refine⟨by simp[Xb],by simp[hll],fun j hj=>?_⟩;by_cases e:j=k
 ·subst e;rw[P4 zaa,P4 zaa];simp only[Xb,hll,Nat.sub_self,List.getElem_cons_zero];exact⟨h1,h2⟩
 ·have Ze:j<k:=zaa;obtain⟨r1,r2⟩:=H.row j Ze;rw[P9 zaa,P9 zaa];exact⟨r1,hk _ _ _ _ r2⟩
def dT(s:())(w:World)(e:Ending)(w':World):Prop:=
 if 1500<s.size then bc 1 0 w e w'
 else match U.syn (U.cut s 10) with
  |some i=>bc 2 ((i:Int)+1) w e w'
  |none=>Below w.heap.size w w'/\∃lb vs LS,e=.returned (.slice (some ⟨lb,0,none⟩) vs.length vs.length)/\w'.heap[lb]?=some (.cells vs.toArray 167 (0,0))/\0<vs.length/\kE w' (U.cut s 10) ((U.cut s 10).length-1) vs LS
theorem tJ(s:())(w:World)(hs:1500<s.size)(hs2:s.size<=1073741824):
  () 60 #[s] w (dT s w):=by
 go_enter func60,ntmps60;go_wp2_with fail;refine(aV 0 0 1 _).mono ?_;rintro e w1 ⟨hb,b,h4,h5,rfl⟩;dsimp only;refine⟨rfl,?_⟩;unfold dT;rw[OD hs];exact⟨hb,b,h4,h5,rfl⟩
theorem Jn{m:Nat}(hk:vs.length=k)(v:Value):(vs++List.replicate (m+1) Value.nilIface).toArray.setIfInBounds k v=((vs++[v])++List.replicate m Value.nilIface).toArray:=by
 rw[List.setIfInBounds_toArray,Rv _ _ zaa,hk,Ri,List.replicate_succ,List.set_cons_zero];simp
theorem IE(n:Nat):madeCells #[Value.nilIface] n=(List.replicate n Value.nilIface).toArray:=by
 apply Array.ext
 ·simp[madeCells]
 ·intro i h1 h2;simp[madeCells,Nat.mod_one]
theorem uV(s:())(w:World)(hv:xh w)(hs:s.size<=1500):
  () 60 #[s] w (dT s w):=by
 obtain⟨P,hP⟩:∃P,P=U.cut s ((10:UInt8).toNat:Int):=⟨_,rfl⟩;have Wz:0<P.length:=by rw[hP];exact U.mJ _ _ _
 obtain⟨n,hn⟩:∃n,P.length=n+1:=⟨P.length-1,zaa⟩;clear Wz;have hlen:n<=1500:=by
  have:P.length<=s.size+1:=by rw[hP];exact rD
  omega
 have HSZ:Hid (∀j,(U.pc P j).size<=1500):=by
  intro j;unfold U.pc;rw[OJ];cases e:P[j]? with
  |none=>exact OL _
  |some x=>rw[hP]at e;exact Ox (sy x (OG e)) hs
 have Z8:Hid (dT s w=fun e w'=>match U.syn P with
  |some i=>bc 2 ((i:Int)+1) w e w'
  |none=>Below w.heap.size w w'/\∃lb vs LS,e=.returned (.slice (some ⟨lb,0,none⟩) vs.length vs.length)/\w'.heap[lb]?=some (.cells vs.toArray 167 (0,0))/\0<vs.length/\kE w' P (P.length-1) vs LS):=by
  funext e w';unfold dT;rw[OB zaa,hP];rfl
 have Wu:=run_make_row' (P:=prog) 162 167 .nilIface 16 underlying162 Ib rfl .i64 .i64 n zaa zaa;go_enter func60,ntmps60;go_wp2_with fail;refine(pV s _ zaa).mono ?_;rintro e w1 ⟨rfl,TM⟩;have UP:=hv.aq TM;dsimp only;go_wp2_with fail;refine(wI s 10 _ UP zaa).mono ?_;rintro e w9 ⟨rfl,Pg⟩;rw[Pg,<- hP];clear Pg w9;have HPn:Hid (P.length=n+1):=hn;have HP:Hid _:=hP;rw[hn];clear hP hn;dsimp only;go_wp2
 go_loopg[25] n (fun q i wr=>∃(k:Nat) (vs:List Value) (LS:List J.PL),q=n-k/\k<=n/\i=.int .i64 k/\U.lg P k=none/\wr.heap[w1.heap.size]?=some (.cells (P.map Value.string).toArray 9 (0,0))/\wr.heap[w1.heap.size+1]?=some (.cells (vs++List.replicate (n-k) Value.nilIface).toArray 167 (0,0))/\kE wr P k vs LS/\Below w w wr/\Below w1 w1 wr)
 case atStart=>
  refine⟨0,[],[],rfl,OL _,rfl,rfl,fk _ _ _,?_,⟨rfl,rfl,fun j h=>absurd h zaa⟩,(TM.alloc TM.size _).alloc (by have:=TM.size;simp;omega) _,((Oy _ _).alloc (Ow _) _).alloc zad _⟩;rw[bU,IE];rfl
 case round=>
  obtain⟨k,vs,LS,hq,hk,rfl,Xd,UT,hLB,HL,Ui,Vw⟩:=hrel;have Xb:=HL.lv;have cP:wr.cell? (w1,k)=some (.string (U.pc P k)):=by
   rw[OA wr _ k _ _ _ UT];simp only[List.getElem?_toArray,List.getElem?_map,U.pc,List.getD_eq_getElem?_getD];rw[Ou (show k<P.length by rw[HPn.out];omega)];rfl
  have U5:=Ui.size;have hbs1:=Vw.size;have lP:=(Ov.1 UT).1;have lL:=(Ov.1 hLB).1;by_cases UC:k<n
  ·have hszk:=HSZ.out k;have hvr:=UP.aq Vw;go_wp2_with fail;refine(yD (k+1) (U.pc P k) _ hvr zaa zaa).mono ?_;rintro e w2 h2;unfold iK at h2;change(match J.bp (k+1) (J.wl P k) with|none=>_|some L=>_)at h2;cases hp:J.bp (k+1) (J.wl P k) with
   |none=>
    rw[hp]at h2;have HS:Hid (U.syn P=some k):=U.LI (by rw[HPn.out];omega) Xd (J.Av hp);obtain⟨hb,b,h4,h5,rfl⟩:=h2;dsimp only;refine⟨rfl,?_⟩;rw[Z8.out];simp only;rw[HS.out];exact⟨Ui.trans (hb.mono U5),b,Ox U5 h4,h5,rfl⟩
   |some L=>
    rw[hp]at h2;obtain⟨TP,v,rfl,hLV⟩:=h2;obtain⟨vt,vu,rfl⟩:=hLV.iface;have hPB2:=(TP.block _ lP).trans UT;have Z9:=(TP.block _ lL).trans hLB;obtain⟨m,hm⟩:∃m,n-k=m+1:=⟨n-k-1,zaa⟩;rw[hm]at Z9;have cL:w2.cell? (w1.heap.size+1,k)=some .nilIface:=by
     rw[OA w2 _ k _ _ _ Z9,Q0,PE zaa,Xb,Ri];rfl
    have fL:w2.frozen? (w1.heap.size+1,k)=false:=by simp[World.frozen?,Z9]
    have HSY:Hid (U.lg P (k+1)=none):=U.Gb Xd (by rw[J.qK hp];exact J.Bi _ _);have HLV:Hid (fG w2 0 ((k+1:Nat):Int) (U.aY (U.pc P k)) L (.iface vt vu)):=fG.mono hLV (OL _);have HH:Hid _:=hPB2;have HH2:Hid _:=Z9;have HM:Hid _:=hm;have HHL:Hid _:=HL;have HPW:Hid _:=hp;clear hLV hPB2 Z9 hm UT hLB Xd cP hp HL;dsimp only;go_wp2
    go_roundg (n-(k+1))
    case measure=>omega
    case rel=>
     have Wg:=TM.size;have oo:=aa w2 (w1.heap.size+1) k (.iface vt vu);have Ug:=oo.below (Ui.trans (TP.mono U5)) zaa;refine⟨k+1,vs++[.iface vt vu],LS++[L],rfl,zaa,rfl,HSY.out,?_,?_,?_,Ug,oo.below (Vw.trans (TP.mono hbs1)) zaa⟩
     ·rw[oo.block _ zaa];exact HH.out
     ·rw[OP w2 _ k _ _ (.iface vt vu) HH2.out,Jn Xb,show n-(k+1)=m by have:=HM.out;omega]
     ·refine HHL.out.next (fun num dep L' v' h=>(h.aq TP).tag oo HH2.out zac) HPW.out (fG.tag HLV.out oo HH2.out zac)
  ·obtain rfl:k=n:=zaa;have Xt:k-k=0:=zaa;rw[Xt]at hLB;have hk1500:=hlen;have HLB:Hid _:=hLB;have HHL:Hid _:=HL;have HSYN:Hid _:=Xd;clear hLB HL Xd UT hq hk UC Xt;by_cases h0:k=0
   ·have HS:Hid (U.syn P=some k):=by
     have:=U.Bc (P:=P) zbQ (fun h=>by have:=h.1;rw[HPn.out]at this;omega);rw[HPn.out]at this;exact this
    subst h0;go_wp2_with fail;refine(aV 1 0 2 _).mono ?_;exact zdN
   ·cases hE:(U.pc P k).toList.isEmpty
    case true=>
     have HS:Hid (U.syn P=none):=by
      refine U.Jw (P:=P) zbQ (by rw[HPn.out];omega) ?_;rw[HPn.out];exact hE
     have hE':(U.pc P k).toList=[]:=Rp.1 hE;go_wp2;go_ret;rw[Z8.out];simp only;rw[HS.out];refine⟨Ui,w1.heap.size+1,vs,LS,?_,?_,?_,?_⟩
     ·rw[Xb];rfl
     ·have:=HLB.out;simpa using this
     ·omega
     ·have:=HHL.out;rw[HPn.out];exact this
    case false=>
     have HS:Hid (U.syn P=some k):=by
      have:=U.Bc (P:=P) zbQ (fun h=>by
       have h:=h.2;rw[HPn.out]at h;have:(U.pc P k).toList.isEmpty=true:=h;rw[hE]at this;cases this)
      rw[HPn.out]at this;exact this
     go_wp2_with fail;refine(aV (k+1) 0 2 _).mono ?_;exact zdN
