import Derived.Test.YtibbecdlllchkaaGreatDoorM10
set_option maxRecDepth 100000
set_option maxHeartbeats 8000000
namespace Go.Proofs.YtibbecdlllchkaaGreatDoor
variable {zp:Prop}
theorem zcN(h:zp:=by
 go_enter func119,ntmps119;go_wp2_with fail;refine(aG p num dep x r _ H).mono ?_;rintro e w1 ⟨rfl,ho,H1⟩;have U7:=ho.al;clear ho;dsimp only;go_wp2_with fail;refine(lu p num dep r _ H1 (hv.al U7)).mono ?_;rintro e w2 hq;unfold eZ at hq;rw[hn]at hq;obtain⟨a,n,c,rfl,U2,VE,H2⟩:=hq;have Vt:=aJ U2 U7.size;clear hn U2;dsimp only;go_wp2;go_ret;unfold a8;rw[HS.out];exact⟨_,rfl,⟨a,n,c,rfl,Vt⟩,U7.trans VE,H2⟩):zp:=h
theorem zcQ(h:zp:=by
 go_enter func119,ntmps119;go_wp2_with fail;refine(aG p num dep x r _ H).mono ?_;rintro e w1 ⟨rfl,ho,H1⟩;have U7:=ho.al;clear ho;dsimp only;go_wp2_with fail;refine(lu p num dep r _ H1 (hv.al U7)).mono ?_;rintro e w2 hq;unfold eZ at hq;rw[hn]at hq;obtain⟨ht,b,h4,h5,rfl⟩:=hq;dsimp only;refine⟨rfl,?_⟩;unfold a8;rw[HS.out];exact⟨U7.trans ht,b,Pr U7.size h4,h5,rfl⟩):zp:=h
theorem zc7(h:zp:=by
 rintro e w2 hq;unfold iG at hq;rw[hn]at hq;obtain⟨a,n,c,rfl,U2,VE,H2⟩:=hq;have Vt:=aJ U2 Xe.size;clear hn U2;dsimp only;go_wp2;go_ret;unfold a8;rw[HS.out];exact⟨_,rfl,⟨a,n,c,rfl,Vt⟩,Xe.trans VE,H2⟩):zp:=h
theorem zdk(h:zp:=by
 rintro e w2 hq;unfold iG at hq;rw[hn]at hq;obtain⟨ht,b,h4,h5,rfl⟩:=hq;dsimp only;refine⟨rfl,?_⟩;unfold a8;rw[HS.out];exact⟨Xe.trans ht,b,Pr Xe.size h4,h5,rfl⟩):zp:=h
theorem zdr(h:zp:=by
 rintro e w2 ⟨hb,b,h4,h5,rfl⟩;dsimp only;refine⟨rfl,?_⟩;rw[HPost.out];simp only;rw[HS.out];exact⟨Vy.trans (hb.mono VZ),b,Pr VZ h4,h5,rfl⟩):zp:=h
theorem zdu(h:zp:=by
 rintro e w2 hq;obtain⟨ht,b,h4,h5,rfl⟩:=hq;dsimp only;refine⟨rfl,?_⟩;unfold a8;rw[HS.out];exact⟨U7.trans ht,b,Pr U7.size h4,h5,rfl⟩):zp:=h
theorem zdy(h:zp:=by
 obtain⟨ht,b,h4,h5,rfl⟩:=hq;dsimp only;refine⟨rfl,?_⟩;unfold a8;rw[HS.out];exact⟨U7.trans ht,b,Pr U7.size h4,h5,rfl⟩):zp:=h
theorem zdC(h:zp:=by
 rw[sS];cases bW (y::r) with
 |none=>rfl
 |some q=>
  obtain⟨A,t⟩:=q;cases t with
  |nil=>simp[aC,ex]
  |cons _ _=>rfl):zp:=h
theorem zdF(h:zp:=by
 rintro e w2 ⟨rfl,VE,H2⟩;dsimp only;go_wp2;go_ret;unfold a8;rw[HS.out];exact⟨_,rfl,rfl,U7.trans VE,H2⟩):zp:=h
theorem zdT(h:zp:=by
 simp only[if_true];cases eV r with
 |none=>rfl
 |some q=>obtain⟨⟨_,_⟩,t⟩:=q;cases t<;>rfl):zp:=h
theorem zd1(h:zp:=by
 rw[dL];cases hp:U.plain y
 ·simp
 ·cases r with
  |nil=>simp[aC,bm,ex]
  |cons _ _=>simp):zp:=h
theorem zej(h:zp:=by
 cases eV r with
 |none=>rfl
 |some q=>obtain⟨q,t⟩:=q;cases t<;>rfl):zp:=h
theorem zel(h:zp:=by
 split
 ·exact⟨h0 0,h0 1,jZ,fun a ha=>absurd ha zad,PK _⟩
 ·exact dK):zp:=h
theorem zer(h:zp:=by
 rw[Lib.splitB_miss _ _ _ _ hm,qA c _ (by rw[<- Wc];exact hm)];rfl):zp:=h
theorem zew(h:zp:=by
 go_meet
 case rel=>exact⟨false,rfl,M1,U7,.inr ⟨rfl,zav,H1⟩⟩):zp:=h
theorem zey(h:zp:=by
 rintro e w1 ⟨rfl,hb⟩;dsimp only;go_wp2;go_ret;exact⟨rfl,hb⟩):zp:=h
theorem zeS(h:zp:=by
 cases U.cE d
 ·rfl
 ·simp only[if_true];rw[xY,hy];rfl):zp:=h
theorem zfw(h:zp:=by
 split
 ·rfl
 ·split<;>rfl):zp:=h
theorem zav(h:zp:=by first|rfl|trivial):zp:=h
theorem zaG(h:zp:=by simp[World.frozen?,l5]):zp:=h
theorem zbA(h:zp:=by rw[Vg];exact((Pq _ _).alloc (Po _) _).alloc (by simp) _):zp:=h
theorem zbP(h:zp:=by rw[HPn.out];exact HSYN.out):zp:=h
theorem zbU(h:zp:=by unfold Hid J.aS;rw[hp]):zp:=h
theorem zb1(h:zp:=by show A.length<=_;omega):zp:=h
theorem zb4(h:zp:=by unfold Hid;rw[J.bj,U.cM,h1,U.aK,h2,U.bK,h3,U.aO,h4,U.cOn,h5,U.jA,h6,U.lr,h7,U.oz,h8,hn];rfl):zp:=h
theorem zb5(h:zp:=by unfold Hid;rw[J.bj,U.cM,h1,U.aK,h2,U.bK,h3,U.aO,h4,U.cOn,h5,U.jA,h6,he];simp only;rw[hn];rfl):zp:=h
theorem zb6(h:zp:=by unfold Hid;rw[J.bj,U.cM,h1,U.aK,h2,U.bK,h3,U.aO,h4,U.cOn,h5,U.jA,h6,U.lr,h7,hn];rfl):zp:=h
theorem zb7(h:zp:=by unfold Hid;rw[J.bj,U.cM,h1,U.aK,h2,U.bK,h3,U.aO,h4,U.cOn,h5,he];simp only;rw[hn];rfl):zp:=h
theorem zce(h:zp:=by unfold Hid;rw[J.bj,U.cM,h1,U.aK,h2,U.bK,h3,U.aO,h4,hn];rfl):zp:=h
theorem zci(h:zp:=by unfold Hid;rw[J.bj,U.cM,h1,U.aK,h2,U.bK,h3,hn];rfl):zp:=h
theorem zcq(h:zp:=by unfold Hid;rw[J.bj,U.cM,h1,U.aK,h2,hn];rfl):zp:=h
open Tryz
variable {a b x c d y s:()}{l P r:List ()}{n k i:Nat}{A:List Act}{S S':List U.State}{w w':World}{vs:List Value}
section
open Go.RowKit
theorem Mq:Tryz.f174.results=#[.cell 4 349]:=rfl
theorem p8:(Tryz.prog.info? 349).map (·.size)=some 7:=zab
namespace J
def qw:():=⟨#[116,111]⟩
def pTo:List ()->Option (()×List ())
 |[]=>some (ByteArray.empty,[])
 |y::r=>if y.toList == qw.toList then pOf U.plain r else some (ByteArray.empty,y::r)
def eV(l:List ()):Option ((()×List U.Act)×List ()):=match pTo l with
 |none=>none
 |some (t,r)=>(bg r).map fun q=>((t,q.1),q.2)
end J
def iG(p:Nat)(num dep:Int)(ev:())(af:Bool)(d:Int)(l:List ())(w:World)(e:Ending)(w':World):Prop:=match J.eV l with
 |none=>dj p 2 num w e w'
 |some ((t,A),r)=>∃a n c,e=.returned (.agg #[.int .i64 num,.int .i64 dep,.string ev,.bool af,.int .u64 d,.string t,.slice a n c])/\w'.ownsRow w.heap.size 275 1 (.slice a n c) A.length (A.map bo)/\au p w w'/\ak w' p num dep r
structure xL(w w1:World)(ev t:())(af:Bool)(d:Int):Prop where
 m:w1.heap[w.heap.size]?=some (.cells #[ev,af,.int .u64 d,t,.slice none 0 0] 207 (0,0))
 l:w1.heap[w.heap.size+1]?=some (.cells #[(0:Int),(0:Int),ByteArray.empty,false,.int .u64 0,ByteArray.empty,.slice none 0 0] 349 (0,0))
theorem pL(p:Nat)(num dep:Int)(ev:())(af:Bool)(d:Int)(l:List ())(w:World)(H:ak w p num dep l)(hv:a7 p w):
  () 174 #[p,.agg #[ev,af,.int .u64 d,ByteArray.empty,.slice none 0 0]] w (iG p num dep ev af d l w):=by
 have VI:=H.lt;have HPM:Hid (J.eV l=match J.pTo l with|none=>none|some (t,r)=>(J.bg r).map fun q=>((t,q.1),q.2)):=rfl;go_enter func174,ntmps174
 go_upto_region 1 with fail
 obtain⟨w1,Vg⟩:∃y,y=(w.alloc (.cells #[ev,af,.int .u64 d,ByteArray.empty,.slice none 0 0] 207)).alloc (.cells #[(0:Int),(0:Int),ByteArray.empty,false,.int .u64 0,ByteArray.empty,.slice none 0 0] 349):=⟨_,rfl⟩;change Code.wp _ _ _ _ ((w.alloc (.cells #[ev,af,.int .u64 d,ByteArray.empty,.slice none 0 0] 207)).alloc (.cells #[(0:Int),(0:Int),ByteArray.empty,false,.int .u64 0,ByteArray.empty,.slice none 0 0] 349));rw[<- Vg];have U7:au p w w1:=by rw[Vg];exact((au.refl p w).alloc _).alloc _
 have H1:ak w1 p num dep l:=by rw[Vg];exact(H.alloc _).alloc _
 have M1:xL w w1 ev ByteArray.empty af d:=by rw[Vg];exact⟨fx _ _ _,cA _ _ _⟩
 clear Vg;cases Wz:J.pTo l with
 |none=>
  cases l with
  |nil=>cases Wz
  |cons y r=>
   cases hy:(y.toList == J.qw.toList)
   ·rw[J.pTo,hy]at Wz;cases Wz
   ·have hr:J.pOf U.plain r=none:=by rw[J.pTo,hy]at Wz;exact Wz
    have HS:Hid (J.eV (y::r)=none):=by unfold Hid;rw[HPM.out,Wz]
    clear HPM;go_wp2_with fail;refine(kU p num dep y r J.qw _ H1 hy).mono ?_;rintro e w2 ⟨rfl,ho2,H2⟩;have VE:=U7.trans ho2.al;dsimp only;go_wp2_with fail;refine(eK p num dep r _ H2 (hv.al VE)).mono ?_;rintro e w3 h3;rw[hr]at h3;obtain⟨Wb,b,h4,h5,rfl⟩:=h3;dsimp only;refine⟨rfl,?_⟩;unfold iG;rw[HS.out];exact⟨VE.trans Wb,b,Pr VE.size h4,h5,rfl⟩
 |some q=>
  obtain⟨t,r⟩:=q;have HS:Hid (J.eV l=(J.bg r).map fun q=>((t,q.1),q.2)):=by unfold Hid;rw[HPM.out,Wz]
  clear HPM
  go_cut[6] (fun c wx=>∃b:Bool,c=.bool b/\xL w wx ev ByteArray.empty af d/\au p w wx/\((b=true/\∃r0,J.pOf U.plain r0=some (t,r)/\ak wx p num dep r0)\/(b=false/\t=ByteArray.empty/\ak wx p num dep r)))
  case first=>
   cases l with
   |nil=>
    cases Wz
    go_wp2_with(go_at_call 213;refine(skip_none p num dep J.qw _ H1).mono ?_;rintro e w9 ⟨rfl,U1⟩;rw[U1];clear U1 w9);exact zew
   |cons y r1=>
    cases hy:(y.toList == J.qw.toList)
    ·rw[J.pTo,hy]at Wz;cases Wz
     go_wp2_with(go_at_call 213;refine(rY p num dep y r1 J.qw _ H1 hy).mono ?_;rintro e w9 ⟨rfl,U1⟩;rw[U1];clear U1 w9);exact zew
    ·have hr:J.pOf U.plain r1=some (t,r):=by rw[J.pTo,hy]at Wz;exact Wz
     go_wp2_with(go_at_call 213;refine(kU p num dep y r1 J.qw _ H1 hy).mono ?_;rintro e w2 ⟨rfl,ho2,H2⟩);go_meet
     case rel=>exact⟨true,rfl,⟨(ho2.block _ zaa).trans M1.m,(ho2.block _ zaa).trans M1.l⟩,U7.trans ho2.al,.inl ⟨rfl,r1,hr,H2⟩⟩
  case rest=>
   obtain⟨b,rfl,M2,VE,hbb⟩:=hcut;clear M1 H1 U7;obtain⟨w2,Zf⟩:∃y:World,y=wc:=⟨wc,rfl⟩;subst Zf
   go_upto_if 6 with fail
   go_cut[] (fun wx=>xL w wx ev t af d/\au p w wx/\ak wx p num dep r)
   case first=>
    rcases hbb with⟨rfl,r0,hr0,H2⟩|⟨rfl,rfl,H2⟩
    ·go_wp2_with fail;refine(eK p num dep r0 _ H2 (hv.al VE)).mono ?_;rintro e w3 h3;rw[hr0]at h3;obtain⟨rfl,Wb,H3⟩:=h3;have Zp:=VE.size;have lm:=(Pn.1 M2.m).1;have ll:=(Pn.1 M2.l).1;have m3:=(Wb.block _ lm zaa).trans M2.m;have l3:=(Wb.block _ ll zaa).trans M2.l;have k3:w3.cell? (w,3)=some ↑ByteArray.empty:=by rw[Pt w3 _ 3 _ _ _ m3];rfl
     have f3:w3.frozen? (w,3)=false:=by simp[World.frozen?,m3]
     dsimp only;go_wp2;go_meet
     case rel=>
      have oo:=ag w3 w 3 (.string t);refine⟨⟨?_,(oo.block _ zaa).trans l3⟩,(VE.trans Wb).jg oo (Po _),H3.only oo VI⟩;rw[PR w3 _ 3 _ _ _ m3];rfl
    ·go_wp2;go_meet
     case rel=>exact⟨M2,VE,H2⟩
   case rest=>
    obtain⟨M3,Wb,H3⟩:=hcut;clear M2 VE hbb;obtain⟨w3,ZN⟩:∃y:World,y=wc:=⟨wc,rfl⟩;subst ZN;go_wp2_with fail;refine(jS p num dep r _ H3 (hv.al Wb)).mono ?_;rintro e w4 h4;unfold iF at h4;cases ha:J.bg r with
    |none=>
     rw[ha]at h4;have HS2:Hid (J.eV l=none):=by unfold Hid;rw[HS.out,ha];rfl
     obtain⟨Xe,b,h5,h6,rfl⟩:=h4;dsimp only;refine⟨rfl,?_⟩;unfold iG;rw[HS2.out];exact⟨Wb.trans Xe,b,Pr Wb.size h5,h6,rfl⟩
    |some q=>
     obtain⟨A,r'⟩:=q;rw[ha]at h4;have HS2:Hid (J.eV l=some ((t,A),r')):=by unfold Hid;rw[HS.out,ha];rfl
     obtain⟨a,n,c,rfl,U2,Xe,H4⟩:=h4;have Xx:=Wb.size;have lm:=(Pn.1 M3.m).1;have ll:=(Pn.1 M3.l).1;have m4:=(Xe.block _ lm zaa).trans M3.m;have l4:=(Xe.block _ ll zaa).trans M3.l;have hown4:=aJ U2 Xx;have k4:w4.cell? (w,4)=some (.slice none 0 0):=by rw[Pt w4 _ 4 _ _ _ m4];rfl
     have f4:w4.frozen? (w,4)=false:=by simp[World.frozen?,m4]
     have o5:=ag w4 w 4 (.slice a n c);have m5:=PR w4 w 4 _ _ (.slice a n c) m4;have l5:=(o5.block (w.heap.size+1) zaa).trans l4;have U6:=nJ hown4 o5 m4 zac;have ht5:=(Wb.trans Xe).jg o5 (Po _);have H5:=H4.only o5 VI;clear HS ha M3 Wb H3 U2 Xe H4 m4 l4 hown4 o5;dsimp only
     go_upto_region 4 with fail
     generalize w4.setCell (w,4) (.slice a n c)=w5 at *;clear k4 f4;obtain⟨c0,c1⟩:=H5.cells;have y0:w5.cell? w=some ↑ev:=by rw[Pt w5 _ 0 _ _ _ m5];rfl
     have y1:w5.cell? (w,1)=some (.bool af):=by rw[Pt w5 _ 1 _ _ _ m5];rfl
     have y2:w5.cell? (w,2)=some (.int .u64 d):=by rw[Pt w5 _ 2 _ _ _ m5];rfl
     have y3:w5.cell? (w,3)=some ↑t:=by rw[Pt w5 _ 3 _ _ _ m5];rfl
     have y4:w5.cell? (w,4)=some (.slice a n c):=by rw[Pt w5 _ 4 _ _ _ m5];rfl
     have z0:w5.cell? ↑(w.heap.size+1)=some ↑(0:Int):=by rw[Pt w5 _ 0 _ _ _ l5];rfl
     have q0:w5.frozen? ↑(w.heap.size+1)=false:=zaG;have z1:w5.cell? (w.heap.size+1,1)=some ↑(0:Int):=by rw[Pt w5 _ 1 _ _ _ l5];rfl
     have q1:w5.frozen? (w.heap.size+1,1)=false:=zaG;have z2:w5.cell? (w.heap.size+1,2)=some ↑ByteArray.empty:=by rw[Pt w5 _ 2 _ _ _ l5];rfl
     have q2:w5.frozen? (w.heap.size+1,2)=false:=zaG;have z3:w5.cell? (w.heap.size+1,3)=some (.bool false):=by rw[Pt w5 _ 3 _ _ _ l5];rfl
     have q3:w5.frozen? (w.heap.size+1,3)=false:=zaG;have z4:w5.cell? (w.heap.size+1,4)=some (.int .u64 0):=by rw[Pt w5 _ 4 _ _ _ l5];rfl
     have q4:w5.frozen? (w.heap.size+1,4)=false:=zaG;have z5:w5.cell? (w.heap.size+1,5)=some ↑ByteArray.empty:=by rw[Pt w5 _ 5 _ _ _ l5];rfl
     have q5:w5.frozen? (w.heap.size+1,5)=false:=zaG;have z6:w5.cell? (w.heap.size+1,6)=some (.slice none 0 0):=by rw[Pt w5 _ 6 _ _ _ l5];rfl
     have q6:w5.frozen? (w.heap.size+1,6)=false:=zaG;have hne1:¬p=w.heap.size+1:=zaa;have hne2:¬w.heap.size+1=p:=zaa;have hne3:¬w.heap.size=w.heap.size+1:=zaa;have HH:Hid (w5.ownsRow w 275 1 (.slice a n c) A.length (A.map bo)/\au p w w5/\ak w5 p num dep r'):=⟨U6,ht5,H5⟩;have HL5:Hid _:=l5;clear m5 l5 U6 ht5 H5;refine eD 6 zab zab ?_;simp only[List.take_succ_cons,List.take_zero,List.drop_succ_cons,List.drop_zero]
     repeat still_step
     refine QY ?_;refine fC rfl 349 (.tmp 4) (.tmp 18) rfl _ 349 _ _ rfl rfl (show w5.drew.heap[w.heap.size+1]?=_ from HL5.out) p8 rfl rfl ?_;go_wp2;have G2:=(iM w5.drew (w.heap.size+1) #[(num:Int),(dep:Int),ev,af,.int .u64 d,t,.slice a n c]).Mj;refine eh Mq _ 349 _ (0,0) _ rfl (UB _ _ _ _ _ _ (show w5.drew.heap[w.heap.size+1]?=_ from HL5.out)) underlying349 rfl p8 rfl ?_;unfold iG;rw[HS2.out];exact⟨a,n,c,rfl,nJ HH.out.1 G2 HL5.out zac,HH.out.2.1.jg G2 zaa,HH.out.2.2.only G2 zaa⟩
namespace J
inductive PL where
 |state (k:Int) (name:())
 |move (ev:()) (af:Bool) (d:Int) (dst:()) (A:List U.Act)
 |enter (A:List U.Act)
 |leave (A:List U.Act)
def bj(num:Nat):List ()->Option (PL×List ())
 |[]=>none
 |x::r=>
  if x.toList == U.cM then(pOf U.plain r).map fun q=>(.state 0 q.1,q.2)
  else if x.toList == U.aK then(pOf U.plain r).map fun q=>(.state 1 q.1,q.2)
  else if x.toList == U.bK then(pOf U.plain r).map fun q=>(.state 2 q.1,q.2)
  else if x.toList == U.aO then(cI r).map fun q=>(.state q.1.2 q.1.1,q.2)
  else if x.toList == U.cOn then match pOf U.bM r with
   |none=>none
   |some (ev,r1)=>(eV r1).map fun q=>(.move ev false 0 q.1.1 q.1.2,q.2)
  else if x.toList == U.jA then match eR r with
   |none=>none
   |some (d,r1)=>(eV r1).map fun q=>(.move (U.bA++U.dec num) true d q.1.1 q.1.2,q.2)
  else if x.toList == U.lr then(bW r).map fun q=>(.enter q.1,q.2)
  else if x.toList == U.oz then(bW r).map fun q=>(.leave q.1,q.2)
  else none
end J
def fM(w:World)(base:Nat)(num dep:Int):J.PL->Value->Prop
 |.state k n,v=>v=.iface 345 (.agg #[.int .i64 num,.int .i64 dep,.int .i64 k,.string n])
 |.move ev af d t A,v=>∃a n c,v=.iface 349 (.agg #[.int .i64 num,.int .i64 dep,.string ev,.bool af,.int .u64 d,.string t,.slice a n c])/\w.ownsRow base 275 1 (.slice a n c) A.length (A.map bo)
 |.enter A,v=>∃a n c,v=.iface 356 (.agg #[.int .i64 num,.int .i64 dep,.slice a n c])/\w.ownsRow base 275 1 (.slice a n c) A.length (A.map bo)
 |.leave A,v=>∃a n c,v=.iface 357 (.agg #[.int .i64 num,.int .i64 dep,.slice a n c])/\w.ownsRow base 275 1 (.slice a n c) A.length (A.map bo)
def a8(p num:Nat)(dep:Int)(l:List ())(w:World)(e:Ending)(w':World):Prop:=match J.bj num l with
 |none=>dj p 2 num w e w'
 |some (L,r)=>∃v,e=.returned v/\fM w' w.heap.size num dep L v/\au p w w'/\ak w' p num dep r
theorem Dm(p num:Nat)(dep:Int)(x:())(r:List ())(w:World)(H:ak w p num dep (x::r))(hv:a7 p w)(h1:(x.toList == [115,116,97,116,101])=true):
  () 119 #[p] w (a8 p num dep (x::r) w):=by
 cases hn:J.pOf U.plain r with
 |none=>
  have HS:Hid (J.bj num (x::r)=none):=by unfold Hid;rw[J.bj,U.cM,h1,hn];rfl
  go_enter func119,ntmps119;go_wp2_with fail;refine(aG p num dep x r _ H).mono ?_;rintro e w1 ⟨rfl,ho,H1⟩;have U7:=ho.al;clear ho;dsimp only;go_wp2_with fail;refine(qe p num dep 0 r _ H1 (hv.al U7) hn).mono ?_;exact zdu
 |some q=>
  obtain⟨n,r'⟩:=q;have HS:Hid (J.bj num (x::r)=some (.state 0 n,r')):=by unfold Hid;rw[J.bj,U.cM,h1,hn];rfl
  go_enter func119,ntmps119;go_wp2_with fail;refine(aG p num dep x r _ H).mono ?_;rintro e w1 ⟨rfl,ho,H1⟩;have U7:=ho.al;clear ho;dsimp only;go_wp2_with fail;refine(nQ p num dep 0 r r' n _ H1 (hv.al U7) hn).mono ?_;exact zdF
theorem vx(p num:Nat)(dep:Int)(x:())(r:List ())(w:World)(H:ak w p num dep (x::r))(hv:a7 p w)(h1:(x.toList == [115,116,97,116,101])=false)(h2:(x.toList == [112,97,114,97,108,108,101,108])=true):
  () 119 #[p] w (a8 p num dep (x::r) w):=by
 cases hn:J.pOf U.plain r with
 |none=>
  have HS:Hid (J.bj num (x::r)=none):=zcq;go_enter func119,ntmps119;go_wp2_with fail;refine(aG p num dep x r _ H).mono ?_;rintro e w1 ⟨rfl,ho,H1⟩;have U7:=ho.al;clear ho;dsimp only;go_wp2_with fail;refine(qe p num dep 1 r _ H1 (hv.al U7) hn).mono ?_;exact zdu
 |some q=>
  obtain⟨n,r'⟩:=q;have HS:Hid (J.bj num (x::r)=some (.state 1 n,r')):=zcq;go_enter func119,ntmps119;go_wp2_with fail;refine(aG p num dep x r _ H).mono ?_;rintro e w1 ⟨rfl,ho,H1⟩;have U7:=ho.al;clear ho;dsimp only;go_wp2_with fail;refine(nQ p num dep 1 r r' n _ H1 (hv.al U7) hn).mono ?_;exact zdF
theorem Dj(p num:Nat)(dep:Int)(x:())(r:List ())(w:World)(H:ak w p num dep (x::r))(hv:a7 p w)(h1:(x.toList == [115,116,97,116,101])=false)(h2:(x.toList == [112,97,114,97,108,108,101,108])=false)(h3:(x.toList == [102,105,110,97,108])=true):
  () 119 #[p] w (a8 p num dep (x::r) w):=by
 cases hn:J.pOf U.plain r with
 |none=>
  have HS:Hid (J.bj num (x::r)=none):=zci;go_enter func119,ntmps119;go_wp2_with fail;refine(aG p num dep x r _ H).mono ?_;rintro e w1 ⟨rfl,ho,H1⟩;have U7:=ho.al;clear ho;dsimp only;go_wp2_with fail;refine(qe p num dep 2 r _ H1 (hv.al U7) hn).mono ?_;exact zdu
 |some q=>
  obtain⟨n,r'⟩:=q;have HS:Hid (J.bj num (x::r)=some (.state 2 n,r')):=zci;go_enter func119,ntmps119;go_wp2_with fail;refine(aG p num dep x r _ H).mono ?_;rintro e w1 ⟨rfl,ho,H1⟩;have U7:=ho.al;clear ho;dsimp only;go_wp2_with fail;refine(nQ p num dep 2 r r' n _ H1 (hv.al U7) hn).mono ?_;exact zdF
theorem yM(p num:Nat)(dep:Int)(x:())(r:List ())(w:World)(H:ak w p num dep (x::r))(hv:a7 p w)(h1:(x.toList == [115,116,97,116,101])=false)(h2:(x.toList == [112,97,114,97,108,108,101,108])=false)(h3:(x.toList == [102,105,110,97,108])=false)(h4:(x.toList == [104,105,115,116,111,114,121])=true):
  () 119 #[p] w (a8 p num dep (x::r) w):=by
 cases hn:J.cI r with
 |none=>
  have HS:Hid (J.bj num (x::r)=none):=zce;go_enter func119,ntmps119;go_wp2_with fail;refine(aG p num dep x r _ H).mono ?_;rintro e w1 ⟨rfl,ho,H1⟩;have U7:=ho.al;clear ho;dsimp only;go_wp2_with fail;refine(qY p num dep r _ H1 (hv.al U7)).mono ?_;rintro e w2 hq;rw[hn]at hq;exact zdy
 |some q=>
  obtain⟨⟨n,kk⟩,r'⟩:=q;have HS:Hid (J.bj num (x::r)=some (.state kk n,r')):=zce;go_enter func119,ntmps119;go_wp2_with fail;refine(aG p num dep x r _ H).mono ?_;rintro e w1 ⟨rfl,ho,H1⟩;have U7:=ho.al;clear ho;dsimp only;go_wp2_with fail;refine(qY p num dep r _ H1 (hv.al U7)).mono ?_;rintro e w2 hq;rw[hn]at hq;obtain⟨rfl,VE,H2⟩:=hq;clear hn;dsimp only;go_wp2;go_ret;unfold a8;rw[HS.out];exact⟨_,rfl,rfl,U7.trans VE,H2⟩
theorem Dh(p num:Nat)(dep:Int)(x:())(r:List ())(w:World)(H:ak w p num dep (x::r))(hv:a7 p w)(h1:(x.toList == [115,116,97,116,101])=false)(h2:(x.toList == [112,97,114,97,108,108,101,108])=false)(h3:(x.toList == [102,105,110,97,108])=false)(h4:(x.toList == [104,105,115,116,111,114,121])=false)(h5:(x.toList == [111,110])=false)(h6:(x.toList == [97,102,116,101,114])=false)(h7:(x.toList == [101,110,116,101,114])=true):
  () 119 #[p] w (a8 p num dep (x::r) w):=by
 cases hn:J.bW r with
 |none=>
  have HS:Hid (J.bj num (x::r)=none):=zb6;exact zcQ
 |some q=>
  obtain⟨A,r'⟩:=q;have HS:Hid (J.bj num (x::r)=some (.enter A,r')):=zb6;exact zcN
theorem Dk(p num:Nat)(dep:Int)(x:())(r:List ())(w:World)(H:ak w p num dep (x::r))(hv:a7 p w)(h1:(x.toList == [115,116,97,116,101])=false)(h2:(x.toList == [112,97,114,97,108,108,101,108])=false)(h3:(x.toList == [102,105,110,97,108])=false)(h4:(x.toList == [104,105,115,116,111,114,121])=false)(h5:(x.toList == [111,110])=false)(h6:(x.toList == [97,102,116,101,114])=false)(h7:(x.toList == [101,110,116,101,114])=false)(h8:(x.toList == [108,101,97,118,101])=true):
  () 119 #[p] w (a8 p num dep (x::r) w):=by
 cases hn:J.bW r with
 |none=>
  have HS:Hid (J.bj num (x::r)=none):=zb4;exact zcQ
 |some q=>
  obtain⟨A,r'⟩:=q;have HS:Hid (J.bj num (x::r)=some (.leave A,r')):=zb4;exact zcN
theorem yO(p num:Nat)(dep:Int)(x:())(r:List ())(w:World)(H:ak w p num dep (x::r))(hv:a7 p w)(h1:(x.toList == [115,116,97,116,101])=false)(h2:(x.toList == [112,97,114,97,108,108,101,108])=false)(h3:(x.toList == [102,105,110,97,108])=false)(h4:(x.toList == [104,105,115,116,111,114,121])=false)(h5:(x.toList == [111,110])=true):
  () 119 #[p] w (a8 p num dep (x::r) w):=by
 cases he:J.pOf U.bM r with
 |none=>
  have HS:Hid (J.bj num (x::r)=none):=by unfold Hid;rw[J.bj,U.cM,h1,U.aK,h2,U.bK,h3,U.aO,h4,U.cOn,h5,he];rfl
  go_enter func119,ntmps119;go_wp2_with fail;refine(aG p num dep x r _ H).mono ?_;rintro e w1 ⟨rfl,ho,H1⟩;have U7:=ho.al;clear ho;dsimp only;go_wp2_with fail;refine(gj p num dep r _ H1 (hv.al U7)).mono ?_;rintro e w2 hq;rw[he]at hq;exact zdy
 |some q=>
  obtain⟨ev,r1⟩:=q;cases hn:J.eV r1 with
  |none=>
   have HS:Hid (J.bj num (x::r)=none):=zb7;go_enter func119,ntmps119;go_wp2_with fail;refine(aG p num dep x r _ H).mono ?_;rintro e w1 ⟨rfl,ho,H1⟩;have U7:=ho.al;clear ho;dsimp only;go_wp2_with fail;refine(gj p num dep r _ H1 (hv.al U7)).mono ?_;rintro e w3 h3;rw[he]at h3;obtain⟨rfl,Wb,H3⟩:=h3;have Xe:=U7.trans Wb;clear he H1 Wb;dsimp only;go_wp2_with fail;refine(pL p num dep ev false 0 r1 _ H3 (hv.al Xe)).mono ?_;exact zdk
  |some q=>
   obtain⟨⟨t,A⟩,r'⟩:=q;have HS:Hid (J.bj num (x::r)=some (.move ev false 0 t A,r')):=zb7;go_enter func119,ntmps119;go_wp2_with fail;refine(aG p num dep x r _ H).mono ?_;rintro e w1 ⟨rfl,ho,H1⟩;have U7:=ho.al;clear ho;dsimp only;go_wp2_with fail;refine(gj p num dep r _ H1 (hv.al U7)).mono ?_;rintro e w3 h3;rw[he]at h3;obtain⟨rfl,Wb,H3⟩:=h3;have Xe:=U7.trans Wb;clear he H1 Wb;dsimp only;go_wp2_with fail;refine(pL p num dep ev false 0 r1 _ H3 (hv.al Xe)).mono ?_;exact zc7
theorem Dg(p num:Nat)(dep:Int)(x:())(r:List ())(w:World)(H:ak w p num dep (x::r))(hv:a7 p w)(Xs:num<=1073741824)(h1:(x.toList == [115,116,97,116,101])=false)(h2:(x.toList == [112,97,114,97,108,108,101,108])=false)(h3:(x.toList == [102,105,110,97,108])=false)(h4:(x.toList == [104,105,115,116,111,114,121])=false)(h5:(x.toList == [111,110])=false)(h6:(x.toList == [97,102,116,101,114])=true):
  () 119 #[p] w (a8 p num dep (x::r) w):=by
 cases he:J.eR r with
 |none=>
  have HS:Hid (J.bj num (x::r)=none):=by unfold Hid;rw[J.bj,U.cM,h1,U.aK,h2,U.bK,h3,U.aO,h4,U.cOn,h5,U.jA,h6,he];rfl
  go_enter func119,ntmps119;go_wp2_with fail;refine(aG p num dep x r _ H).mono ?_;rintro e w1 ⟨rfl,ho,H1⟩;have U7:=ho.al;clear ho;obtain⟨c0,c1⟩:=H1.cells;dsimp only;go_wp2_with fail;refine(jL num _ Xs (hv.al U7).here).mono ?_;rintro e w5 ⟨rfl,VU⟩;have ht5:=U7.trans (aU VU);have H5:=H1.aq VU;clear VU H1 U7 c0 c1;dsimp only;go_wp2_with fail;refine(kG p num dep r _ H5 (hv.al ht5)).mono ?_;rintro e w2 hq;rw[he]at hq;obtain⟨ht,b,h4,h5,rfl⟩:=hq;dsimp only;refine⟨rfl,?_⟩;unfold a8;rw[HS.out];exact⟨ht5.trans ht,b,Pr ht5.size h4,h5,rfl⟩
 |some q=>
  obtain⟨d,r1⟩:=q;cases hn:J.eV r1 with
  |none=>
   have HS:Hid (J.bj num (x::r)=none):=zb5;go_enter func119,ntmps119;go_wp2_with fail;refine(aG p num dep x r _ H).mono ?_;rintro e w1 ⟨rfl,ho,H1⟩;have U7:=ho.al;clear ho;obtain⟨c0,c1⟩:=H1.cells;dsimp only;go_wp2_with fail;refine(jL num _ Xs (hv.al U7).here).mono ?_;rintro e w5 ⟨rfl,VU⟩;have ht5:=U7.trans (aU VU);have H5:=H1.aq VU;clear VU H1 U7 c0 c1;dsimp only;go_wp2_with fail;refine(kG p num dep r _ H5 (hv.al ht5)).mono ?_;rintro e w3 h3;rw[he]at h3;obtain⟨rfl,Wb,H3⟩:=h3;have Xe:=ht5.trans Wb;clear he H5 Wb;dsimp only;go_wp2_with fail;refine(pL p num dep (U.bA++U.dec num) true d r1 _ H3 (hv.al Xe)).mono ?_;exact zdk
  |some q=>
   obtain⟨⟨t,A⟩,r'⟩:=q;have HS:Hid (J.bj num (x::r)=some (.move (U.bA++U.dec num) true d t A,r')):=zb5;go_enter func119,ntmps119;go_wp2_with fail;refine(aG p num dep x r _ H).mono ?_;rintro e w1 ⟨rfl,ho,H1⟩;have U7:=ho.al;clear ho;obtain⟨c0,c1⟩:=H1.cells;dsimp only;go_wp2_with fail;refine(jL num _ Xs (hv.al U7).here).mono ?_;rintro e w5 ⟨rfl,VU⟩;have ht5:=U7.trans (aU VU);have H5:=H1.aq VU;clear VU H1 U7 c0 c1;dsimp only;go_wp2_with fail;refine(kG p num dep r _ H5 (hv.al ht5)).mono ?_;rintro e w3 h3;rw[he]at h3;obtain⟨rfl,Wb,H3⟩:=h3;have Xe:=ht5.trans Wb;clear he H5 Wb;dsimp only;go_wp2_with fail;refine(pL p num dep (U.bA++U.dec num) true d r1 _ H3 (hv.al Xe)).mono ?_;exact zc7
theorem Gl(p num:Nat)(dep:Int)(w:World)(H:ak w p num dep []):
  () 119 #[p] w (a8 p num dep [] w):=by
 go_enter func119,ntmps119;go_wp2_with fail;refine(nG p num dep _ H).mono ?_;rintro e w1 h1;obtain⟨ht,b,h3,h4,rfl⟩:=cX (au.refl p w) h1;dsimp only;exact⟨rfl,ht,b,h3,h4,rfl⟩
theorem Dl(p num:Nat)(dep:Int)(x:())(r:List ())(w:World)(H:ak w p num dep (x::r))(h1:(x.toList == [115,116,97,116,101])=false)(h2:(x.toList == [112,97,114,97,108,108,101,108])=false)(h3:(x.toList == [102,105,110,97,108])=false)(h4:(x.toList == [104,105,115,116,111,114,121])=false)(h5:(x.toList == [111,110])=false)(h6:(x.toList == [97,102,116,101,114])=false)(h7:(x.toList == [101,110,116,101,114])=false)(h8:(x.toList == [108,101,97,118,101])=false):
  () 119 #[p] w (a8 p num dep (x::r) w):=by
 have HS:Hid (J.bj num (x::r)=none):=by unfold Hid;rw[J.bj,U.cM,h1,U.aK,h2,U.bK,h3,U.aO,h4,U.cOn,h5,U.jA,h6,U.lr,h7,U.oz,h8];rfl
 go_enter func119,ntmps119;go_wp2_with fail;refine(aG p num dep x r _ H).mono ?_;rintro e w1 ⟨rfl,ho,H1⟩;have U7:=ho.al;obtain⟨c0,c1⟩:=H1.cells;clear ho;dsimp only;go_wp2_with fail;refine(ba num dep 2 _).mono ?_;rintro e w2 hq;obtain⟨ht,b,h4,h5,rfl⟩:=cX U7 hq;dsimp only;refine⟨rfl,?_⟩;unfold a8;rw[HS.out];exact⟨ht,b,h4,h5,rfl⟩
theorem JC(p num:Nat)(dep:Int)(l:List ())(w:World)(H:ak w p num dep l)(hv:a7 p w)(Xs:num<=1073741824):
  () 119 #[p] w (a8 p num dep l w):=by
 cases l with
 |nil=>exact Gl p num dep w H
 |cons x r=>
  cases h1:(x.toList == [115,116,97,116,101])
  case true=>exact Dm p num dep x r w H hv h1
  cases h2:(x.toList == [112,97,114,97,108,108,101,108])
  case true=>exact vx p num dep x r w H hv h1 h2
  cases h3:(x.toList == [102,105,110,97,108])
  case true=>exact Dj p num dep x r w H hv h1 h2 h3
  cases h4:(x.toList == [104,105,115,116,111,114,121])
  case true=>exact yM p num dep x r w H hv h1 h2 h3 h4
  cases h5:(x.toList == [111,110])
  case true=>exact yO p num dep x r w H hv h1 h2 h3 h4 h5
  cases h6:(x.toList == [97,102,116,101,114])
  case true=>exact Dg p num dep x r w H hv Xs h1 h2 h3 h4 h5 h6
  cases h7:(x.toList == [101,110,116,101,114])
  case true=>exact Dh p num dep x r w H hv h1 h2 h3 h4 h5 h6 h7
  cases h8:(x.toList == [108,101,97,118,101])
  case true=>exact Dk p num dep x r w H hv h1 h2 h3 h4 h5 h6 h7 h8
  exact Dl p num dep x r w H h1 h2 h3 h4 h5 h6 h7 h8
namespace J
theorem OA(h:(a.toList == b.toList)=true):a=b:=by
 have h:=eq_of_beq h;rw[P1,P1]at h;cases a;cases b
 simp at h;rw[h]
theorem lh{l:List UInt8}(h:(a.toList == l)=true)(hb:b.toList=l):a=b:=OA (by rw[hb];exact h)
theorem yt:bDo.toList=U.cDo:=zao
theorem xY:bAs.toList=U.cAs:=zao
theorem dL{P:()->Bool}:pOf P (x::r)=if P x then some (x,r) else none:=rfl
theorem iP:eR (x::r)=if U.cE x then some (U.dV x,r) else none:=rfl
theorem GI:da [c]=none:=by
 unfold da;rw[dL];split
 ·rfl
 ·rename_i x l1 h;split at h
  ·cases h;rfl
  ·cases h
theorem GJ:da [c,d]=if U.called c&&U.cE d then some ((c,U.dV d,none),[]) else none:=by
 unfold da;rw[dL];cases U.called c
 ·rfl
 ·simp only[Bool.true_and,if_true];rw[iP];cases U.cE d<;>rfl
theorem DH(hy:(y.toList == U.cAs)=false):da (c::d::y::r)=if U.called c&&U.cE d then some ((c,U.dV d,none),y::r) else none:=by
 unfold da;rw[dL];cases U.called c
 ·rfl
 ·simp only[Bool.true_and,if_true];rw[iP];exact zeS
theorem GD(hy:(y.toList == U.cAs)=true):da [c,d,y]=none:=by
 unfold da;rw[dL];cases U.called c
 ·rfl
 ·simp only[if_true];rw[iP];exact zeS
theorem GF(hy:(y.toList == U.cAs)=true):da (c::d::y::a::r)=if U.called c&&U.cE d&&U.called a then some ((c,U.dV d,some a),r) else none:=by
 unfold da;rw[dL];cases U.called c
 ·rfl
 ·simp only[Bool.true_and,if_true];rw[iP];cases U.cE d
  ·rfl
  ·simp only[Bool.true_and,if_true];rw[xY,hy,PC rfl,dL];cases U.called a<;>rfl
theorem Es{x:()}{r:List ()}(h:(x.toList == U.cDo)=true):
  bh r=(U.qt (x::r)).map fun q=>(q.1,(x::r).drop q.2):=by
 cases r with
 |nil=>rfl
 |cons y r=>
  rw[bh];cases r with
  |nil=>
   have h2:U.qt [x,y]=none:=by unfold U.qt;rw[PC zad]
   rw[h2];split
   ·rfl
   ·exact zfw
  |cons c r=>
   have hl:¬(x::y::c::r).length<3:=zad;unfold U.qt;rw[Pu hl,show U.at' (x::y::c::r) 0=x from rfl,h,PC rfl,show U.at' (x::y::c::r) 1=y from rfl,show U.at' (x::y::c::r) 2=c from rfl];cases h1:(y.toList == U.cd)
   ·simp only[Bool.false_eq_true,if_false];cases h2:(y.toList == U.bO)
    ·simp only[Bool.false_eq_true,if_false];cases h3:(y.toList == U.fD)
     ·simp
     ·simp only[if_true];have ey:y=gP:=lh h3 fB;cases r with
      |nil=>rw[PC zad,GI];rfl
      |cons d r=>
       rw[Pu zad,show U.at' (x::y::c::d::r) 3=d from rfl];cases r with
       |nil=>
        rw[Pu zad,GJ];cases U.called c<;>cases U.cE d<;>simp[ey]
       |cons u r=>
        rw[show U.at' (x::y::c::d::u::r) 4=u from rfl];cases h4:(u.toList == U.cAs)
        ·rw[Pu zad,DH h4];cases U.called c<;>cases U.cE d<;>simp[ey]
        ·rw[PC zad];cases r with
         |nil=>rw[PC zad,GD h4];rfl
         |cons a r=>
          rw[Pu zad,show U.at' (x::y::c::d::u::a::r) 5=a from rfl,GF h4];cases U.called c<;>cases U.cE d<;>cases U.called a<;>simp[ey]
    ·have ey:y=cZ:=lh h2 eB;have h3:(y.toList == U.fD)=false:=by rw[ey,eB];rfl
     rw[h3];simp only[Bool.false_eq_true,if_false,if_true];rw[dL];cases U.called c<;>simp[ey]
   ·have ey:y=gb:=lh h1 iz;simp only[if_true];rw[dL];cases U.called c<;>simp[ey]
theorem Ic(h:(x.toList == U.cDo)=false):U.qt (x::r)=none:=by
 unfold U.qt;split
 ·rfl
 ·rw[show U.at' (x::r) 0=x from rfl,h];rfl
theorem vQ:∀(n:Nat) (l:List ()),l.length<=n->U.ai l=match bg l with|some (A,[])=>some A|_=>none
 |_,[],_=>rfl
 |0,x::r,h=>by simp at h
 |n+1,x::r,h=>by
  cases hd:(x.toList == U.cDo)
  ·rw[ku (by rw[yt];exact hd)];show U.kC (r.length+1) (x::r)=none;rw[U.kC,Ic hd]
  ·cases ha:U.qt (x::r) with
   |none=>
    have hp:=Es (r:=r) hd;rw[ha]at hp;rw[kr (by rw[yt];exact hd) hp];show U.kC (r.length+1) (x::r)=none;rw[U.kC,ha]
   |some q=>
    obtain⟨a,k⟩:=q;have hp:=Es (r:=r) hd;rw[ha]at hp;have hb:=U.mq ha;have hlen:((x::r).drop k).length<(x::r).length:=by
     rw[Sv];have:=hb.1;have:=hb.2;omega
    rw[kn (by rw[yt];exact hd) hp];have ih:=vQ n ((x::r).drop k) (by simp only[List.length_cons]at h hlen⊢;omega);show U.kC (r.length+1) (x::r)=_;rw[U.kC,ha];simp only;rw[U.sr r.length ((x::r).drop k).length _ (by simp only[List.length_cons]at hlen;omega) (Po _)];change(match U.ai ((x::r).drop k) with|none=>none|some r'=>some (a::r'))=_;rw[ih];cases bg ((x::r).drop k) with
    |none=>rfl
    |some q=>
     obtain⟨A,t⟩:=q;cases t<;>rfl
theorem oX(l:List ()):U.ai l=match bg l with|some (A,[])=>some A|_=>none:=vQ l.length l (Po _)
end J
end
section
open Go.RowKit
open Go.PlainAid (bt get_bt bt_nonneg bt_le bt_end)
namespace U
theorem NV(n:Nat):∃k:Nat,m64 n=k/\k<=18446744073709551615:=by
 unfold m64;rw[SQ];exact⟨n % 18446744073709551616,zaa,zaa⟩
theorem wj(s:()):∃n:Nat,dV s=n/\n<=18446744073709551615:=by
 unfold dV;split
 ·exact NV _
 ·exact⟨0,rfl,zac⟩
structure gq(a:Act):Prop where
 how:a.how.size<=4096
 event:a.event.size<=4096
 id:a.id.size<=4096
 delay:∃n:Nat,a.delay=n/\n<=18446744073709551615
structure gL(m:Move):Prop where
 event:m.event.size<=4096
 dst:m.to.size<=4096
 ai:∀a∈m.ai,gq a
 len:m.ai.length<=4096
 delay:∃n:Nat,m.delay=n/\n<=18446744073709551615
structure qq(L:j9):Prop where
 word:L.word.size<=4096
 name:L.name.size<=4096
 m:gL L.m
 ai:∀a∈L.ai,gq a
 len:L.ai.length<=4096
structure eE(x:State):Prop where
 word:x.word.size<=4096
 name:x.name.size<=4096
 dep0:0<=x.depth
 dep:x.depth<=5
 aa:∀m∈x.aa,gL m
 enter:∀a∈x.enter,gq a
 leave:∀a∈x.leave,gq a
 lenE:x.enter.length<=4096
 lenL:x.leave.length<=4096
theorem KS{a:Act}(hs:∀x∈l,x.size<=4096)(h:qt l=some (a,n)):gq a:=by
 have h0:=oZ hs;unfold qt at h
 repeat' split at h
 all_goals cases h
 all_goals refine⟨h0 _,?_,?_,?_⟩
 all_goals first|exact h0 _|exact PK _|exact wj _|exact⟨0,rfl,zac⟩
theorem zQ:∀(f:Nat) (l:List ()) (A:List Act),(∀x∈l,x.size<=4096)->kC f l=some A->(∀a∈A,gq a)/\A.length<=l.length
 |0,[],A,_,h=>by cases h;exact⟨fun a ha=>absurd ha zad,Po _⟩
 |_+1,[],A,_,h=>by cases h;exact⟨fun a ha=>absurd ha zad,Po _⟩
 |0,x::r,A,_,h=>by cases h
 |f+1,x::r,A,hs,h=>by
  rw[kC]at h;split at h
  ·cases h
  ·rename_i a n h1;split at h
   ·cases h
   ·rename_i r' h2;cases h
    have hb:=mq h1;have ih:=zQ f ((x::r).drop n) r' (fun y hy=>hs y (Tl hy)) h2;refine⟨?_,?_⟩
    ·intro b hm
     rcases QH.1 hm with h|h
     ·rw[h];exact KS hs h1
     ·exact ih.1 b h
    ·have:=ih.2;rw[Sv]at this;simp only[List.length_cons]at this hb⊢;omega
theorem lf(hs:∀x∈l,x.size<=4096)(h:ai l=some A):(∀a∈A,gq a)/\A.length<=l.length:=zQ _ l A hs h
theorem Bd{t:()}(hs:∀x∈l,x.size<=4096)(h:wL l=some (t,A)):t.size<=4096/\(∀a∈A,gq a)/\A.length<=l.length:=by
 unfold wL at h;split at h
 ·split at h
  ·cases h
  ·split at h
   ·cases h2:ai (l.drop 2) with
    |none=>rw[h2]at h;cases h
    |some B=>
     rw[h2]at h;cases h
     have:=lf (fun y hy=>hs y (Tl hy)) h2;exact⟨oZ hs 1,this.1,Pr this.2 zad⟩
   ·cases h
 ·cases h2:ai l with
  |none=>rw[h2]at h;cases h
  |some B=>
   rw[h2]at h;cases h
   exact⟨PK _,lf hs h2⟩
theorem jZ:gL lM:=⟨PK _,PK _,fun a ha=>absurd ha (by simp[lM]),PK _,0,rfl,zac⟩
theorem dK:qq iy:=⟨PK _,PK _,jZ,fun a ha=>absurd ha (by simp[iy]),PK _⟩
theorem Mw{ln:Nat}(hs:∀x∈l,x.size<=4096)(hl:l.length<=4096)(hln:ln<=1073741824):qq (said l ln):=by
 have h0:=oZ hs;have Zp:∀x∈l.drop 2,x.size<=4096:=fun y hy=>hs y (Tl hy);have WR:∀x∈l.drop 1,x.size<=4096:=fun y hy=>hs y (Tl hy);unfold said;split
 ·exact dK
 ·split
  ·exact zel
  ·split
   ·exact zel
   ·split
    ·split
     ·exact dK
     ·rename_i t A hm;have:=Bd Zp hm;rw[Sv]at this;split
      ·exact⟨PK _,PK _,⟨h0 1,this.1,this.2.1,zb1,0,rfl,zac⟩,fun a ha=>absurd ha zad,PK _⟩
      ·exact dK
    ·split
     ·split
      ·exact dK
      ·rename_i t A hm;have:=Bd Zp hm;rw[Sv]at this;have hd:(dec ln).size<=20:=im zaa;have hk:bA.size<=20:=zac;split
       ·exact⟨PK _,PK _,⟨by show(bA++dec ln).size<=_;rw[P2];omega,this.1,this.2.1,zb1,wj _⟩,fun a ha=>absurd ha zad,PK _⟩
       ·exact dK
     ·split
      ·split
       ·exact dK
       ·rename_i A hm;have:=lf WR hm;rw[Sv]at this;exact⟨PK _,PK _,jZ,this.1,zb1⟩
      ·exact dK
theorem uO{f:State->State}{y:State}(hy:y∈fu S k f):y∈S\/∃x∈S,y=f x:=by
 unfold fu at hy;by_cases hk:k<S.length
 ·rcases Qa hy with h|h
  ·exact .inl h
  ·refine .inr ⟨S.getD k st0,?_,h⟩;rw[PH,Pp hk];exact P7 hk
 ·rw[SL zaa]at hy;exact .inl hy
theorem CW{X:List SV}{x:SV}(h:fits X x=true):x.s.depth<=5:=by
 unfold fits at h;by_cases hd:x.s.depth<=5
 ·exact hd
 ·have:5<x.s.depth:=zaa;simp[this]at h
theorem B4{x:j9}{d:Int}(h:aR S i x d=some S')(hd:0<=d)(hx:qq x)(hS:∀y∈S,eE y/\y.aa.length<=n):∀y∈S',eE y/\y.aa.length<=n+1:=by
 have hS1:∀y∈S,eE y/\y.aa.length<=n+1:=fun y hy=>⟨(hS y hy).1,TK (hS y hy).2⟩;unfold aR at h;split at h
 ·cases h
 ·split at h
  ·split at h
   ·rename_i hf;cases h
    intro y hy
    rcases PQ.1 hy with h|h
    ·exact hS1 y h
    ·rw[PB.1 h];exact⟨⟨hx.word,hx.name,hd,CW hf,fun m hm=>absurd hm (by simp[jF]),fun m hm=>absurd hm (by simp[jF]),fun m hm=>absurd hm (by simp[jF]),PK _,PK _⟩,PK _⟩
   ·cases h
  ·split at h
   ·cases h
   ·split at h
    ·cases h
    ·split at h
     ·split at h
      ·cases h
      ·cases h
       intro y hy
       rcases uO hy with h|⟨z,hz,rfl⟩
       ·exact hS1 y h
       ·obtain⟨h1,h2⟩:=hS z hz;refine⟨{ h1 with aa:=?_ },?_⟩
        ·intro m hm
         rcases PQ.1 hm with h|h
         ·exact h1.aa m h
         ·rw[PB.1 h];exact hx.m
        ·simp;omega
     ·split at h
      ·split at h
       ·cases h
       ·cases h
        intro y hy
        rcases uO hy with h|⟨z,hz,rfl⟩
        ·exact hS1 y h
        ·obtain⟨h1,h2⟩:=hS1 z hz;exact⟨{ h1 with enter:=hx.ai,lenE:=hx.len },h2⟩
      ·split at h
       ·split at h
        ·cases h
        ·cases h
         intro y hy
         rcases uO hy with h|⟨z,hz,rfl⟩
         ·exact hS1 y h
         ·obtain⟨h1,h2⟩:=hS1 z hz;exact⟨{ h1 with leave:=hx.ai,lenL:=hx.len },h2⟩
       ·cases h
        exact hS1
theorem xz{A:List (j9×Int)}(hA:∀p∈A,qq p.1/\0<=p.2):∀{i:Nat} {S:List State},aT A i=some S->∀y∈S,eE y/\y.aa.length<=i
 |0,S,h=>by cases h;exact fun y hy=>absurd hy zad
 |i+1,S,h=>by
  rw[aT]at h;split at h
  ·cases h
  ·rename_i S0 h0;have ih:=xz hA h0;split at h
   ·cases h;exact fun y hy=>⟨(ih y hy).1,TK (ih y hy).2⟩
   ·rename_i x d hx;have:=hA _ (PD hx);exact B4 h this.2 this.1 ih
def iC(t:()):Nat->Nat->Nat
 |0,d=>d
 |f+1,d=>if bt t d=32 then iC t f (d+1) else d
def cW(t:()):Nat:=iC t t.size 0
theorem sI(t:()):∀f d,iC t f d<=d+f
 |0,d=>Po _
 |f+1,d=>by
  have:=sI t f (d+1);unfold iC;split<;>omega
theorem vX(t:()):cW t<=t.size:=by have:=sI t t.size 0;unfold cW;omega
def rest(t:()):():=t.extract (cW t) t.size
def iw(t:())(i:Nat):j9:=said (cut (rest t) 32) (i+1)
def pc(P:List ())(i:Nat):():=P.getD i ByteArray.empty
def lV(P:List ()):Nat->Option Nat
 |0=>none
 |k+1=>match lV P k with
  |some i=>some i
  |none=>if(iw (pc P k) k).kind=0 then some k else none
def syn(P:List ()):Option Nat:=match lV P (P.length-1) with
 |some i=>some i
 |none=>if decide (0<P.length-1)&&(pc P (P.length-1)).toList.isEmpty then none else some (P.length-1)
def aF(P:List ())(k:Nat):List (j9×Int):=(List.range k).map fun i=>(iw (pc P i) i,(cW (pc P i):Int))
def iq(A:List (j9×Int)):Nat->Nat
 |0=>0
 |i+1=>if(aT A i).isSome&&(aT A (i+1)).isNone then i+1 else iq A i
inductive Got where
 |fault (e line:Int)
 |dX (S:List State)
def read(s:()):Got:=
 if 1500<s.size then .fault 1 0
 else match syn (cut s 10) with
  |some i=>.fault 2 ((i:Int)+1)
  |none=>match aT (aF (cut s 10) ((cut s 10).length-1)) ((cut s 10).length-1) with
   |none=>.fault 3 (iq (aF (cut s 10) ((cut s 10).length-1)) ((cut s 10).length-1))
   |some S=>if 0<(dE S S.length).getD 0 then .fault 3 ((dE S S.length).getD 0)
    else if 0<named (S.map emb) then .fault 4 (named (S.map emb))
    else .dX S
theorem zI{x:j9}{d:Int}(h:aR S i x d=some S'):S'.length<=S.length+1:=by
 unfold aR fu at h
 repeat' split at h
 all_goals first|(cases h;done)|(cases h;simp)
theorem uN{A:List (j9×Int)}:∀{i:Nat} {S:List State},aT A i=some S->S.length<=i
 |0,S,h=>by cases h;exact Po _
 |i+1,S,h=>by
  rw[aT]at h;split at h
  ·cases h
  ·rename_i S0 h0;have:=uN h0;split at h
   ·cases h;omega
   ·have:=zI h;omega
theorem Fe{P:List ()}:∀{k i:Nat},lV P k=some i->∀j,k<=j->lV P j=some i
 |k,i,h,0,hj=>by rw[UU.1 hj]at h;exact h
 |k,i,h,j+1,hj=>by
  by_cases e:k=j+1
  ·rw[<- e];exact h
  ·rw[lV,Fe h j zaa]
theorem MD(hk:k<P.length-1)(h:lV P k=none)(hb:(iw (pc P k) k).kind=0):syn P=some k:=by
 have:lV P (P.length-1)=some k:=Fe (k:=k+1) (by rw[lV,h];simp only;rw[PC hb]) _ zaa;unfold syn;rw[this]
theorem BU(h:lV P (P.length-1)=none)(hb:¬(0<P.length-1/\(pc P (P.length-1)).toList.isEmpty=true)):syn P=some (P.length-1):=by
 unfold syn;rw[h];simp only;rw[Pu];simpa using hb
theorem Kv(h:lV P (P.length-1)=none)(h0:0<P.length-1)(he:(pc P (P.length-1)).toList.isEmpty=true):syn P=none:=by
 unfold syn;rw[h];simp[h0,he]
theorem Hc(h:lV P k=none)(hb:¬(iw (pc P k) k).kind=0):lV P (k+1)=none:=by
 rw[lV,h];simp only;rw[Pu hb]
theorem kI{A:List (j9×Int)}{i:Nat}(h1:(aT A i).isSome=true)(h2:aT A (i+1)=none):∀k,i<k->iq A k=i+1
 |0,h=>by omega
 |k+1,h=>by
  by_cases e:k=i
  ·rw[iq,e,h1,h2];rfl
  ·have:aT A k=none:=gG h2 k zaa;rw[iq,this];exact kI h1 h2 k zaa
end U
end
section
open Go.RowKit
namespace J
theorem MG:qw.toList=U.cTo:=zao
theorem FO:jz.toList=U.EH:=zao
def mw:():=⟨#[115,116,97,116,101]⟩
def gw:():=⟨#[112,97,114,97,108,108,101,108]⟩
def mu:():=⟨#[102,105,110,97,108]⟩
def dw:():=⟨#[104,105,115,116,111,114,121]⟩
theorem iA:mw.toList=U.cM:=zao
theorem eO:gw.toList=U.aK:=zao
theorem ir:mu.toList=U.bK:=zao
theorem bV:dw.toList=U.aO:=zao
def bm(k:Int):():=if k=0 then mw else if k=1 then gw else if k=2 then mu else dw
def aC(num:Nat):PL->U.j9
 |.state k n=>⟨115,bm k,n,decide (k=4),num,U.lM,[]⟩
 |.move ev af d t A=>⟨109,ByteArray.empty,ByteArray.empty,false,0,⟨ev,t,af,d,A,num⟩,[]⟩
 |.enter A=>⟨101,ByteArray.empty,ByteArray.empty,false,0,U.lM,A⟩
 |.leave A=>⟨108,ByteArray.empty,ByteArray.empty,false,0,U.lM,A⟩
def aS(num:Nat)(l:List ()):Option PL:=match bj num l with
 |some (L,[])=>some L
 |_=>none
theorem wM(l:List ()):U.wL l=match eV l with|some (q,[])=>some q|_=>none:=by
 unfold U.wL eV;cases l with
 |nil=>simp[pTo,oX];rfl
 |cons y r=>
  rw[show U.at' (y::r) 0=y from rfl,pTo,MG];cases hy:(y.toList == U.cTo)
  ·rw[Pu zad,Pu zad,oX];simp only;cases bg (y::r) with
   |none=>rfl
   |some q=>obtain⟨A,t⟩:=q;cases t<;>rfl
  ·rw[PC zad,PC rfl];cases r with
   |nil=>rfl
   |cons z t=>
    rw[Pu zad,show U.at' (y::z::t) 1=z from rfl,dL];cases U.plain z
    ·rfl
    ·simp only[if_true,List.drop_succ_cons,List.drop_zero];rw[oX];cases bg t with
     |none=>rfl
     |some q=>obtain⟨A,u⟩:=q;cases u<;>rfl
theorem zh:bg (y::r)≠some ([],[]):=by
 cases h:(y.toList == bDo.toList)
 ·rw[ku h];simp
 ·cases h2:bh r with
  |none=>rw[kr h h2];simp
  |some q=>
   obtain⟨a,r'⟩:=q;rw[kn h h2];cases bg r'<;>simp
theorem sS(y:())(r:List ()):U.ai (y::r)=match bW (y::r) with|some (A,[])=>some A|_=>none:=by
 rw[oX];unfold bW;cases h:bg (y::r) with
 |none=>rfl
 |some q=>
  obtain⟨A,t⟩:=q;cases A with
  |nil=>cases t with
   |nil=>exact absurd h zh
   |cons _ _=>rfl
  |cons a A=>cases t<;>rfl
theorem Kl(num:Nat)(l:List ()):U.said l num=((aS num l).map (aC num)).getD U.iy:=by
 cases l with
 |nil=>rfl
 |cons x r=>
  cases r with
  |nil=>
   rw[U.said,PC zad];unfold aS bj
   repeat' (first|rfl|split)
   all_goals first|rfl|(simp_all [pOf,cI,eR,bW,bg,fm])
  |cons y r=>
   have h2:¬(x::y::r).length<2:=zad;rw[U.said,Pu h2];unfold aS bj;simp only[U.is,show U.at' (x::y::r) 0=x from rfl,show U.at' (x::y::r) 1=y from rfl,List.drop_succ_cons,List.drop_zero];cases hS:(x.toList == U.cM)
   ·cases hP:(x.toList == U.aK)
    ·cases hF:(x.toList == U.bK)
     ·cases hH:(x.toList == U.aO)
      ·cases hO:(x.toList == U.cOn)
       ·cases hA:(x.toList == U.jA)
        ·cases hE:(x.toList == U.lr)
         ·cases hL:(x.toList == U.oz)
          ·simp
          ·have ex:Go.PlainAid.bt x 0=108:=by
            rw[lh (b:=⟨#[108,101,97,118,101]⟩) hL zao];rfl
           simp only[Bool.or_true,Bool.false_or,Bool.false_eq_true,if_false,if_true];exact zdC
         ·have ex:Go.PlainAid.bt x 0=101:=by
           rw[lh (b:=⟨#[101,110,116,101,114]⟩) hE zao];rfl
          simp only[Bool.true_or,Bool.or_self,Bool.false_eq_true,if_false,if_true];exact zdC
        ·simp only[Bool.or_self,Bool.false_eq_true,if_false,if_true];rw[wM,iP];cases U.cE y
         ·exact zej
         ·exact zdT
       ·simp only[Bool.or_self,Bool.false_eq_true,if_false,if_true];rw[wM,dL];cases U.bM y
        ·exact zej
        ·exact zdT
      ·have ex:x=dw:=lh hH bV;simp only[Bool.or_self,Bool.false_eq_true,if_false,if_true];unfold cI;rw[dL];cases hp:U.plain y
       ·simp
       ·simp only[if_true,Bool.true_and];cases r with
        |nil=>simp[U.wi,aC,bm,ex]
        |cons z t=>
         simp only[FO];cases hz:(z.toList == U.EH)
         ·simp[U.wi,U.is,show U.at' (x::y::z::t) 2=z from rfl,hz]
         ·cases t with
          |nil=>
           have ez:z.toList=U.EH:=eq_of_beq hz;simp[U.wi,U.is,show U.at' [dw,y,z] 2=z from rfl,ez,aC,bm,ex]
          |cons _ _=>simp[U.wi]
     ·have ex:x=mu:=lh hF ir;simp only[Bool.or_true,Bool.false_eq_true,if_false,if_true];exact zd1
    ·have ex:x=gw:=lh hP eO;simp only[Bool.true_or,Bool.or_true,Bool.false_eq_true,if_false,if_true];exact zd1
   ·have ex:x=mw:=lh hS iA;simp only[Bool.true_or,if_true];exact zd1
theorem BZ(num:Nat)(L:PL):¬(aC num L).kind=0:=by cases L<;>simp[aC]
end J
end
section
open Go.RowKit
open Go.PlainAid (bt get_bt bt_nonneg bt_le bt_end)
namespace J
def jQ(c:UInt8):List UInt8->List (List UInt8)
 |[]=>[[]]
 |x::l=>if x == c then[]::jQ c l else match jQ c l with
  |[]=>[[x]]
  |h::t=>(x::h)::t
theorem IW(c:UInt8)(l:List UInt8):jQ c l≠[]:=by
 cases l with
 |nil=>simp[jQ]
 |cons x l=>
  rw[jQ];split
  ·simp
  ·split<;>simp
theorem qA(c:UInt8):∀l:List UInt8,Lib.indexByte l c=-1->jQ c l=[l]
 |[],_=>rfl
 |x::l,h=>by
  rw[Lib.indexByte]at h;rw[jQ];by_cases hx:(x == c)=true
  ·rw[PC hx]at h;cases h
  ·rw[Pu hx]at h⊢;by_cases hl:(Lib.indexByte l c == -1)=true
   ·rw[qA c l (by simpa using hl)]
   ·rw[Pu hl]at h;have:=Lib.indexByte_ge l c;omega
theorem Aj(c:UInt8):∀(l:List UInt8) (i:Nat),Lib.indexByte l c=i->jQ c l=l.take i::jQ c (l.drop (i+1))
 |[],i,h=>by
  have h:(-1:Int)=i:=h;omega
 |x::l,i,h=>by
  rw[Lib.indexByte]at h;rw[jQ];by_cases hx:(x == c)=true
  ·rw[PC hx]at h⊢;have:i=0:=zaa;subst this;simp
  ·rw[Pu hx]at h⊢;by_cases hl:(Lib.indexByte l c == -1)=true
   ·rw[PC hl]at h;omega
   ·rw[Pu hl]at h;have:=Lib.indexByte_ge l c;have YS:¬Lib.indexByte l c=-1:=by simpa using hl
    obtain⟨j,rfl⟩:∃j,i=j+1:=⟨i-1,zaa⟩;rw[Aj c l j zaa];simp
theorem we(c x:UInt8):∀l:List UInt8,jQ c (l++[x])=if x == c then jQ c l++[[]] else(jQ c l).set ((jQ c l).length-1) ((jQ c l)[(jQ c l).length-1]?.getD []++[x])
 |[]=>by
  rw[R6,jQ];split<;>rename_i h<;>simp[jQ]<;>simpa using h
 |y::l=>by
  rw[Sd,jQ,we c x l,jQ];have hp:=IW c l;by_cases hy:(y == c)=true
  ·rw[PC hy,PC hy];split
   ·rfl
   ·obtain⟨h,t,e⟩:=Tm hp;rw[e];simp
  ·rw[Pu hy,Pu hy];obtain⟨h,t,e⟩:=Tm hp;rw[e];by_cases hx:(x == c)=true
   ·rw[PC hx,PC hx];rfl
   ·rw[Pu hx,Pu hx];cases t with
    |nil=>simp
    |cons u t=>simp
theorem BN(c:UInt8):∀(n:Nat) (s:()),s.size<=n->(Lib.splitB ⟨#[c]⟩ 0 (Lib.countB s ⟨#[c]⟩) s).map (·.data.toList)=jQ c s.data.toList:=by
 have Wc:∀s:(),Lib.indexB s ⟨#[c]⟩=Lib.indexByte s.data.toList c:=by
  intro s;have:=Lib.one s ⟨#[c]⟩ rfl;rw[this]
  congr 1
  show((c.toNat:Int).toNat).toUInt8=c;simp
 intro n
 induction n with
 |zero=>
  intro s hs;have h0:s.data.toList=[]:=by
   have:=SX s;exact RC.1 zaa
  have hm:Lib.indexB s ⟨#[c]⟩=-1:=by rw[Wc,h0];rfl
  exact zer
 |succ n ih=>
  intro s hs
  rcases Lib.indexB_cases s ⟨#[c]⟩ with hm|⟨i,hi,hle⟩
  ·exact zer
  ·have h1:(⟨#[c]⟩:()).size=1:=rfl;rw[Lib.countB_hit s _ i (by rw[h1];exact Po _) hi,Nat.add_comm 1,Lib.splitB_hit _ _ _ _ i hi,Q7,Lib.extract_from_zero,h1,UM];rw[ih (s.extract (i+1) s.size) zaf,Lib.extract_to_end,Aj c s.data.toList i (by rw[<- Wc];exact hi)]
theorem Au(h:k<s.size):(s.extract k (k+1)).data.toList=[s.data.toList[k]'(by rw[<- SX];exact h)]:=by
 rw[Lib.extract_data,Nat.add_sub_cancel_left];rw[List.take_one,List.head?_drop,Pp (by rw[<- SX];exact h)];rfl
theorem rP(h:k<s.size):bt s k=((s.data.toList[k]'(by rw[<- SX];exact h)).toNat:Int):=by
 rw[<- get_bt s k h];rfl
theorem zZ(a b:()):(a++b).data.toList=a.data.toList++b.data.toList:=zad
theorem sO(s:())(c:UInt8):∀k,k<=s.size->(U.dD s (c.toNat:Int) k).map (·.data.toList)=jQ c (s.data.toList.take k)
 |0,_=>by rw[U.dD,List.take_zero];rfl
 |k+1,hk=>by
  have VB:k<s.size:=zaa;have hl:k<s.data.toList.length:=by rw[<- SX];exact VB
  have ih:=sO s c k zaa;rw[QE,Pp hl,Sf,we,<- ih];by_cases h:(s.data.toList[k] == c)=true
  ·rw[PC h,U.Lh (by rw[rP VB,eq_of_beq h]),Qj];rfl
  ·rw[Pu h,U.NA (by
    rw[rP VB];intro e;apply h
    have:s.data.toList[k].toNat=c.toNat:=zaa;rw[T6.1 this];simp),RB,zZ,Au VB,PE,Pv]
   have hp:=U.nx s (c.toNat:Int) k;rw[Pp zaa];rfl
theorem pI:∀{a b:List ()},a.map (·.data.toList)=b.map (·.data.toList)->a=b
 |[],[],_=>rfl
 |[],_::_,h=>by simp at h
 |_::_,[],h=>by simp at h
 |x::a,y::b,h=>by
  simp only[List.map_cons,List.cons.injEq]at h;rw[pI h.2];have:x=y:=by rw[<- UW x,h.1,UW]
  rw[this]
theorem xq(s:())(c:UInt8):Lib.splitB ⟨#[c]⟩ 0 (Lib.countB s ⟨#[c]⟩) s=U.cut s (c.toNat:Int):=by
 apply pI
 rw[BN c s.size s (Po _)];unfold U.cut;rw[sO s c s.size (Po _),SZ (by rw[<- SX];exact Po _)]
theorem FN(s:())(c:UInt8):Lib.countB s ⟨#[c]⟩+1=(U.cut s (c.toNat:Int)).length:=by
 rw[<- xq,Lib.splitB_all _ (show 1<=(⟨#[c]⟩:()).size from Po 1) 0 _ s rfl]
theorem o7(t:()):∀(f d:Nat),d+f=t.size->t.data.toList.drop (U.iC t f d)=(t.data.toList.drop d).dropWhile (· == 32)/\d<=U.iC t f d
 |0,d,h=>by
  rw[U.iC,List.drop_eq_nil_of_le (by rw[<- SX];omega)];exact⟨rfl,Po _⟩
 |f+1,d,h=>by
  have hd:d<t.size:=zaa;have hl:d<t.data.toList.length:=by rw[<- SX];exact hd
  rw[U.iC,SD hl,List.dropWhile_cons];by_cases hb:bt t d=32
  ·have hx:(t.data.toList[d] == 32)=true:=by
    rw[rP hd]at hb;have:t.data.toList[d].toNat=(32:UInt8).toNat:=by
     have e:(32:UInt8).toNat=32:=rfl;omega
    rw[T6.1 this];rfl
   have ih:=o7 t f (d+1) zaa;rw[PC hb,PC hx];exact⟨ih.1,by have:=ih.2;omega⟩
  ·have hx:¬(t.data.toList[d] == 32)=true:=by
    intro e;apply hb
    rw[rP hd,eq_of_beq e];rfl
   rw[Pu hb,Pu hx,SD hl];exact⟨rfl,Po _⟩
theorem Hg(t:()):(⟨(Lib.trimLeftB t.data.toList 32).toArray⟩:())=U.rest t:=by
 have h:=(o7 t t.size 0 zaa).1;rw[List.drop_zero]at h;have e:(U.rest t).data.toList=Lib.trimLeftB t.data.toList 32:=by
  unfold U.rest Lib.trimLeftB;rw[Lib.extract_to_end];exact h
 rw[<- e,UW]
theorem wZ(t:()):(U.rest t).size+U.cW t=t.size:=by
 have:=U.vX t;unfold U.rest;simp;omega
end J
end
section
open Go.RowKit
structure xJ(w:World):Prop where
 env:Env w
 maxL:∃m,w.cell? ⟨2,0,none⟩=some ↑(m:Int)
theorem xJ.aq(h:xJ w)(hb:Below w w w'):xJ w':=
 ⟨h.env.aq hb,let⟨m,hm⟩:=h.maxL;⟨m,(PN (hb.block _ (PW _ _ hm))).trans hm⟩⟩
theorem xp(s:())(c:UInt8)(w:World)(hv:xJ w)(hs:s.size<4294967281):() 74 #[s,.string ⟨#[c]⟩] w fun e w'=>
  e=.returned (.slice w (U.cut s (c.toNat:Int)).length (U.cut s (c.toNat:Int)).length)/\w'=w.alloc (.cells ((U.cut s (c.toNat:Int)).map Value.string).toArray 9):=by
 obtain⟨m,hm⟩:=hv.maxL;refine(strings_Split s ⟨#[c]⟩ m w hs hm (Po 1)).mono ?_;rintro e w' ⟨rfl,rfl⟩;rw[J.xq,J.FN];exact⟨rfl,rfl⟩
theorem uD{b:Nat}{t:TypeId}{fz:Nat×Nat}(h:w.heap[b]?=some (.cells (l.map Value.string).toArray t fz)):rD w b 0 l:=by
 intro i hi;rw[Rz,Pt w b i _ _ _ h];simp[U.at',List.getElem?_eq_getElem hi,List.getD_eq_getElem?_getD]
theorem sP{c:Int}:∀x∈U.cut s c,x.size<=s.size:=U.jU s c s.size (Po _)
theorem ph{c:Int}:(U.cut s c).length<=s.size+1:=U.pg s c s.size
def iZ(num:Nat)(t:())(w:World)(e:Ending)(w':World):Prop:=match J.aS num (U.cut (U.rest t) 32) with
 |none=>br 2 num w e w'
 |some L=>Below w.heap.size w w'/\∃v,e=.returned v/\fM w' w.heap.size num (U.cW t) L v
theorem zl{p:Nat}{er line:Int}{w0:World}{e:Ending}(hb:Below w0 w0 w)(hp:w0.heap.size<=p)(h:dj p er line w e w'):br er line w0 e w':=by
 obtain⟨ht,b,h2,h3,h4⟩:=h;exact⟨ht.below hb hp hb.size,b,Pr hb.size h2,h3,h4⟩
theorem fM.mono{w:World}{base base':Nat}{num dep:Int}{L:J.PL}{v:Value}(h:fM w base num dep L v)(hb:base'<=base):fM w base' num dep L v:=by
 cases L with
 |state k n=>exact h
 |move ev af d t A=>obtain⟨a,n,c,h1,h2⟩:=h;exact⟨a,n,c,h1,aJ h2 hb⟩
 |enter A=>obtain⟨a,n,c,h1,h2⟩:=h;exact⟨a,n,c,h1,aJ h2 hb⟩
 |leave A=>obtain⟨a,n,c,h1,h2⟩:=h;exact⟨a,n,c,h1,aJ h2 hb⟩
theorem zk(num:Nat)(t:())(w:World)(hv:xJ w)(ht:t.size<=1000000)(Xs:num<=1073741824):
  () 76 #[(num:Int),t] w (iZ num t w):=by
 have hr:=J.wZ t;have hct:=J.Hg t;go_enter func76,ntmps76;go_wp2_with fail;refine(strings_TrimLeft_one t 32 zac _).mono ?_;rintro e w9 ⟨rfl,U1⟩;rw[U1,hct];clear U1 w9 hct;dsimp only;go_wp2_with fail;refine(xp (U.rest t) 32 _ hv zaa).mono ?_;rintro e w9 ⟨rfl,U1⟩;rw[U1];clear U1 w9;obtain⟨l,hl⟩:∃l,l=U.cut (U.rest t) ((32:UInt8).toNat:Int):=⟨_,rfl⟩;rw[<- hl];have hlen:l.length<=t.size+1:=by rw[hl];exact Pr ph zaa
 have Vf:∀x∈l,x.size<=t.size:=by rw[hl];exact fun x hx=>Pr (sP x hx) zaa
 have HL:Hid _:=hl;clear hl;dsimp only;go_wp2_with fail;have Yq:(t.size:Int)-((U.rest t).size:Int)=(U.cW t:Int):=zaa;rw[Yq];obtain⟨w1,Vg⟩:∃y,y=(w.alloc (.cells (l.map Value.string).toArray 9)).alloc (.cells #[(num:Int),.int .i64 (U.cW t),.slice w l.length l.length] 289):=⟨_,rfl⟩;rw[<- Vg];have U3:Below w w w1:=zbA;have hws:w.heap.size+1<w1.heap.size:=by rw[Vg];simp
 have H1:ak w1 (w.heap.size+1) num (U.cW t) l:=by
  rw[Vg];refine⟨⟨some ⟨w,0,none⟩,l.length,cA _ _ _,Po _,fun _=>⟨w.heap.size,0,rfl,zaa,zaf,uD (fx _ _ _)⟩⟩,zaa,fun x hx=>by have:=Vf x hx;omega⟩
 have VT:a7 (w.heap.size+1) w1:=⟨w,zaa,hv.env,U3⟩;clear Vg Vf hlen;refine(JC (w.heap.size+1) num (U.cW t) l w1 H1 VT Xs).mono ?_;rintro e w2 h2;unfold a8 at h2;have HP:Hid (iZ num t w=fun e w'=>match J.aS num l with
  |none=>br 2 num w e w'
  |some L=>Below w.heap.size w w'/\∃v,e=.returned v/\fM w' w.heap.size num (U.cW t) L v):=by
  unfold Hid iZ;rw[HL.out];rfl
 cases hp:J.bj num l with
 |none=>
  rw[hp]at h2;have HW:Hid (J.aS num l=none):=zbU;obtain⟨hb,b,h4,h5,rfl⟩:=zl U3 zaa h2;dsimp only;refine⟨rfl,?_⟩;rw[HP.out];simp only;rw[HW.out];exact⟨hb,b,h4,h5,rfl⟩
 |some q=>
  obtain⟨L,r⟩:=q;rw[hp]at h2;obtain⟨v,rfl,hL,VE,H2⟩:=h2;have U4:Below w w w2:=VE.below U3 zaa U3.size;have hL2:=hL.mono (show w.heap.size<=w1.heap.size by omega);cases r with
  |nil=>
   have HW:Hid (J.aS num l=some L):=zbU;clear hp hL VE H1 VT;dsimp only;go_wp2_with fail;refine(NF (w.heap.size+1) num (U.cW t) _ H2).mono ?_;rintro e w9 ⟨rfl,U1⟩;rw[U1];clear U1 w9;dsimp only;go_wp2;go_ret;rw[HP.out];simp only;rw[HW.out];exact⟨U4,v,rfl,hL2⟩
  |cons y r=>
   have HW:Hid (J.aS num l=none):=zbU;clear hp hL VE H1 VT;dsimp only;go_wp2_with fail;refine(Lk (w.heap.size+1) num (U.cW t) (y::r) _ H2 zad).mono ?_;rintro e w3 hq;obtain⟨hb,b,h4,h5,rfl⟩:=hq;dsimp only;refine⟨rfl,?_⟩;rw[HP.out];simp only;rw[HW.out];exact⟨U4.trans (hb.mono U4.size),b,Pr U4.size h4,h5,rfl⟩
theorem qy(s:())(w:World)(hs:s.size<=281474976710656):() 75 #[s] w fun e w'=>e=.returned s/\Below w w w':=by
 go_enter func75,ntmps75;go_wp2_with fail;refine(stringslite_Clone s _ hs).mono ?_;exact zey
theorem Ji:(Tryz.prog.info? 115).map (fun i=>(i.zero,i.size,i.bytes))=some (some .nilIface,1,16):=zab
namespace J
def wl(P:List ())(i:Nat):List ():=U.cut (U.rest (U.pc P i)) 32
theorem lD(P:List ())(i:Nat):U.iw (U.pc P i) i=((aS (i+1) (wl P i)).map (aC (i+1))).getD U.iy:=Kl (i+1) _
theorem A9(h:aS (i+1) (wl P i)=none):(U.iw (U.pc P i) i).kind=0:=by rw[lD,h];rfl
theorem mJ{L:PL}(h:aS (i+1) (wl P i)=some L):U.iw (U.pc P i) i=aC (i+1) L:=by rw[lD,h];rfl
end J
structure k9(w:World)(P:List ())(k:Nat)(vs:List Value)(LS:List J.PL):Prop where
 lv:vs.length=k
 ll:LS.length=k
 row:∀j (h:j<k),J.aS (j+1) (J.wl P j)=some (LS[j]'(zaa))/\fM w 0 (j+1:Nat) (U.cW (U.pc P j)) (LS[j]'(zaa)) (vs[j]'(zaa))
theorem fM.aq{w w':World}{num dep:Int}{L:J.PL}{v:Value}(h:fM w 0 num dep L v)(hb:Below w w w'):fM w' 0 num dep L v:=by
 cases L with
 |state k n=>exact h
 |move ev af d t A=>obtain⟨a,n,c,h1,h2⟩:=h;exact⟨a,n,c,h1,bz h2 hb⟩
 |enter A=>obtain⟨a,n,c,h1,h2⟩:=h;exact⟨a,n,c,h1,bz h2 hb⟩
 |leave A=>obtain⟨a,n,c,h1,h2⟩:=h;exact⟨a,n,c,h1,bz h2 hb⟩
theorem fM.tag{w w':World}{num dep:Int}{L:J.PL}{v:Value}{g:Nat}{c:Array Value}{t:TypeId}{fz:Nat×Nat}(h:fM w 0 num dep L v)(ho:iT g w w')(hg:w.heap[g]?=some (.cells c t fz))(U9:275≠t):fM w' 0 num dep L v:=by
 cases L with
 |state k n=>exact h
 |move ev af d t A=>obtain⟨a,n,c,h1,h2⟩:=h;exact⟨a,n,c,h1,nJ h2 ho hg U9⟩
 |enter A=>obtain⟨a,n,c,h1,h2⟩:=h;exact⟨a,n,c,h1,nJ h2 ho hg U9⟩
 |leave A=>obtain⟨a,n,c,h1,h2⟩:=h;exact⟨a,n,c,h1,nJ h2 ho hg U9⟩
theorem fM.iface{w:World}{base:Nat}{num dep:Int}{L:J.PL}{v:Value}(h:fM w base num dep L v):∃t u,v=.iface t u:=by
 cases L with
 |state k n=>exact⟨_,_,h⟩
 |move ev af d t A=>obtain⟨a,n,c,h1,h2⟩:=h;exact⟨_,_,h1⟩
 |enter A=>obtain⟨a,n,c,h1,h2⟩:=h;exact⟨_,_,h1⟩
 |leave A=>obtain⟨a,n,c,h1,h2⟩:=h;exact⟨_,_,h1⟩
theorem k9.next{LS:List J.PL}{v:Value}{L:J.PL}(H:k9 w P k vs LS)(hk:∀num dep L v,fM w 0 num dep L v->fM w' 0 num dep L v)
  (h1:J.aS (k+1) (J.wl P k)=some L) (h2:fM w' 0 (k+1:Nat) (U.cW (U.pc P k)) L v):k9 w' P (k+1) (vs++[v]) (LS++[L]):=by
 have Yp:=H.lv;have hll:=H.ll;refine⟨by simp[Yp],by simp[hll],fun j hj=>?_⟩;by_cases e:j=k
 ·subst e;rw[QZ zaa,QZ zaa];simp only[Yp,hll,Nat.sub_self,List.getElem_cons_zero];exact⟨h1,h2⟩
 ·have hj':j<k:=zaa;obtain⟨r1,r2⟩:=H.row j hj';rw[Q1 zaa,Q1 zaa];exact⟨r1,hk _ _ _ _ r2⟩
def dT(s:())(w:World)(e:Ending)(w':World):Prop:=
 if 1500<s.size then br 1 0 w e w'
 else match U.syn (U.cut s 10) with
  |some i=>br 2 ((i:Int)+1) w e w'
  |none=>Below w.heap.size w w'/\∃lb vs LS,e=.returned (.slice (some ⟨lb,0,none⟩) vs.length vs.length)/\w'.heap[lb]?=some (.cells vs.toArray 115 (0,0))/\0<vs.length/\k9 w' (U.cut s 10) ((U.cut s 10).length-1) vs LS
theorem uk(s:())(w:World)(hs:1500<s.size)(Zp:s.size<=1073741824):
  () 42 #[s] w (dT s w):=by
 go_enter func42,ntmps42;go_wp2_with fail;refine(ba 0 0 1 _).mono ?_;rintro e w1 ⟨hb,b,h4,h5,rfl⟩;dsimp only;refine⟨rfl,?_⟩;unfold dT;rw[PC hs];exact⟨hb,b,h4,h5,rfl⟩
theorem Ko{m:Nat}(hk:vs.length=k)(v:Value):(vs++List.replicate (m+1) Value.nilIface).toArray.setIfInBounds k v=((vs++[v])++List.replicate m Value.nilIface).toArray:=by
 rw[List.setIfInBounds_toArray,SB _ _ zaa,hk,RR,List.replicate_succ,List.set_cons_zero];simp
theorem JF(n:Nat):madeCells #[Value.nilIface] n=(List.replicate n Value.nilIface).toArray:=by
 apply Array.ext
 ·simp[madeCells]
 ·intro i h1 h2;simp[madeCells,Nat.mod_one]
theorem vH(s:())(w:World)(hv:xJ w)(hs:s.size<=1500):
  () 42 #[s] w (dT s w):=by
 obtain⟨P,hP⟩:∃P,P=U.cut s ((10:UInt8).toNat:Int):=⟨_,rfl⟩;have Xf:0<P.length:=by rw[hP];exact U.nx _ _ _
 obtain⟨n,hn⟩:∃n,P.length=n+1:=⟨P.length-1,zaa⟩;clear Xf;have hlen:n<=1500:=by
  have:P.length<=s.size+1:=by rw[hP];exact ph
  omega
 have HSZ:Hid (∀j,(U.pc P j).size<=1500):=by
  intro j;unfold U.pc;rw[PH];cases e:P[j]? with
  |none=>exact PK _
  |some x=>rw[hP]at e;exact Pr (sP x (PD e)) hs
 have HPost:Hid (dT s w=fun e w'=>match U.syn P with
  |some i=>br 2 ((i:Int)+1) w e w'
  |none=>Below w.heap.size w w'/\∃lb vs LS,e=.returned (.slice (some ⟨lb,0,none⟩) vs.length vs.length)/\w'.heap[lb]?=some (.cells vs.toArray 115 (0,0))/\0<vs.length/\k9 w' P (P.length-1) vs LS):=by
  funext e w';unfold dT;rw[Pu zaa,hP];rfl
 have Zc:=run_make_row' (P:=prog) 110 115 .nilIface 16 underlying110 Ji rfl .i64 .i64 n zaa zaa;go_enter func42,ntmps42;go_wp2_with fail;refine(qy s _ zaa).mono ?_;rintro e w1 ⟨rfl,U3⟩;have VT:=hv.aq U3;dsimp only;go_wp2_with fail;refine(xp s 10 _ VT zaa).mono ?_;rintro e w9 ⟨rfl,U1⟩;rw[U1,<- hP];clear U1 w9;have HPn:Hid (P.length=n+1):=hn;have HP:Hid _:=hP;rw[hn];clear hP hn;dsimp only;go_wp2
 go_loopg[25] n (fun q i wr=>∃(k:Nat) (vs:List Value) (LS:List J.PL),q=n-k/\k<=n/\i=.int .i64 k/\U.lV P k=none/\wr.heap[w1.heap.size]?=some (.cells (P.map Value.string).toArray 9 (0,0))/\wr.heap[w1.heap.size+1]?=some (.cells (vs++List.replicate (n-k) Value.nilIface).toArray 115 (0,0))/\k9 wr P k vs LS/\Below w w wr/\Below w1 w1 wr)
 case atStart=>
  refine⟨0,[],[],rfl,PK _,rfl,rfl,fx _ _ _,?_,⟨rfl,rfl,fun j h=>absurd h zaa⟩,(U3.alloc U3.size _).alloc (by have:=U3.size;simp;omega) _,((Pq _ _).alloc (Po _) _).alloc zad _⟩;rw[cA,JF];rfl
 case round=>
  obtain⟨k,vs,LS,hq,hk,rfl,Yr,V3,hLB,HL,Vy,WG⟩:=hrel;have Yp:=HL.lv;have cP:wr.cell? (w1,k)=some (.string (U.pc P k)):=by
   rw[Pt wr _ k _ _ _ V3];simp only[List.getElem?_toArray,List.getElem?_map,U.pc,List.getD_eq_getElem?_getD];rw[Pp (show k<P.length by rw[HPn.out];omega)];rfl
  have VZ:=Vy.size;have hbs1:=WG.size;have lP:=(Pn.1 V3).1;have lL:=(Pn.1 hLB).1;by_cases Vx:k<n
  ·have hszk:=HSZ.out k;have hvr:=VT.aq WG;go_wp2_with fail;refine(zk (k+1) (U.pc P k) _ hvr zaa zaa).mono ?_;rintro e w2 h2;unfold iZ at h2;change(match J.aS (k+1) (J.wl P k) with|none=>_|some L=>_)at h2;cases hp:J.aS (k+1) (J.wl P k) with
   |none=>
    rw[hp]at h2;have HS:Hid (U.syn P=some k):=U.MD (by rw[HPn.out];omega) Yr (J.A9 hp);obtain⟨hb,b,h4,h5,rfl⟩:=h2;dsimp only;refine⟨rfl,?_⟩;rw[HPost.out];simp only;rw[HS.out];exact⟨Vy.trans (hb.mono VZ),b,Pr VZ h4,h5,rfl⟩
   |some L=>
    rw[hp]at h2;obtain⟨U4,v,rfl,hLV⟩:=h2;obtain⟨vt,vu,rfl⟩:=hLV.iface;have hPB2:=(U4.block _ lP).trans V3;have hLB2:=(U4.block _ lL).trans hLB;obtain⟨m,hm⟩:∃m,n-k=m+1:=⟨n-k-1,zaa⟩;rw[hm]at hLB2;have cL:w2.cell? (w1.heap.size+1,k)=some .nilIface:=by
     rw[Pt w2 _ k _ _ _ hLB2,R9,Qr zaa,Yp,RR];rfl
    have fL:w2.frozen? (w1.heap.size+1,k)=false:=by simp[World.frozen?,hLB2]
    have HSY:Hid (U.lV P (k+1)=none):=U.Hc Yr (by rw[J.mJ hp];exact J.BZ _ _);have HLV:Hid (fM w2 0 ((k+1:Nat):Int) (U.cW (U.pc P k)) L (.iface vt vu)):=fM.mono hLV (PK _);have HH:Hid _:=hPB2;have HH2:Hid _:=hLB2;have HM:Hid _:=hm;have HHL:Hid _:=HL;have HPW:Hid _:=hp;clear hLV hPB2 hLB2 hm V3 hLB Yr cP hp HL;dsimp only;go_wp2
    go_roundg (n-(k+1))
    case measure=>omega
    case rel=>
     have WR:=U3.size;have oo:=ag w2 (w1.heap.size+1) k (.iface vt vu);have VA:=oo.below (Vy.trans (U4.mono VZ)) zaa;refine⟨k+1,vs++[.iface vt vu],LS++[L],rfl,zaa,rfl,HSY.out,?_,?_,?_,VA,oo.below (WG.trans (U4.mono hbs1)) zaa⟩
     ·rw[oo.block _ zaa];exact HH.out
     ·rw[PR w2 _ k _ _ (.iface vt vu) HH2.out,Ko Yp,show n-(k+1)=m by have:=HM.out;omega]
     ·refine HHL.out.next (fun num dep L' v' h=>(h.aq U4).tag oo HH2.out zac) HPW.out (fM.tag HLV.out oo HH2.out zac)
  ·obtain rfl:k=n:=zaa;have hn0:k-k=0:=zaa;rw[hn0]at hLB;have hk1500:=hlen;have HLB:Hid _:=hLB;have HHL:Hid _:=HL;have HSYN:Hid _:=Yr;clear hLB HL Yr V3 hq hk Vx hn0;by_cases h0:k=0
   ·have HS:Hid (U.syn P=some k):=by
     have:=U.BU (P:=P) zbP (fun h=>by have:=h.1;rw[HPn.out]at this;omega);rw[HPn.out]at this;exact this
    subst h0;go_wp2_with fail;refine(ba 1 0 2 _).mono ?_;exact zdr
   ·cases hE:(U.pc P k).toList.isEmpty
    case true=>
     have HS:Hid (U.syn P=none):=by
      refine U.Kv (P:=P) zbP (by rw[HPn.out];omega) ?_;rw[HPn.out];exact hE
     have hE':(U.pc P k).toList=[]:=Ri.1 hE;go_wp2;go_ret;rw[HPost.out];simp only;rw[HS.out];refine⟨Vy,w1.heap.size+1,vs,LS,?_,?_,?_,?_⟩
     ·rw[Yp];rfl
     ·have:=HLB.out;simpa using this
     ·omega
     ·have:=HHL.out;rw[HPn.out];exact this
    case false=>
     have HS:Hid (U.syn P=some k):=by
      have:=U.BU (P:=P) zbP (fun h=>by
       have h:=h.2;rw[HPn.out]at h;have:(U.pc P k).toList.isEmpty=true:=h;rw[hE]at this;cases this)
      rw[HPn.out]at this;exact this
     go_wp2_with fail;refine(ba (k+1) 0 2 _).mono ?_;exact zdr
