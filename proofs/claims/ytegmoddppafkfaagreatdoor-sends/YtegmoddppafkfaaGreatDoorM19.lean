import Derived.Test.YtegmoddppafkfaaGreatDoorM00
import Derived.Test.YtegmoddppafkfaaGreatDoorM18
import Derived.StillTailTactics
set_option maxRecDepth 100000
set_option maxHeartbeats 8000000
namespace Go.Proofs.YtegmoddppafkfaaGreatDoor
section
open Go.RowKit
theorem Tryz.kV:Tryz.f217.results=#[.cell 2 376]:=rfl
namespace Pro
def my:ByteArray:=⟨#[100,101,101,112]⟩
def cn (l:List ByteArray):Option ((ByteArray×Int)×List ByteArray):=match pOf Ref.plain l with
 | none=>none
 | some (x,[])=>some ((x,3),[])
 | some (x,y::r)=>if y.toList == my.toList then some ((x,4),r) else some ((x,3),y::r)
end Pro
theorem eK {w:World} {N:Nat} {a b c d:Value} {t:TypeId} (hN:w.heap[N]?=some (.cells #[a,b,c,d] t (0,0))) :
  w.cell? ⟨N,0,none⟩=some a∧w.cell? ⟨N,1,none⟩=some b∧w.cell? ⟨N,2,none⟩=some c∧w.cell? ⟨N,3,none⟩=some d∧w.frozen? ⟨N,0,none⟩=false∧w.frozen? ⟨N,1,none⟩=false∧w.frozen? ⟨N,2,none⟩=false∧w.frozen? ⟨N,3,none⟩=false :=
 ⟨by rw [cell_of_row w _ 0 _ _ _ hN];rfl,by rw [cell_of_row w _ 1 _ _ _ hN];rfl,by rw [cell_of_row w _ 2 _ _ _ hN];rfl,by rw [cell_of_row w _ 3 _ _ _ hN];rfl,by simp [World.frozen?,hN],by simp [World.frozen?,hN],by simp [World.frozen?,hN],by simp [World.frozen?,hN]⟩
theorem jM {w:World} {N:Nat} {a b c d a' b' c' d':Value} {t:TypeId} (hN:w.heap[N]?=some (.cells #[a,b,c,d] t (0,0))) :
  ((((w.setCell ⟨N,0,none⟩ a').setCell ⟨N,1,none⟩ b').setCell ⟨N,2,none⟩ c').setCell ⟨N,3,none⟩ d').heap[N]?=some (.cells #[a',b',c',d'] t (0,0))∧fQ N w ((((w.setCell ⟨N,0,none⟩ a').setCell ⟨N,1,none⟩ b').setCell ⟨N,2,none⟩ c').setCell ⟨N,3,none⟩ d'):=by
 have g1:=heap_setCell_same w N 0 _ _ a' hN
 have g2:=heap_setCell_same _ N 1 _ _ b' g1
 have g3:=heap_setCell_same _ N 2 _ _ c' g2
 have g4:=heap_setCell_same _ N 3 _ _ d' g3
 exact ⟨g4,(((ae _ _ _ _).trans (ae _ _ _ _)).trans (ae _ _ _ _)).trans (ae _ _ _ _)⟩
theorem nx (p:Nat) (num dep:Int) (l:List ByteArray) (w:World) (H:aa w p num dep l) (hv:bh p w) :
  Calls Tryz.prog 217 #[.pointer (some ⟨p,0,none⟩)] w (dP p num dep ((Pro.cn l).map fun q=>(.agg #[.int .i64 num,.int .i64 dep,.int .i64 q.1.2,.string q.1.1],q.2)) w):=by
 have hpl:=H.lt
 cases hn:Pro.pOf Ref.plain l with
 | none =>
  have HS:Hid (Pro.cn l=none):=by unfold Hid Pro.cn;rw [hn]
  go_enter Tryz.func217,Tryz.ntmps217
  go_wp2_with fail
  refine (mh p num dep 3 l _ (H.alloc _) (hv.alloc _) hn).mono ?_
  rintro e w1 h1
  obtain ⟨ht,b,h4,h5,rfl⟩:=h1
  dsimp only
  refine ⟨rfl,?_⟩
  rw [HS.out]
  exact ⟨((ai.refl p w).alloc _).trans ht,b,by simp at h4;omega,h5,rfl⟩
 | some q =>
  obtain ⟨x,l2⟩:=q
  go_enter Tryz.func217,Tryz.ntmps217
  go_wp2_with fail
  refine (kg p num dep 3 l l2 x _ (H.alloc _) (hv.alloc _) hn).mono ?_
  rintro e w1 ⟨rfl,ht1,H1⟩
  dsimp only
  have hN:w1.heap[w.heap.size]?=some (.cells #[.int .i64 0,.int .i64 0,.int .i64 0,.string ByteArray.empty] 376 (0,0)):=(ht1.block w.heap.size (by simp) (by omega)).trans (heap_alloc_new w _)
  have hNl:w.heap.size<w1.heap.size:=(Array.getElem?_eq_some_iff.1 hN).1
  have ht:ai p w w1:=((ai.refl p w).alloc _).trans ht1
  have hp1:=H1.lt
  clear ht1
  have H2:=H1.alloc (.cells #[.int .i64 num,.int .i64 dep,.int .i64 3,.string x] 376)
  have hN2:(w1.alloc (.cells #[.int .i64 num,.int .i64 dep,.int .i64 3,.string x] 376)).heap[w.heap.size]?=some (.cells #[.int .i64 0,.int .i64 0,.int .i64 0,.string ByteArray.empty] 376 (0,0)):=by rw [Below.heap_alloc _ _ _ hNl];exact hN
  have ht2:ai p w (w1.alloc (.cells #[.int .i64 num,.int .i64 dep,.int .i64 3,.string x] 376)):=ht.alloc _
  have hM2:=heap_alloc_new w1 (.cells #[.int .i64 num,.int .i64 dep,.int .i64 3,.string x] 376)
  have hne:¬ w.heap.size=w1.heap.size:=by omega
  have hne':¬ w1.heap.size=w.heap.size:=by omega
  cases l2 with
  | nil =>
   have HS:Hid (Pro.cn l=some ((x,3),[])):=by unfold Hid Pro.cn;rw [hn]
   go_wp2_with fail
   refine (skip_none p num dep Pro.my _ H2).mono ?_
   rintro e w9 ⟨rfl,hw9⟩
   rw [hw9]
   clear hw9 w9 hN
   generalize w1.alloc (.cells #[.int .i64 num,.int .i64 dep,.int .i64 3,.string x] 376)=w2 at *
   obtain ⟨a0,a1,a2,a3,b0,b1,b2,b3⟩:=eK hN2
   obtain ⟨c0,c1,c2,c3,_,_,_,_⟩:=eK hM2
   have gg:=jM (a' := .int .i64 num) (b' := .int .i64 dep) (c' := .int .i64 3) (d' := .string x) hN2
   have GG:Hid _:=gg
   clear gg
   dsimp only
   go_wp2
   refine dt Tryz.kV _ 376 _ (0,0) _ rfl GG.out.1 Tryz.underlying376 rfl Tryz.fC rfl ?_
   unfold dP
   rw [HS.out]
   exact ⟨rfl,ht2.ga GG.out.2 (Nat.le_refl _),H2.only GG.out.2 hpl⟩
  | cons y r =>
   cases hy:(y.toList == Pro.my.toList)
   ·have HS:Hid (Pro.cn l=some ((x,3),y::r)):=by unfold Hid Pro.cn;rw [hn];simp only;rw [hy];rfl
    go_wp2_with fail
    refine (n8 p num dep y r Pro.my _ H2 hy).mono ?_
    rintro e w9 ⟨rfl,hw9⟩
    rw [hw9]
    clear hw9 w9 hN
    generalize w1.alloc (.cells #[.int .i64 num,.int .i64 dep,.int .i64 3,.string x] 376)=w2 at *
    obtain ⟨a0,a1,a2,a3,b0,b1,b2,b3⟩:=eK hN2
    obtain ⟨c0,c1,c2,c3,_,_,_,_⟩:=eK hM2
    have GG:Hid _:=jM (a' := .int .i64 num) (b' := .int .i64 dep) (c' := .int .i64 3) (d' := .string x) hN2
    dsimp only
    go_wp2
    refine dt Tryz.kV _ 376 _ (0,0) _ rfl GG.out.1 Tryz.underlying376 rfl Tryz.fC rfl ?_
    unfold dP
    rw [HS.out]
    exact ⟨rfl,ht2.ga GG.out.2 (Nat.le_refl _),H2.only GG.out.2 hpl⟩
   ·have HS:Hid (Pro.cn l=some ((x,4),r)):=by unfold Hid Pro.cn;rw [hn];simp only;rw [hy];rfl
    go_wp2_with fail
    refine (iT p num dep y r Pro.my _ H2 hy).mono ?_
    rintro e w3 ⟨rfl,ho3,H3⟩
    have hN3:=(ho3.block w.heap.size (by omega)).trans hN2
    have hM3:=(ho3.block w1.heap.size (by omega)).trans hM2
    have ht3:=ht2.trans ho3.ah
    have hM4:=heap_setCell_same w3 w1.heap.size 2 _ _ (.int .i64 4) hM3
    have oM:=ae w3 w1.heap.size 2 (.int .i64 4)
    have hN4:=(oM.block w.heap.size hne).trans hN3
    have ht4:=ht3.ga oM (by omega)
    have H4:=H3.only oM (by omega)
    obtain ⟨_,_,m2,_,_,_,m6,_⟩:=eK hM3
    clear hN hN2 hM2 ho3 ht3 H3 hM3 hN3 oM
    dsimp only
    go_upto_region 4 with fail
    generalize w3.setCell ⟨w1.heap.size,2,none⟩ (.int .i64 4)=w4 at *
    obtain ⟨a0,a1,a2,a3,b0,b1,b2,b3⟩:=eK hN4
    obtain ⟨c0,c1,c2,c3,_,_,_,_⟩:=eK (a := .int .i64 num) (b := .int .i64 dep) (c := .int .i64 4) (d := .string x) hM4
    have GG:Hid _:=jM (a' := .int .i64 num) (b' := .int .i64 dep) (c' := .int .i64 4) (d' := .string x) hN4
    go_wp2
    refine dt Tryz.kV _ 376 _ (0,0) _ rfl GG.out.1 Tryz.underlying376 rfl Tryz.fC rfl ?_
    unfold dP
    rw [HS.out]
    exact ⟨rfl,ht4.ga GG.out.2 (Nat.le_refl _),H4.only GG.out.2 hpl⟩
theorem Tryz.Ek:Tryz.f218.results=#[.cell 4 380]:=rfl
theorem Tryz.l8:(Tryz.prog.info? 380).map (·.size)=some 7:=by kernel_rfl
namespace Pro
def ug:ByteArray:=⟨#[116,111]⟩
def pTo:List ByteArray→Option (ByteArray×List ByteArray)
 | []=>some (ByteArray.empty,[])
 | y::r=>if y.toList == ug.toList then pOf Ref.plain r else some (ByteArray.empty,y::r)
def eS (l:List ByteArray):Option ((ByteArray×List Ref.Act)×List ByteArray):=match pTo l with
 | none=>none
 | some (t,r)=>(aN r).map fun q=>((t,q.1),q.2)
end Pro
def fE (p:Nat) (num dep:Int) (ev:ByteArray) (af:Bool) (d:Int) (l:List ByteArray) (w:World) (e:Ending) (w':World):Prop:=match Pro.eS l with
 | none=>bT p 2 num w e w'
 | some ((t,A),r)=>∃ a n c,e = .returned (.agg #[.int .i64 num,.int .i64 dep,.string ev,.bool af,.int .u64 d,.string t,.slice a n c])∧w'.ownsRow w.heap.size 324 1 (.slice a n c) A.length (A.map bp)∧ai p w w'∧aa w' p num dep r
structure r6 (w w1:World) (ev t:ByteArray) (af:Bool) (d:Int):Prop where
 m:w1.heap[w.heap.size]?=some (.cells #[.string ev,.bool af,.int .u64 d,.string t,.slice none 0 0] 295 (0,0))
 l:w1.heap[w.heap.size+1]?=some (.cells #[.int .i64 0,.int .i64 0,.string ByteArray.empty,.bool false,.int .u64 0,.string ByteArray.empty,.slice none 0 0] 380 (0,0))
theorem lM (p:Nat) (num dep:Int) (ev:ByteArray) (af:Bool) (d:Int) (l:List ByteArray) (w:World) (H:aa w p num dep l) (hv:bh p w) :
  Calls Tryz.prog 218 #[.pointer (some ⟨p,0,none⟩),.agg #[.string ev,.bool af,.int .u64 d,.string ByteArray.empty,.slice none 0 0]] w (fE p num dep ev af d l w):=by
 have hpl:=H.lt
 have HPM:Hid (Pro.eS l=match Pro.pTo l with | none=>none | some (t,r)=>(Pro.aN r).map fun q=>((t,q.1),q.2)):=rfl
 go_enter Tryz.func218,Tryz.ntmps218
 go_upto_region 1 with fail
 obtain ⟨w1,hw1⟩:∃ y,y=(w.alloc (.cells #[.string ev,.bool af,.int .u64 d,.string ByteArray.empty,.slice none 0 0] 295)).alloc (.cells #[.int .i64 0,.int .i64 0,.string ByteArray.empty,.bool false,.int .u64 0,.string ByteArray.empty,.slice none 0 0] 380):=⟨_,rfl⟩
 change Code.wp _ _ _ _ ((w.alloc (.cells #[.string ev,.bool af,.int .u64 d,.string ByteArray.empty,.slice none 0 0] 295)).alloc (.cells #[.int .i64 0,.int .i64 0,.string ByteArray.empty,.bool false,.int .u64 0,.string ByteArray.empty,.slice none 0 0] 380))
 rw [← hw1]
 have ht1:ai p w w1:=by rw [hw1];exact ((ai.refl p w).alloc _).alloc _
 have H1:aa w1 p num dep l:=by rw [hw1];exact (H.alloc _).alloc _
 have M1:r6 w w1 ev ByteArray.empty af d:=by rw [hw1];exact ⟨gn _ _ _,b8 _ _ _⟩
 clear hw1
 cases htl:Pro.pTo l with
 | none =>
  cases l with
  | nil=>cases htl
  | cons y r =>
   cases hy:(y.toList == Pro.ug.toList)
   ·rw [Pro.pTo,hy] at htl;cases htl
   ·have hr:Pro.pOf Ref.plain r=none:=by rw [Pro.pTo,hy] at htl;exact htl
    have HS:Hid (Pro.eS (y::r)=none):=by unfold Hid;rw [HPM.out,htl]
    clear HPM
    go_wp2_with fail
    refine (iT p num dep y r Pro.ug _ H1 hy).mono ?_
    rintro e w2 ⟨rfl,ho2,H2⟩
    have ht2:=ht1.trans ho2.ah
    dsimp only
    go_wp2_with fail
    refine (dC p num dep r _ H2 (hv.ah ht2)).mono ?_
    rintro e w3 h3
    rw [hr] at h3
    obtain ⟨ht3,b,h4,h5,rfl⟩:=h3
    dsimp only
    refine ⟨rfl,?_⟩
    unfold fE
    rw [HS.out]
    exact ⟨ht2.trans ht3,b,Nat.le_trans ht2.size h4,h5,rfl⟩
 | some q =>
  obtain ⟨t,r⟩:=q
  have HS:Hid (Pro.eS l=(Pro.aN r).map fun q=>((t,q.1),q.2)):=by unfold Hid;rw [HPM.out,htl]
  clear HPM
  go_cut [6] (fun c wx=>∃ b:Bool,c = .bool b∧r6 w wx ev ByteArray.empty af d∧ai p w wx∧((b=true∧∃ r0,Pro.pOf Ref.plain r0=some (t,r)∧aa wx p num dep r0)∨(b=false∧t=ByteArray.empty∧aa wx p num dep r)))
  case first =>
   cases l with
   | nil =>
    cases htl
    go_wp2_with (go_at_call 245;refine (skip_none p num dep Pro.ug _ H1).mono ?_;rintro e w9 ⟨rfl,hw9⟩;rw [hw9];clear hw9 w9)
    go_meet
    case rel=>exact ⟨false,rfl,M1,ht1,.inr ⟨rfl,by first | rfl | trivial,H1⟩⟩
   | cons y r1 =>
    cases hy:(y.toList == Pro.ug.toList)
    ·rw [Pro.pTo,hy] at htl
     cases htl
     go_wp2_with (go_at_call 245;refine (n8 p num dep y r1 Pro.ug _ H1 hy).mono ?_;rintro e w9 ⟨rfl,hw9⟩;rw [hw9];clear hw9 w9)
     go_meet
     case rel=>exact ⟨false,rfl,M1,ht1,.inr ⟨rfl,by first | rfl | trivial,H1⟩⟩
    ·have hr:Pro.pOf Ref.plain r1=some (t,r):=by rw [Pro.pTo,hy] at htl;exact htl
     go_wp2_with (go_at_call 245;refine (iT p num dep y r1 Pro.ug _ H1 hy).mono ?_;rintro e w2 ⟨rfl,ho2,H2⟩)
     go_meet
     case rel=>exact ⟨true,rfl,⟨(ho2.block _ (by omega)).trans M1.m,(ho2.block _ (by omega)).trans M1.l⟩,ht1.trans ho2.ah,.inl ⟨rfl,r1,hr,H2⟩⟩
  case rest =>
   obtain ⟨b,rfl,M2,ht2,hbb⟩:=hcut
   clear M1 H1 ht1
   obtain ⟨w2,hw2⟩:∃ y:World,y=wc:=⟨wc,rfl⟩
   subst hw2
   go_upto_if 6 with fail
   go_cut [] (fun wx=>r6 w wx ev t af d∧ai p w wx∧aa wx p num dep r)
   case first =>
    rcases hbb with ⟨rfl,r0,hr0,H2⟩ | ⟨rfl,rfl,H2⟩
    ·go_wp2_with fail
     refine (dC p num dep r0 _ H2 (hv.ah ht2)).mono ?_
     rintro e w3 h3
     rw [hr0] at h3
     obtain ⟨rfl,ht3,H3⟩:=h3
     have hs2:=ht2.size
     have lm:=(Array.getElem?_eq_some_iff.1 M2.m).1
     have ll:=(Array.getElem?_eq_some_iff.1 M2.l).1
     have m3:=(ht3.block _ lm (by omega)).trans M2.m
     have l3:=(ht3.block _ ll (by omega)).trans M2.l
     have k3:w3.cell? ⟨w.heap.size,3,none⟩=some (.string ByteArray.empty):=by rw [cell_of_row w3 _ 3 _ _ _ m3];rfl
     have f3:w3.frozen? ⟨w.heap.size,3,none⟩=false:=by simp [World.frozen?,m3]
     dsimp only
     go_wp2
     go_meet
     case rel =>
      have oo:=ae w3 w.heap.size 3 (.string t)
      refine ⟨⟨?_,(oo.block _ (by omega)).trans l3⟩,(ht2.trans ht3).ga oo (Nat.le_refl _),H3.only oo hpl⟩
      rw [heap_setCell_same w3 _ 3 _ _ _ m3];rfl
    ·go_wp2
     go_meet
     case rel=>exact ⟨M2,ht2,H2⟩
   case rest =>
    obtain ⟨M3,ht3,H3⟩:=hcut
    clear M2 ht2 hbb
    obtain ⟨w3,hw3⟩:∃ y:World,y=wc:=⟨wc,rfl⟩
    subst hw3
    go_wp2_with fail
    refine (gW p num dep r _ H3 (hv.ah ht3)).mono ?_
    rintro e w4 h4
    unfold fD at h4
    cases ha:Pro.aN r with
    | none =>
     rw [ha] at h4
     have HS2:Hid (Pro.eS l=none):=by unfold Hid;rw [HS.out,ha];rfl
     obtain ⟨ht4,b,h5,h6,rfl⟩:=h4
     dsimp only
     refine ⟨rfl,?_⟩
     unfold fE
     rw [HS2.out]
     exact ⟨ht3.trans ht4,b,Nat.le_trans ht3.size h5,h6,rfl⟩
    | some q =>
     obtain ⟨A,r'⟩:=q
     rw [ha] at h4
     have HS2:Hid (Pro.eS l=some ((t,A),r')):=by unfold Hid;rw [HS.out,ha];rfl
     obtain ⟨a,n,c,rfl,hown,ht4,H4⟩:=h4
     have hs3:=ht3.size
     have lm:=(Array.getElem?_eq_some_iff.1 M3.m).1
     have ll:=(Array.getElem?_eq_some_iff.1 M3.l).1
     have m4:=(ht4.block _ lm (by omega)).trans M3.m
     have l4:=(ht4.block _ ll (by omega)).trans M3.l
     have hown4:=aI hown hs3
     have k4:w4.cell? ⟨w.heap.size,4,none⟩=some (.slice none 0 0):=by rw [cell_of_row w4 _ 4 _ _ _ m4];rfl
     have f4:w4.frozen? ⟨w.heap.size,4,none⟩=false:=by simp [World.frozen?,m4]
     have o5:=ae w4 w.heap.size 4 (.slice a n c)
     have m5:=heap_setCell_same w4 w.heap.size 4 _ _ (.slice a n c) m4
     have l5:=(o5.block (w.heap.size+1) (by omega)).trans l4
     have hown5:=ka hown4 o5 m4 (by decide)
     have ht5:=(ht3.trans ht4).ga o5 (Nat.le_refl _)
     have H5:=H4.only o5 hpl
     clear HS ha M3 ht3 H3 hown ht4 H4 m4 l4 hown4 o5
     dsimp only
     go_upto_region 4 with fail
     generalize w4.setCell ⟨w.heap.size,4,none⟩ (.slice a n c)=w5 at *
     clear k4 f4
     obtain ⟨c0,c1⟩:=H5.cells
     have y0:w5.cell? ⟨w.heap.size,0,none⟩=some (.string ev):=by rw [cell_of_row w5 _ 0 _ _ _ m5];rfl
     have y1:w5.cell? ⟨w.heap.size,1,none⟩=some (.bool af):=by rw [cell_of_row w5 _ 1 _ _ _ m5];rfl
     have y2:w5.cell? ⟨w.heap.size,2,none⟩=some (.int .u64 d):=by rw [cell_of_row w5 _ 2 _ _ _ m5];rfl
     have y3:w5.cell? ⟨w.heap.size,3,none⟩=some (.string t):=by rw [cell_of_row w5 _ 3 _ _ _ m5];rfl
     have y4:w5.cell? ⟨w.heap.size,4,none⟩=some (.slice a n c):=by rw [cell_of_row w5 _ 4 _ _ _ m5];rfl
     have z0:w5.cell? ⟨w.heap.size+1,0,none⟩=some (.int .i64 0):=by rw [cell_of_row w5 _ 0 _ _ _ l5];rfl
     have q0:w5.frozen? ⟨w.heap.size+1,0,none⟩=false:=by simp [World.frozen?,l5]
     have z1:w5.cell? ⟨w.heap.size+1,1,none⟩=some (.int .i64 0):=by rw [cell_of_row w5 _ 1 _ _ _ l5];rfl
     have q1:w5.frozen? ⟨w.heap.size+1,1,none⟩=false:=by simp [World.frozen?,l5]
     have z2:w5.cell? ⟨w.heap.size+1,2,none⟩=some (.string ByteArray.empty):=by rw [cell_of_row w5 _ 2 _ _ _ l5];rfl
     have q2:w5.frozen? ⟨w.heap.size+1,2,none⟩=false:=by simp [World.frozen?,l5]
     have z3:w5.cell? ⟨w.heap.size+1,3,none⟩=some (.bool false):=by rw [cell_of_row w5 _ 3 _ _ _ l5];rfl
     have q3:w5.frozen? ⟨w.heap.size+1,3,none⟩=false:=by simp [World.frozen?,l5]
     have z4:w5.cell? ⟨w.heap.size+1,4,none⟩=some (.int .u64 0):=by rw [cell_of_row w5 _ 4 _ _ _ l5];rfl
     have q4:w5.frozen? ⟨w.heap.size+1,4,none⟩=false:=by simp [World.frozen?,l5]
     have z5:w5.cell? ⟨w.heap.size+1,5,none⟩=some (.string ByteArray.empty):=by rw [cell_of_row w5 _ 5 _ _ _ l5];rfl
     have q5:w5.frozen? ⟨w.heap.size+1,5,none⟩=false:=by simp [World.frozen?,l5]
     have z6:w5.cell? ⟨w.heap.size+1,6,none⟩=some (.slice none 0 0):=by rw [cell_of_row w5 _ 6 _ _ _ l5];rfl
     have q6:w5.frozen? ⟨w.heap.size+1,6,none⟩=false:=by simp [World.frozen?,l5]
     have hne1:¬ p=w.heap.size+1:=by omega
     have hne2:¬ w.heap.size+1=p:=by omega
     have hne3:¬ w.heap.size=w.heap.size+1:=by omega
     have HH:Hid (w5.ownsRow w.heap.size 324 1 (.slice a n c) A.length (A.map bp)∧ai p w w5∧aa w5 p num dep r'):=⟨hown5,ht5,H5⟩
     have HL5:Hid _:=l5
     clear m5 l5 hown5 ht5 H5
     refine dS 6 (by kernel_rfl) (by kernel_rfl) ?_
     simp only [List.take_succ_cons,List.take_zero,List.drop_succ_cons,List.drop_zero]
     repeat still_step
     refine wpStill_nil ?_
     refine ee rfl 380 (.tmp 4) (.tmp 18) rfl _ 380 _ _ rfl rfl (show w5.drew.heap[w.heap.size+1]?=_ from HL5.out) Tryz.l8 rfl rfl ?_
     go_wp2
     have G2:=(il w5.drew (w.heap.size+1) #[.int .i64 num,.int .i64 dep,.string ev,.bool af,.int .u64 d,.string t,.slice a n c]).Ef
     refine dt Tryz.Ek _ 380 _ (0,0) _ rfl (setRow_heap _ _ _ _ _ _ (show w5.drew.heap[w.heap.size+1]?=_ from HL5.out)) Tryz.underlying380 rfl Tryz.l8 rfl ?_
     unfold fE
     rw [HS2.out]
     exact ⟨a,n,c,rfl,ka HH.out.1 G2 HL5.out (by decide),HH.out.2.1.ga G2 (by omega),HH.out.2.2.only G2 (by omega)⟩
namespace Pro
inductive PL where
 | state (k:Int) (name:ByteArray)
 | move (ev:ByteArray) (af:Bool) (d:Int) (dst:ByteArray) (A:List Ref.Act)
 | enter (A:List Ref.Act)
 | leave (A:List Ref.Act)
def aT (num:Nat):List ByteArray→Option (PL×List ByteArray)
 | []=>none
 | x::r =>
  if x.toList == Ref.bW then (pOf Ref.plain r).map fun q=>(.state 0 q.1,q.2)
  else if x.toList == Ref.aM then (pOf Ref.plain r).map fun q=>(.state 1 q.1,q.2)
  else if x.toList == Ref.bV then (pOf Ref.plain r).map fun q=>(.state 2 q.1,q.2)
  else if x.toList == Ref.aX then (cn r).map fun q=>(.state q.1.2 q.1.1,q.2)
  else if x.toList == Ref.cOn then match pOf Ref.bG r with
   | none=>none
   | some (ev,r1)=>(eS r1).map fun q=>(.move ev false 0 q.1.1 q.1.2,q.2)
  else if x.toList == Ref.gz then match fx r with
   | none=>none
   | some (d,r1)=>(eS r1).map fun q=>(.move (Ref.bB++Ref.dec num) true d q.1.1 q.1.2,q.2)
  else if x.toList == Ref.jD then (bR r).map fun q=>(.enter q.1,q.2)
  else if x.toList == Ref.mC then (bR r).map fun q=>(.leave q.1,q.2)
  else none
end Pro
def et (w:World) (base:Nat) (num dep:Int):Pro.PL→Value→Prop
 | .state k n,v=>v = .iface 376 (.agg #[.int .i64 num,.int .i64 dep,.int .i64 k,.string n])
 | .move ev af d t A,v=>∃ a n c,v = .iface 380 (.agg #[.int .i64 num,.int .i64 dep,.string ev,.bool af,.int .u64 d,.string t,.slice a n c])∧w.ownsRow base 324 1 (.slice a n c) A.length (A.map bp)
 | .enter A,v=>∃ a n c,v = .iface 387 (.agg #[.int .i64 num,.int .i64 dep,.slice a n c])∧w.ownsRow base 324 1 (.slice a n c) A.length (A.map bp)
 | .leave A,v=>∃ a n c,v = .iface 388 (.agg #[.int .i64 num,.int .i64 dep,.slice a n c])∧w.ownsRow base 324 1 (.slice a n c) A.length (A.map bp)
def aJ (p num:Nat) (dep:Int) (l:List ByteArray) (w:World) (e:Ending) (w':World):Prop:=match Pro.aT num l with
 | none=>bT p 2 num w e w'
 | some (L,r)=>∃ v,e = .returned v∧et w' w.heap.size num dep L v∧ai p w w'∧aa w' p num dep r
theorem xy (p num:Nat) (dep:Int) (x:ByteArray) (r:List ByteArray) (w:World) (H:aa w p num dep (x::r)) (hv:bh p w) (h1:(x.toList == [115,116,97,116,101])=true) :
  Calls Tryz.prog 176 #[.pointer (some ⟨p,0,none⟩)] w (aJ p num dep (x::r) w):=by
 cases hn:Pro.pOf Ref.plain r with
 | none =>
  have HS:Hid (Pro.aT num (x::r)=none):=by unfold Hid;rw [Pro.aT,Ref.bW,h1,hn];rfl
  go_enter Tryz.func176,Tryz.ntmps176
  go_wp2_with fail
  refine (az p num dep x r _ H).mono ?_
  rintro e w1 ⟨rfl,ho,H1⟩
  have ht1:=ho.ah
  clear ho
  dsimp only
  go_wp2_with fail
  refine (mh p num dep 0 r _ H1 (hv.ah ht1) hn).mono ?_
  rintro e w2 hq
  obtain ⟨ht,b,h4,h5,rfl⟩:=hq
  dsimp only
  refine ⟨rfl,?_⟩
  unfold aJ
  rw [HS.out]
  exact ⟨ht1.trans ht,b,Nat.le_trans ht1.size h4,h5,rfl⟩
 | some q =>
  obtain ⟨n,r'⟩:=q
  have HS:Hid (Pro.aT num (x::r)=some (.state 0 n,r')):=by unfold Hid;rw [Pro.aT,Ref.bW,h1,hn];rfl
  go_enter Tryz.func176,Tryz.ntmps176
  go_wp2_with fail
  refine (az p num dep x r _ H).mono ?_
  rintro e w1 ⟨rfl,ho,H1⟩
  have ht1:=ho.ah
  clear ho
  dsimp only
  go_wp2_with fail
  refine (kg p num dep 0 r r' n _ H1 (hv.ah ht1) hn).mono ?_
  rintro e w2 ⟨rfl,ht2,H2⟩
  dsimp only
  go_wp2
  go_ret
  unfold aJ
  rw [HS.out]
  exact ⟨_,rfl,rfl,ht1.trans ht2,H2⟩
theorem p9 (p num:Nat) (dep:Int) (x:ByteArray) (r:List ByteArray) (w:World) (H:aa w p num dep (x::r)) (hv:bh p w) (h1:(x.toList == [115,116,97,116,101])=false) (h2:(x.toList == [112,97,114,97,108,108,101,108])=true) :
  Calls Tryz.prog 176 #[.pointer (some ⟨p,0,none⟩)] w (aJ p num dep (x::r) w):=by
 cases hn:Pro.pOf Ref.plain r with
 | none =>
  have HS:Hid (Pro.aT num (x::r)=none):=by unfold Hid;rw [Pro.aT,Ref.bW,h1,Ref.aM,h2,hn];rfl
  go_enter Tryz.func176,Tryz.ntmps176
  go_wp2_with fail
  refine (az p num dep x r _ H).mono ?_
  rintro e w1 ⟨rfl,ho,H1⟩
  have ht1:=ho.ah
  clear ho
  dsimp only
  go_wp2_with fail
  refine (mh p num dep 1 r _ H1 (hv.ah ht1) hn).mono ?_
  rintro e w2 hq
  obtain ⟨ht,b,h4,h5,rfl⟩:=hq
  dsimp only
  refine ⟨rfl,?_⟩
  unfold aJ
  rw [HS.out]
  exact ⟨ht1.trans ht,b,Nat.le_trans ht1.size h4,h5,rfl⟩
 | some q =>
  obtain ⟨n,r'⟩:=q
  have HS:Hid (Pro.aT num (x::r)=some (.state 1 n,r')):=by unfold Hid;rw [Pro.aT,Ref.bW,h1,Ref.aM,h2,hn];rfl
  go_enter Tryz.func176,Tryz.ntmps176
  go_wp2_with fail
  refine (az p num dep x r _ H).mono ?_
  rintro e w1 ⟨rfl,ho,H1⟩
  have ht1:=ho.ah
  clear ho
  dsimp only
  go_wp2_with fail
  refine (kg p num dep 1 r r' n _ H1 (hv.ah ht1) hn).mono ?_
  rintro e w2 ⟨rfl,ht2,H2⟩
  dsimp only
  go_wp2
  go_ret
  unfold aJ
  rw [HS.out]
  exact ⟨_,rfl,rfl,ht1.trans ht2,H2⟩
theorem xu (p num:Nat) (dep:Int) (x:ByteArray) (r:List ByteArray) (w:World) (H:aa w p num dep (x::r)) (hv:bh p w) (h1:(x.toList == [115,116,97,116,101])=false) (h2:(x.toList == [112,97,114,97,108,108,101,108])=false) (h3:(x.toList == [102,105,110,97,108])=true) :
  Calls Tryz.prog 176 #[.pointer (some ⟨p,0,none⟩)] w (aJ p num dep (x::r) w):=by
 cases hn:Pro.pOf Ref.plain r with
 | none =>
  have HS:Hid (Pro.aT num (x::r)=none):=by unfold Hid;rw [Pro.aT,Ref.bW,h1,Ref.aM,h2,Ref.bV,h3,hn];rfl
  go_enter Tryz.func176,Tryz.ntmps176
  go_wp2_with fail
  refine (az p num dep x r _ H).mono ?_
  rintro e w1 ⟨rfl,ho,H1⟩
  have ht1:=ho.ah
  clear ho
  dsimp only
  go_wp2_with fail
  refine (mh p num dep 2 r _ H1 (hv.ah ht1) hn).mono ?_
  rintro e w2 hq
  obtain ⟨ht,b,h4,h5,rfl⟩:=hq
  dsimp only
  refine ⟨rfl,?_⟩
  unfold aJ
  rw [HS.out]
  exact ⟨ht1.trans ht,b,Nat.le_trans ht1.size h4,h5,rfl⟩
 | some q =>
  obtain ⟨n,r'⟩:=q
  have HS:Hid (Pro.aT num (x::r)=some (.state 2 n,r')):=by unfold Hid;rw [Pro.aT,Ref.bW,h1,Ref.aM,h2,Ref.bV,h3,hn];rfl
  go_enter Tryz.func176,Tryz.ntmps176
  go_wp2_with fail
  refine (az p num dep x r _ H).mono ?_
  rintro e w1 ⟨rfl,ho,H1⟩
  have ht1:=ho.ah
  clear ho
  dsimp only
  go_wp2_with fail
  refine (kg p num dep 2 r r' n _ H1 (hv.ah ht1) hn).mono ?_
  rintro e w2 ⟨rfl,ht2,H2⟩
  dsimp only
  go_wp2
  go_ret
  unfold aJ
  rw [HS.out]
  exact ⟨_,rfl,rfl,ht1.trans ht2,H2⟩
theorem sR (p num:Nat) (dep:Int) (x:ByteArray) (r:List ByteArray) (w:World) (H:aa w p num dep (x::r)) (hv:bh p w) (h1:(x.toList == [115,116,97,116,101])=false) (h2:(x.toList == [112,97,114,97,108,108,101,108])=false) (h3:(x.toList == [102,105,110,97,108])=false) (h4:(x.toList == [104,105,115,116,111,114,121])=true) :
  Calls Tryz.prog 176 #[.pointer (some ⟨p,0,none⟩)] w (aJ p num dep (x::r) w):=by
 cases hn:Pro.cn r with
 | none =>
  have HS:Hid (Pro.aT num (x::r)=none):=by unfold Hid;rw [Pro.aT,Ref.bW,h1,Ref.aM,h2,Ref.bV,h3,Ref.aX,h4,hn];rfl
  go_enter Tryz.func176,Tryz.ntmps176
  go_wp2_with fail
  refine (az p num dep x r _ H).mono ?_
  rintro e w1 ⟨rfl,ho,H1⟩
  have ht1:=ho.ah
  clear ho
  dsimp only
  go_wp2_with fail
  refine (nx p num dep r _ H1 (hv.ah ht1)).mono ?_
  rintro e w2 hq
  rw [hn] at hq
  obtain ⟨ht,b,h4,h5,rfl⟩:=hq
  dsimp only
  refine ⟨rfl,?_⟩
  unfold aJ
  rw [HS.out]
  exact ⟨ht1.trans ht,b,Nat.le_trans ht1.size h4,h5,rfl⟩
 | some q =>
  obtain ⟨⟨n,kk⟩,r'⟩:=q
  have HS:Hid (Pro.aT num (x::r)=some (.state kk n,r')):=by unfold Hid;rw [Pro.aT,Ref.bW,h1,Ref.aM,h2,Ref.bV,h3,Ref.aX,h4,hn];rfl
  go_enter Tryz.func176,Tryz.ntmps176
  go_wp2_with fail
  refine (az p num dep x r _ H).mono ?_
  rintro e w1 ⟨rfl,ho,H1⟩
  have ht1:=ho.ah
  clear ho
  dsimp only
  go_wp2_with fail
  refine (nx p num dep r _ H1 (hv.ah ht1)).mono ?_
  rintro e w2 hq
  rw [hn] at hq
  obtain ⟨rfl,ht2,H2⟩:=hq
  clear hn
  dsimp only
  go_wp2
  go_ret
  unfold aJ
  rw [HS.out]
  exact ⟨_,rfl,rfl,ht1.trans ht2,H2⟩
theorem xt (p num:Nat) (dep:Int) (x:ByteArray) (r:List ByteArray) (w:World) (H:aa w p num dep (x::r)) (hv:bh p w) (h1:(x.toList == [115,116,97,116,101])=false) (h2:(x.toList == [112,97,114,97,108,108,101,108])=false) (h3:(x.toList == [102,105,110,97,108])=false) (h4:(x.toList == [104,105,115,116,111,114,121])=false) (h5:(x.toList == [111,110])=false) (h6:(x.toList == [97,102,116,101,114])=false) (h7:(x.toList == [101,110,116,101,114])=true) :
  Calls Tryz.prog 176 #[.pointer (some ⟨p,0,none⟩)] w (aJ p num dep (x::r) w):=by
 cases hn:Pro.bR r with
 | none =>
  have HS:Hid (Pro.aT num (x::r)=none):=by unfold Hid;rw [Pro.aT,Ref.bW,h1,Ref.aM,h2,Ref.bV,h3,Ref.aX,h4,Ref.cOn,h5,Ref.gz,h6,Ref.jD,h7,hn];rfl
  go_enter Tryz.func176,Tryz.ntmps176
  go_wp2_with fail
  refine (az p num dep x r _ H).mono ?_
  rintro e w1 ⟨rfl,ho,H1⟩
  have ht1:=ho.ah
  clear ho
  dsimp only
  go_wp2_with fail
  refine (i1 p num dep r _ H1 (hv.ah ht1)).mono ?_
  rintro e w2 hq
  unfold dN at hq
  rw [hn] at hq
  obtain ⟨ht,b,h4,h5,rfl⟩:=hq
  dsimp only
  refine ⟨rfl,?_⟩
  unfold aJ
  rw [HS.out]
  exact ⟨ht1.trans ht,b,Nat.le_trans ht1.size h4,h5,rfl⟩
 | some q =>
  obtain ⟨A,r'⟩:=q
  have HS:Hid (Pro.aT num (x::r)=some (.enter A,r')):=by unfold Hid;rw [Pro.aT,Ref.bW,h1,Ref.aM,h2,Ref.bV,h3,Ref.aX,h4,Ref.cOn,h5,Ref.gz,h6,Ref.jD,h7,hn];rfl
  go_enter Tryz.func176,Tryz.ntmps176
  go_wp2_with fail
  refine (az p num dep x r _ H).mono ?_
  rintro e w1 ⟨rfl,ho,H1⟩
  have ht1:=ho.ah
  clear ho
  dsimp only
  go_wp2_with fail
  refine (i1 p num dep r _ H1 (hv.ah ht1)).mono ?_
  rintro e w2 hq
  unfold dN at hq
  rw [hn] at hq
  obtain ⟨a,n,c,rfl,hown,ht2,H2⟩:=hq
  have hown':=aI hown ht1.size
  clear hn hown
  dsimp only
  go_wp2
  go_ret
  unfold aJ
  rw [HS.out]
  exact ⟨_,rfl,⟨a,n,c,rfl,hown'⟩,ht1.trans ht2,H2⟩
theorem xv (p num:Nat) (dep:Int) (x:ByteArray) (r:List ByteArray) (w:World) (H:aa w p num dep (x::r)) (hv:bh p w) (h1:(x.toList == [115,116,97,116,101])=false) (h2:(x.toList == [112,97,114,97,108,108,101,108])=false) (h3:(x.toList == [102,105,110,97,108])=false) (h4:(x.toList == [104,105,115,116,111,114,121])=false) (h5:(x.toList == [111,110])=false) (h6:(x.toList == [97,102,116,101,114])=false) (h7:(x.toList == [101,110,116,101,114])=false) (h8:(x.toList == [108,101,97,118,101])=true) :
  Calls Tryz.prog 176 #[.pointer (some ⟨p,0,none⟩)] w (aJ p num dep (x::r) w):=by
 cases hn:Pro.bR r with
 | none =>
  have HS:Hid (Pro.aT num (x::r)=none):=by unfold Hid;rw [Pro.aT,Ref.bW,h1,Ref.aM,h2,Ref.bV,h3,Ref.aX,h4,Ref.cOn,h5,Ref.gz,h6,Ref.jD,h7,Ref.mC,h8,hn];rfl
  go_enter Tryz.func176,Tryz.ntmps176
  go_wp2_with fail
  refine (az p num dep x r _ H).mono ?_
  rintro e w1 ⟨rfl,ho,H1⟩
  have ht1:=ho.ah
  clear ho
  dsimp only
  go_wp2_with fail
  refine (i1 p num dep r _ H1 (hv.ah ht1)).mono ?_
  rintro e w2 hq
  unfold dN at hq
  rw [hn] at hq
  obtain ⟨ht,b,h4,h5,rfl⟩:=hq
  dsimp only
  refine ⟨rfl,?_⟩
  unfold aJ
  rw [HS.out]
  exact ⟨ht1.trans ht,b,Nat.le_trans ht1.size h4,h5,rfl⟩
 | some q =>
  obtain ⟨A,r'⟩:=q
  have HS:Hid (Pro.aT num (x::r)=some (.leave A,r')):=by unfold Hid;rw [Pro.aT,Ref.bW,h1,Ref.aM,h2,Ref.bV,h3,Ref.aX,h4,Ref.cOn,h5,Ref.gz,h6,Ref.jD,h7,Ref.mC,h8,hn];rfl
  go_enter Tryz.func176,Tryz.ntmps176
  go_wp2_with fail
  refine (az p num dep x r _ H).mono ?_
  rintro e w1 ⟨rfl,ho,H1⟩
  have ht1:=ho.ah
  clear ho
  dsimp only
  go_wp2_with fail
  refine (i1 p num dep r _ H1 (hv.ah ht1)).mono ?_
  rintro e w2 hq
  unfold dN at hq
  rw [hn] at hq
  obtain ⟨a,n,c,rfl,hown,ht2,H2⟩:=hq
  have hown':=aI hown ht1.size
  clear hn hown
  dsimp only
  go_wp2
  go_ret
  unfold aJ
  rw [HS.out]
  exact ⟨_,rfl,⟨a,n,c,rfl,hown'⟩,ht1.trans ht2,H2⟩
theorem DZ (p num:Nat) (dep:Int) (x:ByteArray) (r:List ByteArray) (w:World) (H:aa w p num dep (x::r)) (hv:bh p w) (h1:(x.toList == [115,116,97,116,101])=false) (h2:(x.toList == [112,97,114,97,108,108,101,108])=false) (h3:(x.toList == [102,105,110,97,108])=false) (h4:(x.toList == [104,105,115,116,111,114,121])=false) (h5:(x.toList == [111,110])=true) :
  Calls Tryz.prog 176 #[.pointer (some ⟨p,0,none⟩)] w (aJ p num dep (x::r) w):=by
 cases he:Pro.pOf Ref.bG r with
 | none =>
  have HS:Hid (Pro.aT num (x::r)=none):=by unfold Hid;rw [Pro.aT,Ref.bW,h1,Ref.aM,h2,Ref.bV,h3,Ref.aX,h4,Ref.cOn,h5,he];rfl
  go_enter Tryz.func176,Tryz.ntmps176
  go_wp2_with fail
  refine (az p num dep x r _ H).mono ?_
  rintro e w1 ⟨rfl,ho,H1⟩
  have ht1:=ho.ah
  clear ho
  dsimp only
  go_wp2_with fail
  refine (eM p num dep r _ H1 (hv.ah ht1)).mono ?_
  rintro e w2 hq
  rw [he] at hq
  obtain ⟨ht,b,h4,h5,rfl⟩:=hq
  dsimp only
  refine ⟨rfl,?_⟩
  unfold aJ
  rw [HS.out]
  exact ⟨ht1.trans ht,b,Nat.le_trans ht1.size h4,h5,rfl⟩
 | some q =>
  obtain ⟨ev,r1⟩:=q
  cases hn:Pro.eS r1 with
  | none =>
   have HS:Hid (Pro.aT num (x::r)=none):=by unfold Hid;rw [Pro.aT,Ref.bW,h1,Ref.aM,h2,Ref.bV,h3,Ref.aX,h4,Ref.cOn,h5,he];simp only;rw [hn];rfl
   go_enter Tryz.func176,Tryz.ntmps176
   go_wp2_with fail
   refine (az p num dep x r _ H).mono ?_
   rintro e w1 ⟨rfl,ho,H1⟩
   have ht1:=ho.ah
   clear ho
   dsimp only
   go_wp2_with fail
   refine (eM p num dep r _ H1 (hv.ah ht1)).mono ?_
   rintro e w3 h3
   rw [he] at h3
   obtain ⟨rfl,ht3,H3⟩:=h3
   have ht4:=ht1.trans ht3
   clear he H1 ht3
   dsimp only
   go_wp2_with fail
   refine (lM p num dep ev false 0 r1 _ H3 (hv.ah ht4)).mono ?_
   rintro e w2 hq
   unfold fE at hq
   rw [hn] at hq
   obtain ⟨ht,b,h4,h5,rfl⟩:=hq
   dsimp only
   refine ⟨rfl,?_⟩
   unfold aJ
   rw [HS.out]
   exact ⟨ht4.trans ht,b,Nat.le_trans ht4.size h4,h5,rfl⟩
  | some q =>
   obtain ⟨⟨t,A⟩,r'⟩:=q
   have HS:Hid (Pro.aT num (x::r)=some (.move ev false 0 t A,r')):=by unfold Hid;rw [Pro.aT,Ref.bW,h1,Ref.aM,h2,Ref.bV,h3,Ref.aX,h4,Ref.cOn,h5,he];simp only;rw [hn];rfl
   go_enter Tryz.func176,Tryz.ntmps176
   go_wp2_with fail
   refine (az p num dep x r _ H).mono ?_
   rintro e w1 ⟨rfl,ho,H1⟩
   have ht1:=ho.ah
   clear ho
   dsimp only
   go_wp2_with fail
   refine (eM p num dep r _ H1 (hv.ah ht1)).mono ?_
   rintro e w3 h3
   rw [he] at h3
   obtain ⟨rfl,ht3,H3⟩:=h3
   have ht4:=ht1.trans ht3
   clear he H1 ht3
   dsimp only
   go_wp2_with fail
   refine (lM p num dep ev false 0 r1 _ H3 (hv.ah ht4)).mono ?_
   rintro e w2 hq
   unfold fE at hq
   rw [hn] at hq
   obtain ⟨a,n,c,rfl,hown,ht2,H2⟩:=hq
   have hown':=aI hown ht4.size
   clear hn hown
   dsimp only
   go_wp2
   go_ret
   unfold aJ
   rw [HS.out]
   exact ⟨_,rfl,⟨a,n,c,rfl,hown'⟩,ht4.trans ht2,H2⟩
theorem xr (p num:Nat) (dep:Int) (x:ByteArray) (r:List ByteArray) (w:World) (H:aa w p num dep (x::r)) (hv:bh p w) (hnum:num≤1073741824) (h1:(x.toList == [115,116,97,116,101])=false) (h2:(x.toList == [112,97,114,97,108,108,101,108])=false) (h3:(x.toList == [102,105,110,97,108])=false) (h4:(x.toList == [104,105,115,116,111,114,121])=false) (h5:(x.toList == [111,110])=false) (h6:(x.toList == [97,102,116,101,114])=true) :
  Calls Tryz.prog 176 #[.pointer (some ⟨p,0,none⟩)] w (aJ p num dep (x::r) w):=by
 cases he:Pro.fx r with
 | none =>
  have HS:Hid (Pro.aT num (x::r)=none):=by unfold Hid;rw [Pro.aT,Ref.bW,h1,Ref.aM,h2,Ref.bV,h3,Ref.aX,h4,Ref.cOn,h5,Ref.gz,h6,he];rfl
  go_enter Tryz.func176,Tryz.ntmps176
  go_wp2_with fail
  refine (az p num dep x r _ H).mono ?_
  rintro e w1 ⟨rfl,ho,H1⟩
  have ht1:=ho.ah
  clear ho
  obtain ⟨c0,c1⟩:=H1.cells
  dsimp only
  go_wp2_with fail
  refine (gO num _ hnum (hv.ah ht1).here).mono ?_
  rintro e w5 ⟨rfl,hb5⟩
  have ht5:=ht1.trans (aH hb5)
  have H5:=H1.ay hb5
  clear hb5 H1 ht1 c0 c1
  dsimp only
  go_wp2_with fail
  refine (iL p num dep r _ H5 (hv.ah ht5)).mono ?_
  rintro e w2 hq
  rw [he] at hq
  obtain ⟨ht,b,h4,h5,rfl⟩:=hq
  dsimp only
  refine ⟨rfl,?_⟩
  unfold aJ
  rw [HS.out]
  exact ⟨ht5.trans ht,b,Nat.le_trans ht5.size h4,h5,rfl⟩
 | some q =>
  obtain ⟨d,r1⟩:=q
  cases hn:Pro.eS r1 with
  | none =>
   have HS:Hid (Pro.aT num (x::r)=none):=by unfold Hid;rw [Pro.aT,Ref.bW,h1,Ref.aM,h2,Ref.bV,h3,Ref.aX,h4,Ref.cOn,h5,Ref.gz,h6,he];simp only;rw [hn];rfl
   go_enter Tryz.func176,Tryz.ntmps176
   go_wp2_with fail
   refine (az p num dep x r _ H).mono ?_
   rintro e w1 ⟨rfl,ho,H1⟩
   have ht1:=ho.ah
   clear ho
   obtain ⟨c0,c1⟩:=H1.cells
   dsimp only
   go_wp2_with fail
   refine (gO num _ hnum (hv.ah ht1).here).mono ?_
   rintro e w5 ⟨rfl,hb5⟩
   have ht5:=ht1.trans (aH hb5)
   have H5:=H1.ay hb5
   clear hb5 H1 ht1 c0 c1
   dsimp only
   go_wp2_with fail
   refine (iL p num dep r _ H5 (hv.ah ht5)).mono ?_
   rintro e w3 h3
   rw [he] at h3
   obtain ⟨rfl,ht3,H3⟩:=h3
   have ht4:=ht5.trans ht3
   clear he H5 ht3
   dsimp only
   go_wp2_with fail
   refine (lM p num dep (Ref.bB++Ref.dec num) true d r1 _ H3 (hv.ah ht4)).mono ?_
   rintro e w2 hq
   unfold fE at hq
   rw [hn] at hq
   obtain ⟨ht,b,h4,h5,rfl⟩:=hq
   dsimp only
   refine ⟨rfl,?_⟩
   unfold aJ
   rw [HS.out]
   exact ⟨ht4.trans ht,b,Nat.le_trans ht4.size h4,h5,rfl⟩
  | some q =>
   obtain ⟨⟨t,A⟩,r'⟩:=q
   have HS:Hid (Pro.aT num (x::r)=some (.move (Ref.bB++Ref.dec num) true d t A,r')):=by unfold Hid;rw [Pro.aT,Ref.bW,h1,Ref.aM,h2,Ref.bV,h3,Ref.aX,h4,Ref.cOn,h5,Ref.gz,h6,he];simp only;rw [hn];rfl
   go_enter Tryz.func176,Tryz.ntmps176
   go_wp2_with fail
   refine (az p num dep x r _ H).mono ?_
   rintro e w1 ⟨rfl,ho,H1⟩
   have ht1:=ho.ah
   clear ho
   obtain ⟨c0,c1⟩:=H1.cells
   dsimp only
   go_wp2_with fail
   refine (gO num _ hnum (hv.ah ht1).here).mono ?_
   rintro e w5 ⟨rfl,hb5⟩
   have ht5:=ht1.trans (aH hb5)
   have H5:=H1.ay hb5
   clear hb5 H1 ht1 c0 c1
   dsimp only
   go_wp2_with fail
   refine (iL p num dep r _ H5 (hv.ah ht5)).mono ?_
   rintro e w3 h3
   rw [he] at h3
   obtain ⟨rfl,ht3,H3⟩:=h3
   have ht4:=ht5.trans ht3
   clear he H5 ht3
   dsimp only
   go_wp2_with fail
   refine (lM p num dep (Ref.bB++Ref.dec num) true d r1 _ H3 (hv.ah ht4)).mono ?_
   rintro e w2 hq
   unfold fE at hq
   rw [hn] at hq
   obtain ⟨a,n,c,rfl,hown,ht2,H2⟩:=hq
   have hown':=aI hown ht4.size
   clear hn hown
   dsimp only
   go_wp2
   go_ret
   unfold aJ
   rw [HS.out]
   exact ⟨_,rfl,⟨a,n,c,rfl,hown'⟩,ht4.trans ht2,H2⟩
theorem Ab (p num:Nat) (dep:Int) (w:World) (H:aa w p num dep []) :
  Calls Tryz.prog 176 #[.pointer (some ⟨p,0,none⟩)] w (aJ p num dep [] w):=by
 go_enter Tryz.func176,Tryz.ntmps176
 go_wp2_with fail
 refine (j7 p num dep _ H).mono ?_
 rintro e w1 h1
 obtain ⟨ht,b,h3,h4,rfl⟩:=bK (ai.refl p w) h1
 dsimp only
 exact ⟨rfl,ht,b,h3,h4,rfl⟩
theorem xw (p num:Nat) (dep:Int) (x:ByteArray) (r:List ByteArray) (w:World) (H:aa w p num dep (x::r)) (h1:(x.toList == [115,116,97,116,101])=false) (h2:(x.toList == [112,97,114,97,108,108,101,108])=false) (h3:(x.toList == [102,105,110,97,108])=false) (h4:(x.toList == [104,105,115,116,111,114,121])=false) (h5:(x.toList == [111,110])=false) (h6:(x.toList == [97,102,116,101,114])=false) (h7:(x.toList == [101,110,116,101,114])=false) (h8:(x.toList == [108,101,97,118,101])=false) :
  Calls Tryz.prog 176 #[.pointer (some ⟨p,0,none⟩)] w (aJ p num dep (x::r) w):=by
 have HS:Hid (Pro.aT num (x::r)=none):=by unfold Hid;rw [Pro.aT,Ref.bW,h1,Ref.aM,h2,Ref.bV,h3,Ref.aX,h4,Ref.cOn,h5,Ref.gz,h6,Ref.jD,h7,Ref.mC,h8];rfl
 go_enter Tryz.func176,Tryz.ntmps176
 go_wp2_with fail
 refine (az p num dep x r _ H).mono ?_
 rintro e w1 ⟨rfl,ho,H1⟩
 have ht1:=ho.ah
 obtain ⟨c0,c1⟩:=H1.cells
 clear ho
 dsimp only
 go_wp2_with fail
 refine (aL num dep 2 _).mono ?_
 rintro e w2 hq
 obtain ⟨ht,b,h4,h5,rfl⟩:=bK ht1 hq
 dsimp only
 refine ⟨rfl,?_⟩
 unfold aJ
 rw [HS.out]
 exact ⟨ht,b,h4,h5,rfl⟩
theorem BV (p num:Nat) (dep:Int) (l:List ByteArray) (w:World) (H:aa w p num dep l) (hv:bh p w) (hnum:num≤1073741824) :
  Calls Tryz.prog 176 #[.pointer (some ⟨p,0,none⟩)] w (aJ p num dep l w):=by
 cases l with
 | nil=>exact Ab p num dep w H
 | cons x r =>
  cases h1:(x.toList == [115,116,97,116,101])
  case true=>exact xy p num dep x r w H hv h1
  cases h2:(x.toList == [112,97,114,97,108,108,101,108])
  case true=>exact p9 p num dep x r w H hv h1 h2
  cases h3:(x.toList == [102,105,110,97,108])
  case true=>exact xu p num dep x r w H hv h1 h2 h3
  cases h4:(x.toList == [104,105,115,116,111,114,121])
  case true=>exact sR p num dep x r w H hv h1 h2 h3 h4
  cases h5:(x.toList == [111,110])
  case true=>exact DZ p num dep x r w H hv h1 h2 h3 h4 h5
  cases h6:(x.toList == [97,102,116,101,114])
  case true=>exact xr p num dep x r w H hv hnum h1 h2 h3 h4 h5 h6
  cases h7:(x.toList == [101,110,116,101,114])
  case true=>exact xt p num dep x r w H hv h1 h2 h3 h4 h5 h6 h7
  cases h8:(x.toList == [108,101,97,118,101])
  case true=>exact xv p num dep x r w H hv h1 h2 h3 h4 h5 h6 h7 h8
  exact xw p num dep x r w H h1 h2 h3 h4 h5 h6 h7 h8
namespace Pro
theorem F5 {a b:ByteArray} (h:(a.toList == b.toList)=true):a=b:=by
 have h:=eq_of_beq h
 rw [ByteArray.toList_eq,ByteArray.toList_eq] at h
 cases a;cases b
 simp at h
 rw [h]
theorem iX {a b:ByteArray} {l:List UInt8} (h:(a.toList == l)=true) (hb:b.toList=l):a=b:=F5 (by rw [hb];exact h)
theorem sG:bDo.toList=Ref.cDo:=by rw [ByteArray.toList_eq];rfl
theorem so:bAs.toList=Ref.cAs:=by rw [ByteArray.toList_eq];rfl
theorem cX {P:ByteArray→Bool} {x:ByteArray} {r:List ByteArray}:pOf P (x::r)=if P x then some (x,r) else none:=rfl
theorem fM {x:ByteArray} {r:List ByteArray}:fx (x::r)=if Ref.bF x then some (Ref.dG x,r) else none:=rfl
theorem Am {c:ByteArray}:cy [c]=none:=by
 unfold cy;rw [cX];split
 ·rfl
 ·rename_i x l1 h
  split at h
  ·cases h;rfl
  ·cases h
theorem rm {c d:ByteArray}:cy [c,d]=if Ref.called c&&Ref.bF d then some ((c,Ref.dG d,none),[]) else none:=by
 unfold cy;rw [cX]
 cases Ref.called c
 ·rfl
 ·simp only [Bool.true_and,if_true];rw [fM]
  cases Ref.bF d <;> rfl
theorem xH {c d y:ByteArray} {r:List ByteArray} (hy:(y.toList == Ref.cAs)=false):cy (c::d::y::r)=if Ref.called c&&Ref.bF d then some ((c,Ref.dG d,none),y::r) else none:=by
 unfold cy;rw [cX]
 cases Ref.called c
 ·rfl
 ·simp only [Bool.true_and,if_true];rw [fM]
  cases Ref.bF d
  ·rfl
  ·simp only [if_true];rw [so,hy];rfl
theorem Ak {c d y:ByteArray} (hy:(y.toList == Ref.cAs)=true):cy [c,d,y]=none:=by
 unfold cy;rw [cX]
 cases Ref.called c
 ·rfl
 ·simp only [if_true];rw [fM]
  cases Ref.bF d
  ·rfl
  ·simp only [if_true];rw [so,hy];rfl
theorem rj {c d y a:ByteArray} {r:List ByteArray} (hy:(y.toList == Ref.cAs)=true):cy (c::d::y::a::r)=if Ref.called c&&Ref.bF d&&Ref.called a then some ((c,Ref.dG d,some a),r) else none:=by
 unfold cy;rw [cX]
 cases Ref.called c
 ·rfl
 ·simp only [Bool.true_and,if_true];rw [fM]
  cases Ref.bF d
  ·rfl
  ·simp only [Bool.true_and,if_true];rw [so,hy,if_pos rfl,cX]
   cases Ref.called a <;> rfl
theorem yp {x:ByteArray} {r:List ByteArray} (h:(x.toList == Ref.cDo)=true) :
  aW r=(Ref.og (x::r)).map fun q=>(q.1,(x::r).drop q.2):=by
 cases r with
 | nil=>rfl
 | cons y r =>
  rw [aW]
  cases r with
  | nil =>
   have h2:Ref.og [x,y]=none:=by unfold Ref.og;rw [if_pos (by simp)]
   rw [h2]
   split
   ·rfl
   ·split
    ·rfl
    ·split <;> rfl
  | cons c r =>
   have hl:¬ (x::y::c::r).length<3:=by simp
   unfold Ref.og
   rw [if_neg hl,show Ref.at' (x::y::c::r) 0=x from rfl,h,if_pos rfl,show Ref.at' (x::y::c::r) 1=y from rfl,show Ref.at' (x::y::c::r) 2=c from rfl]
   cases h1:(y.toList == Ref.eh)
   ·simp only [Bool.false_eq_true,if_false]
    cases h2:(y.toList == Ref.eG)
    ·simp only [Bool.false_eq_true,if_false]
     cases h3:(y.toList == Ref.kq)
     ·simp
     ·simp only [if_true]
      have ey:y=ko:=iX h3 mW
      cases r with
      | nil=>rw [if_pos (by simp),Am];rfl
      | cons d r =>
       rw [if_neg (by simp),show Ref.at' (x::y::c::d::r) 3=d from rfl]
       cases r with
       | nil =>
        rw [if_neg (by simp),rm]
        cases Ref.called c <;> cases Ref.bF d <;> simp [ey]
       | cons u r =>
        rw [show Ref.at' (x::y::c::d::u::r) 4=u from rfl]
        cases h4:(u.toList == Ref.cAs)
        ·rw [if_neg (by simp),xH h4]
         cases Ref.called c <;> cases Ref.bF d <;> simp [ey]
        ·rw [if_pos (by simp)]
         cases r with
         | nil=>rw [if_pos (by simp),Ak h4];rfl
         | cons a r =>
          rw [if_neg (by simp),show Ref.at' (x::y::c::d::u::a::r) 5=a from rfl,rj h4]
          cases Ref.called c <;> cases Ref.bF d <;> cases Ref.called a <;> simp [ey]
    ·have ey:y=fZ:=iX h2 gZ
     have h3:(y.toList == Ref.kq)=false:=by rw [ey,gZ];rfl
     rw [h3]
     simp only [Bool.false_eq_true,if_false,if_true]
     rw [cX]
     cases Ref.called c <;> simp [ey]
   ·have ey:y=mA:=iX h1 kU
    simp only [if_true]
    rw [cX]
    cases Ref.called c <;> simp [ey]
theorem A0 {x:ByteArray} {r:List ByteArray} (h:(x.toList == Ref.cDo)=false):Ref.og (x::r)=none:=by
 unfold Ref.og
 split
 ·rfl
 ·rw [show Ref.at' (x::r) 0=x from rfl,h];rfl
theorem qC:∀ (n:Nat) (l:List ByteArray),l.length≤n→Ref.aj l=match aN l with | some (A,[])=>some A | _=>none
 | _,[],_=>rfl
 | 0,x::r,h=>by simp at h
 | n+1,x::r,h=>by
  cases hd:(x.toList == Ref.cDo)
  ·rw [iF (by rw [sG];exact hd)]
   show Ref.jz (r.length+1) (x::r)=none
   rw [Ref.jz,A0 hd]
  ·cases ha:Ref.og (x::r) with
   | none =>
    have hp:=yp (r:=r) hd
    rw [ha] at hp
    rw [iE (by rw [sG];exact hd) hp]
    show Ref.jz (r.length+1) (x::r)=none
    rw [Ref.jz,ha]
   | some q =>
    obtain ⟨a,k⟩:=q
    have hp:=yp (r:=r) hd
    rw [ha] at hp
    have hb:=Ref.ni ha
    have hlen:((x::r).drop k).length<(x::r).length:=by
     rw [List.length_drop];have:=hb.1;have:=hb.2;omega
    rw [eA (by rw [sG];exact hd) hp]
    have ih:=qC n ((x::r).drop k) (by simp only [List.length_cons] at h hlen ⊢;omega)
    show Ref.jz (r.length+1) (x::r)=_
    rw [Ref.jz,ha]
    simp only
    rw [Ref.om r.length ((x::r).drop k).length _ (by simp only [List.length_cons] at hlen;omega) (Nat.le_refl _)]
    change (match Ref.aj ((x::r).drop k) with | none=>none | some r'=>some (a::r'))=_
    rw [ih]
    cases aN ((x::r).drop k) with
    | none=>rfl
    | some q =>
     obtain ⟨A,t⟩:=q
     cases t <;> rfl
theorem lf (l:List ByteArray):Ref.aj l=match aN l with | some (A,[])=>some A | _=>none:=qC l.length l (Nat.le_refl _)
end Pro
end
end Go.Proofs.YtegmoddppafkfaaGreatDoor
