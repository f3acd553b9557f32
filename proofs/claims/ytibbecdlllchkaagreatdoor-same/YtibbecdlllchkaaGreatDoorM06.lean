import Derived.Test.YtibbecdlllchkaaGreatDoorM05
set_option maxRecDepth 100000
set_option maxHeartbeats 8000000
namespace Go.Proofs.YtibbecdlllchkaaGreatDoor
variable {zp:Prop}
theorem zdb(h:zp:=by
 rintro D ys V hD WT ⟨hM,_,hR⟩ Vm;rw[WT]at hM;gi_wp2;refine⟨zad,.inl ⟨_,_,rfl,Qn Vm,?_⟩⟩;exact⟨_,QD rfl _ _ _,rfl,hM.gr Vc (Q4 V D _) (fun r e=>zaK),hR.gr U8 (Q4 V D _) (fun r e=>zaK)⟩):zp:=h
theorem zd6(h:zp:=by
 go_roundw
 case rel=>exact⟨k+1,zad,zaa,H8⟩
 case measure=>simp only[intOf];omega):zp:=h
theorem zep(h:zp:=by
 intro l pre x V K hI hK;gi_wp2;exact hK _ _ (QP _ _) (fun h=>h) hI rfl):zp:=h
theorem zeZ(h:zp:=by
 cases a<;>simp only[iH,j7]<;>(try split)<;>rfl):zp:=h
theorem zfl(h:zp:=by
 rintro D c pre V _ _ h _;exact h.elim):zp:=h
theorem zaw(h:zp:=by unfold Y.eM;decide):zp:=h
theorem zaK(h:zp:=by cases e;exact⟨by omega,_,Vm,rfl⟩):zp:=h
theorem zaO(h:zp:=by unfold Y.dc;decide):zp:=h
open Tryz
variable {nm0:()}{k r mb pb b cap fin:Nat}{R:Nat->List Y.Nd}{lo:Y.Lo}{W W' w:World}{ps:List Y.PS}
section
open Go.RowKit Go.Proofs Go.Shelf
attribute [local go_sem] Qu
namespace Y
def rk(nm0:())(k:Nat)(R:Nat->List Nd)(ys:List Nat):Nat->List Nd:=fun r=>if r∈ys.map (k*65+·) then bG nm0 (R r) else R r
def wdR(nm0:())(k:Nat)(R:Nat->List Nd):Nat->List Nd:=fun r=>if r / 65=k/\r<390 then bG nm0 (R r) else R r
theorem AX(nm0:())(l:List Nd):bG nm0 (bG nm0 l)=bG nm0 l:=by unfold bG;rw[S3];simp
theorem Mt(nm0:())(k:Nat)(R:Nat->List Nd)(ys:List Nat)(x q:Nat):rk nm0 k R (ys++[x]) q=upd (rk nm0 k R ys) (k*65+x) (bG nm0 (rk nm0 k R ys (k*65+x))) q:=by
 by_cases e:q=k*65+x
 ·subst e;rw[aE];unfold rk;rw[PC zad];split
  ·rw[AX]
  ·rfl
 ·rw[aH _ _ e];unfold rk;have:(q∈(ys++[x]).map (k*65+·))↔q∈ys.map (k*65+·):=by
   rw[Qj,PQ];simp[e]
  simp only[this]
theorem Ms{h:Nat}(hk:k<6)(hh:∀j,j<64->h.testBit j=!(R (k*65+j)).isEmpty)(hr:isR r):wdR nm0 k R r=rk nm0 k R (fh h) r:=by
 unfold wdR rk;by_cases e:r / 65=k/\r<390
 ·rw[PC e];have hm:r % 65≠64:=by rcases hr with⟨_,h⟩|h<;>omega
  have hrr:r=k*65+r % 65:=zaa;by_cases hb:h.testBit (r % 65)=true
  ·rw[PC (P0.2 ⟨r % 65,gB.2 ⟨zaa,hb⟩,hrr.symm⟩)]
  ·have U4:(R r).isEmpty=true:=by
    have:=hh (r % 65) zaa;rw[<- hrr]at this;rw[this]at hb;simpa using hb
   have VA:R r=[]:=by simpa using U4
   rw[VA];split<;>rfl
 ·rw[Pu e,Pu (fun hm=>e ?_)];obtain⟨j,hj,rfl⟩:=P0.1 hm;have:=(gB.1 hj).1;omega
end Y
theorem Hq(w:World)(lo:Y.Lo)(mb pb:Nat)(qv:Value)(s:Y.MSt)(R:Nat->List Y.Nd)(k Nb:Nat)(nm0:())(hk:k<6)(Vb:lo<=w.heap.size)(hM:Y.aw w lo mb pb qv s)(hW:Y.WhM w lo s R)(hN:Boxed w Nb 9 (.string nm0))(hg:5<lo.n)(hG:TabAt 5 Lib.deBruijn64tab w):
  () 374 #[(mb,28+k*65),.func (.func 372) #[] #[Nb]] w fun e w'=>e=.returned (.tuple #[])/\Y.MW w lo mb pb qv s (Y.wdR nm0 k R) w':=by
 refine(P8 (n:=7)).1 ?_;obtain⟨h,h1,h2,h3⟩:=hW.held k hk;have Wk:=hM.lt;refine Qv func374 rfl trivial ?_ rfl;simp only[ntmps374,List.size_toArray,List.length_cons,List.length_nil,Nat.reduceAdd,Nat.reduceSub,Array.replicate_succ,Array.replicate_zero,List.push_toArray,List.append_toArray,List.nil_append,List.cons_append];gi_wp2_with(refine⟨trivial,?_⟩;gi_at_call 260;refine(P8.2 (n9 mb (28+k*65) _)).mono ?_;rintro e w9 ⟨rfl,U1⟩;rw[U1];clear U1 w9);have B0:Below w w (((w.alloc (.cells #[(mb,28+k*65)] 392)).alloc (.cells #[.func (.func 372) #[] #[Nb]] 297)).alloc (.cells #[(mb,28+k*65)] 392)):=(((Pq _ w).alloc (Po _) _).alloc zad _).alloc zaf _;have x0:Boxed (((w.alloc (.cells #[(mb,28+k*65)] 392)).alloc (.cells #[.func (.func 372) #[] #[Nb]] 297)).alloc (.cells #[(mb,28+k*65)] 392)) w.heap.size 392 (mb,28+k*65):=((P9 w _ _).alloc _).alloc _;have x1:Boxed (((w.alloc (.cells #[(mb,28+k*65)] 392)).alloc (.cells #[.func (.func 372) #[] #[Nb]] 297)).alloc (.cells #[(mb,28+k*65)] 392)) (w.heap.size+1) 297 (.func (.func 372) #[] #[Nb]):=by
  have:=(P9 (w.alloc (.cells #[(.pointer (some ⟨mb,28+k*65,none⟩))] 392)) 297 (.func (.func 372) #[] #[Nb])).alloc (.cells #[(.pointer (some ⟨mb,28+k*65,none⟩))] 392);rw[QL]at this;exact this
 have x2:Boxed (((w.alloc (.cells #[(mb,28+k*65)] 392)).alloc (.cells #[.func (.func 372) #[] #[Nb]] 297)).alloc (.cells #[(mb,28+k*65)] 392)) (w.heap.size+1+1) 392 (mb,28+k*65):=by
  have:=P9 ((w.alloc (.cells #[(.pointer (some ⟨mb,28+k*65,none⟩))] 392)).alloc (.cells #[(.func (.func 372) #[] #[Nb])] 297)) 392 (mb,28+k*65);rw[QL,QL]at this;exact this
 have Y2:(((w.alloc (.cells #[(mb,28+k*65)] 392)).alloc (.cells #[.func (.func 372) #[] #[Nb]] 297)).alloc (.cells #[(mb,28+k*65)] 392)).heap.size=w.heap.size+3:=zad;generalize(((w.alloc (.cells #[(mb,28+k*65)] 392)).alloc (.cells #[.func (.func 372) #[] #[Nb]] 297)).alloc (.cells #[(mb,28+k*65)] 392))=W0 at *;have hMW0:Y.MW w lo mb pb qv s (Y.rk nm0 k R []) W0:=Y.MW.below (Y.MW.congr ⟨s.wh,hM,hW,Y.RfE.refl _ _⟩ (fun r _=>rfl)) Vb B0;have xN:=aD hN B0 hN.lt;have hG0:TabAt 5 Lib.deBruijn64tab W0:=fun j hj=>(B0.cell (p:=⟨5,j,none⟩) (PY hg Vb)).trans (hG j hj);have hh0:W0.cell? (mb,28+k*65+64)=some (.int .u64 h):=(B0.cell (p:=(mb,28+k*65+64)) Wk).trans (by rw[QG];exact(hM.whc _ zaa zaa).trans (congrArg some h2));refine SN rfl zaa (gf:=276) rfl trivial (RT func276 zab rfl)
  (th 6 zaa (w.heap.size+1+1) mb (28+k*65) h h1 (fun A C=>TabAt 5 Lib.deBruijn64tab A->TabAt 5 Lib.deBruijn64tab C) (fun _ _ h=>h) W0 zaa zaa zaa x2.cell hh0 hG0)
  (fun h k x=>k (h x)) (fun V l o o' hl h hc hw x j hj=>((R3 (n₀:=W0.heap.size) (Po _) V l o o' hl h hc hw).cell (p:=⟨5,j,none⟩) (show 5<W0.heap.size by omega)).trans (x j hj)) (Pq _ _) (fun _=>rfl)
  (fun ys V=>Y.MW w lo mb pb qv s (Y.rk nm0 k R (ys.map (·.1))) V/\((Boxed V w 392 (mb,28+k*65)/\Boxed V (w.heap.size+1) 297 (.func (.func 372) #[] #[Nb]))/\Boxed V Nb 9 (.string nm0))) (fun _ _ _=>False)
  (Qi (fun ys A C row h hg hr=>h.gr Vb hg (fun r e=>⟨zas,(hr r e).2⟩)) (Qi (Qi (QU (QM _ _ _) _) (QU (QM _ _ _) _)) (QU (QM _ _ _) _)))
  (fun _ _ _ _ _ hs _ _=>hs) ⟨hMW0,⟨x0,x1⟩,xN⟩
  (fun x a' _=>a'={ tmps:=#[.pointer (some ⟨mb,28+k*65,none⟩),.func (.func 372) #[] #[.pointer (some ⟨Nb,0,none⟩)],.pointer (some ⟨w.heap.size,0,none⟩),.pointer (some ⟨w.heap.size+1,0,none⟩),.int .i64 x.1,.pointer (some ⟨mb,28+k*65,none⟩),.func (.func 276) #[] #[.pointer (some ⟨w.heap.size+1+1,0,none⟩)],.int .i64 x.1,undef,undef,undef,undef,undef,undef,undef,undef,undef,undef],defers:=[] }) (fun _ _ _ _ _ _ hs _ _=>hs) ?assign ?body ?done ?stop
 case assign=>
  exact zep
 case body=>
  rintro l pre x a' V hl ⟨rl,Xv⟩ ⟨hMW,⟨z0,z1⟩,zN⟩ rfl VI;obtain⟨hx64,hxb⟩:=Y.gB.1 x.2;have Y1:Y.isR (k*65+x.1):=.inl zaa;have q0:V.drew.cell? w=_:=z0.cell;have q1:V.drew.cell? ↑(w.heap.size+1)=_:=z1.cell;have VL:=(Pq V V).drew;have hdr:=wJ V.drew w lo mb pb qv s _ (k*65+x.1) Nb nm0 Y1 Vb (hMW.below Vb VL) zN;rw[<- QG]at hdr;have hx64':((x.1:Int)<64):=zaa;have ZG:1<=7-1-1:=zaa;have HMK:Hid (∀w1,(∃wh0 wh',Y.kZ wh0 (Y.rk nm0 k R (pre.map (·.1)))/\Y.aw w1 lo mb pb qv { s with wh:=wh' }/\Y.du w1 lo wh' (Y.upd (Y.rk nm0 k R (pre.map (·.1))) (k*65+x.1) (Y.bG nm0 (Y.rk nm0 k R (pre.map (·.1)) (k*65+x.1))))/\(∀k,k<6->wh' (28+(k*65+64))=wh0 (28+(k*65+64)))/\Y.Rw lo w w1/\Y.Rw lo V.drew w1) ->
    w1.cell? w=some ↑(mb,28+k*65)/\() 226 #[(.pointer (some ⟨mb,28+k*65,none⟩)),(x.1:Int)] w1 fun e w'=>e=.returned (.tuple #[])/\KeepsFrom W0.heap.size V w'/\(TabAt 5 Lib.deBruijn64tab V->TabAt 5 Lib.deBruijn64tab w')/\Y.MW w lo mb pb qv s (Y.rk nm0 k R ((pre++[x]).map (·.1))) w'/\((Boxed w' w 392 (mb,28+k*65)/\Boxed w' (w.heap.size+1) 297 (.func (.func 372) #[] #[Nb]))/\Boxed w' Nb 9 (.string nm0))):=fun w1 Vg=>by
   obtain⟨wh0,wh',e1,e2,e3,e4,e5,e6⟩:=Vg;have hVs:lo<=V.drew.heap.size:=Pr Vb (by obtain⟨_,_,_,hc⟩:=hMW;exact hc.bel.size);have hsz1:lo<=w1.heap.size:=Pr hVs e6.bel.size;obtain⟨hq,g1,g2,g3⟩:=e1 k hk;have bx:∀(B:Nat) (t:TypeId) (v:Value),Boxed V B t v->¬Y.eM t->∀W,Y.Rw lo V.drew W->Boxed W B t v:=fun B t v hb ht W hW=>Kd.boxed hW.kd (A:=V.drew) hb ht;have nt1:¬Y.eM 392:=zaw;have nt2:¬Y.eM 297:=zaw;have nt3:¬Y.eM 9:=zaw;refine⟨(bx _ _ _ z0 nt1 w1 e6).cell,?_⟩;refine(tL w1 mb (28+k*65) x.1 _ hq hx64 g1 (by rw[QG];exact(e2.whc _ zaa zaa).trans (congrArg some (e3.ring _ Y1))) (by rw[QG];exact(e2.whc _ zaa zaa).trans (congrArg some ((e4 k hk).trans g2))) (e2.frozen _)).mono ?_;rintro e w' ⟨rfl,rfl⟩;rw[Y.aE];obtain⟨m1,m2,m3⟩:=e3.mark e2 k hk (.int .u64 (Y.iY hq x.1 (Y.bG nm0 (Y.rk nm0 k R (pre.map (·.1)) (k*65+x.1))).isEmpty)) hsz1;have mr:=Y.Mb e2 hsz1 (28+k*65+64) (.int .u64 (Y.iY hq x.1 (Y.bG nm0 (Y.rk nm0 k R (pre.map (·.1)) (k*65+x.1))).isEmpty));have mV:=e6.trans mr;refine⟨rfl,?_,fun hT j hj=>(mV.bel.cell (p:=⟨5,j,none⟩) hg).trans (hT j hj),⟨_,m1,?_,e5.trans mr⟩,⟨bx _ _ _ z0 nt1 _ mV,bx _ _ _ z1 nt2 _ mV⟩,bx _ _ _ zN nt3 _ mV⟩
   ·exact((Su V).trans mV.oth).from _
   ·refine Y.WhM.congr (R:=Y.upd (Y.rk nm0 k R (pre.map (·.1))) (k*65+x.1) (Y.bG nm0 (Y.rk nm0 k R (pre.map (·.1)) (k*65+x.1)))) ⟨m2,fun k' VB=>?_⟩ (fun r _=>by rw[Qj];exact Y.Mt nm0 k R _ x.1 r);by_cases e:k'=k
    ·subst e;refine⟨_,Y.pJ g1 hx64,Y.aE _ _ _,fun j hj=>?_⟩;rw[Y.nE hx64 j hj];by_cases e:j=x.1
     ·subst e;rw[PC rfl,Y.aE]
     ·rw[Pu e,Y.aH _ _ zaa];exact g3 j hj
    ·obtain⟨a,b1,b2,b3⟩:=e1 k' VB;refine⟨a,b1,?_,fun j hj=>?_⟩
     ·show Y.upd wh' _ _ _=_;rw[Y.aH _ _ zaa,e4 k' VB];exact b2
     ·rw[Y.aH _ _ zaa];exact b3 j hj
  gi_wp2;refine bc (dP l) 6 zab zab zab ?_;simp only[List.take_succ_cons,List.take_zero,List.drop_succ_cons,List.drop_zero]
  repeat still_step
  refine QY ?_;gi_wp2_with(first
   |(refine⟨trivial,?_⟩;gi_at_call 375;refine(aI hdr).mono ?_;intro e w1 h9;obtain⟨rfl,h9⟩:=h9;obtain⟨p0,pm⟩:=HMK.out w1 h9;have HPM:Hid _:=pm;clear h9 pm)
   |(refine⟨trivial,?_⟩;gi_at_call 226;refine(aI HPM.out).mono ?_;intro e w8 h8;obtain⟨rfl,h8⟩:=h8;have H8:Hid _:=h8;clear h8))
  exact H8.out
 case done=>
  rintro D ys V hD WT ⟨hMW,_⟩ Vm;have hMW2:=hMW.congr (fun r hr=>(Y.Ms (nm0:=nm0) hk h3 hr).trans (congrArg (fun l=>Y.rk nm0 k R l r) WT.symm));gi_wp2;refine⟨zad,.inl ⟨_,_,rfl,Qn Vm,?_⟩⟩;exact⟨_,QD rfl _ _ _,rfl,hMW2.gr Vb (Q4 V D _) (fun r e=>zaK)⟩
 case stop=>
  exact zfl
namespace Y
def dkR(nm0:())(k:Nat)(R:Nat->List Nd):Nat->List Nd:=fun r=>if r<k*65/\r<390 then bG nm0 (R r) else R r
theorem I0(hr:isR r):dkR nm0 (k+1) R r=wdR nm0 k (dkR nm0 k R) r:=by
 unfold wdR dkR;by_cases h1:r<k*65/\r<390
 ·rw[PC h1,PC zaa,Pu zaa]
 ·rw[Pu h1];by_cases h2:r / 65=k/\r<390
  ·rw[PC h2,PC zaa]
  ·rw[Pu h2,Pu (by rcases hr with⟨a,b⟩|hr<;>omega)]
end Y
theorem I3(w:World)(lo:Y.Lo)(mb pb:Nat)(qv:Value)(s:Y.MSt)(R:Nat->List Y.Nd)(Nb:Nat)(nm0:())(Vb:lo<=w.heap.size)(hM:Y.aw w lo mb pb qv s)(hW:Y.WhM w lo s R)(hN:Boxed w Nb 9 (.string nm0))(hg:5<lo.n)(hG:TabAt 5 Lib.deBruijn64tab w):
  () 371 #[(mb,27),.func (.func 372) #[] #[Nb]] w fun e w'=>e=.returned (.tuple #[])/\Y.MW w lo mb pb qv s (fun r=>Y.bG nm0 (R r)) w':=by
 have h0:Y.MW w lo mb pb qv s (Y.dkR nm0 0 R) w:=Y.MW.congr ⟨s.wh,hM,hW,Y.RfE.refl _ _⟩ (fun r _=>by unfold Y.dkR;rw[Pu zaa]);have HN:Hid (∀V,Y.Rw lo w V->Boxed V Nb 9 (.string nm0)/\TabAt 5 Lib.deBruijn64tab V/\lo<=V.heap.size):=fun V hV=>⟨Kd.boxed hV.kd hN zaw,fun j hj=>(hV.bel.cell (p:=⟨5,j,none⟩) hg).trans (hG j hj),Pr Vb hV.bel.size⟩;have HW:Hid (∀V k,k<6->Y.MW w lo mb pb qv s (Y.dkR nm0 k R) V->() 374 #[.pointer (some ⟨mb,28+k*65,none⟩),.func (.func 372) #[] #[Nb]] V fun e w'=>e=.returned (.tuple #[])/\Y.MW w lo mb pb qv s (Y.dkR nm0 (k+1) R) w'):=fun V k hk hV=>by
  obtain⟨wh',a,b,c⟩:=hV;obtain⟨n1,n2,n3⟩:=HN.out V c;refine(Hq V lo mb pb qv _ _ k Nb nm0 hk n3 a b n1 hg n2).mono ?_;rintro e w' ⟨rfl,wh2,a2,b2,c2⟩;exact⟨rfl,Y.MW.congr ⟨wh2,a2,b2,c.trans c2⟩ (fun r hr=>Y.I0 hr)⟩
 have HO:Hid (∀V,Y.MW w lo mb pb qv s (Y.dkR nm0 6 R) V->() 375 #[(mb,418),.func (.func 372) #[] #[Nb]] V fun e w'=>e=.returned (.tuple #[])/\Y.MW w lo mb pb qv s (fun r=>Y.bG nm0 (R r)) w'):=fun V hV=>by
  have hc:Y.Rw lo w V:=by obtain⟨_,_,_,c⟩:=hV;exact c
  obtain⟨n1,n2,n3⟩:=HN.out V hc;refine(wJ V w lo mb pb qv s _ 390 Nb nm0 (.inr rfl) Vb hV n1).mono ?_;rintro e w' ⟨rfl,wh0,wh',e1,e2,e3,e4,e5,e6⟩;refine⟨rfl,Y.MW.congr (R:=Y.upd (Y.dkR nm0 6 R) 390 (Y.bG nm0 (Y.dkR nm0 6 R 390))) ⟨wh',e2,⟨e3,fun k hk=>?_⟩,e5⟩ (fun r hr=>?_)⟩
  ·obtain⟨h,h1,h2,h3⟩:=e1 k hk;exact⟨h,h1,(e4 k hk).trans h2,fun j hj=>by rw[Y.aH _ _ zaa];exact h3 j hj⟩
  ·by_cases e:r=390
   ·subst e;rw[Y.aE];unfold Y.dkR;rw[Pu zaa]
   ·rw[Y.aH _ _ e];unfold Y.dkR;rw[PC (by rcases hr with⟨a,b⟩|hr<;>omega)]
 clear hM hW hN hG;go_enter func371,ntmps371;go_wp2
 go_loopw[5] (fun v wr=>∃k:Nat,v=.int .i64 k/\k<=6/\Y.MW w lo mb pb qv s (Y.dkR nm0 k R) wr) (fun v _=>6-(intOf v).toNat)
 case atStart=>exact⟨0,rfl,zaa,h0⟩
 case round=>
  obtain⟨k,rfl,XS,hk⟩:=hrel;have HK:Hid _:=hk;clear hk h0;by_cases e:k=6
  ·subst e;go_wp2_with(go_at_call 375;refine(HO.out _ HK.out).mono ?_;intro e w9 h9;obtain⟨rfl,h9⟩:=h9;have H9:Hid _:=h9;clear h9);go_end0;exact⟨rfl,H9.out⟩
  ·have VN:k<6:=zaa;have Y0:((k:Int)<6):=zaa;go_wp2_with(go_at_call 374;refine(HW.out _ k VN HK.out).mono ?_;intro e w9 h9;obtain⟨rfl,h9⟩:=h9;have H9:Hid _:=h9;clear h9)
   go_roundw
   case rel=>exact⟨k+1,zad,zaa,H9.out⟩
   case measure=>simp only[intOf];omega
theorem Gq(nm0:())(l:List Y.Nd):(Y.bG nm0 l).map (·.2)=(l.map (·.2)).filter (fun t=>!(t.nm.toList == nm0.toList)):=by
 unfold Y.bG;rw[Tz];rfl
theorem CE(w:World)(lo:Y.Lo)(mb pb:Nat)(qv:Value)(s:Y.MSt)(T:List Y.Tn)(nm0:())(Vb:lo<=w.heap.size)(hM:Y.aw w lo mb pb qv s)(hT:Y.ga w lo s T)(hg:5<lo.n)(hG:TabAt 5 Lib.deBruijn64tab w):
  () 369 #[mb,nm0] w fun e w'=>e=.returned (.tuple #[])/\∃wh',Y.aw w' lo mb pb qv { s with wh:=wh' }/\Y.ga w' lo { s with wh:=wh' } (T.filter fun t=>!(t.nm.toList == nm0.toList))/\Y.Rf lo w w':=by
 have hb:Below w w (w.alloc (.cells #[nm0] 9)):=(Pq _ w).alloc (Po _) _;have hD:() 371 #[(mb,27),.func (.func 372) #[] #[w]] (w.alloc (.cells #[nm0] 9)) fun e w'=>e=.returned (.tuple #[])/\∃wh',Y.aw w' lo mb pb qv { s with wh:=wh' }/\Y.ga w' lo { s with wh:=wh' } (T.filter fun t=>!(t.nm.toList == nm0.toList))/\Y.Rf lo w w':=by
  obtain⟨R,hW,hF,hB⟩:=hT;refine(I3 _ lo mb pb qv s R w nm0 (Pr Vb hb.size) (hM.below hb) ⟨hW.rgs.below hb,hW.held⟩ (P9 w _ _) hg (fun j hj=>(hb.cell (p:=⟨5,j,none⟩) (PY hg Vb)).trans (hG j hj))).mono ?_;rintro e w' ⟨rfl,wh',a,b,c⟩;refine⟨rfl,wh',a,⟨_,b,fun r hr=>?_,fun t ht=>hB t (Q2.1 ht).1⟩,(Y.RfE.of hb Vb).trans (Y.xi c)⟩;rw[Gq,hF r hr,S3,S3]
  congr 1
  funext t;exact Bool.and_comm _ _
 clear hM hT hG;go_enter func369,ntmps369;go_wp2_with(go_at_call 371;refine hD.mono ?_;intro e w9 h9;obtain⟨rfl,h9⟩:=h9;have H9:Hid _:=h9;clear h9);go_end0;exact⟨rfl,H9.out⟩
namespace Y
def Av(ps:List PS)(fin:Nat)(s:MSt)(i:Nat):MSt:=match ps[i]? with
 |none=>s
 |some p=>if p.owner == -1 then{ s with fin:=fw 5 } else match ps[p.owner.toNat]? with
  |none=>s
  |some q=>if q.owner == -1 then{ s with q:=s.q++[q.done] } else match ps[q.owner.toNat]? with
   |none=>{ s with q:=s.q++[q.done] }
   |some r=>if r.kind == 1&&atEnd ps fin s.act ps.length q.owner.toNat then{ s with q:=s.q++[q.done]++[r.done] } else{ s with q:=s.q++[q.done] }
end Y
theorem CU(w:World)(lo:Y.Lo)(mb pb b cap:Nat)(qv:Value)(s:Y.MSt)(ps:List Y.PS)(fin i:Nat)(p:Y.PS)(hM:Y.aw w lo mb pb qv s)(U8:lo<=w.heap.size)(hP:Y.cJ w pb b cap ps)(Vo:pb<lo)(hb:b<lo)(hf2:w.cell? (pb,2)=some (.int .u32 fin))(hfl:fin<4294967296)(XE:s.act<4294967296)(Wi:ps[i]?=some p)
  (how:∀(i:Nat) (p:Y.PS),ps[i]?=some p->p.owner=-1\/∃o:Nat,p.owner=o/\o<i) (hpts:∀(i:Nat) (p:Y.PS),ps[i]?=some p->∀j∈Y.els p.parts,i<j/\j<ps.length) (hg:1<lo.n) (hT:TabAt 1 Lib.deBruijn32tab w) (Yb:s.q.length<=4398046511000):
  () 103 #[mb,(b,i*10)] w fun e w'=>e=.returned (.tuple #[])/\∃qv',Y.aw w' lo mb pb qv' (Y.Av ps fin s i)/\Y.Rq lo w w':=by
 have hlen:=hP.len;have WU:i<ps.length:=(Ps.1 Wi).1;have hi3:=(hP.at' i p Wi).c3;obtain⟨sz,Vf⟩:∃sz,Y.Av ps fin s i=sz:=⟨_,rfl⟩;rw[Vf];have HSZ:Hid (Y.Av ps fin s i=sz):=Vf;clear Vf
 rcases how i p Wi with ho|⟨o,ho,hoi⟩
 ·have c9:w.cell? (mb,419)=some s.fin:=hM.cell 419 zac;have f9:=hM.frozen 419;have hS:sz={ s with fin:=Y.fw 5 }:=by rw[<- HSZ.out];unfold Y.Av;rw[Wi];dsimp only;rw[ho];rfl
  have Wn:Y.aw (w.setCell (mb,419) (.iface 29 (.int .i64 5))) lo mb pb qv sz:=by
   rw[hS];refine hM.set 419 _ _ zac rfl (fun j hj=>?_);by_cases e:j=419
   ·subst e;rfl
   ·rw[Pu e];have hj:j<419:=zaa;simp[Y.fF,hj]
  have Wg:Y.Rq lo w (w.setCell (mb,419) (.iface 29 (.int .i64 5))):=Y.RfE.mo (P:=(·=mb)) ((Mo.refl (·=mb) w).set ⟨mb,419,none⟩ _ rfl) (fun k hk=>by
   obtain⟨arr,a1,_⟩:=hM.blk;subst hk;exact⟨hM.lo',arr,_,_,a1,.inl rfl⟩) U8
  rw[ho]at hi3;clear hS ho HSZ hM;go_enter func103,ntmps103;go_wp2;refine Q5 (QD rfl _ _ _) rfl ?_;exact⟨rfl,_,Wn,Wg⟩
 ·have YR:o<ps.length:=zaa;obtain⟨q,hq⟩:∃q,ps[o]?=some q:=⟨_,Pp YR⟩;have Zd:w.cell? mb=some ↑pb:=hM.cell 0 zac;rw[ho]at hi3;have hon:((o:Int) == -1)=false:=zad;have hqd:=(hP.at' o q hq).c2;have VL:=(Pq w w).drew;have YM:=qJ w.drew lo mb pb qv s q.done (hM.below VL) U8 zaa;have Zl:Y.Rq lo w w.drew:=Y.RfE.of VL U8;have HO:Hid (p.owner=o):=ho;clear ho;go_enter func103,ntmps103
  go_upto_region 2 with fail
  refine PJ (S:=(fun V=>V.cell? mb=some ↑pb/\V.cell? pb=some (.slice b ps.length cap)/\V.cell? (b,i*10+3)=some ↑(o:Int))) zab ⟨Zd,hP.row,hi3⟩ (fun Pm=>?_);refine tD (some 15) 0 mb rfl Pm ?_;refine tD (some 16) 1 mb rfl Pm ?_;refine tD (some 17) 2 mb rfl Pm ?_;refine tD (some 18) 3 pb rfl Pm ?_;refine tD (some 19) 4 pb rfl Pm ?_;refine tD (some 20) 5 pb rfl Pm ?_;refine tD (some 21) 6 (.slice b ps.length cap) rfl Pm ?_;refine tD (some 22) 7 (b,i*10) rfl Pm ?_;refine tD (some 23) 8 (b,i*10) rfl Pm ?_;refine tD (some 24) 9 (b,i*10+3) rfl Pm ?_;refine tD (some 25) 10 (.int .i64 o) rfl Pm ?_;refine tD (some 26) 11 (b,o*10) rfl Pm ?_;refine tD (some 4) 12 (b,o*10) rfl Pm ?_;refine PX zab ?_ _;have hqd:w.drew.cell? (b,o*10+2)=_:=hqd
  go_upto_region 4 with(go_at_call 125;refine YM.mono ?_;intro e w3 h3;obtain⟨rfl,qv3,Wt,YC⟩:=h3)
  clear Pm;have hR13:=Zl.trans YC;have hP3:=hP.below hR13.bel Vo hb;have YN:=(hP3.at' o q hq).c3;have YD:p.owner.toNat=o:=by rw[HO.out];rfl
  have hne1:(p.owner == -1)=false:=by rw[HO.out];simp
  rcases how o q hq with hu|⟨u,hu,huo⟩
  ·have hS:sz={ s with q:=s.q++[q.done] }:=by rw[<- HSZ.out];unfold Y.Av;rw[Wi];dsimp only;rw[Pu (by rw[hne1];decide),YD,hq];dsimp only;rw[hu];rfl
   have HM3:Hid (Y.aw w3 lo mb pb qv3 sz):=by rw[hS];exact Wt
   rw[hu]at YN;clear hS YD hne1 hu Wt;go_wp2;refine Q5 (QD rfl _ _ _) rfl ?_;exact⟨rfl,_,HM3.out,hR13⟩
  ·have hul:u<ps.length:=zaa;obtain⟨r,hr⟩:∃r,ps[u]?=some r:=⟨_,Pp hul⟩;have hS:sz=if r.kind == 1&&Y.atEnd ps fin s.act ps.length u then{ s with q:=s.q++[q.done]++[r.done] } else{ s with q:=s.q++[q.done] }:=by
    rw[<- HSZ.out];unfold Y.Av;rw[Wi];dsimp only;rw[Pu (by rw[hne1];decide),YD,hq];dsimp only;rw[hu,Pu zad];simp only[Int.toNat_natCast,hr]
   have HS:Hid _:=hS;rw[hu]at YN;have hun:((u:Int) == -1)=false:=zad;have Zd:w3.cell? mb=some ↑pb:=Wt.cell 0 zac;have HU:Hid (q.owner=u):=hu;clear hS YD hne1 hu
   go_upto_region 5 with fail
   refine PJ (S:=(fun V=>V.cell? mb=some ↑pb/\V.cell? pb=some (.slice b ps.length cap)/\V.cell? (b,o*10+3)=some ↑(u:Int))) zab ⟨Zd,hP3.row,YN⟩ (fun Pm=>?_);refine tD (some 38) 0 mb rfl Pm ?_;refine tD (some 39) 1 mb rfl Pm ?_;refine tD (some 40) 2 mb rfl Pm ?_;refine tD (some 41) 3 pb rfl Pm ?_;refine tD (some 42) 4 pb rfl Pm ?_;refine tD (some 43) 5 pb rfl Pm ?_;refine tD (some 44) 6 (.slice b ps.length cap) rfl Pm ?_;refine tD (some 45) 7 (b,o*10) rfl Pm ?_;refine tD (some 46) 8 (b,o*10) rfl Pm ?_;refine tD (some 47) 9 (b,o*10+3) rfl Pm ?_;refine tD (some 48) 10 (.int .i64 u) rfl Pm ?_;refine tD (some 49) 11 (b,u*10) rfl Pm ?_;refine tD (some 5) 12 (b,u*10) rfl Pm ?_;refine PX zab ?_ _;clear Pm;simp only[Act.put,List.setIfInBounds_toArray,List.set_cons_succ,List.set_cons_zero];have hR14:Y.Rq lo w w3.drew:=hR13.trans (Y.RfE.of (Pq w3 w3).drew (Pr U8 hR13.bel.size));have Zq:=Wt.below (Pq w3 w3).drew;obtain⟨w4,Xm⟩:∃W,w3.drew=W:=⟨_,rfl⟩;rw[Xm]at hR14 Zq⊢;clear Xm Wt Zd YN hP3;have hs4:=hR14.bel.size;have Xu:=hP.below hR14.bel Vo hb;have Zd:w4.cell? mb=some ↑pb:=Zq.cell 0 zac;have hm1:w4.cell? (mb,1)=some (.int .u32 s.act):=Zq.cell 1 zac;have YN:w4.cell? (b,o*10+3)=some ↑(u:Int):=by have:=(Xu.at' o q hq).c3;rw[HU.out]at this;exact this
   have hu0:=(Xu.at' u r hr).c0;have hf4:=(hR14.bel.cell (p:=⟨pb,2,none⟩) Vo).trans hf2;have hT4:TabAt 1 Lib.deBruijn32tab w4:=Y.KpT.of hR14.bel hg hT;have hae:=FG pb b cap ps fin s.act hfl XE hpts ps.length u r w4.drew zaa hr hf4 (Xu.below ((Pq w4 w4).drew) zaa zaa) (by show pb<w4.heap.size;omega) (by show b<w4.heap.size;omega) (by show _<w4.heap.size;omega) hT4;obtain⟨ae,hae0⟩:∃ae,Y.atEnd ps fin s.act ps.length u=ae:=⟨_,rfl⟩;obtain⟨bv,hbv⟩:∃bv,(r.kind == 1&&ae)=bv:=⟨_,rfl⟩;have HS:Hid (sz=if bv then{ s with q:=s.q++[q.done]++[r.done] } else{ s with q:=s.q++[q.done] }):=by have:=HS.out;rw[hae0,hbv]at this;exact this
   rw[hae0]at hae;have HBV:Hid _:=hbv;clear hae0 hbv
   go_upto_region 6 with fail
   go_cut[69] from 50 (fun c V=>c=.bool bv/\Below w4 w4 V)
   case first=>
    rename_i J hJ;by_cases hk:r.kind=1
    ·have YB:(r.kind == 1)=true:=za7;have HB:Hid (bv=ae):=by have:=HBV.out;rw[YB,Te]at this;exact this.symm
     clear hk HS HBV;have Xr:mb<w4.drew.heap.size:=Zq.lt;have VM:b<w4.drew.heap.size:=by show b<w4.heap.size;omega
     have VO:∀V:World,Below w4.drew.heap.size w4.drew V->V.cell? mb=some ↑pb/\V.cell? ⟨mb,1,none⟩=some (.int .u32 s.act)/\V.cell? (b,o*10+3)=some ↑(u:Int)/\V.cell? (b,u*10)=some ↑(r.kind:Int):=fun V hB=>⟨(hB.cell (p:=mb) Xr).trans Zd,(hB.cell (p:=⟨mb,1,none⟩) Xr).trans hm1,(hB.cell (p:=(b,o*10+3)) VM).trans YN,(hB.cell (p:=(b,u*10)) VM).trans hu0⟩;refine PJ (S:=(fun V=>V.cell? mb=some ↑pb/\V.cell? ⟨mb,1,none⟩=some (.int .u32 s.act)/\V.cell? (b,o*10+3)=some ↑(u:Int)/\V.cell? (b,u*10)=some ↑(r.kind:Int))) zab ⟨Zd,hm1,YN,hu0⟩ (fun Pm=>?_);refine tD (some 50) 0 (b,u*10) rfl Pm ?_;refine tD (some 51) 1 (b,u*10) rfl Pm ?_;refine tD (some 52) 2 (b,u*10) rfl Pm ?_;refine tD (some 53) 3 (.int .i64 r.kind) rfl Pm ?_;refine tD (some 54) 4 (.bool true) rfl Pm ?_;refine tD (some 55) 5 (.bool true) rfl Pm ?_;refine et (d:=some 56) (i:=6) (v:=(.pointer (some ⟨mb,0,none⟩))) rfl rfl zab zab zab (fun _ _ _ h=>h) (Or.inl ⟨zab,fun w VF=>zai⟩) Pm ?_;refine et (d:=some 57) (i:=7) (v:=(.pointer (some ⟨mb,0,none⟩))) rfl rfl zab zab zab (fun _ _ _ h=>h) (Or.inl ⟨zab,fun w VF=>zai⟩) Pm ?_;refine et (d:=some 58) (i:=8) (v:=(.pointer (some ⟨mb,0,none⟩))) rfl rfl zab zab zab (fun _ _ _ h=>h) (Or.inl ⟨zab,fun w VF=>zai⟩) Pm ?_;refine et (d:=some 59) (i:=9) (v:=(.pointer (some ⟨pb,0,none⟩))) rfl rfl zab zab zab (fun _ _ _ h=>h) (Or.inl ⟨zab,fun w VF=>zai⟩) Pm ?_;refine et (d:=some 60) (i:=10) (v:=(.pointer (some ⟨b,o*10,none⟩))) rfl rfl zab zab zab (fun _ _ _ h=>h) (Or.inl ⟨zab,fun w VF=>zai⟩) Pm ?_;refine et (d:=some 61) (i:=11) (v:=(.pointer (some ⟨b,o*10,none⟩))) rfl rfl zab zab zab (fun _ _ _ h=>h) (Or.inl ⟨zab,fun w VF=>zai⟩) Pm ?_;refine et (d:=some 62) (i:=12) (v:=(.pointer (some ⟨b,o*10+3,none⟩))) rfl rfl zab zab zab (fun _ _ _ h=>h) (Or.inl ⟨zab,fun w VF=>zai⟩) Pm ?_;refine et (d:=some 63) (i:=13) (v:=(.int .i64 u)) rfl rfl zab zab zab (fun _ _ _ h=>h) (Or.inl ⟨zab,fun w VF=>zai⟩) Pm ?_;refine et (d:=some 64) (i:=14) (v:=(.pointer (some ⟨mb,0,none⟩))) rfl rfl zab zab zab (fun _ _ _ h=>h) (Or.inl ⟨zab,fun w VF=>zai⟩) Pm ?_;refine et (d:=some 65) (i:=15) (v:=(.pointer (some ⟨mb,0,none⟩))) rfl rfl zab zab zab (fun _ _ _ h=>h) (Or.inl ⟨zab,fun w VF=>zai⟩) Pm ?_;refine et (d:=some 66) (i:=16) (v:=(.pointer (some ⟨mb,1,none⟩))) rfl rfl zab zab zab (fun _ _ _ h=>h) (Or.inl ⟨zab,fun w VF=>zai⟩) Pm ?_;refine et (d:=some 67) (i:=17) (v:=(.int .u32 s.act)) rfl rfl zab zab zab (fun _ _ _ h=>h) (Or.inl ⟨zab,fun w VF=>zai⟩) Pm ?_;refine zH 18 rfl fun K hK=>?_;go_simp;refine hae.mono ?_;rintro e w9 ⟨rfl,VQ⟩;refine hK.out _ _ (VO w9 VQ) (fun Pm=>?_);clear hK K;refine tD (some 69) 19 (.bool ae) rfl Pm ?_;refine PX zab ?_ _;clear Pm VO;simp only[Act.put,List.setIfInBounds_toArray,List.set_cons_succ,List.set_cons_zero];refine hJ _ _ ?_;go_meet
     case rel=>exact⟨by rw[HB.out],(Pq w4 w4).drew.trans VQ⟩
    ·have YB:(r.kind == 1)=false:=za3;have HB:Hid (bv=false):=by have:=HBV.out;rw[YB,RQ]at this;exact this.symm
     clear hk HS HBV hae Zq Zd hm1 YN Xu hf4 hT4;refine PJ (S:=(fun V=>V.cell? (b,u*10)=some ↑(r.kind:Int))) zab hu0 (fun Pm=>?_);refine tD (some 50) 0 (b,u*10) rfl Pm ?_;refine tD (some 51) 1 (b,u*10) rfl Pm ?_;refine tD (some 52) 2 (b,u*10) rfl Pm ?_;refine tD (some 53) 3 (.int .i64 r.kind) rfl Pm ?_;refine tD (some 54) 4 (.bool false) rfl Pm ?_;refine tD (some 55) 5 (.bool false) rfl Pm ?_;refine tU (some 56) 6 rfl Pm ?_;refine tU (some 57) 7 rfl Pm ?_;refine tU (some 58) 8 rfl Pm ?_;refine tU (some 59) 9 rfl Pm ?_;refine tU (some 60) 10 rfl Pm ?_;refine tU (some 61) 11 rfl Pm ?_;refine tU (some 62) 12 rfl Pm ?_;refine tU (some 63) 13 rfl Pm ?_;refine tU (some 64) 14 rfl Pm ?_;refine tU (some 65) 15 rfl Pm ?_;refine tU (some 66) 16 rfl Pm ?_;refine tU (some 67) 17 rfl Pm ?_;refine tU (some 68) 18 rfl Pm ?_;refine tD (some 69) 19 (.bool false) rfl Pm ?_;refine PX zab ?_ _;clear Pm;simp only[Act.put,List.setIfInBounds_toArray,List.set_cons_succ,List.set_cons_zero];refine hJ _ _ ?_;go_meet
     case rel=>exact⟨by rw[HB.out],(Pq w4 w4).drew⟩
   case rest=>
    obtain⟨rfl,hB49⟩:=hcut;clear hae HBV Zd hm1 YN Xu hf4 hT4 hu0;obtain⟨w9,U1⟩:∃W,wc=W:=⟨_,rfl⟩;rw[U1]at hB49⊢;clear U1 wc;have Wn:=Zq.below hB49;have Wg:Y.Rq lo w w9:=hR14.trans (Y.RfE.of hB49 zaa);have hs9:=hB49.size;have hu2:=((hP.below Wg.bel Vo hb).at' u r hr).c2;cases bv
    ·have HM9:Hid (Y.aw w9 lo mb pb qv3 sz):=by have:=HS.out;rw[Pu zac]at this;rw[this];exact Wn
     clear HS Wn;go_wp2;go_end0;exact⟨rfl,_,HM9.out,Wg⟩
    ·have HS1:Hid (sz={ s with q:=s.q++[q.done]++[r.done] }):=by have:=HS.out;rw[PC rfl]at this;exact this
     have hra2:=qJ w9 lo mb pb qv3 { s with q:=s.q++[q.done] } r.done Wn zaa zaf;dsimp only at hra2;rw[<- HS1.out]at hra2;clear HS Wn;go_wp2_with(go_at_call 125;refine hra2.mono ?_;intro e w5 h5;obtain⟨rfl,qv5,hM5,hR5⟩:=h5);go_end0;exact⟨rfl,_,hM5,Wg.trans hR5⟩
namespace Y
structure RSt where
 act:Nat
 kept:Nat->Nat
 q:List ()
 now:Nat
 tm:List Tn
 fin:Nat
def RSt.m(r:RSt)(wh:Nat->Value):MSt:=⟨r.act,r.kept,r.q,r.now,wh,fw r.fin⟩
structure MT(W:World)(lo:Y.Lo)(mb pb:Nat)(r:RSt):Prop where
 ex:∃qv wh,aw W lo mb pb qv (r.m wh)/\ga W lo (r.m wh) r.tm
 lo':lo<=W.heap.size
 act:r.act<4294967296
 now:r.now<18446744073709551616
 tml:r.tm.length<=12
 tab:TabAt 5 Lib.deBruijn64tab W
 tab5:TabAt 1 Lib.deBruijn32tab W
structure Lw(lo:Nat):Prop where
 g:5<lo
 g5:1<lo
theorem fY{lo:Nat}(hl:Lw lo)(h:Below lo W W')(hT:TabAt 5 Lib.deBruijn64tab W):TabAt 5 Lib.deBruijn64tab W':=fun j hj=>(h.cell (p:=⟨5,j,none⟩) hl.g).trans (hT j hj)
theorem cC{lo:Nat}(hl:Lw lo)(h:Below lo W W')(hT:TabAt 1 Lib.deBruijn32tab W):TabAt 1 Lib.deBruijn32tab W':=fun j hj=>(h.cell (p:=⟨1,j,none⟩) hl.g5).trans (hT j hj)
theorem MT.rq{r r':RSt}{qv':Value}{wh:Nat->Value}(hl:Lw lo)(h:MT W lo mb pb r)(hT:ga W lo (r.m wh) r.tm)(hM:aw W' lo mb pb qv' (r'.m wh))(hR:Rq lo W W')(h1:r'.tm=r.tm)(h2:r'.now=r.now)(h3:r'.act<4294967296):MT W' lo mb pb r':=
 ⟨⟨qv',wh,hM,by rw[h1];exact hT.rq hR rfl h2⟩,Pr h.lo' hR.bel.size,h3,by rw[h2];exact h.now,by rw[h1];exact h.tml,fY hl hR.bel h.tab,cC hl hR.bel h.tab5⟩
theorem MT.below{r:RSt}(h:MT W lo mb pb r)(hl:Lw lo)(hb:Below W W W'):MT W' lo mb pb r:=by
 obtain⟨qv,wh,a,b⟩:=h.ex;have U8:=h.lo';exact⟨⟨qv,wh,a.below hb,b.below hb⟩,Pr U8 hb.size,h.act,h.now,h.tml,fY hl (hb.mono U8) h.tab,cC hl (hb.mono U8) h.tab5⟩
theorem MT.lt{r:RSt}(h:MT W lo mb pb r):mb<W.heap.size:=by
 obtain⟨qv,wh,a,b⟩:=h.ex;exact a.lt
def Ow:():=⟨#[102,117,108,108]⟩
def j7(r:RSt)(ev nm:())(d:Nat):RSt:=if r.tm.length=12 then{ r with q:=r.q++[Ow] } else{ r with tm:=r.tm++[⟨atF r.now d,ev,nm⟩] }
inductive PA where
 |raise (ev:())
 |send (ev:()) (d:Nat)
 |sendAs (ev:()) (d:Nat) (id:())
 |cancel (id:())
def PA.v:PA->Value
 |.raise ev=>.iface 425 (.agg #[.string ev])
 |.send ev d=>.iface 280 (.agg #[.string ev,.int .u64 d])
 |.sendAs ev d id=>.iface 282 (.agg #[.string ev,.int .u64 d,.string id])
 |.cancel id=>.iface 284 (.agg #[.string id])
def PA.ok:PA->Prop
 |.send _ d=>d<18446744073709551616
 |.sendAs _ d _=>d<18446744073709551616
 |_=>True
def iH(r:RSt):PA->RSt
 |.raise ev=>{ r with q:=r.q++[ev] }
 |.send ev d=>j7 r ev ⟨#[]⟩ d
 |.sendAs ev d id=>j7 r ev id d
 |.cancel id=>{ r with tm:=r.tm.filter fun t=>!(t.nm.toList == id.toList) }
theorem Mx(r:RSt)(ev nm:())(d:Nat):(j7 r ev nm d).q.length<=r.q.length+1:=by
 unfold j7;split<;>simp
theorem No(r:RSt)(a:PA):(iH r a).q.length<=r.q.length+1:=by
 cases a<;>simp only[iH]<;>first|exact Mx _ _ _ _|simp
end Y
theorem oP(w:World)(lo:Y.Lo)(mb pb:Nat)(r:Y.RSt)(ev:())(hl:Y.Lw lo)(h:Y.MT w lo mb pb r)(Yb:r.q.length<=4398046511104):
  () 125 #[mb,ev] w fun e w'=>e=.returned (.tuple #[])/\Y.MT w' lo mb pb { r with q:=r.q++[ev] }/\Y.Rf lo w w':=by
 obtain⟨qv,wh,a,b⟩:=h.ex;refine(qJ w lo mb pb qv (r.m wh) ev a h.lo' Yb).mono ?_;rintro e w' ⟨rfl,qv',a',c⟩;exact⟨rfl,h.rq hl b (r':={ r with q:=r.q++[ev] }) a' c rfl rfl h.act,Y.xh c⟩
theorem Af(w:World)(lo:Y.Lo)(mb pb:Nat)(r:Y.RSt)(nm0:())(hl:Y.Lw lo)(h:Y.MT w lo mb pb r):
  () 369 #[mb,nm0] w fun e w'=>e=.returned (.tuple #[])/\Y.MT w' lo mb pb (Y.iH r (.cancel nm0))/\Y.Rf lo w w':=by
 obtain⟨qv,wh,a,b⟩:=h.ex;refine(CE w lo mb pb qv (r.m wh) r.tm nm0 h.lo' a b hl.g h.tab).mono ?_;rintro e w' ⟨rfl,wh',a',b',c⟩;exact⟨rfl,⟨⟨qv,wh',a',b'⟩,Pr h.lo' c.bel.size,h.act,h.now,Pr (QI _ _) h.tml,Y.fY hl c.bel h.tab,Y.cC hl c.bel h.tab5⟩,c⟩
theorem xj(w:World)(lo:Y.Lo)(mb pb:Nat)(r:Y.RSt)(ev nm:())(d:Nat)(hl:Y.Lw lo)(h:Y.MT w lo mb pb r)(Yb:r.q.length<=4398046511104)(hd:d<18446744073709551616):
  () 370 #[mb,ev,nm,.int .u64 d] w fun e w'=>e=.returned (.tuple #[])/\Y.MT w' lo mb pb (Y.j7 r ev nm d)/\Y.Rf lo w w':=by
 have hlen:() 347 #[(mb,27)] w fun e w'=>e=.returned (r.tm.length:Int)/\Below w w w':=by
  obtain⟨qv,wh,a,b⟩:=h.ex;exact LW w lo mb pb qv (r.m wh) r.tm a b (by have:=h.tml;omega) (PY hl.g h.lo') h.tab
 by_cases h12:r.tm.length=12
 ·have HR:Hid (∀w9,Below w w w9->() 125 #[mb,.string ⟨#[102,117,108,108]⟩] w9 fun e w'=>e=.returned (.tuple #[])/\Y.MT w' lo mb pb (Y.j7 r ev nm d)/\Y.Rf lo w w'):=fun w9 hb=>by
   refine(oP w9 lo mb pb r ⟨#[102,117,108,108]⟩ hl (h.below hl hb) Yb).mono ?_;rintro e w' ⟨rfl,a,c⟩;refine⟨rfl,?_,(Y.RfE.of hb h.lo').trans c⟩;unfold Y.j7;rw[PC h12];exact a
  rw[h12]at hlen;clear h;go_enter func370,ntmps370;go_wp2_with(first
   |(go_at_call 347;refine hlen.mono ?_;rintro e w9 ⟨rfl,VW⟩)
   |(go_at_call 125;refine(HR.out w9 VW).mono ?_;intro e w8 h8;obtain⟨rfl,h8⟩:=h8;have H8:Hid _:=h8;clear h8))
  refine Q5 (QD rfl _ _ _) rfl ?_;exact⟨rfl,H8.out⟩
 ·have HA:Hid (∀w9,Below w w w9->() 373 #[(mb,27),.int .u64 d,.agg #[ev,nm]] w9 fun e w'=>e=.returned (.tuple #[])/\Y.MT w' lo mb pb (Y.j7 r ev nm d)/\Y.Rf lo w w'):=fun w9 hb=>by
   have h9:=h.below hl hb;obtain⟨qv,wh,a,b⟩:=h9.ex;refine(KX w9 lo mb pb qv (r.m wh) r.tm d ev nm a b h9.lo' h.now hd).mono ?_;rintro e w' ⟨rfl,wh',a',b',c⟩;refine⟨rfl,?_,(Y.RfE.of hb h.lo').trans (Y.xi c)⟩;unfold Y.j7;rw[Pu h12];exact⟨⟨qv,wh',a',b'⟩,Pr h9.lo' c.bel.size,h.act,h.now,by have:=h.tml;simp;omega,Y.fY hl c.bel h9.tab,Y.cC hl c.bel h9.tab5⟩
  have h12':((r.tm.length:Int) == 12)=false:=by simp;omega
  clear h;go_enter func370,ntmps370;go_wp2_with(first
   |(go_at_call 347;refine hlen.mono ?_;rintro e w9 ⟨rfl,VW⟩)
   |(go_at_call 373;refine(HA.out w9 VW).mono ?_;intro e w8 h8;obtain⟨rfl,h8⟩:=h8;have H8:Hid _:=h8;clear h8))
  go_end0;exact⟨rfl,H8.out⟩
theorem Pd(a:Value)(w:World):(method 596 425 (.agg #[a]) "Do").run prog w=.ok (362,.agg #[a]) w:=zab
theorem Pc(a:Value)(w:World):(method 596 284 (.agg #[a]) "Do").run prog w=.ok (345,.agg #[a]) w:=zab
theorem Pe(a b:Value)(w:World):(method 596 280 (.agg #[a,b]) "Do").run prog w=.ok (338,.agg #[a,b]) w:=zab
theorem Pb(a b c:Value)(w:World):(method 596 282 (.agg #[a,b,c]) "Do").run prog w=.ok (342,.agg #[a,b,c]) w:=zab
theorem Ph(p:Option Addr)(w:World):(method 596 100 (.pointer p) "Raise").run prog w=.ok (125,.pointer p) w:=zab
theorem OM(p:Option Addr)(w:World):(method 596 100 (.pointer p) "Send").run prog w=.ok (370,.pointer p) w:=zab
theorem Pf(p:Option Addr)(w:World):(method 596 100 (.pointer p) "Cancel").run prog w=.ok (369,.pointer p) w:=zab
theorem Aq(w:World)(lo:Y.Lo)(mb pb:Nat)(r:Y.RSt)(ev:())(hl:Y.Lw lo)(h:Y.MT w lo mb pb r)(Yb:r.q.length<=4398046511104):
  () 362 #[.agg #[ev],.iface 100 mb] w fun e w'=>e=.returned (.tuple #[])/\Y.MT w' lo mb pb (Y.iH r (.raise ev))/\Y.Rf lo w w':=by
 have hb:Below w w (w.alloc (.cells #[ev] 425)):=(Pq _ w).alloc (Po _) _;have YM:=(oP _ lo mb pb r ev hl (h.below hl hb) Yb).mono (fun e w' x=>(⟨x.1,x.2.1,(Y.RfE.of hb h.lo').trans x.2.2⟩:e=.returned (.tuple #[])/\Y.MT w' lo mb pb { r with q:=r.q++[ev] }/\Y.Rf lo w w'));have hm:=Ph;clear h hb;go_enter func362,ntmps362;go_wp2_with(go_at_call 125;refine YM.mono ?_;intro e w8 h8;obtain⟨rfl,h8⟩:=h8;have H8:Hid _:=h8;clear h8);go_end0;exact⟨rfl,H8.out⟩
theorem ym(w:World)(lo:Y.Lo)(mb pb:Nat)(r:Y.RSt)(id:())(hl:Y.Lw lo)(h:Y.MT w lo mb pb r):
  () 345 #[.agg #[id],.iface 100 mb] w fun e w'=>e=.returned (.tuple #[])/\Y.MT w' lo mb pb (Y.iH r (.cancel id))/\Y.Rf lo w w':=by
 have hb:Below w w (w.alloc (.cells #[id] 284)):=(Pq _ w).alloc (Po _) _;have YM:=(Af _ lo mb pb r id hl (h.below hl hb)).mono (fun e w' x=>(⟨x.1,x.2.1,(Y.RfE.of hb h.lo').trans x.2.2⟩:e=.returned (.tuple #[])/\Y.MT w' lo mb pb (Y.iH r (.cancel id))/\Y.Rf lo w w'));have hm:=Pf;clear h hb;go_enter func345,ntmps345;go_wp2_with(go_at_call 369;refine YM.mono ?_;intro e w8 h8;obtain⟨rfl,h8⟩:=h8;have H8:Hid _:=h8;clear h8);go_end0;exact⟨rfl,H8.out⟩
theorem CM(w:World)(lo:Y.Lo)(mb pb:Nat)(r:Y.RSt)(ev:())(d:Nat)(hl:Y.Lw lo)(h:Y.MT w lo mb pb r)(Yb:r.q.length<=4398046511104)(hd:d<18446744073709551616):
  () 338 #[.agg #[ev,.int .u64 d],.iface 100 mb] w fun e w'=>e=.returned (.tuple #[])/\Y.MT w' lo mb pb (Y.iH r (.send ev d))/\Y.Rf lo w w':=by
 have hb:Below w w (w.alloc (.cells #[ev,.int .u64 d] 280)):=(Pq _ w).alloc (Po _) _;have YM:=(xj _ lo mb pb r ev ⟨#[]⟩ d hl (h.below hl hb) Yb hd).mono (fun e w' x=>(⟨x.1,x.2.1,(Y.RfE.of hb h.lo').trans x.2.2⟩:e=.returned (.tuple #[])/\Y.MT w' lo mb pb (Y.iH r (.send ev d))/\Y.Rf lo w w'));have hm:=OM;clear h hb;go_enter func338,ntmps338;go_wp2_with(go_at_call 370;refine YM.mono ?_;intro e w8 h8;obtain⟨rfl,h8⟩:=h8;have H8:Hid _:=h8;clear h8);go_end0;exact⟨rfl,H8.out⟩
theorem yr(w:World)(lo:Y.Lo)(mb pb:Nat)(r:Y.RSt)(ev:())(d:Nat)(id:())(hl:Y.Lw lo)(h:Y.MT w lo mb pb r)(Yb:r.q.length<=4398046511104)(hd:d<18446744073709551616):
  () 342 #[.agg #[ev,.int .u64 d,id],.iface 100 mb] w fun e w'=>e=.returned (.tuple #[])/\Y.MT w' lo mb pb (Y.iH r (.sendAs ev d id))/\Y.Rf lo w w':=by
 have hb:Below w w (w.alloc (.cells #[ev,.int .u64 d,id] 282)):=(Pq _ w).alloc (Po _) _;have YM:=(xj _ lo mb pb r ev id d hl (h.below hl hb) Yb hd).mono (fun e w' x=>(⟨x.1,x.2.1,(Y.RfE.of hb h.lo').trans x.2.2⟩:e=.returned (.tuple #[])/\Y.MT w' lo mb pb (Y.iH r (.sendAs ev d id))/\Y.Rf lo w w'));have hm:=OM;clear h hb;go_enter func342,ntmps342;go_wp2_with(go_at_call 370;refine YM.mono ?_;intro e w8 h8;obtain⟨rfl,h8⟩:=h8;have H8:Hid _:=h8;clear h8);go_end0;exact⟨rfl,H8.out⟩
namespace Y
structure gu(W:World)(lo:Nat)(v:U.Sl)(L:List PA):Prop where
 n:v.n=L.length
 cap:L.length<=v.c
 cell:∀(k:Nat) (x:PA),L[k]?=some x->∃ab,v.a=some ⟨ab,0,none⟩/\ab<lo/\W.cell? ⟨ab,k,none⟩=some x.v
 ok:∀x∈L,x.ok
 len:L.length<=1048576
theorem gu.below{lo:Nat}{v:U.Sl}{L:List PA}(h:gu W lo v L)(hb:Below lo W W'):gu W' lo v L:=⟨h.n,h.cap,fun k x hx=>by
 obtain⟨ab,a,b,c⟩:=h.cell k x hx;exact⟨ab,a,b,(hb.cell (p:=(ab,k)) b).trans c⟩,h.ok,h.len⟩
def doL(r:RSt)(L:List PA):RSt:=L.foldl iH r
theorem I1(r:RSt)(L:List PA)(x:PA):doL r (L++[x])=iH (doL r L) x:=by unfold doL;rw[QQ];rfl
theorem wm(r:RSt):∀L:List PA,(doL r L).q.length<=r.q.length+L.length:=fun L=>by
 induction L generalizing r with
 |nil=>exact Po _
 |cons x L ih=>
  have h1:=ih (iH r x);have h2:=No r x;show(doL (iH r x) L).q.length<=_;rw[Qw];omega
end Y
theorem CN(w:World)(lo:Y.Lo)(mb pb:Nat)(r:Y.RSt)(v:U.Sl)(L:List Y.PA)(hl:Y.Lw lo)(h:Y.MT w lo mb pb r)(hA:Y.gu w lo v L)(Yb:r.q.length<=4398000000000):
  () 102 #[mb,v.v] w fun e w'=>e=.returned (.tuple #[])/\Y.MT w' lo mb pb (Y.doL r L)/\Y.Rf lo w w':=by
 obtain⟨va,vn,vc⟩:=v;have hn:vn=L.length:=hA.n;have Ww:L.length<=vc:=hA.cap;have hlen:=hA.len;subst hn;have HA:Hid _:=hA;have H0:Hid _:=h;clear hA h;unfold U.Sl.v;dsimp only;go_enter func102,ntmps102;go_wp2
 go_loopw[8] (fun i wr=>∃k:Nat,i=.int .i64 k/\k<=L.length/\Hid (Y.MT wr lo mb pb (Y.doL r (L.take k))/\Y.Rf lo w wr)) (fun i _=>L.length-(intOf i).toNat)
 case atStart=>exact⟨0,rfl,zaa,H0.out,Y.RfE.refl _ _⟩
 case round=>
  obtain⟨k,rfl,WN,HM⟩:=hrel;by_cases hk:k<L.length
  ·obtain⟨x,hx⟩:∃x,L[k]?=some x:=⟨_,Pp hk⟩;have hxok:=HA.out.ok x (PD hx);obtain⟨ab,ha,hab,hc⟩:=(HA.out.below HM.out.2.bel).cell k x hx;dsimp only at ha;subst ha;have hq:=Y.wm r (L.take k);have Yn:(Y.doL r (L.take k)).q.length<=4398046511104:=by rw[QN]at hq;omega
   have HN:Hid (Y.doL r (L.take (k+1))=Y.iH (Y.doL r (L.take k)) x):=by
    unfold Hid;rw[QE,hx];exact Y.I1 _ _ _
   have XR:Hid (∀w8,Y.MT w8 lo mb pb (Y.iH (Y.doL r (L.take k)) x)->Y.Rf lo wr w8->Y.MT w8 lo mb pb (Y.doL r (L.take (k+1)))/\Y.Rf lo w w8):=fun w8 a b=>⟨by rw[HN.out];exact a,HM.out.2.trans b⟩;have hki:((k:Int)<(L.length:Int)):=zaa;clear hq hx;cases x with
   |raise ev=>
    have hd:=Aq wr lo mb pb _ ev hl HM.out.1 Yn;have hm:=Pd;unfold Y.PA.v at hc;dsimp only at hc;go_wp2_with(go_at_call 362;refine hd.mono ?_;intro e w8 h8;obtain⟨rfl,h8,g8⟩:=h8;have H8:Hid _:=XR.out w8 h8 g8;clear h8 g8);exact zd6
   |send ev d=>
    have hd:=CM wr lo mb pb _ ev d hl HM.out.1 Yn hxok;have hm:=Pe;unfold Y.PA.v at hc;dsimp only at hc;go_wp2_with(go_at_call 338;refine hd.mono ?_;intro e w8 h8;obtain⟨rfl,h8,g8⟩:=h8;have H8:Hid _:=XR.out w8 h8 g8;clear h8 g8);exact zd6
   |sendAs ev d id=>
    have hd:=yr wr lo mb pb _ ev d id hl HM.out.1 Yn hxok;have hm:=Pb;unfold Y.PA.v at hc;dsimp only at hc;go_wp2_with(go_at_call 342;refine hd.mono ?_;intro e w8 h8;obtain⟨rfl,h8,g8⟩:=h8;have H8:Hid _:=XR.out w8 h8 g8;clear h8 g8);exact zd6
   |cancel id=>
    have hd:=ym wr lo mb pb _ id hl HM.out.1;have hm:=Pc;unfold Y.PA.v at hc;dsimp only at hc;go_wp2_with(go_at_call 345;refine hd.mono ?_;intro e w8 h8;obtain⟨rfl,h8,g8⟩:=h8;have H8:Hid _:=XR.out w8 h8 g8;clear h8 g8);exact zd6
  ·obtain rfl:k=L.length:=zaa;have HF:=HM.out;rw[Qy]at HF;have HF2:Hid _:=HF;clear HF;go_wp2;go_end0;exact⟨rfl,HF2.out⟩
attribute [local go_sem] Qu
namespace Y
def lz(ps:List PS)(fin:Nat)(s:RSt)(i:Nat):RSt:=match ps[i]? with
 |none=>s
 |some p=>if p.owner == -1 then{ s with fin:=5 } else match ps[p.owner.toNat]? with
  |none=>s
  |some q=>if q.owner == -1 then{ s with q:=s.q++[q.done] } else match ps[q.owner.toNat]? with
   |none=>{ s with q:=s.q++[q.done] }
   |some r=>if r.kind == 1&&atEnd ps fin s.act ps.length q.owner.toNat then{ s with q:=s.q++[q.done]++[r.done] } else{ s with q:=s.q++[q.done] }
theorem NL(ps:List PS)(fin:Nat)(s:RSt)(i:Nat)(wh:Nat->Value):Av ps fin (s.m wh) i=(lz ps fin s i).m wh:=by
 unfold Av lz;cases ps[i]? with
 |none=>rfl
 |some p=>
  dsimp only;split
  ·rfl
  ·cases ps[p.owner.toNat]? with
   |none=>rfl
   |some q=>
    dsimp only;split
    ·rfl
    ·cases ps[q.owner.toNat]? with
     |none=>rfl
     |some r=>
      dsimp only;show(if(r.kind == 1&&atEnd ps fin s.act ps.length q.owner.toNat)=true then _ else _)=_;split<;>rfl
theorem qC(ps:List PS)(fin:Nat)(s:RSt)(i:Nat):(lz ps fin s i).act=s.act/\(lz ps fin s i).tm=s.tm/\(lz ps fin s i).now=s.now/\(lz ps fin s i).kept=s.kept/\(lz ps fin s i).q.length<=s.q.length+2:=by
 unfold lz;cases ps[i]? with
 |none=>simp
 |some p=>
  dsimp only;split
  ·simp
  ·cases ps[p.owner.toNat]? with
   |none=>simp
   |some q=>
    dsimp only;split
    ·simp
    ·cases ps[q.owner.toNat]? with
     |none=>simp
     |some r=>
      dsimp only;split<;>simp
structure gN(w:World)(lo:Nat)(pb b cap:Nat)(ps:List PS)(fin:Nat)(EN LV:Nat->List PA):Prop where
 bJ:cJ w pb b cap ps
 pb':pb<lo
 b':b<lo
 f2:w.cell? (pb,2)=some (.int .u32 fin)
 finl:fin<4294967296
 own:∀(i:Nat) (p:PS),ps[i]?=some p->p.owner=-1\/∃o:Nat,p.owner=o/\o<i
 pts:∀(i:Nat) (p:PS),ps[i]?=some p->∀j∈els p.parts,i<j/\j<ps.length
 en:∀(i:Nat) (p:PS),ps[i]?=some p->gu w lo p.enter (EN i)
 lv:∀(i:Nat) (p:PS),ps[i]?=some p->gu w lo p.leave (LV i)
 lw:Lw lo
theorem gN.below{w':World}{lo:Nat}{EN LV:Nat->List PA}(h:gN w lo pb b cap ps fin EN LV)(hb:Below lo w w'):gN w' lo pb b cap ps fin EN LV:=
 ⟨h.bJ.below hb h.pb' h.b',h.pb',h.b',(hb.cell (p:=⟨pb,2,none⟩) h.pb').trans h.f2,h.finl,h.own,h.pts,fun i p hp=>(h.en i p hp).below hb,fun i p hp=>(h.lv i p hp).below hb,h.lw⟩
def kH(ps:List PS)(fin:Nat)(EN:Nat->List PA)(r:RSt)(i:Nat):RSt:=
 let r2:=doL { r with act:=r.act|||2 ^ i } (EN i)
 match ps[i]? with
 |some p=>if p.kind == 2 then lz ps fin r2 i else r2
 |none=>r2
def de(ps:List PS)(fin:Nat)(EN:Nat->List PA)(r:RSt)(l:List Nat):RSt:=l.foldl (kH ps fin EN) r
theorem As(ps:List PS)(fin:Nat)(EN:Nat->List PA)(r:RSt)(l:List Nat)(i:Nat):de ps fin EN r (l++[i])=kH ps fin EN (de ps fin EN r l) i:=by unfold de;rw[QQ];rfl
theorem Ih(r:RSt)(a:PA):(iH r a).act=r.act:=by
 exact zeZ
theorem yp:∀(L:List PA) (r:RSt),(doL r L).act=r.act
 |[],_=>rfl
 |x::L,r=>(yp L (iH r x)).trans (Ih r x)
theorem NI{lo:Nat}{EN LV:Nat->List PA}(h:gN w lo pb b cap ps fin EN LV)(r:RSt){i:Nat}(hi:i<ps.length):(kH ps fin EN r i).q.length<=r.q.length+1048578:=by
 obtain⟨p,hp⟩:∃p,ps[i]?=some p:=⟨_,Pp hi⟩;have h1:=(h.en i p hp).len;have h2:=wm { r with act:=r.act|||2 ^ i } (EN i);have h3:=(qC ps fin (doL { r with act:=r.act|||2 ^ i } (EN i)) i).2.2.2.2;have h4:({ r with act:=r.act|||2 ^ i }:RSt).q=r.q:=rfl;rw[h4]at h2;unfold kH;dsimp only;rw[hp];dsimp only;split<;>omega
theorem pk{w:World}{lo:Nat}{pb b cap:Nat}{ps:List PS}{fin:Nat}{EN LV:Nat->List PA}(h:gN w lo pb b cap ps fin EN LV):∀(l:List Nat) (r:RSt),(∀i∈l,i<ps.length)->(de ps fin EN r l).q.length<=r.q.length+l.length*1048578
 |[],_,_=>by simp[de]
 |i::l,r,hl=>by
  have h1:=NI h r (hl i (PZ ..));have h2:=pk h l (kH ps fin EN r i) (fun j hj=>hl j (P3 _ hj));show(de ps fin EN (kH ps fin EN r i) l).q.length<=_;rw[Qw];omega
end Y
theorem Y.MT.gr{row:Option Nat}{r:Y.RSt}(h:Y.MT W lo mb pb r)(hl:Y.Lw lo)(hg:W.grownBy W' row)(hr:∀r,row=some r->lo<=r/\∃o:Obj,W.heap[r]?=some o/\o.isCells=false):Y.MT W' lo mb pb r:=by
 obtain⟨qv,wh,a,b⟩:=h.ex;have hb:Below lo W W':=⟨hg.os,hg.tape,hg.output,hg.size,fun k hk=>hg.block k (by have:=h.lo';omega) (fun e=>zbg)⟩;exact⟨⟨qv,wh,a.gr hg (fun r e=>(hr r e).2),b.kd (Y.iJ (E:=fun _=>False) hg (fun r e=>(hr r e).2)) (fun h=>h) rfl rfl⟩,Pr h.lo' hg.size,h.act,h.now,h.tml,Y.fY hl hb h.tab,Y.cC hl hb h.tab5⟩
theorem Y.MT.Km{r:Y.RSt}(h:Y.MT W lo mb pb r)(hl:Y.Lw lo)(a:Nat)(ha:a<4294967296):Y.MT (W.setCell (mb,1) (.int .u32 a)) lo mb pb { r with act:=a }/\Y.Rf lo W (W.setCell (mb,1) (.int .u32 a)):=by
 obtain⟨qv,wh,m,b⟩:=h.ex;have hM:Y.aw (W.setCell (mb,1) (.int .u32 a)) lo mb pb qv (({ r with act:=a }:Y.RSt).m wh):=m.set 1 _ _ zac rfl (fun j hj=>by
  by_cases e:j=1
  ·subst e;rfl
  ·rw[Pu e];unfold Y.fF;split
   ·rfl
   ·rfl)
 have hR:Y.Rq lo W (W.setCell (mb,1) (.int .u32 a)):=Y.RfE.mo (P:=(·=mb)) ((Mo.refl _ _).set _ _ rfl) (fun k hk=>by
  obtain⟨arr,a1,_⟩:=m.blk;subst hk;exact⟨m.lo',arr,_,_,a1,.inl rfl⟩) h.lo'
 exact⟨h.rq hl b hM hR rfl rfl ha,Y.xh hR⟩
theorem Y.MT.c0{r:Y.RSt}(h:Y.MT W lo mb pb r):W.cell? mb=some ↑pb/\W.cell? (mb,1)=some (.int .u32 r.act)/\∀i,W.frozen? ⟨mb,i,none⟩=false:=by
 obtain⟨qv,wh,m,b⟩:=h.ex;exact⟨m.cell 0 zac,m.cell 1 zac,m.frozen⟩
theorem Aw(w:World)(lo:Y.Lo)(mb pb b cap:Nat)(r:Y.RSt)(ps:List Y.PS)(fin i:Nat)(EN LV:Nat->List Y.PA)(hP:Y.gN w lo pb b cap ps fin EN LV)(h:Y.MT w lo mb pb r)(hi:i<ps.length)(Yb:r.q.length<=4398046511000):
  () 103 #[mb,(b,i*10)] w fun e w'=>e=.returned (.tuple #[])/\Y.MT w' lo mb pb (Y.lz ps fin r i)/\Y.Rf lo w w':=by
 obtain⟨qv,wh,a,b'⟩:=h.ex;obtain⟨p,hp⟩:∃p,ps[i]?=some p:=⟨_,Pp hi⟩;refine(CU w lo mb pb b cap qv (r.m wh) ps fin i p a h.lo' hP.bJ hP.pb' hP.b' hP.f2 hP.finl h.act hp hP.own hP.pts hP.lw.g5 h.tab5 Yb).mono ?_;rintro e w' ⟨rfl,qv',a',c⟩;rw[Y.NL]at a';obtain⟨s1,s2,s3,_⟩:=Y.qC ps fin r i;exact⟨rfl,h.rq hP.lw b' a' c s2 s3 (by rw[s1];exact h.act),Y.xh c⟩
theorem wu(w:World)(lo:Y.Lo)(mb pb b cap:Nat)(r:Y.RSt)(ps:List Y.PS)(fin s:Nat)(EN LV:Nat->List Y.PA)(hP:Y.gN w lo pb b cap ps fin EN LV)(h:Y.MT w lo mb pb r)(hs:s<4294967296)(V9:∀i∈Y.els s,i<ps.length)(Yb:r.q.length<=4397000000000):
  () 63 #[mb,.int .u32 s] w fun e w'=>e=.returned (.tuple #[])/\Y.MT w' lo mb pb (Y.de ps fin EN r (Y.els s))/\Y.Rf lo w w':=by
 refine(P8 (n:=8)).1 ?_;have U8:=h.lo';refine Qv func63 rfl trivial ?_ rfl;simp only[ntmps63,List.size_toArray,List.length_cons,List.length_nil,Nat.reduceAdd,Nat.reduceSub,Array.replicate_succ,Array.replicate_zero,List.push_toArray,List.append_toArray,List.nil_append,List.cons_append];gi_wp2_with(refine⟨trivial,?_⟩;gi_at_call 100;refine(P8.2 (dI s _)).mono ?_;rintro e w9 ⟨rfl,U1⟩;rw[U1];clear U1 w9);have b0:=(P9 w 100 mb).alloc (.cells #[.int .u32 s] 167);have b1:=P9 (w.alloc (.cells #[mb] 100)) 167 (.int .u32 s);simp only[World.size_alloc]at b1;have VG:Below w w ((w.alloc (.cells #[mb] 100)).alloc (.cells #[.int .u32 s] 167)):=((Pq _ w).alloc (Po _) _).alloc zad _;have Y2:((w.alloc (.cells #[mb] 100)).alloc (.cells #[.int .u32 s] 167)).heap.size=w.heap.size+2:=zad;generalize(w.alloc (.cells #[mb] 100)).alloc (.cells #[.int .u32 s] 167)=W0 at *;have h0:=h.below hP.lw VG;have Vc:=hP.lw;have ZE:=hP.lw.g5;have hlen:=hP.bJ.len;have hnty:¬Y.dc 100:=zaO;refine pr zaa (w.heap.size+1) s hs rfl zaa zaa b1.cell h0.tab5 rfl
  (fun pre V=>Y.MT V lo mb pb (Y.de ps fin EN r (Y.bn pre))/\Boxed V w 100 mb/\Y.Rf lo w V) (fun _ _ _=>False)
  (Qi (fun pre A C row h hg hr=>h.gr Vc hg (fun r e=>⟨zas,(hr r e).2⟩)) (Qi (QU (QM _ _ _) _) (fun pre A C row h hg hr=>h.gr U8 hg (fun r e=>⟨zas,(hr r e).2⟩))))
  (fun _ _ _ _ _ hs _ _=>hs) ⟨h0,b0,Y.RfE.of VG U8⟩
  (fun x a' _=>a'={ tmps:=#[.pointer (some ⟨mb,0,none⟩),.int .u32 s,.pointer (some ⟨w.heap.size,0,none⟩),undef,.int .i64 x.1,undef,.int .u32 s,.func (.func 151) #[] #[.pointer (some ⟨w.heap.size+1,0,none⟩)],.int .i64 x.1,undef,undef,undef,undef,undef,undef,undef,undef,undef,undef,undef,undef,undef,undef,undef,undef,undef,undef,undef,undef,undef,undef,undef,undef,undef,undef,undef,undef,undef,undef,undef,undef],defers:=[] }) (fun _ _ _ _ _ _ hs _ _=>hs) ?assign ?body ?done ?stop
 case assign=>
  exact zep
 case body=>
  rintro l pre x a' V hl ⟨rl,Xv⟩ ⟨hM,hb,hR⟩ rfl VI;have hi:=V9 x.1 x.2;have XB:=(Y.pK.1 x.2).1;obtain⟨p,hp⟩:∃p,ps[x.1]?=some p:=⟨_,Pp hi⟩;have ZI:=Y.pk hP (Y.bn pre) r (fun i hi=>V9 i (by
   rw[Y.cU]at hi;obtain⟨y,_,rfl⟩:=P0.1 hi;exact y.2))
  have YL:(Y.bn pre).length=pre.length:=by rw[Y.cU,PE]
  rw[YL]at ZI;obtain⟨R0,Xw⟩:∃R0,Y.de ps fin EN r (Y.bn pre)=R0:=⟨_,rfl⟩;have HSN:Hid (Y.de ps fin EN r (Y.bn (pre++[x]))=Y.kH ps fin EN R0 x.1):=by
   unfold Hid;rw[Y.eu,Y.As,Xw]
  rw[Xw]at hM ZI;clear Xw;have ZJ:=hP.below hR.bel;obtain⟨m0,m1,mf⟩:=hM.c0;have VX:=hb.cell;have U5:=ZJ.bJ.row;have hlV:=hM.lo';have XE:=hM.act;have h2:=gZ XB;have Z1:=Se R0.act (2 ^ x.1) XE h2;have horl:R0.act|||2 ^ x.1<4294967296:=by
   have:=Qt (n:=32) (x:=R0.act) (y:=2 ^ x.1) zaa zaa;omega
  obtain⟨A1,hA1⟩:∃A1,R0.act|||2 ^ x.1=A1:=⟨_,rfl⟩;rw[hA1]at Z1 horl;rw[<- j8]at Z1;have VL:=(Pq V V).drew;obtain⟨YO,Z6⟩:=(hM.below Vc VL).Km Vc A1 horl;have hRV1:Y.Rf lo V (V.drew.setCell (mb,1) (.int .u32 A1)):=(Y.RfE.of VL hlV).trans Z6;have q0:V.drew.cell? w=_:=VX;have q1:V.drew.cell? (mb,1)=_:=m1;have qf:V.drew.frozen? (mb,1)=false:=mf 1;have Wc:=jf x.1 V.drew XB;have hxi:((x.1:Int)<(ps.length:Int)):=zaa;have ZG:1<=8-1-1:=zaa;gi_wp2;refine bc (dP l) 9 zab zab zab ?_;simp only[List.take_succ_cons,List.take_zero,List.drop_succ_cons,List.drop_zero]
  iterate 5 still_step
  still_call Wc
  iterate 3 still_step
  refine QY ?_;gi_wp2;have YO:Y.MT (V.setCell (mb,1) (.int .u32 A1)).drew lo mb pb { R0 with act:=A1 }:=YO;have hRV1:Y.Rf lo V (V.setCell (mb,1) (.int .u32 A1)).drew:=hRV1;generalize(V.setCell (mb,1) (.int .u32 A1)).drew=V1 at *;have HE:Hid (Y.kH ps fin EN R0 x.1=if p.kind == 2 then Y.lz ps fin (Y.doL { R0 with act:=A1 } (EN x.1)) x.1 else Y.doL { R0 with act:=A1 } (EN x.1)):=by
   unfold Hid Y.kH;dsimp only;rw[hA1,hp]
  clear q0 q1 qf Wc Z1 hA1 hM m0 m1 mf VX U5 Z6;have U3:Boxed V1 w 100 mb:=Kd.boxed hRV1.kd hb hnty;have Xp:=ZJ.below hRV1.bel;have Vh:=(Pq V1 V1).drew;have hl1:=YO.lo';have XT:=CN V1.drew lo mb pb { R0 with act:=A1 } p.enter (EN x.1) Vc (YO.below Vc Vh) ((Xp.en x.1 p hp).below (Vh.mono hl1)) (by show R0.q.length<=_;omega);have hdq:=Y.wm { R0 with act:=A1 } (EN x.1);have hdq1:=(hP.en x.1 p hp).len;have hdq2:(Y.doL { R0 with act:=A1 } (EN x.1)).q.length<=4398046511000:=by
   have:({ R0 with act:=A1 }:Y.RSt).q=R0.q:=rfl;rw[this]at hdq;omega
  clear hdq hdq1;obtain⟨R2,hR2⟩:∃R2,Y.doL { R0 with act:=A1 } (EN x.1)=R2:=⟨_,rfl⟩;rw[hR2]at XT hdq2 HE;clear hR2;have q0:V1.drew.cell? w=_:=U3.cell;have q8:V1.drew.cell? (b,x.1*10+8)=some p.enter.v:=(Xp.bJ.at' x.1 p hp).c8;unfold U.Sl.v at q8 XT;obtain⟨ea,en,ec⟩:∃q:U.Sl,q=p.enter:=⟨_,rfl⟩;have XU:Hid (∀w2,Y.MT w2 lo mb pb R2->Y.Rf lo V1.drew w2->w2.cell? w=some ↑mb/\w2.cell? (b,x.1*10)=some ↑(p.kind:Int)/\(p.kind == 2->() 103 #[mb,(b,x.1*10)] w2 fun e w'=>e=.returned (.tuple #[])/\KeepsFrom W0.heap.size V w'/\Y.KpT V w'/\Y.MT w' lo mb pb (Y.de ps fin EN r (Y.bn (pre++[x])))/\Boxed w' w 100 mb/\Y.Rf lo w w')/\((p.kind == 2)=false->KeepsFrom W0.heap.size V w2/\Y.KpT V w2/\Y.MT w2 lo mb pb (Y.de ps fin EN r (Y.bn (pre++[x])))/\Boxed w2 w 100 mb/\Y.Rf lo w w2)):=fun w2 Ws hR2=>by
   have ZK:Y.Rf lo V w2:=hRV1.trans ((Y.RfE.of Vh hl1).trans hR2);have Xh:=ZJ.below ZK.bel;have U4:Boxed w2 w 100 mb:=Kd.boxed ZK.kd hb hnty;have fin':∀w',Y.MT w' lo mb pb (Y.kH ps fin EN R0 x.1)->Y.Rf lo V w'->KeepsFrom W0.heap.size V w'/\Y.KpT V w'/\Y.MT w' lo mb pb (Y.de ps fin EN r (Y.bn (pre++[x])))/\Boxed w' w 100 mb/\Y.Rf lo w w':=fun w' Ze hR'=>⟨hR'.oth.from _,fun hT=>Y.cC Vc hR'.bel hT,by rw[HSN.out];exact Ze,Kd.boxed hR'.kd hb hnty,hR.trans hR'⟩;refine⟨U4.cell,(Xh.bJ.at' x.1 p hp).c0,fun hk=>?_,fun hk=>?_⟩
   ·refine(Aw w2 lo mb pb b cap R2 ps fin x.1 EN LV Xh Ws hi hdq2).mono ?_;rintro e w' ⟨rfl,a,c⟩;have:=HE.out;rw[PC hk]at this;exact⟨rfl,fin' w' (this▸a) (ZK.trans c)⟩
   ·have:=HE.out;rw[Pu (by rw[hk];decide)]at this;exact fin' w2 (this▸Ws) ZK
  clear YO hRV1 U3 Xp ZJ hb;refine bc (dP l) 5 zab zab zab ?_;simp only[List.take_succ_cons,List.take_zero,List.drop_succ_cons,List.drop_zero]
  repeat still_step
  refine QY ?_;obtain⟨kb,Z3⟩:∃kb,(p.kind == 2)=kb:=⟨_,rfl⟩;cases kb
  ·gi_wp2_with(refine⟨trivial,?_⟩;gi_at_call 102;refine(aI XT).mono ?_;intro e w2 h8;obtain⟨rfl,h8,g8⟩:=h8;obtain⟨f0,f1,_,f3⟩:=XU.out w2 h8 g8;have F3:Hid _:=f3 Z3;clear h8 g8 f3);exact F3.out
  ·gi_wp2_with(first
    |(refine⟨trivial,?_⟩;gi_at_call 102;refine(aI XT).mono ?_;intro e w2 h8;obtain⟨rfl,h8,g8⟩:=h8;obtain⟨f0,f1,f2,_⟩:=XU.out w2 h8 g8;have F2:Hid _:=f2 Z3;clear h8 g8 f2)
    |(refine⟨trivial,?_⟩;gi_at_call 103;refine(aI F2.out).mono ?_;intro e w3 h9;obtain⟨rfl,h9⟩:=h9;have H9:Hid _:=h9;clear h9))
   exact H9.out
 case done=>
  exact zdb
 case stop=>
  exact zfl
attribute [local go_sem] Qu
theorem Le{n:Nat}(h1:2<=n){g:Operand}{ps:Array Tmp}{assign body:Code}{Q:Exit->Act->World->Prop}{a:Act}(Bs s:Nat)(hs:s<4294967296)
  (he:a.eval g=.func (.func 243) #[] #[Bs]) (Xy:Bs<w.heap.size) (hc:w.cell? Bs=some (.int .u32 s)) (hps:1=ps.size)
  (I:List (Y.In s)->World->Prop) (Ix:Code->List (Y.In s)->World->Prop) (hI:OwnFrom w.heap.size I) (hIx:∀c,OwnFrom w (Ix c)) (h0:I [] w) (Ax:Y.In s->Act->World->Prop) (hAx:∀x a',OwnFrom w (fun(_:Unit) W=>Ax x a' W))
  (VC:∀(l:Nat) (pre:List (Y.In s)) (x:Y.In s) (W:World) (K:Act->World->Prop),I pre W->(∀a' W',KeepsFrom w W W'->True->I pre W'->Ax x a' W'->K a' W') ->
   assign.wpIn (Fence.wide.inRound l) (n-1-1) prog (Exit.then K (fun _ _ _=>False)) { tmps:=(ps.zip #[Value.int .i64 (x.1:Int)]).foldl (fun t (p,v)=>t.setIfInBounds p v) a.tmps,defers:=[] } W)
  (Wp:∀(l:Nat) (pre:List (Y.In s)) (x:Y.In s) (a':Act) (W:World),w.heap.size<=l->(∃r,W.heap[l]?=some (.loop r))->I pre W->Ax x a' W->pre.length<32->body.wpIn (Fence.wide.inRound l) (n-1-1) prog (ownPostG w (fun _ _=>True) I Ix (pre++[x]) W) a' W)
  (Wx:∀(D:Nat) (xs:List (Y.In s)) (W:World),w.heap.size<=D->Y.bn xs=(Y.els s).reverse->I xs W->W.heap[D]?=some (.deferred (some []))->Q .normal { a with defers:={ target:=.collected D,args:=#[] }::a.defers } W)
  (WV:∀(D:Nat) (c:Code) (pre:List (Y.In s)) (W:World),w.heap.size<=D->Y.bn pre <+: (Y.els s).reverse->Ix c pre W->W.heap[D]?=some (.deferred (some []))->c.wpIn Fence.wide n prog Q { a with defers:={ target:=.collected D,args:=#[] }::a.defers } W):
  (Code.rangeFunc g ps assign body).wpIn Fence.wide n prog Q a w:=
 SN rfl zaa (gf:=243) he trivial (RT func243 zab rfl)
  (mx (n-1) zaa Bs s hs w Xy hc) (fun _ _=>trivial) (fun _ _ _ _ _ _ _ _=>trivial) (Pq _ _) (fun _=>hps)
  I Ix hI hIx h0 Ax hAx VC Wp (fun D xs W hD hS=>Wx D xs W hD zaN) (fun D c pre W hD hS=>WV D c pre W hD zaN)
namespace Y
def vw(LV:Nat->List PA)(r:RSt)(i:Nat):RSt:=let r1:=doL r (LV i);{ r1 with act:=r1.act&&&(4294967295-2 ^ i) }
def fi(LV:Nat->List PA)(r:RSt)(l:List Nat):RSt:=l.foldl (vw LV) r
theorem A8(LV:Nat->List PA)(r:RSt)(l:List Nat)(i:Nat):fi LV r (l++[i])=vw LV (fi LV r l) i:=by unfold fi;rw[QQ];rfl
theorem pD{w:World}{lo:Nat}{pb b cap:Nat}{ps:List PS}{fin:Nat}{EN LV:Nat->List PA}(h:gN w lo pb b cap ps fin EN LV):∀(l:List Nat) (r:RSt),(∀i∈l,i<ps.length)->(fi LV r l).q.length<=r.q.length+l.length*1048576
 |[],_,_=>by simp[fi]
 |i::l,r,hl=>by
  obtain⟨p,hp⟩:∃p,ps[i]?=some p:=⟨_,Pp (hl i (PZ ..))⟩;have h0:=(h.lv i p hp).len;have h1:=wm r (LV i);have h2:=pD h l (vw LV r i) (fun j hj=>hl j (P3 _ hj));have h3:(vw LV r i).q=(doL r (LV i)).q:=rfl;rw[h3]at h2;show(fi LV (vw LV r i) l).q.length<=_;rw[Qw];omega
end Y
theorem Gg(w:World)(lo:Y.Lo)(mb pb b cap:Nat)(r:Y.RSt)(ps:List Y.PS)(fin s:Nat)(EN LV:Nat->List Y.PA)(hP:Y.gN w lo pb b cap ps fin EN LV)(h:Y.MT w lo mb pb r)(hs:s<4294967296)(V9:∀i∈Y.els s,i<ps.length)(Yb:r.q.length<=4397000000000):
  () 157 #[mb,.int .u32 s] w fun e w'=>e=.returned (.tuple #[])/\Y.MT w' lo mb pb (Y.fi LV r (Y.els s).reverse)/\Y.Rf lo w w':=by
 refine(P8 (n:=8)).1 ?_;have U8:=h.lo';refine Qv func157 rfl trivial ?_ rfl;simp only[ntmps157,List.size_toArray,List.length_cons,List.length_nil,Nat.reduceAdd,Nat.reduceSub,Array.replicate_succ,Array.replicate_zero,List.push_toArray,List.append_toArray,List.nil_append,List.cons_append];gi_wp2_with(refine⟨trivial,?_⟩;gi_at_call 205;refine(P8.2 (o6 s _)).mono ?_;rintro e w9 ⟨rfl,U1⟩;rw[U1];clear U1 w9);have b0:=(P9 w 100 mb).alloc (.cells #[.int .u32 s] 167);have b1:=P9 (w.alloc (.cells #[mb] 100)) 167 (.int .u32 s);simp only[World.size_alloc]at b1;have VG:Below w w ((w.alloc (.cells #[mb] 100)).alloc (.cells #[.int .u32 s] 167)):=((Pq _ w).alloc (Po _) _).alloc zad _;have Y2:((w.alloc (.cells #[mb] 100)).alloc (.cells #[.int .u32 s] 167)).heap.size=w.heap.size+2:=zad;generalize(w.alloc (.cells #[mb] 100)).alloc (.cells #[.int .u32 s] 167)=W0 at *;have h0:=h.below hP.lw VG;have Vc:=hP.lw;have hlen:=hP.bJ.len;have hnty:¬Y.dc 100:=zaO;refine Le zaa (w.heap.size+1) s hs rfl zaa b1.cell rfl
  (fun pre V=>Y.MT V lo mb pb (Y.fi LV r (Y.bn pre))/\Boxed V w 100 mb/\Y.Rf lo w V) (fun _ _ _=>False)
  (Qi (fun pre A C row h hg hr=>h.gr Vc hg (fun r e=>⟨zas,(hr r e).2⟩)) (Qi (QU (QM _ _ _) _) (fun pre A C row h hg hr=>h.gr U8 hg (fun r e=>⟨zas,(hr r e).2⟩))))
  (fun _ _ _ _ _ hs _ _=>hs) ⟨h0,b0,Y.RfE.of VG U8⟩
  (fun x a' _=>a'={ tmps:=#[.pointer (some ⟨mb,0,none⟩),.int .u32 s,.pointer (some ⟨w.heap.size,0,none⟩),undef,.int .i64 x.1,.int .u32 s,.func (.func 243) #[] #[.pointer (some ⟨w.heap.size+1,0,none⟩)],.int .i64 x.1,undef,undef,undef,undef,undef,undef,undef,undef,undef,undef,undef,undef,undef,undef,undef,undef,undef,undef,undef,undef,undef,undef],defers:=[] }) (fun _ _ _ _ _ _ hs _ _=>hs) ?assign ?body ?done ?stop
 case assign=>
  intro l pre x V K hI hK;exact zfg
 case body=>
  rintro l pre x a' V hl ⟨rl,Xv⟩ ⟨hM,hb,hR⟩ rfl VI;have hi:=V9 x.1 x.2;have XB:=(Y.pK.1 x.2).1;obtain⟨p,hp⟩:∃p,ps[x.1]?=some p:=⟨_,Pp hi⟩;have ZI:=Y.pD hP (Y.bn pre) r (fun i hi=>V9 i (by
   rw[Y.cU]at hi;obtain⟨y,_,rfl⟩:=P0.1 hi;exact y.2))
  have YL:(Y.bn pre).length=pre.length:=by rw[Y.cU,PE]
  rw[YL]at ZI;obtain⟨R0,Xw⟩:∃R0,Y.fi LV r (Y.bn pre)=R0:=⟨_,rfl⟩;have HSN:Hid (Y.fi LV r (Y.bn (pre++[x]))=Y.vw LV R0 x.1):=by
   unfold Hid;rw[Y.eu,Y.A8,Xw]
  rw[Xw]at hM ZI;clear Xw;have ZJ:=hP.below hR.bel;obtain⟨m0,m1,mf⟩:=hM.c0;have VL:=(Pq V V).drew;have hlV:=hM.lo';have q0:V.drew.cell? w=_:=hb.cell;have qm:V.drew.cell? mb=_:=m0;have qr:V.drew.cell? pb=_:=ZJ.bJ.row;have q9:V.drew.cell? (b,x.1*10+9)=some p.leave.v:=(ZJ.bJ.at' x.1 p hp).c9;have XT:=CN V.drew lo mb pb R0 p.leave (LV x.1) Vc (hM.below Vc VL) ((ZJ.lv x.1 p hp).below (VL.mono hlV)) zaa;have hda:=Y.yp (LV x.1) R0;have XE:=hM.act;have h2:=gZ XB;have hxi:((x.1:Int)<(ps.length:Int)):=zaa;have ZG:1<=8-1-1:=zaa;unfold U.Sl.v at q9 XT;have HE:Hid (Y.vw LV R0 x.1={ Y.doL R0 (LV x.1) with act:=(Y.doL R0 (LV x.1)).act&&&(4294967295-2 ^ x.1) }):=rfl;obtain⟨R2,hR2⟩:∃R2,Y.doL R0 (LV x.1)=R2:=⟨_,rfl⟩;rw[hR2]at XT HE hda;have hact2:R2.act<4294967296:=by rw[hda];exact XE
  clear hR2 hda;have hand:=Uo R2.act (2 ^ x.1) hact2 h2;have handl:R2.act&&&(4294967295-2 ^ x.1)<4294967296:=Qq Rh hact2;obtain⟨A1,hA1⟩:∃A1,R2.act&&&(4294967295-2 ^ x.1)=A1:=⟨_,rfl⟩;rw[hA1]at hand handl HE;rw[<- j8]at hand;clear hA1;have XU:Hid (∀w2,Y.MT w2 lo mb pb R2->Y.Rf lo V.drew w2->w2.drew.cell? w=some ↑mb/\w2.drew.cell? ⟨mb,1,none⟩=some (.int .u32 R2.act)/\w2.drew.frozen? ⟨mb,1,none⟩=false/\KeepsFrom W0.heap.size V (w2.drew.setCell ⟨mb,1,none⟩ (.int .u32 A1))/\True/\Y.MT (w2.drew.setCell ⟨mb,1,none⟩ (.int .u32 A1)) lo mb pb (Y.fi LV r (Y.bn (pre++[x])))/\Boxed (w2.drew.setCell ⟨mb,1,none⟩ (.int .u32 A1)) w.heap.size 100 mb/\Y.Rf lo w (w2.drew.setCell ⟨mb,1,none⟩ (.int .u32 A1))):=fun w2 Ws hR2=>by
   have ZK:Y.Rf lo V w2:=(Y.RfE.of VL hlV).trans hR2;have V6:=(Pq w2 w2).drew;have hM2d:=Ws.below Vc V6;obtain⟨_,c1,cf⟩:=hM2d.c0;obtain⟨Wt,YC⟩:=hM2d.Km Vc A1 handl;have hRV3:=ZK.trans ((Y.RfE.of V6 Ws.lo').trans YC);exact⟨(Kd.boxed ZK.kd hb hnty:Boxed w2 _ _ _).cell,c1,cf 1,hRV3.oth.from _,trivial,by rw[HSN.out,HE.out];exact Wt,Kd.boxed hRV3.kd hb hnty,hR.trans hRV3⟩
  clear hM hb ZJ hR m0 m1 mf;gi_wp2;refine bc (dP l) 12 zab zab zab ?_;simp only[List.take_succ_cons,List.take_zero,List.drop_succ_cons,List.drop_zero]
  repeat still_step
  refine QY ?_;gi_wp2_with(refine⟨trivial,?_⟩;gi_at_call 102;refine(aI XT).mono ?_;intro e w2 h8;obtain⟨rfl,h8,g8⟩:=h8;obtain⟨f0,f1,f2,f3⟩:=XU.out w2 h8 g8;have F3:Hid _:=f3;clear h8 g8 f3);have Wc:=jf x.1 w2.drew XB;refine bc (dP l) 9 zab zab zab ?_;simp only[List.take_succ_cons,List.take_zero,List.drop_succ_cons,List.drop_zero]
  iterate 5 still_step
  still_call Wc
  iterate 3 still_step
  refine QY ?_;gi_wp2;exact F3.out
 case done=>
  exact zdb
 case stop=>
  exact zfl
