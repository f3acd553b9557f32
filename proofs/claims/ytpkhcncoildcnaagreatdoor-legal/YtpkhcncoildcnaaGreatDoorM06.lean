import Derived.Test.YtpkhcncoildcnaaGreatDoorM05
set_option maxRecDepth 100000
set_option maxHeartbeats 8000000
namespace Go.Proofs.YtpkhcncoildcnaaGreatDoor
variable {zp:Prop}
theorem zdv(h:zp:=by
 rintro D ys V hD VA ⟨hM,_,hR⟩ T7;rw[VA]at hM;gi_wp2;refine⟨zad,.inl ⟨_,_,rfl,Pj T7,?_⟩⟩;exact⟨_,Pu rfl _ _ _,rfl,hM.gr TW (Qa V D _) (fun r e=>zaJ),hR.gr TT (Qa V D _) (fun r e=>zaJ)⟩):zp:=h
theorem zet(h:zp:=by
 go_roundw
 case rel=>exact⟨k+1,zad,zaa,H8⟩
 case measure=>simp only[intOf];omega):zp:=h
theorem zeG(h:zp:=by
 intro l pre x V K hI hK;gi_wp2;exact hK _ _ (PK _ _) (fun h=>h) hI rfl):zp:=h
theorem zfb(h:zp:=by
 cases a<;>simp only[ir,jG]<;>(try split)<;>rfl):zp:=h
theorem zfz(h:zp:=by
 rintro D c pre V _ _ h _;exact h.elim):zp:=h
theorem zaJ(h:zp:=by cases e;exact⟨by omega,_,T7,rfl⟩):zp:=h
theorem zaO(h:zp:=by unfold Y.gq;decide):zp:=h
theorem zaP(h:zp:=by unfold Y.cR;decide):zp:=h
theorem zbu(h:zp:=by rw[HO.out];rfl):zp:=h
open Tryz
variable {nm0:()}{k r mb pb b cap fin:Nat}{R:Nat->List Y.Nd}{lo:Y.Lo}{W W' w:World}{ps:List Y.PS}
section
open Go.RowKit Go.Proofs Go.Shelf
attribute [local go_sem] Pp
namespace Y
def rk(nm0:())(k:Nat)(R:Nat->List Nd)(ys:List Nat):Nat->List Nd:=fun r=>if r∈ys.map (k*65+·) then bz nm0 (R r) else R r
def wdR(nm0:())(k:Nat)(R:Nat->List Nd):Nat->List Nd:=fun r=>if r / 65=k/\r<390 then bz nm0 (R r) else R r
theorem Ap(nm0:())(l:List Nd):bz nm0 (bz nm0 l)=bz nm0 l:=by unfold bz;rw[RT];simp
theorem Lt(nm0:())(k:Nat)(R:Nat->List Nd)(ys:List Nat)(x q:Nat):rk nm0 k R (ys++[x]) q=upd (rk nm0 k R ys) (k*65+x) (bz nm0 (rk nm0 k R ys (k*65+x))) q:=by
 by_cases e:q=k*65+x
 ·subst e;rw[aD];unfold rk;rw[OD zad];split
  ·rw[Ap]
  ·rfl
 ·rw[aG _ _ e];unfold rk;have:(q∈(ys++[x]).map (k*65+·))↔q∈ys.map (k*65+·):=by
   rw[Pk,OT];simp[e]
  simp only[this]
theorem Ls{h:Nat}(hk:k<6)(hh:∀j,j<64->h.testBit j=!(R (k*65+j)).isEmpty)(hr:isR r):wdR nm0 k R r=rk nm0 k R (eX h) r:=by
 unfold wdR rk;by_cases e:r / 65=k/\r<390
 ·rw[OD e];have hm:r % 65≠64:=by rcases hr with⟨_,h⟩|h<;>omega
  have hrr:r=k*65+r % 65:=zaa;by_cases hb:h.testBit (r % 65)=true
  ·rw[OD (O7.2 ⟨r % 65,fZ.2 ⟨zaa,hb⟩,hrr.symm⟩)]
  ·have TP:(R r).isEmpty=true:=by
    have:=hh (r % 65) zaa;rw[<- hrr]at this;rw[this]at hb;simpa using hb
   have Ug:R r=[]:=by simpa using TP
   rw[Ug];split<;>rfl
 ·rw[OB e,OB (fun hm=>e ?_)];obtain⟨j,hj,rfl⟩:=O7.1 hm;have:=(fZ.1 hj).1;omega
end Y
theorem Gn(w:World)(lo:Y.Lo)(mb pb:Nat)(qv:Value)(s:Y.MSt)(R:Nat->List Y.Nd)(k Nb:Nat)(nm0:())(hk:k<6)(TV:lo<=w.heap.size)(hM:Y.au w lo mb pb qv s)(hW:Y.WhM w lo s R)(hN:Boxed w Nb 9 (.string nm0))(hg:3<lo.n)(hG:TabAt 3 Lib.deBruijn64tab w):
  () 373 #[(mb,28+k*65),.func (.func 371) #[] #[Nb]] w fun e w'=>e=.returned (.tuple #[])/\Y.MW w lo mb pb qv s (Y.wdR nm0 k R) w':=by
 refine(O3 (n:=7)).1 ?_;obtain⟨h,h1,h2,h3⟩:=hW.held k hk;have Vd:=hM.lt;refine Pq func373 rfl trivial ?_ rfl;simp only[ntmps373,List.size_toArray,List.length_cons,List.length_nil,Nat.reduceAdd,Nat.reduceSub,Array.replicate_succ,Array.replicate_zero,List.push_toArray,List.append_toArray,List.nil_append,List.cons_append];gi_wp2_with(refine⟨trivial,?_⟩;gi_at_call 206;refine(O3.2 (nx mb (28+k*65) _)).mono ?_;rintro e w9 ⟨rfl,Pg⟩;rw[Pg];clear Pg w9);have B0:Below w w (((w.alloc (.cells #[(mb,28+k*65)] 331)).alloc (.cells #[.func (.func 371) #[] #[Nb]] 210)).alloc (.cells #[(mb,28+k*65)] 331)):=(((Oy _ w).alloc (Ow _) _).alloc zad _).alloc zae _;have x0:Boxed (((w.alloc (.cells #[(mb,28+k*65)] 331)).alloc (.cells #[.func (.func 371) #[] #[Nb]] 210)).alloc (.cells #[(mb,28+k*65)] 331)) w.heap.size 331 (mb,28+k*65):=((O4 w _ _).alloc _).alloc _;have x1:Boxed (((w.alloc (.cells #[(mb,28+k*65)] 331)).alloc (.cells #[.func (.func 371) #[] #[Nb]] 210)).alloc (.cells #[(mb,28+k*65)] 331)) (w.heap.size+1) 210 (.func (.func 371) #[] #[Nb]):=by
  have:=(O4 (w.alloc (.cells #[(.pointer (some ⟨mb,28+k*65,none⟩))] 331)) 210 (.func (.func 371) #[] #[Nb])).alloc (.cells #[(.pointer (some ⟨mb,28+k*65,none⟩))] 331);rw[Py]at this;exact this
 have x2:Boxed (((w.alloc (.cells #[(mb,28+k*65)] 331)).alloc (.cells #[.func (.func 371) #[] #[Nb]] 210)).alloc (.cells #[(mb,28+k*65)] 331)) (w.heap.size+1+1) 331 (mb,28+k*65):=by
  have:=O4 ((w.alloc (.cells #[(.pointer (some ⟨mb,28+k*65,none⟩))] 331)).alloc (.cells #[(.func (.func 371) #[] #[Nb])] 210)) 331 (mb,28+k*65);rw[Py,Py]at this;exact this
 have XR:(((w.alloc (.cells #[(mb,28+k*65)] 331)).alloc (.cells #[.func (.func 371) #[] #[Nb]] 210)).alloc (.cells #[(mb,28+k*65)] 331)).heap.size=w.heap.size+3:=zad;generalize(((w.alloc (.cells #[(mb,28+k*65)] 331)).alloc (.cells #[.func (.func 371) #[] #[Nb]] 210)).alloc (.cells #[(mb,28+k*65)] 331))=W0 at *;have hMW0:Y.MW w lo mb pb qv s (Y.rk nm0 k R []) W0:=Y.MW.below (Y.MW.congr ⟨s.wh,hM,hW,Y.RfE.refl _ _⟩ (fun r _=>rfl)) TV B0;have xN:=aB hN B0 hN.lt;have hG0:TabAt 3 Lib.deBruijn64tab W0:=fun j hj=>(B0.cell (p:=⟨3,j,none⟩) (OS hg TV)).trans (hG j hj);have hh0:W0.cell? (mb,28+k*65+64)=some (.int .u64 h):=(B0.cell (p:=(mb,28+k*65+64)) Vd).trans (by rw[PJ];exact(hM.whc _ zaa zaa).trans (congrArg some h2));refine RE rfl zaa (gf:=236) rfl trivial (QN func236 zab rfl)
  (sI 6 zaa (w.heap.size+1+1) mb (28+k*65) h h1 (fun A C=>TabAt 3 Lib.deBruijn64tab A->TabAt 3 Lib.deBruijn64tab C) (fun _ _ h=>h) W0 zaa zaa zaa x2.cell hh0 hG0)
  (fun h k x=>k (h x)) (fun V l o o' hl h hc hw x j hj=>((QW (n₀:=W0.heap.size) (Ow _) V l o o' hl h hc hw).cell (p:=⟨3,j,none⟩) (show 3<W0.heap.size by omega)).trans (x j hj)) (Oy _ _) (fun _=>rfl)
  (fun ys V=>Y.MW w lo mb pb qv s (Y.rk nm0 k R (ys.map (·.1))) V/\((Boxed V w 331 (mb,28+k*65)/\Boxed V (w.heap.size+1) 210 (.func (.func 371) #[] #[Nb]))/\Boxed V Nb 9 (.string nm0))) (fun _ _ _=>False)
  (Pa (fun ys A C row h hg hr=>h.gr TV hg (fun r e=>⟨zas,(hr r e).2⟩)) (Pa (Pa (PY (PG _ _ _) _) (PY (PG _ _ _) _)) (PY (PG _ _ _) _)))
  (fun _ _ _ _ _ hs _ _=>hs) ⟨hMW0,⟨x0,x1⟩,xN⟩
  (fun x a' _=>a'={ tmps:=#[.pointer (some ⟨mb,28+k*65,none⟩),.func (.func 371) #[] #[.pointer (some ⟨Nb,0,none⟩)],.pointer (some ⟨w.heap.size,0,none⟩),.pointer (some ⟨w.heap.size+1,0,none⟩),.int .i64 x.1,.pointer (some ⟨mb,28+k*65,none⟩),.func (.func 236) #[] #[.pointer (some ⟨w.heap.size+1+1,0,none⟩)],.int .i64 x.1,undef,undef,undef,undef,undef,undef,undef,undef,undef,undef],defers:=[] }) (fun _ _ _ _ _ _ hs _ _=>hs) ?assign ?body ?done ?stop
 case assign=>
  exact zeG
 case body=>
  rintro l pre x a' V hl ⟨rl,V6⟩ ⟨hMW,⟨z0,z1⟩,zN⟩ rfl Uo;obtain⟨ZV,hxb⟩:=Y.fZ.1 x.2;have XI:Y.isR (k*65+x.1):=.inl zaa;have q0:V.drew.cell? w=_:=z0.cell;have q1:V.drew.cell? ↑(w.heap.size+1)=_:=z1.cell;have UB:=(Oy V V).drew;have hdr:=vY V.drew w lo mb pb qv s _ (k*65+x.1) Nb nm0 XI TV (hMW.below TV UB) zN;rw[<- PJ]at hdr;have hx64':((x.1:Int)<64):=zaa;have ZX:1<=7-1-1:=zaa;have HMK:Hid (∀w1,(∃wh0 wh',Y.kB wh0 (Y.rk nm0 k R (pre.map (·.1)))/\Y.au w1 lo mb pb qv { s with wh:=wh' }/\Y.dh w1 lo wh' (Y.upd (Y.rk nm0 k R (pre.map (·.1))) (k*65+x.1) (Y.bz nm0 (Y.rk nm0 k R (pre.map (·.1)) (k*65+x.1))))/\(∀k,k<6->wh' (28+(k*65+64))=wh0 (28+(k*65+64)))/\Y.Rw lo w w1/\Y.Rw lo V.drew w1) ->
    w1.cell? w=some ↑(mb,28+k*65)/\() 163 #[(.pointer (some ⟨mb,28+k*65,none⟩)),(x.1:Int)] w1 fun e w'=>e=.returned (.tuple #[])/\KeepsFrom W0.heap.size V w'/\(TabAt 3 Lib.deBruijn64tab V->TabAt 3 Lib.deBruijn64tab w')/\Y.MW w lo mb pb qv s (Y.rk nm0 k R ((pre++[x]).map (·.1))) w'/\((Boxed w' w 331 (mb,28+k*65)/\Boxed w' (w.heap.size+1) 210 (.func (.func 371) #[] #[Nb]))/\Boxed w' Nb 9 (.string nm0))):=fun w1 Ul=>by
   obtain⟨wh0,wh',e1,e2,e3,e4,e5,e6⟩:=Ul;have YD:lo<=V.drew.heap.size:=Ox TV (by obtain⟨_,_,_,hc⟩:=hMW;exact hc.bel.size);have hsz1:lo<=w1.heap.size:=Ox YD e6.bel.size;obtain⟨hq,g1,g2,g3⟩:=e1 k hk;have bx:∀(B:Nat) (t:TypeId) (v:Value),Boxed V B t v->¬Y.gq t->∀W,Y.Rw lo V.drew W->Boxed W B t v:=fun B t v hb ht W hW=>Kd.boxed hW.kd (A:=V.drew) hb ht;have nt1:¬Y.gq 331:=zaO;have nt2:¬Y.gq 210:=zaO;have nt3:¬Y.gq 9:=zaO;refine⟨(bx _ _ _ z0 nt1 w1 e6).cell,?_⟩;refine(tg w1 mb (28+k*65) x.1 _ hq ZV g1 (by rw[PJ];exact(e2.whc _ zaa zaa).trans (congrArg some (e3.ring _ XI))) (by rw[PJ];exact(e2.whc _ zaa zaa).trans (congrArg some ((e4 k hk).trans g2))) (e2.frozen _)).mono ?_;rintro e w' ⟨rfl,rfl⟩;rw[Y.aD];obtain⟨m1,m2,m3⟩:=e3.mark e2 k hk (.int .u64 (Y.iJ hq x.1 (Y.bz nm0 (Y.rk nm0 k R (pre.map (·.1)) (k*65+x.1))).isEmpty)) hsz1;have mr:=Y.K9 e2 hsz1 (28+k*65+64) (.int .u64 (Y.iJ hq x.1 (Y.bz nm0 (Y.rk nm0 k R (pre.map (·.1)) (k*65+x.1))).isEmpty));have mV:=e6.trans mr;refine⟨rfl,?_,fun hT j hj=>(mV.bel.cell (p:=⟨3,j,none⟩) hg).trans (hT j hj),⟨_,m1,?_,e5.trans mr⟩,⟨bx _ _ _ z0 nt1 _ mV,bx _ _ _ z1 nt2 _ mV⟩,bx _ _ _ zN nt3 _ mV⟩
   ·exact((Rr V).trans mV.oth).from _
   ·refine Y.WhM.congr (R:=Y.upd (Y.rk nm0 k R (pre.map (·.1))) (k*65+x.1) (Y.bz nm0 (Y.rk nm0 k R (pre.map (·.1)) (k*65+x.1)))) ⟨m2,fun k' UD=>?_⟩ (fun r _=>by rw[Pk];exact Y.Lt nm0 k R _ x.1 r);by_cases e:k'=k
    ·subst e;refine⟨_,Y.oQ g1 ZV,Y.aD _ _ _,fun j hj=>?_⟩;rw[Y.mQ ZV j hj];by_cases e:j=x.1
     ·subst e;rw[OD rfl,Y.aD]
     ·rw[OB e,Y.aG _ _ zaa];exact g3 j hj
    ·obtain⟨a,b1,b2,b3⟩:=e1 k' UD;refine⟨a,b1,?_,fun j hj=>?_⟩
     ·show Y.upd wh' _ _ _=_;rw[Y.aG _ _ zaa,e4 k' UD];exact b2
     ·rw[Y.aG _ _ zaa];exact b3 j hj
  gi_wp2;refine aW (dQ l) 6 zab zab zab ?_;simp only[List.take_succ_cons,List.take_zero,List.drop_succ_cons,List.drop_zero]
  repeat still_step
  refine P8 ?_;gi_wp2_with(first
   |(refine⟨trivial,?_⟩;gi_at_call 374;refine(aI hdr).mono ?_;intro e w1 h9;obtain⟨rfl,h9⟩:=h9;obtain⟨p0,pm⟩:=HMK.out w1 h9;have HPM:Hid _:=pm;clear h9 pm)
   |(refine⟨trivial,?_⟩;gi_at_call 163;refine(aI HPM.out).mono ?_;intro e w8 h8;obtain⟨rfl,h8⟩:=h8;have H8:Hid _:=h8;clear h8))
  exact H8.out
 case done=>
  rintro D ys V hD VA ⟨hMW,_⟩ T7;have hMW2:=hMW.congr (fun r hr=>(Y.Ls (nm0:=nm0) hk h3 hr).trans (congrArg (fun l=>Y.rk nm0 k R l r) VA.symm));gi_wp2;refine⟨zad,.inl ⟨_,_,rfl,Pj T7,?_⟩⟩;exact⟨_,Pu rfl _ _ _,rfl,hMW2.gr TV (Qa V D _) (fun r e=>zaJ)⟩
 case stop=>
  exact zfz
namespace Y
def dkR(nm0:())(k:Nat)(R:Nat->List Nd):Nat->List Nd:=fun r=>if r<k*65/\r<390 then bz nm0 (R r) else R r
theorem Ho(hr:isR r):dkR nm0 (k+1) R r=wdR nm0 k (dkR nm0 k R) r:=by
 unfold wdR dkR;by_cases h1:r<k*65/\r<390
 ·rw[OD h1,OD zaa,OB zaa]
 ·rw[OB h1];by_cases h2:r / 65=k/\r<390
  ·rw[OD h2,OD zaa]
  ·rw[OB h2,OB (by rcases hr with⟨a,b⟩|hr<;>omega)]
end Y
theorem Hr(w:World)(lo:Y.Lo)(mb pb:Nat)(qv:Value)(s:Y.MSt)(R:Nat->List Y.Nd)(Nb:Nat)(nm0:())(TV:lo<=w.heap.size)(hM:Y.au w lo mb pb qv s)(hW:Y.WhM w lo s R)(hN:Boxed w Nb 9 (.string nm0))(hg:3<lo.n)(hG:TabAt 3 Lib.deBruijn64tab w):
  () 370 #[(mb,27),.func (.func 371) #[] #[Nb]] w fun e w'=>e=.returned (.tuple #[])/\Y.MW w lo mb pb qv s (fun r=>Y.bz nm0 (R r)) w':=by
 have h0:Y.MW w lo mb pb qv s (Y.dkR nm0 0 R) w:=Y.MW.congr ⟨s.wh,hM,hW,Y.RfE.refl _ _⟩ (fun r _=>by unfold Y.dkR;rw[OB zaa]);have HN:Hid (∀V,Y.Rw lo w V->Boxed V Nb 9 (.string nm0)/\TabAt 3 Lib.deBruijn64tab V/\lo<=V.heap.size):=fun V hV=>⟨Kd.boxed hV.kd hN zaO,fun j hj=>(hV.bel.cell (p:=⟨3,j,none⟩) hg).trans (hG j hj),Ox TV hV.bel.size⟩;have HW:Hid (∀V k,k<6->Y.MW w lo mb pb qv s (Y.dkR nm0 k R) V->() 373 #[.pointer (some ⟨mb,28+k*65,none⟩),.func (.func 371) #[] #[Nb]] V fun e w'=>e=.returned (.tuple #[])/\Y.MW w lo mb pb qv s (Y.dkR nm0 (k+1) R) w'):=fun V k hk hV=>by
  obtain⟨wh',a,b,c⟩:=hV;obtain⟨n1,n2,n3⟩:=HN.out V c;refine(Gn V lo mb pb qv _ _ k Nb nm0 hk n3 a b n1 hg n2).mono ?_;rintro e w' ⟨rfl,wh2,a2,b2,c2⟩;exact⟨rfl,Y.MW.congr ⟨wh2,a2,b2,c.trans c2⟩ (fun r hr=>Y.Ho hr)⟩
 have HO:Hid (∀V,Y.MW w lo mb pb qv s (Y.dkR nm0 6 R) V->() 374 #[(mb,418),.func (.func 371) #[] #[Nb]] V fun e w'=>e=.returned (.tuple #[])/\Y.MW w lo mb pb qv s (fun r=>Y.bz nm0 (R r)) w'):=fun V hV=>by
  have hc:Y.Rw lo w V:=by obtain⟨_,_,_,c⟩:=hV;exact c
  obtain⟨n1,n2,n3⟩:=HN.out V hc;refine(vY V w lo mb pb qv s _ 390 Nb nm0 (.inr rfl) TV hV n1).mono ?_;rintro e w' ⟨rfl,wh0,wh',e1,e2,e3,e4,e5,e6⟩;refine⟨rfl,Y.MW.congr (R:=Y.upd (Y.dkR nm0 6 R) 390 (Y.bz nm0 (Y.dkR nm0 6 R 390))) ⟨wh',e2,⟨e3,fun k hk=>?_⟩,e5⟩ (fun r hr=>?_)⟩
  ·obtain⟨h,h1,h2,h3⟩:=e1 k hk;exact⟨h,h1,(e4 k hk).trans h2,fun j hj=>by rw[Y.aG _ _ zaa];exact h3 j hj⟩
  ·by_cases e:r=390
   ·subst e;rw[Y.aD];unfold Y.dkR;rw[OB zaa]
   ·rw[Y.aG _ _ e];unfold Y.dkR;rw[OD (by rcases hr with⟨a,b⟩|hr<;>omega)]
 clear hM hW hN hG;go_enter func370,ntmps370;go_wp2
 go_loopw[5] (fun v wr=>∃k:Nat,v=.int .i64 k/\k<=6/\Y.MW w lo mb pb qv s (Y.dkR nm0 k R) wr) (fun v _=>6-(intOf v).toNat)
 case atStart=>exact⟨0,rfl,zaa,h0⟩
 case round=>
  obtain⟨k,rfl,Zs,hk⟩:=hrel;have HK:Hid _:=hk;clear hk h0;by_cases e:k=6
  ·subst e;go_wp2_with(go_at_call 374;refine(HO.out _ HK.out).mono ?_;intro e w9 h9;obtain⟨rfl,h9⟩:=h9;have H9:Hid _:=h9;clear h9);go_end0;exact⟨rfl,H9.out⟩
  ·have VG:k<6:=zaa;have hk5':((k:Int)<6):=zaa;go_wp2_with(go_at_call 373;refine(HW.out _ k VG HK.out).mono ?_;intro e w9 h9;obtain⟨rfl,h9⟩:=h9;have H9:Hid _:=h9;clear h9)
   go_roundw
   case rel=>exact⟨k+1,zad,zaa,H9.out⟩
   case measure=>simp only[intOf];omega
theorem FE(nm0:())(l:List Y.Nd):(Y.bz nm0 l).map (·.2)=(l.map (·.2)).filter (fun t=>!(t.nm.toList == nm0.toList)):=by
 unfold Y.bz;rw[Su];rfl
theorem BV(w:World)(lo:Y.Lo)(mb pb:Nat)(qv:Value)(s:Y.MSt)(T:List Y.Tn)(nm0:())(TV:lo<=w.heap.size)(hM:Y.au w lo mb pb qv s)(hT:Y.fR w lo s T)(hg:3<lo.n)(hG:TabAt 3 Lib.deBruijn64tab w):
  () 368 #[mb,nm0] w fun e w'=>e=.returned (.tuple #[])/\∃wh',Y.au w' lo mb pb qv { s with wh:=wh' }/\Y.fR w' lo { s with wh:=wh' } (T.filter fun t=>!(t.nm.toList == nm0.toList))/\Y.Rf lo w w':=by
 have hb:Below w w (w.alloc (.cells #[nm0] 9)):=(Oy _ w).alloc (Ow _) _;have hD:() 370 #[(mb,27),.func (.func 371) #[] #[w]] (w.alloc (.cells #[nm0] 9)) fun e w'=>e=.returned (.tuple #[])/\∃wh',Y.au w' lo mb pb qv { s with wh:=wh' }/\Y.fR w' lo { s with wh:=wh' } (T.filter fun t=>!(t.nm.toList == nm0.toList))/\Y.Rf lo w w':=by
  obtain⟨R,hW,hF,hB⟩:=hT;refine(Hr _ lo mb pb qv s R w nm0 (Ox TV hb.size) (hM.below hb) ⟨hW.rgs.below hb,hW.held⟩ (O4 w _ _) hg (fun j hj=>(hb.cell (p:=⟨3,j,none⟩) (OS hg TV)).trans (hG j hj))).mono ?_;rintro e w' ⟨rfl,wh',a,b,c⟩;refine⟨rfl,wh',a,⟨_,b,fun r hr=>?_,fun t ht=>hB t (P3.1 ht).1⟩,(Y.RfE.of hb TV).trans (Y.wE c)⟩;rw[FE,hF r hr,RT,RT]
  congr 1
  funext t;exact Bool.and_comm _ _
 clear hM hT hG;go_enter func368,ntmps368;go_wp2_with(go_at_call 370;refine hD.mono ?_;intro e w9 h9;obtain⟨rfl,h9⟩:=h9;have H9:Hid _:=h9;clear h9);go_end0;exact⟨rfl,H9.out⟩
namespace Y
def zU(ps:List PS)(fin:Nat)(s:MSt)(i:Nat):MSt:=match ps[i]? with
 |none=>s
 |some p=>if p.owner == -1 then{ s with fin:=fj 5 } else match ps[p.owner.toNat]? with
  |none=>s
  |some q=>if q.owner == -1 then{ s with q:=s.q++[q.done] } else match ps[q.owner.toNat]? with
   |none=>{ s with q:=s.q++[q.done] }
   |some r=>if r.kind == 1&&atEnd ps fin s.act ps.length q.owner.toNat then{ s with q:=s.q++[q.done]++[r.done] } else{ s with q:=s.q++[q.done] }
end Y
theorem Ch(w:World)(lo:Y.Lo)(mb pb b cap:Nat)(qv:Value)(s:Y.MSt)(ps:List Y.PS)(fin i:Nat)(p:Y.PS)(hM:Y.au w lo mb pb qv s)(TT:lo<=w.heap.size)(hP:Y.cd w pb b cap ps)(T8:pb<lo)(hb:b<lo)(Z0:w.cell? (pb,2)=some (.int .u32 fin))(hfl:fin<4294967296)(Wj:s.act<4294967296)(UZ:ps[i]?=some p)
  (how:∀(i:Nat) (p:Y.PS),ps[i]?=some p->p.owner=-1\/∃o:Nat,p.owner=o/\o<i) (ZE:∀(i:Nat) (p:Y.PS),ps[i]?=some p->∀j∈Y.els p.parts,i<j/\j<ps.length) (hg:1<lo.n) (hT:TabAt 1 Lib.deBruijn32tab w) (WJ:s.q.length<=4398046511000):
  () 101 #[mb,(b,i*10)] w fun e w'=>e=.returned (.tuple #[])/\∃qv',Y.au w' lo mb pb qv' (Y.zU ps fin s i)/\Y.Rq lo w w':=by
 have hlen:=hP.len;have Vm:i<ps.length:=(Oz.1 UZ).1;have hi3:=(hP.at' i p UZ).c3;obtain⟨sz,T6⟩:∃sz,Y.zU ps fin s i=sz:=⟨_,rfl⟩;rw[T6];have HSZ:Hid (Y.zU ps fin s i=sz):=T6;clear T6
 rcases how i p UZ with ho|⟨o,ho,hoi⟩
 ·have c9:w.cell? (mb,419)=some s.fin:=hM.cell 419 zac;have f9:=hM.frozen 419;have hS:sz={ s with fin:=Y.fj 5 }:=by rw[<- HSZ.out];unfold Y.zU;rw[UZ];dsimp only;rw[ho];rfl
  have U7:Y.au (w.setCell (mb,419) (.iface 31 (.int .i64 5))) lo mb pb qv sz:=by
   rw[hS];refine hM.set 419 _ _ zac rfl (fun j hj=>?_);by_cases e:j=419
   ·subst e;rfl
   ·rw[OB e];have hj:j<419:=zaa;simp[Y.fw,hj]
  have U4:Y.Rq lo w (w.setCell (mb,419) (.iface 31 (.int .i64 5))):=Y.RfE.mo (P:=(·=mb)) ((Mo.refl (·=mb) w).set ⟨mb,419,none⟩ _ rfl) (fun k hk=>by
   obtain⟨arr,a1,_⟩:=hM.blk;subst hk;exact⟨hM.lo',arr,_,_,a1,.inl rfl⟩) TT
  rw[ho]at hi3;clear hS ho HSZ hM;go_enter func101,ntmps101;go_wp2;refine Qb (Pu rfl _ _ _) rfl ?_;exact⟨rfl,_,U7,U4⟩
 ·have Xx:o<ps.length:=zaa;obtain⟨q,hq⟩:∃q,ps[o]?=some q:=⟨_,Ou Xx⟩;have Zp:w.cell? mb=some ↑pb:=hM.cell 0 zac;rw[ho]at hi3;have VC:((o:Int) == -1)=false:=zad;have hqd:=(hP.at' o q hq).c2;have UB:=(Oy w w).drew;have XS:=qi w.drew lo mb pb qv s q.done (hM.below UB) TT zaa;have Xm:Y.Rq lo w w.drew:=Y.RfE.of UB TT;have HO:Hid (p.owner=o):=ho;clear ho;go_enter func101,ntmps101
  go_upto_region 2 with fail
  refine OQ (S:=(fun V=>V.cell? mb=some ↑pb/\V.cell? pb=some (.slice b ps.length cap)/\V.cell? (b,i*10+3)=some ↑(o:Int))) zab ⟨Zp,hP.row,hi3⟩ (fun u0=>?_);refine tD (some 15) 0 mb rfl u0 ?_;refine tD (some 16) 1 mb rfl u0 ?_;refine tD (some 17) 2 mb rfl u0 ?_;refine tD (some 18) 3 pb rfl u0 ?_;refine tD (some 19) 4 pb rfl u0 ?_;refine tD (some 20) 5 pb rfl u0 ?_;refine tD (some 21) 6 (.slice b ps.length cap) rfl u0 ?_;refine tD (some 22) 7 (b,i*10) rfl u0 ?_;refine tD (some 23) 8 (b,i*10) rfl u0 ?_;refine tD (some 24) 9 (b,i*10+3) rfl u0 ?_;refine tD (some 25) 10 (.int .i64 o) rfl u0 ?_;refine tD (some 26) 11 (b,o*10) rfl u0 ?_;refine tD (some 4) 12 (b,o*10) rfl u0 ?_;refine OY zab ?_ _;have hqd:w.drew.cell? (b,o*10+2)=_:=hqd
  go_upto_region 4 with(go_at_call 71;refine XS.mono ?_;intro e w3 h3;obtain⟨rfl,qv3,Vi,Xn⟩:=h3)
  clear u0;have hR13:=Xm.trans Xn;have hP3:=hP.below hR13.bel T8 hb;have Xu:=(hP3.at' o q hq).c3;have Wo:p.owner.toNat=o:=zbu;have Z1:(p.owner == -1)=false:=by rw[HO.out];simp
  rcases how o q hq with hu|⟨u,hu,huo⟩
  ·have hS:sz={ s with q:=s.q++[q.done] }:=by rw[<- HSZ.out];unfold Y.zU;rw[UZ];dsimp only;rw[OB (by rw[Z1];decide),Wo,hq];dsimp only;rw[hu];rfl
   have HM3:Hid (Y.au w3 lo mb pb qv3 sz):=by rw[hS];exact Vi
   rw[hu]at Xu;clear hS Wo Z1 hu Vi;go_wp2;refine Qb (Pu rfl _ _ _) rfl ?_;exact⟨rfl,_,HM3.out,hR13⟩
  ·have hul:u<ps.length:=zaa;obtain⟨r,hr⟩:∃r,ps[u]?=some r:=⟨_,Ou hul⟩;have hS:sz=if r.kind == 1&&Y.atEnd ps fin s.act ps.length u then{ s with q:=s.q++[q.done]++[r.done] } else{ s with q:=s.q++[q.done] }:=by
    rw[<- HSZ.out];unfold Y.zU;rw[UZ];dsimp only;rw[OB (by rw[Z1];decide),Wo,hq];dsimp only;rw[hu,OB zad];simp only[Int.toNat_natCast,hr]
   have HS:Hid _:=hS;rw[hu]at Xu;have hun:((u:Int) == -1)=false:=zad;have Zp:w3.cell? mb=some ↑pb:=Vi.cell 0 zac;have HU:Hid (q.owner=u):=hu;clear hS Wo Z1 hu
   go_upto_region 5 with fail
   refine OQ (S:=(fun V=>V.cell? mb=some ↑pb/\V.cell? pb=some (.slice b ps.length cap)/\V.cell? (b,o*10+3)=some ↑(u:Int))) zab ⟨Zp,hP3.row,Xu⟩ (fun u0=>?_);refine tD (some 38) 0 mb rfl u0 ?_;refine tD (some 39) 1 mb rfl u0 ?_;refine tD (some 40) 2 mb rfl u0 ?_;refine tD (some 41) 3 pb rfl u0 ?_;refine tD (some 42) 4 pb rfl u0 ?_;refine tD (some 43) 5 pb rfl u0 ?_;refine tD (some 44) 6 (.slice b ps.length cap) rfl u0 ?_;refine tD (some 45) 7 (b,o*10) rfl u0 ?_;refine tD (some 46) 8 (b,o*10) rfl u0 ?_;refine tD (some 47) 9 (b,o*10+3) rfl u0 ?_;refine tD (some 48) 10 (.int .i64 u) rfl u0 ?_;refine tD (some 49) 11 (b,u*10) rfl u0 ?_;refine tD (some 5) 12 (b,u*10) rfl u0 ?_;refine OY zab ?_ _;clear u0;simp only[Act.put,List.setIfInBounds_toArray,List.set_cons_succ,List.set_cons_zero];have Y8:Y.Rq lo w w3.drew:=hR13.trans (Y.RfE.of (Oy w3 w3).drew (Ox TT hR13.bel.size));have XX:=Vi.below (Oy w3 w3).drew;obtain⟨w4,Zt⟩:∃W,w3.drew=W:=⟨_,rfl⟩;rw[Zt]at Y8 XX⊢;clear Zt Vi Zp Xu hP3;have hs4:=Y8.bel.size;have V4:=hP.below Y8.bel T8 hb;have Zp:w4.cell? mb=some ↑pb:=XX.cell 0 zac;have hm1:w4.cell? (mb,1)=some (.int .u32 s.act):=XX.cell 1 zac;have Xu:w4.cell? (b,o*10+3)=some ↑(u:Int):=by have:=(V4.at' o q hq).c3;rw[HU.out]at this;exact this
   have hu0:=(V4.at' u r hr).c0;have hf4:=(Y8.bel.cell (p:=⟨pb,2,none⟩) T8).trans Z0;have hT4:TabAt 1 Lib.deBruijn32tab w4:=Y.KpT.of Y8.bel hg hT;have hae:=ES pb b cap ps fin s.act hfl Wj ZE ps.length u r w4.drew zaa hr hf4 (V4.below ((Oy w4 w4).drew) zaa zaa) (by show pb<w4.heap.size;omega) (by show b<w4.heap.size;omega) (by show _<w4.heap.size;omega) hT4;obtain⟨ae,hae0⟩:∃ae,Y.atEnd ps fin s.act ps.length u=ae:=⟨_,rfl⟩;obtain⟨bv,hbv⟩:∃bv,(r.kind == 1&&ae)=bv:=⟨_,rfl⟩;have HS:Hid (sz=if bv then{ s with q:=s.q++[q.done]++[r.done] } else{ s with q:=s.q++[q.done] }):=by have:=HS.out;rw[hae0,hbv]at this;exact this
   rw[hae0]at hae;have HBV:Hid _:=hbv;clear hae0 hbv
   go_upto_region 6 with fail
   go_cut[69] from 50 (fun c V=>c=.bool bv/\Below w4 w4 V)
   case first=>
    rename_i J hJ;by_cases hk:r.kind=1
    ·have hk1:(r.kind == 1)=true:=za9;have HB:Hid (bv=ae):=by have:=HBV.out;rw[hk1,Rn]at this;exact this.symm
     clear hk HS HBV;have VY:mb<w4.drew.heap.size:=XX.lt;have UE:b<w4.drew.heap.size:=by show b<w4.heap.size;omega
     have UF:∀V:World,Below w4.drew.heap.size w4.drew V->V.cell? mb=some ↑pb/\V.cell? ⟨mb,1,none⟩=some (.int .u32 s.act)/\V.cell? (b,o*10+3)=some ↑(u:Int)/\V.cell? (b,u*10)=some ↑(r.kind:Int):=fun V hB=>⟨(hB.cell (p:=mb) VY).trans Zp,(hB.cell (p:=⟨mb,1,none⟩) VY).trans hm1,(hB.cell (p:=(b,o*10+3)) UE).trans Xu,(hB.cell (p:=(b,u*10)) UE).trans hu0⟩;refine OQ (S:=(fun V=>V.cell? mb=some ↑pb/\V.cell? ⟨mb,1,none⟩=some (.int .u32 s.act)/\V.cell? (b,o*10+3)=some ↑(u:Int)/\V.cell? (b,u*10)=some ↑(r.kind:Int))) zab ⟨Zp,hm1,Xu,hu0⟩ (fun u0=>?_);refine tD (some 50) 0 (b,u*10) rfl u0 ?_;refine tD (some 51) 1 (b,u*10) rfl u0 ?_;refine tD (some 52) 2 (b,u*10) rfl u0 ?_;refine tD (some 53) 3 (.int .i64 r.kind) rfl u0 ?_;refine tD (some 54) 4 (.bool true) rfl u0 ?_;refine tD (some 55) 5 (.bool true) rfl u0 ?_;refine eh (d:=some 56) (i:=6) (v:=(.pointer (some ⟨mb,0,none⟩))) rfl rfl zab zab zab (fun _ _ _ h=>h) (Or.inl ⟨zab,fun w UL=>zai⟩) u0 ?_;refine eh (d:=some 57) (i:=7) (v:=(.pointer (some ⟨mb,0,none⟩))) rfl rfl zab zab zab (fun _ _ _ h=>h) (Or.inl ⟨zab,fun w UL=>zai⟩) u0 ?_;refine eh (d:=some 58) (i:=8) (v:=(.pointer (some ⟨mb,0,none⟩))) rfl rfl zab zab zab (fun _ _ _ h=>h) (Or.inl ⟨zab,fun w UL=>zai⟩) u0 ?_;refine eh (d:=some 59) (i:=9) (v:=(.pointer (some ⟨pb,0,none⟩))) rfl rfl zab zab zab (fun _ _ _ h=>h) (Or.inl ⟨zab,fun w UL=>zai⟩) u0 ?_;refine eh (d:=some 60) (i:=10) (v:=(.pointer (some ⟨b,o*10,none⟩))) rfl rfl zab zab zab (fun _ _ _ h=>h) (Or.inl ⟨zab,fun w UL=>zai⟩) u0 ?_;refine eh (d:=some 61) (i:=11) (v:=(.pointer (some ⟨b,o*10,none⟩))) rfl rfl zab zab zab (fun _ _ _ h=>h) (Or.inl ⟨zab,fun w UL=>zai⟩) u0 ?_;refine eh (d:=some 62) (i:=12) (v:=(.pointer (some ⟨b,o*10+3,none⟩))) rfl rfl zab zab zab (fun _ _ _ h=>h) (Or.inl ⟨zab,fun w UL=>zai⟩) u0 ?_;refine eh (d:=some 63) (i:=13) (v:=(.int .i64 u)) rfl rfl zab zab zab (fun _ _ _ h=>h) (Or.inl ⟨zab,fun w UL=>zai⟩) u0 ?_;refine eh (d:=some 64) (i:=14) (v:=(.pointer (some ⟨mb,0,none⟩))) rfl rfl zab zab zab (fun _ _ _ h=>h) (Or.inl ⟨zab,fun w UL=>zai⟩) u0 ?_;refine eh (d:=some 65) (i:=15) (v:=(.pointer (some ⟨mb,0,none⟩))) rfl rfl zab zab zab (fun _ _ _ h=>h) (Or.inl ⟨zab,fun w UL=>zai⟩) u0 ?_;refine eh (d:=some 66) (i:=16) (v:=(.pointer (some ⟨mb,1,none⟩))) rfl rfl zab zab zab (fun _ _ _ h=>h) (Or.inl ⟨zab,fun w UL=>zai⟩) u0 ?_;refine eh (d:=some 67) (i:=17) (v:=(.int .u32 s.act)) rfl rfl zab zab zab (fun _ _ _ h=>h) (Or.inl ⟨zab,fun w UL=>zai⟩) u0 ?_;refine zH 18 rfl fun K hK=>?_;go_simp;refine hae.mono ?_;rintro e w9 ⟨rfl,UK⟩;refine hK.out _ _ (UF w9 UK) (fun u0=>?_);clear hK K;refine tD (some 69) 19 (.bool ae) rfl u0 ?_;refine OY zab ?_ _;clear u0 UF;simp only[Act.put,List.setIfInBounds_toArray,List.set_cons_succ,List.set_cons_zero];refine hJ _ _ ?_;go_meet
     case rel=>exact⟨by rw[HB.out],(Oy w4 w4).drew.trans UK⟩
    ·have hk1:(r.kind == 1)=false:=za5;have HB:Hid (bv=false):=by have:=HBV.out;rw[hk1,QR]at this;exact this.symm
     clear hk HS HBV hae XX Zp hm1 Xu V4 hf4 hT4;refine OQ (S:=(fun V=>V.cell? (b,u*10)=some ↑(r.kind:Int))) zab hu0 (fun u0=>?_);refine tD (some 50) 0 (b,u*10) rfl u0 ?_;refine tD (some 51) 1 (b,u*10) rfl u0 ?_;refine tD (some 52) 2 (b,u*10) rfl u0 ?_;refine tD (some 53) 3 (.int .i64 r.kind) rfl u0 ?_;refine tD (some 54) 4 (.bool false) rfl u0 ?_;refine tD (some 55) 5 (.bool false) rfl u0 ?_;refine tU (some 56) 6 rfl u0 ?_;refine tU (some 57) 7 rfl u0 ?_;refine tU (some 58) 8 rfl u0 ?_;refine tU (some 59) 9 rfl u0 ?_;refine tU (some 60) 10 rfl u0 ?_;refine tU (some 61) 11 rfl u0 ?_;refine tU (some 62) 12 rfl u0 ?_;refine tU (some 63) 13 rfl u0 ?_;refine tU (some 64) 14 rfl u0 ?_;refine tU (some 65) 15 rfl u0 ?_;refine tU (some 66) 16 rfl u0 ?_;refine tU (some 67) 17 rfl u0 ?_;refine tU (some 68) 18 rfl u0 ?_;refine tD (some 69) 19 (.bool false) rfl u0 ?_;refine OY zab ?_ _;clear u0;simp only[Act.put,List.setIfInBounds_toArray,List.set_cons_succ,List.set_cons_zero];refine hJ _ _ ?_;go_meet
     case rel=>exact⟨by rw[HB.out],(Oy w4 w4).drew⟩
   case rest=>
    obtain⟨rfl,hB49⟩:=hcut;clear hae HBV Zp hm1 Xu V4 hf4 hT4 hu0;obtain⟨w9,Pg⟩:∃W,wc=W:=⟨_,rfl⟩;rw[Pg]at hB49⊢;clear Pg wc;have U7:=XX.below hB49;have U4:Y.Rq lo w w9:=Y8.trans (Y.RfE.of hB49 zaa);have hs9:=hB49.size;have hu2:=((hP.below U4.bel T8 hb).at' u r hr).c2;cases bv
    ·have HM9:Hid (Y.au w9 lo mb pb qv3 sz):=by have:=HS.out;rw[OB zac]at this;rw[this];exact U7
     clear HS U7;go_wp2;go_end0;exact⟨rfl,_,HM9.out,U4⟩
    ·have HS1:Hid (sz={ s with q:=s.q++[q.done]++[r.done] }):=by have:=HS.out;rw[OD rfl]at this;exact this
     have hra2:=qi w9 lo mb pb qv3 { s with q:=s.q++[q.done] } r.done U7 zaa zae;dsimp only at hra2;rw[<- HS1.out]at hra2;clear HS U7;go_wp2_with(go_at_call 71;refine hra2.mono ?_;intro e w5 h5;obtain⟨rfl,qv5,hM5,hR5⟩:=h5);go_end0;exact⟨rfl,_,hM5,U4.trans hR5⟩
namespace Y
structure RSt where
 act:Nat
 kept:Nat->Nat
 q:List ()
 now:Nat
 tm:List Tn
 fin:Nat
def RSt.m(r:RSt)(wh:Nat->Value):MSt:=⟨r.act,r.kept,r.q,r.now,wh,fj r.fin⟩
structure MT(W:World)(lo:Y.Lo)(mb pb:Nat)(r:RSt):Prop where
 ex:∃qv wh,au W lo mb pb qv (r.m wh)/\fR W lo (r.m wh) r.tm
 lo':lo<=W.heap.size
 act:r.act<4294967296
 now:r.now<18446744073709551616
 tml:r.tm.length<=12
 tab:TabAt 3 Lib.deBruijn64tab W
 tab5:TabAt 1 Lib.deBruijn32tab W
structure Lw(lo:Nat):Prop where
 g:3<lo
 g5:1<lo
theorem gH{lo:Nat}(hl:Lw lo)(h:Below lo W W')(hT:TabAt 3 Lib.deBruijn64tab W):TabAt 3 Lib.deBruijn64tab W':=fun j hj=>(h.cell (p:=⟨3,j,none⟩) hl.g).trans (hT j hj)
theorem b8{lo:Nat}(hl:Lw lo)(h:Below lo W W')(hT:TabAt 1 Lib.deBruijn32tab W):TabAt 1 Lib.deBruijn32tab W':=fun j hj=>(h.cell (p:=⟨1,j,none⟩) hl.g5).trans (hT j hj)
theorem MT.rq{r r':RSt}{qv':Value}{wh:Nat->Value}(hl:Lw lo)(h:MT W lo mb pb r)(hT:fR W lo (r.m wh) r.tm)(hM:au W' lo mb pb qv' (r'.m wh))(hR:Rq lo W W')(h1:r'.tm=r.tm)(h2:r'.now=r.now)(h3:r'.act<4294967296):MT W' lo mb pb r':=
 ⟨⟨qv',wh,hM,by rw[h1];exact hT.rq hR rfl h2⟩,Ox h.lo' hR.bel.size,h3,by rw[h2];exact h.now,by rw[h1];exact h.tml,gH hl hR.bel h.tab,b8 hl hR.bel h.tab5⟩
theorem MT.below{r:RSt}(h:MT W lo mb pb r)(hl:Lw lo)(hb:Below W W W'):MT W' lo mb pb r:=by
 obtain⟨qv,wh,a,b⟩:=h.ex;have TT:=h.lo';exact⟨⟨qv,wh,a.below hb,b.below hb⟩,Ox TT hb.size,h.act,h.now,h.tml,gH hl (hb.mono TT) h.tab,b8 hl (hb.mono TT) h.tab5⟩
theorem MT.lt{r:RSt}(h:MT W lo mb pb r):mb<W.heap.size:=by
 obtain⟨qv,wh,a,b⟩:=h.ex;exact a.lt
def NB:():=⟨#[102,117,108,108]⟩
def jG(r:RSt)(ev nm:())(d:Nat):RSt:=if r.tm.length=12 then{ r with q:=r.q++[NB] } else{ r with tm:=r.tm++[⟨atF r.now d,ev,nm⟩] }
inductive PA where
 |raise (ev:())
 |send (ev:()) (d:Nat)
 |sendAs (ev:()) (d:Nat) (id:())
 |cancel (id:())
def PA.v:PA->Value
 |.raise ev=>.iface 428 (.agg #[.string ev])
 |.send ev d=>.iface 276 (.agg #[.string ev,.int .u64 d])
 |.sendAs ev d id=>.iface 278 (.agg #[.string ev,.int .u64 d,.string id])
 |.cancel id=>.iface 280 (.agg #[.string id])
def PA.ok:PA->Prop
 |.send _ d=>d<18446744073709551616
 |.sendAs _ d _=>d<18446744073709551616
 |_=>True
def ir(r:RSt):PA->RSt
 |.raise ev=>{ r with q:=r.q++[ev] }
 |.send ev d=>jG r ev ⟨#[]⟩ d
 |.sendAs ev d id=>jG r ev id d
 |.cancel id=>{ r with tm:=r.tm.filter fun t=>!(t.nm.toList == id.toList) }
theorem LA(r:RSt)(ev nm:())(d:Nat):(jG r ev nm d).q.length<=r.q.length+1:=by
 unfold jG;split<;>simp
theorem Mp(r:RSt)(a:PA):(ir r a).q.length<=r.q.length+1:=by
 cases a<;>simp only[ir]<;>first|exact LA _ _ _ _|simp
end Y
theorem nX(w:World)(lo:Y.Lo)(mb pb:Nat)(r:Y.RSt)(ev:())(hl:Y.Lw lo)(h:Y.MT w lo mb pb r)(WJ:r.q.length<=4398046511104):
  () 71 #[mb,ev] w fun e w'=>e=.returned (.tuple #[])/\Y.MT w' lo mb pb { r with q:=r.q++[ev] }/\Y.Rf lo w w':=by
 obtain⟨qv,wh,a,b⟩:=h.ex;refine(qi w lo mb pb qv (r.m wh) ev a h.lo' WJ).mono ?_;rintro e w' ⟨rfl,qv',a',c⟩;exact⟨rfl,h.rq hl b (r':={ r with q:=r.q++[ev] }) a' c rfl rfl h.act,Y.wD c⟩
theorem zD(w:World)(lo:Y.Lo)(mb pb:Nat)(r:Y.RSt)(nm0:())(hl:Y.Lw lo)(h:Y.MT w lo mb pb r):
  () 368 #[mb,nm0] w fun e w'=>e=.returned (.tuple #[])/\Y.MT w' lo mb pb (Y.ir r (.cancel nm0))/\Y.Rf lo w w':=by
 obtain⟨qv,wh,a,b⟩:=h.ex;refine(BV w lo mb pb qv (r.m wh) r.tm nm0 h.lo' a b hl.g h.tab).mono ?_;rintro e w' ⟨rfl,wh',a',b',c⟩;exact⟨rfl,⟨⟨qv,wh',a',b'⟩,Ox h.lo' c.bel.size,h.act,h.now,Ox (PB _ _) h.tml,Y.gH hl c.bel h.tab,Y.b8 hl c.bel h.tab5⟩,c⟩
theorem wF(w:World)(lo:Y.Lo)(mb pb:Nat)(r:Y.RSt)(ev nm:())(d:Nat)(hl:Y.Lw lo)(h:Y.MT w lo mb pb r)(WJ:r.q.length<=4398046511104)(hd:d<18446744073709551616):
  () 369 #[mb,ev,nm,.int .u64 d] w fun e w'=>e=.returned (.tuple #[])/\Y.MT w' lo mb pb (Y.jG r ev nm d)/\Y.Rf lo w w':=by
 have hlen:() 335 #[(mb,27)] w fun e w'=>e=.returned (r.tm.length:Int)/\Below w w w':=by
  obtain⟨qv,wh,a,b⟩:=h.ex;exact KV w lo mb pb qv (r.m wh) r.tm a b (by have:=h.tml;omega) (OS hl.g h.lo') h.tab
 by_cases h12:r.tm.length=12
 ·have HR:Hid (∀w9,Below w w w9->() 71 #[mb,.string ⟨#[102,117,108,108]⟩] w9 fun e w'=>e=.returned (.tuple #[])/\Y.MT w' lo mb pb (Y.jG r ev nm d)/\Y.Rf lo w w'):=fun w9 hb=>by
   refine(nX w9 lo mb pb r ⟨#[102,117,108,108]⟩ hl (h.below hl hb) WJ).mono ?_;rintro e w' ⟨rfl,a,c⟩;refine⟨rfl,?_,(Y.RfE.of hb h.lo').trans c⟩;unfold Y.jG;rw[OD h12];exact a
  rw[h12]at hlen;clear h;go_enter func369,ntmps369;go_wp2_with(first
   |(go_at_call 335;refine hlen.mono ?_;rintro e w9 ⟨rfl,UR⟩)
   |(go_at_call 71;refine(HR.out w9 UR).mono ?_;intro e w8 h8;obtain⟨rfl,h8⟩:=h8;have H8:Hid _:=h8;clear h8))
  refine Qb (Pu rfl _ _ _) rfl ?_;exact⟨rfl,H8.out⟩
 ·have HA:Hid (∀w9,Below w w w9->() 372 #[(mb,27),.int .u64 d,.agg #[ev,nm]] w9 fun e w'=>e=.returned (.tuple #[])/\Y.MT w' lo mb pb (Y.jG r ev nm d)/\Y.Rf lo w w'):=fun w9 hb=>by
   have h9:=h.below hl hb;obtain⟨qv,wh,a,b⟩:=h9.ex;refine(JX w9 lo mb pb qv (r.m wh) r.tm d ev nm a b h9.lo' h.now hd).mono ?_;rintro e w' ⟨rfl,wh',a',b',c⟩;refine⟨rfl,?_,(Y.RfE.of hb h.lo').trans (Y.wE c)⟩;unfold Y.jG;rw[OB h12];exact⟨⟨qv,wh',a',b'⟩,Ox h9.lo' c.bel.size,h.act,h.now,by have:=h.tml;simp;omega,Y.gH hl c.bel h9.tab,Y.b8 hl c.bel h9.tab5⟩
  have h12':((r.tm.length:Int) == 12)=false:=zae;clear h;go_enter func369,ntmps369;go_wp2_with(first
   |(go_at_call 335;refine hlen.mono ?_;rintro e w9 ⟨rfl,UR⟩)
   |(go_at_call 372;refine(HA.out w9 UR).mono ?_;intro e w8 h8;obtain⟨rfl,h8⟩:=h8;have H8:Hid _:=h8;clear h8))
  go_end0;exact⟨rfl,H8.out⟩
theorem Oh(a:Value)(w:World):(method 599 428 (.agg #[a]) "Do").run prog w=.ok (361,.agg #[a]) w:=zab
theorem Og(a:Value)(w:World):(method 599 280 (.agg #[a]) "Do").run prog w=.ok (344,.agg #[a]) w:=zab
theorem Oi(a b:Value)(w:World):(method 599 276 (.agg #[a,b]) "Do").run prog w=.ok (337,.agg #[a,b]) w:=zab
theorem Of(a b c:Value)(w:World):(method 599 278 (.agg #[a,b,c]) "Do").run prog w=.ok (341,.agg #[a,b,c]) w:=by kernel_rfl
theorem Ok(p:Option Addr)(w:World):(method 599 71 (.pointer p) "Raise").run prog w=.ok (71,.pointer p) w:=zab
theorem NR(p:Option Addr)(w:World):(method 599 71 (.pointer p) "Send").run prog w=.ok (369,.pointer p) w:=zab
theorem Oj(p:Option Addr)(w:World):(method 599 71 (.pointer p) "Cancel").run prog w=.ok (368,.pointer p) w:=zab
theorem zO(w:World)(lo:Y.Lo)(mb pb:Nat)(r:Y.RSt)(ev:())(hl:Y.Lw lo)(h:Y.MT w lo mb pb r)(WJ:r.q.length<=4398046511104):
  () 361 #[.agg #[ev],.iface 71 mb] w fun e w'=>e=.returned (.tuple #[])/\Y.MT w' lo mb pb (Y.ir r (.raise ev))/\Y.Rf lo w w':=by
 have hb:Below w w (w.alloc (.cells #[ev] 428)):=(Oy _ w).alloc (Ow _) _;have XS:=(nX _ lo mb pb r ev hl (h.below hl hb) WJ).mono (fun e w' x=>(⟨x.1,x.2.1,(Y.RfE.of hb h.lo').trans x.2.2⟩:e=.returned (.tuple #[])/\Y.MT w' lo mb pb { r with q:=r.q++[ev] }/\Y.Rf lo w w'));have hm:=Ok;clear h hb;go_enter func361,ntmps361;go_wp2_with(go_at_call 71;refine XS.mono ?_;intro e w8 h8;obtain⟨rfl,h8⟩:=h8;have H8:Hid _:=h8;clear h8);go_end0;exact⟨rfl,H8.out⟩
theorem xI(w:World)(lo:Y.Lo)(mb pb:Nat)(r:Y.RSt)(id:())(hl:Y.Lw lo)(h:Y.MT w lo mb pb r):
  () 344 #[.agg #[id],.iface 71 mb] w fun e w'=>e=.returned (.tuple #[])/\Y.MT w' lo mb pb (Y.ir r (.cancel id))/\Y.Rf lo w w':=by
 have hb:Below w w (w.alloc (.cells #[id] 280)):=(Oy _ w).alloc (Ow _) _;have XS:=(zD _ lo mb pb r id hl (h.below hl hb)).mono (fun e w' x=>(⟨x.1,x.2.1,(Y.RfE.of hb h.lo').trans x.2.2⟩:e=.returned (.tuple #[])/\Y.MT w' lo mb pb (Y.ir r (.cancel id))/\Y.Rf lo w w'));have hm:=Oj;clear h hb;go_enter func344,ntmps344;go_wp2_with(go_at_call 368;refine XS.mono ?_;intro e w8 h8;obtain⟨rfl,h8⟩:=h8;have H8:Hid _:=h8;clear h8);go_end0;exact⟨rfl,H8.out⟩
theorem Cb(w:World)(lo:Y.Lo)(mb pb:Nat)(r:Y.RSt)(ev:())(d:Nat)(hl:Y.Lw lo)(h:Y.MT w lo mb pb r)(WJ:r.q.length<=4398046511104)(hd:d<18446744073709551616):
  () 337 #[.agg #[ev,.int .u64 d],.iface 71 mb] w fun e w'=>e=.returned (.tuple #[])/\Y.MT w' lo mb pb (Y.ir r (.send ev d))/\Y.Rf lo w w':=by
 have hb:Below w w (w.alloc (.cells #[ev,.int .u64 d] 276)):=(Oy _ w).alloc (Ow _) _;have XS:=(wF _ lo mb pb r ev ⟨#[]⟩ d hl (h.below hl hb) WJ hd).mono (fun e w' x=>(⟨x.1,x.2.1,(Y.RfE.of hb h.lo').trans x.2.2⟩:e=.returned (.tuple #[])/\Y.MT w' lo mb pb (Y.ir r (.send ev d))/\Y.Rf lo w w'));have hm:=NR;clear h hb;go_enter func337,ntmps337;go_wp2_with(go_at_call 369;refine XS.mono ?_;intro e w8 h8;obtain⟨rfl,h8⟩:=h8;have H8:Hid _:=h8;clear h8);go_end0;exact⟨rfl,H8.out⟩
theorem xK(w:World)(lo:Y.Lo)(mb pb:Nat)(r:Y.RSt)(ev:())(d:Nat)(id:())(hl:Y.Lw lo)(h:Y.MT w lo mb pb r)(WJ:r.q.length<=4398046511104)(hd:d<18446744073709551616):
  () 341 #[.agg #[ev,.int .u64 d,id],.iface 71 mb] w fun e w'=>e=.returned (.tuple #[])/\Y.MT w' lo mb pb (Y.ir r (.sendAs ev d id))/\Y.Rf lo w w':=by
 have hb:Below w w (w.alloc (.cells #[ev,.int .u64 d,id] 278)):=(Oy _ w).alloc (Ow _) _;have XS:=(wF _ lo mb pb r ev id d hl (h.below hl hb) WJ hd).mono (fun e w' x=>(⟨x.1,x.2.1,(Y.RfE.of hb h.lo').trans x.2.2⟩:e=.returned (.tuple #[])/\Y.MT w' lo mb pb (Y.ir r (.sendAs ev d id))/\Y.Rf lo w w'));have hm:=NR;clear h hb;go_enter func341,ntmps341;go_wp2_with(go_at_call 369;refine XS.mono ?_;intro e w8 h8;obtain⟨rfl,h8⟩:=h8;have H8:Hid _:=h8;clear h8);go_end0;exact⟨rfl,H8.out⟩
namespace Y
structure fW(W:World)(lo:Nat)(v:U.Sl)(L:List PA):Prop where
 n:v.n=L.length
 cap:L.length<=v.c
 cell:∀(k:Nat) (x:PA),L[k]?=some x->∃ab,v.a=some ⟨ab,0,none⟩/\ab<lo/\W.cell? ⟨ab,k,none⟩=some x.v
 ok:∀x∈L,x.ok
 len:L.length<=1048576
theorem fW.below{lo:Nat}{v:U.Sl}{L:List PA}(h:fW W lo v L)(hb:Below lo W W'):fW W' lo v L:=⟨h.n,h.cap,fun k x hx=>by
 obtain⟨ab,a,b,c⟩:=h.cell k x hx;exact⟨ab,a,b,(hb.cell (p:=(ab,k)) b).trans c⟩,h.ok,h.len⟩
def doL(r:RSt)(L:List PA):RSt:=L.foldl ir r
theorem Hp(r:RSt)(L:List PA)(x:PA):doL r (L++[x])=ir (doL r L) x:=by unfold doL;rw[Px];rfl
theorem vJ(r:RSt):∀L:List PA,(doL r L).q.length<=r.q.length+L.length:=fun L=>by
 induction L generalizing r with
 |nil=>exact Ow _
 |cons x L ih=>
  have h1:=ih (ir r x);have h2:=Mp r x;show(doL (ir r x) L).q.length<=_;rw[PR];omega
end Y
theorem Cc(w:World)(lo:Y.Lo)(mb pb:Nat)(r:Y.RSt)(v:U.Sl)(L:List Y.PA)(hl:Y.Lw lo)(h:Y.MT w lo mb pb r)(hA:Y.fW w lo v L)(WJ:r.q.length<=4398000000000):
  () 100 #[mb,v.v] w fun e w'=>e=.returned (.tuple #[])/\Y.MT w' lo mb pb (Y.doL r L)/\Y.Rf lo w w':=by
 obtain⟨va,vn,vc⟩:=v;have hn:vn=L.length:=hA.n;have UX:L.length<=vc:=hA.cap;have hlen:=hA.len;subst hn;have HA:Hid _:=hA;have H0:Hid _:=h;clear hA h;unfold U.Sl.v;dsimp only;go_enter func100,ntmps100;go_wp2
 go_loopw[8] (fun i wr=>∃k:Nat,i=.int .i64 k/\k<=L.length/\Hid (Y.MT wr lo mb pb (Y.doL r (L.take k))/\Y.Rf lo w wr)) (fun i _=>L.length-(intOf i).toNat)
 case atStart=>exact⟨0,rfl,zaa,H0.out,Y.RfE.refl _ _⟩
 case round=>
  obtain⟨k,rfl,Vf,HM⟩:=hrel;by_cases hk:k<L.length
  ·obtain⟨x,hx⟩:∃x,L[k]?=some x:=⟨_,Ou hk⟩;have hxok:=HA.out.ok x (OG hx);obtain⟨ab,ha,hab,hc⟩:=(HA.out.below HM.out.2.bel).cell k x hx;dsimp only at ha;subst ha;have hq:=Y.vJ r (L.take k);have WY:(Y.doL r (L.take k)).q.length<=4398046511104:=by rw[PH]at hq;omega
   have HN:Hid (Y.doL r (L.take (k+1))=Y.ir (Y.doL r (L.take k)) x):=by
    unfold Hid;rw[PQ,hx];exact Y.Hp _ _ _
   have Ww:Hid (∀w8,Y.MT w8 lo mb pb (Y.ir (Y.doL r (L.take k)) x)->Y.Rf lo wr w8->Y.MT w8 lo mb pb (Y.doL r (L.take (k+1)))/\Y.Rf lo w w8):=fun w8 a b=>⟨by rw[HN.out];exact a,HM.out.2.trans b⟩;have hki:((k:Int)<(L.length:Int)):=zaa;clear hq hx;cases x with
   |raise ev=>
    have hd:=zO wr lo mb pb _ ev hl HM.out.1 WY;have hm:=Oh;unfold Y.PA.v at hc;dsimp only at hc;go_wp2_with(go_at_call 361;refine hd.mono ?_;intro e w8 h8;obtain⟨rfl,h8,g8⟩:=h8;have H8:Hid _:=Ww.out w8 h8 g8;clear h8 g8);exact zet
   |send ev d=>
    have hd:=Cb wr lo mb pb _ ev d hl HM.out.1 WY hxok;have hm:=Oi;unfold Y.PA.v at hc;dsimp only at hc;go_wp2_with(go_at_call 337;refine hd.mono ?_;intro e w8 h8;obtain⟨rfl,h8,g8⟩:=h8;have H8:Hid _:=Ww.out w8 h8 g8;clear h8 g8);exact zet
   |sendAs ev d id=>
    have hd:=xK wr lo mb pb _ ev d id hl HM.out.1 WY hxok;have hm:=Of;unfold Y.PA.v at hc;dsimp only at hc;go_wp2_with(go_at_call 341;refine hd.mono ?_;intro e w8 h8;obtain⟨rfl,h8,g8⟩:=h8;have H8:Hid _:=Ww.out w8 h8 g8;clear h8 g8);exact zet
   |cancel id=>
    have hd:=xI wr lo mb pb _ id hl HM.out.1;have hm:=Og;unfold Y.PA.v at hc;dsimp only at hc;go_wp2_with(go_at_call 344;refine hd.mono ?_;intro e w8 h8;obtain⟨rfl,h8,g8⟩:=h8;have H8:Hid _:=Ww.out w8 h8 g8;clear h8 g8);exact zet
  ·obtain rfl:k=L.length:=zaa;have HF:=HM.out;rw[Pw]at HF;have HF2:Hid _:=HF;clear HF;go_wp2;go_end0;exact⟨rfl,HF2.out⟩
attribute [local go_sem] Pp
namespace Y
def kM(ps:List PS)(fin:Nat)(s:RSt)(i:Nat):RSt:=match ps[i]? with
 |none=>s
 |some p=>if p.owner == -1 then{ s with fin:=5 } else match ps[p.owner.toNat]? with
  |none=>s
  |some q=>if q.owner == -1 then{ s with q:=s.q++[q.done] } else match ps[q.owner.toNat]? with
   |none=>{ s with q:=s.q++[q.done] }
   |some r=>if r.kind == 1&&atEnd ps fin s.act ps.length q.owner.toNat then{ s with q:=s.q++[q.done]++[r.done] } else{ s with q:=s.q++[q.done] }
theorem MQ(ps:List PS)(fin:Nat)(s:RSt)(i:Nat)(wh:Nat->Value):zU ps fin (s.m wh) i=(kM ps fin s i).m wh:=by
 unfold zU kM;cases ps[i]? with
 |none=>rfl
 |some p=>
  dsimp only;split
  ·rfl
  ·cases ps[p.owner.toNat]? with
   |none=>rfl
   |some q=>
    dsimp only;split
    ·rfl
    ·cases ps[q.owner.toNat]? with
     |none=>rfl
     |some r=>
      dsimp only;show(if(r.kind == 1&&atEnd ps fin s.act ps.length q.owner.toNat)=true then _ else _)=_;split<;>rfl
theorem j9(ps:List PS)(fin:Nat)(s:RSt)(i:Nat):(kM ps fin s i).act=s.act/\(kM ps fin s i).tm=s.tm/\(kM ps fin s i).now=s.now/\(kM ps fin s i).kept=s.kept/\(kM ps fin s i).q.length<=s.q.length+2:=by
 unfold kM;cases ps[i]? with
 |none=>simp
 |some p=>
  dsimp only;split
  ·simp
  ·cases ps[p.owner.toNat]? with
   |none=>simp
   |some q=>
    dsimp only;split
    ·simp
    ·cases ps[q.owner.toNat]? with
     |none=>simp
     |some r=>
      dsimp only;split<;>simp
structure gy(w:World)(lo:Nat)(pb b cap:Nat)(ps:List PS)(fin:Nat)(EN LV:Nat->List PA):Prop where
 bG:cd w pb b cap ps
 pb':pb<lo
 b':b<lo
 f2:w.cell? (pb,2)=some (.int .u32 fin)
 finl:fin<4294967296
 own:∀(i:Nat) (p:PS),ps[i]?=some p->p.owner=-1\/∃o:Nat,p.owner=o/\o<i
 pts:∀(i:Nat) (p:PS),ps[i]?=some p->∀j∈els p.parts,i<j/\j<ps.length
 en:∀(i:Nat) (p:PS),ps[i]?=some p->fW w lo p.enter (EN i)
 lv:∀(i:Nat) (p:PS),ps[i]?=some p->fW w lo p.leave (LV i)
 lw:Lw lo
theorem gy.below{w':World}{lo:Nat}{EN LV:Nat->List PA}(h:gy w lo pb b cap ps fin EN LV)(hb:Below lo w w'):gy w' lo pb b cap ps fin EN LV:=
 ⟨h.bG.below hb h.pb' h.b',h.pb',h.b',(hb.cell (p:=⟨pb,2,none⟩) h.pb').trans h.f2,h.finl,h.own,h.pts,fun i p hp=>(h.en i p hp).below hb,fun i p hp=>(h.lv i p hp).below hb,h.lw⟩
def iN(ps:List PS)(fin:Nat)(EN:Nat->List PA)(r:RSt)(i:Nat):RSt:=
 let r2:=doL { r with act:=r.act|||2 ^ i } (EN i)
 match ps[i]? with
 |some p=>if p.kind == 2 then kM ps fin r2 i else r2
 |none=>r2
def bZ(ps:List PS)(fin:Nat)(EN:Nat->List PA)(r:RSt)(l:List Nat):RSt:=l.foldl (iN ps fin EN) r
theorem zQ(ps:List PS)(fin:Nat)(EN:Nat->List PA)(r:RSt)(l:List Nat)(i:Nat):bZ ps fin EN r (l++[i])=iN ps fin EN (bZ ps fin EN r l) i:=by unfold bZ;rw[Px];rfl
theorem GD(r:RSt)(a:PA):(ir r a).act=r.act:=by
 exact zfb
theorem jz:∀(L:List PA) (r:RSt),(doL r L).act=r.act
 |[],_=>rfl
 |x::L,r=>(jz L (ir r x)).trans (GD r x)
theorem ML{lo:Nat}{EN LV:Nat->List PA}(h:gy w lo pb b cap ps fin EN LV)(r:RSt){i:Nat}(hi:i<ps.length):(iN ps fin EN r i).q.length<=r.q.length+1048578:=by
 obtain⟨p,hp⟩:∃p,ps[i]?=some p:=⟨_,Ou hi⟩;have h1:=(h.en i p hp).len;have h2:=vJ { r with act:=r.act|||2 ^ i } (EN i);have h3:=(j9 ps fin (doL { r with act:=r.act|||2 ^ i } (EN i)) i).2.2.2.2;have h4:({ r with act:=r.act|||2 ^ i }:RSt).q=r.q:=rfl;rw[h4]at h2;unfold iN;dsimp only;rw[hp];dsimp only;split<;>omega
theorem oB{w:World}{lo:Nat}{pb b cap:Nat}{ps:List PS}{fin:Nat}{EN LV:Nat->List PA}(h:gy w lo pb b cap ps fin EN LV):∀(l:List Nat) (r:RSt),(∀i∈l,i<ps.length)->(bZ ps fin EN r l).q.length<=r.q.length+l.length*1048578
 |[],_,_=>by simp[bZ]
 |i::l,r,hl=>by
  have h1:=ML h r (hl i (O1 ..));have h2:=oB h l (iN ps fin EN r i) (fun j hj=>hl j (OZ _ hj));show(bZ ps fin EN (iN ps fin EN r i) l).q.length<=_;rw[PR];omega
end Y
theorem Y.MT.gr{row:Option Nat}{r:Y.RSt}(h:Y.MT W lo mb pb r)(hl:Y.Lw lo)(hg:W.grownBy W' row)(hr:∀r,row=some r->lo<=r/\∃o:Obj,W.heap[r]?=some o/\o.isCells=false):Y.MT W' lo mb pb r:=by
 obtain⟨qv,wh,a,b⟩:=h.ex;have hb:Below lo W W':=⟨hg.os,hg.tape,hg.output,hg.size,fun k hk=>hg.block k (by have:=h.lo';omega) (fun e=>zbg)⟩;exact⟨⟨qv,wh,a.gr hg (fun r e=>(hr r e).2),b.kd (Y.iz (E:=fun _=>False) hg (fun r e=>(hr r e).2)) (fun h=>h) rfl rfl⟩,Ox h.lo' hg.size,h.act,h.now,h.tml,Y.gH hl hb h.tab,Y.b8 hl hb h.tab5⟩
theorem Y.MT.Jl{r:Y.RSt}(h:Y.MT W lo mb pb r)(hl:Y.Lw lo)(a:Nat)(ha:a<4294967296):Y.MT (W.setCell (mb,1) (.int .u32 a)) lo mb pb { r with act:=a }/\Y.Rf lo W (W.setCell (mb,1) (.int .u32 a)):=by
 obtain⟨qv,wh,m,b⟩:=h.ex;have hM:Y.au (W.setCell (mb,1) (.int .u32 a)) lo mb pb qv (({ r with act:=a }:Y.RSt).m wh):=m.set 1 _ _ zac rfl (fun j hj=>by
  by_cases e:j=1
  ·subst e;rfl
  ·rw[OB e];unfold Y.fw;split
   ·rfl
   ·rfl)
 have hR:Y.Rq lo W (W.setCell (mb,1) (.int .u32 a)):=Y.RfE.mo (P:=(·=mb)) ((Mo.refl _ _).set _ _ rfl) (fun k hk=>by
  obtain⟨arr,a1,_⟩:=m.blk;subst hk;exact⟨m.lo',arr,_,_,a1,.inl rfl⟩) h.lo'
 exact⟨h.rq hl b hM hR rfl rfl ha,Y.wD hR⟩
theorem Y.MT.c0{r:Y.RSt}(h:Y.MT W lo mb pb r):W.cell? mb=some ↑pb/\W.cell? (mb,1)=some (.int .u32 r.act)/\∀i,W.frozen? ⟨mb,i,none⟩=false:=by
 obtain⟨qv,wh,m,b⟩:=h.ex;exact⟨m.cell 0 zac,m.cell 1 zac,m.frozen⟩
theorem zV(w:World)(lo:Y.Lo)(mb pb b cap:Nat)(r:Y.RSt)(ps:List Y.PS)(fin i:Nat)(EN LV:Nat->List Y.PA)(hP:Y.gy w lo pb b cap ps fin EN LV)(h:Y.MT w lo mb pb r)(hi:i<ps.length)(WJ:r.q.length<=4398046511000):
  () 101 #[mb,(b,i*10)] w fun e w'=>e=.returned (.tuple #[])/\Y.MT w' lo mb pb (Y.kM ps fin r i)/\Y.Rf lo w w':=by
 obtain⟨qv,wh,a,b'⟩:=h.ex;obtain⟨p,hp⟩:∃p,ps[i]?=some p:=⟨_,Ou hi⟩;refine(Ch w lo mb pb b cap qv (r.m wh) ps fin i p a h.lo' hP.bG hP.pb' hP.b' hP.f2 hP.finl h.act hp hP.own hP.pts hP.lw.g5 h.tab5 WJ).mono ?_;rintro e w' ⟨rfl,qv',a',c⟩;rw[Y.MQ]at a';obtain⟨s1,s2,s3,_⟩:=Y.j9 ps fin r i;exact⟨rfl,h.rq hP.lw b' a' c s2 s3 (by rw[s1];exact h.act),Y.wD c⟩
theorem vM(w:World)(lo:Y.Lo)(mb pb b cap:Nat)(r:Y.RSt)(ps:List Y.PS)(fin s:Nat)(EN LV:Nat->List Y.PA)(hP:Y.gy w lo pb b cap ps fin EN LV)(h:Y.MT w lo mb pb r)(hs:s<4294967296)(Ux:∀i∈Y.els s,i<ps.length)(WJ:r.q.length<=4397000000000):
  () 62 #[mb,.int .u32 s] w fun e w'=>e=.returned (.tuple #[])/\Y.MT w' lo mb pb (Y.bZ ps fin EN r (Y.els s))/\Y.Rf lo w w':=by
 refine(O3 (n:=8)).1 ?_;have TT:=h.lo';refine Pq func62 rfl trivial ?_ rfl;simp only[ntmps62,List.size_toArray,List.length_cons,List.length_nil,Nat.reduceAdd,Nat.reduceSub,Array.replicate_succ,Array.replicate_zero,List.push_toArray,List.append_toArray,List.nil_append,List.cons_append];gi_wp2_with(refine⟨trivial,?_⟩;gi_at_call 98;refine(O3.2 (dH s _)).mono ?_;rintro e w9 ⟨rfl,Pg⟩;rw[Pg];clear Pg w9);have b0:=(O4 w 71 mb).alloc (.cells #[.int .u32 s] 107);have b1:=O4 (w.alloc (.cells #[mb] 71)) 107 (.int .u32 s);simp only[World.size_alloc]at b1;have Ut:Below w w ((w.alloc (.cells #[mb] 71)).alloc (.cells #[.int .u32 s] 107)):=((Oy _ w).alloc (Ow _) _).alloc zad _;have XR:((w.alloc (.cells #[mb] 71)).alloc (.cells #[.int .u32 s] 107)).heap.size=w.heap.size+2:=zad;generalize(w.alloc (.cells #[mb] 71)).alloc (.cells #[.int .u32 s] 107)=W0 at *;have h0:=h.below hP.lw Ut;have TW:=hP.lw;have X9:=hP.lw.g5;have hlen:=hP.bG.len;have Y9:¬Y.cR 71:=zaP;refine oD zaa (w.heap.size+1) s hs rfl zaa zaa b1.cell h0.tab5 rfl
  (fun pre V=>Y.MT V lo mb pb (Y.bZ ps fin EN r (Y.ba pre))/\Boxed V w 71 mb/\Y.Rf lo w V) (fun _ _ _=>False)
  (Pa (fun pre A C row h hg hr=>h.gr TW hg (fun r e=>⟨zas,(hr r e).2⟩)) (Pa (PY (PG _ _ _) _) (fun pre A C row h hg hr=>h.gr TT hg (fun r e=>⟨zas,(hr r e).2⟩))))
  (fun _ _ _ _ _ hs _ _=>hs) ⟨h0,b0,Y.RfE.of Ut TT⟩
  (fun x a' _=>a'={ tmps:=#[.pointer (some ⟨mb,0,none⟩),.int .u32 s,.pointer (some ⟨w.heap.size,0,none⟩),undef,.int .i64 x.1,undef,.int .u32 s,.func (.func 148) #[] #[.pointer (some ⟨w.heap.size+1,0,none⟩)],.int .i64 x.1,undef,undef,undef,undef,undef,undef,undef,undef,undef,undef,undef,undef,undef,undef,undef,undef,undef,undef,undef,undef,undef,undef,undef,undef,undef,undef,undef,undef,undef,undef,undef,undef],defers:=[] }) (fun _ _ _ _ _ _ hs _ _=>hs) ?assign ?body ?done ?stop
 case assign=>
  exact zeG
 case body=>
  rintro l pre x a' V hl ⟨rl,V6⟩ ⟨hM,hb,hR⟩ rfl Uo;have hi:=Ux x.1 x.2;have Wf:=(Y.cC.1 x.2).1;obtain⟨p,hp⟩:∃p,ps[x.1]?=some p:=⟨_,Ou hi⟩;have Yc:=Y.oB hP (Y.ba pre) r (fun i hi=>Ux i (by
   rw[Y.cG]at hi;obtain⟨y,_,rfl⟩:=O7.1 hi;exact y.2))
  have Xs:(Y.ba pre).length=pre.length:=by rw[Y.cG,OK]
  rw[Xs]at Yc;obtain⟨R0,V7⟩:∃R0,Y.bZ ps fin EN r (Y.ba pre)=R0:=⟨_,rfl⟩;have HSN:Hid (Y.bZ ps fin EN r (Y.ba (pre++[x]))=Y.iN ps fin EN R0 x.1):=by
   unfold Hid;rw[Y.ej,Y.zQ,V7]
  rw[V7]at hM Yc;clear V7;have Yd:=hP.below hR.bel;obtain⟨m0,m1,mf⟩:=hM.c0;have UM:=hb.cell;have TO:=Yd.bG.row;have Z2:=hM.lo';have Wj:=hM.act;have h2:=gI Wf;have Ys:=Q2 R0.act (2 ^ x.1) Wj h2;have YT:R0.act|||2 ^ x.1<4294967296:=by
   have:=Po (n:=32) (x:=R0.act) (y:=2 ^ x.1) zaa zaa;omega
  obtain⟨A1,hA1⟩:∃A1,R0.act|||2 ^ x.1=A1:=⟨_,rfl⟩;rw[hA1]at Ys YT;rw[<- jH]at Ys;have UB:=(Oy V V).drew;obtain⟨XJ,Yw⟩:=(hM.below TW UB).Jl TW A1 YT;have Za:Y.Rf lo V (V.drew.setCell (mb,1) (.int .u32 A1)):=(Y.RfE.of UB Z2).trans Yw;have q0:V.drew.cell? w=_:=UM;have q1:V.drew.cell? (mb,1)=_:=m1;have qf:V.drew.frozen? (mb,1)=false:=mf 1;have U1:=iR x.1 V.drew Wf;have hxi:((x.1:Int)<(ps.length:Int)):=zaa;have ZX:1<=8-1-1:=zaa;gi_wp2;refine aW (dQ l) 9 zab zab zab ?_;simp only[List.take_succ_cons,List.take_zero,List.drop_succ_cons,List.drop_zero]
  iterate 5 still_step
  still_call U1
  iterate 3 still_step
  refine P8 ?_;gi_wp2;have XJ:Y.MT (V.setCell (mb,1) (.int .u32 A1)).drew lo mb pb { R0 with act:=A1 }:=XJ;have Za:Y.Rf lo V (V.setCell (mb,1) (.int .u32 A1)).drew:=Za;generalize(V.setCell (mb,1) (.int .u32 A1)).drew=V1 at *;have HE:Hid (Y.iN ps fin EN R0 x.1=if p.kind == 2 then Y.kM ps fin (Y.doL { R0 with act:=A1 } (EN x.1)) x.1 else Y.doL { R0 with act:=A1 } (EN x.1)):=by
   unfold Hid Y.iN;dsimp only;rw[hA1,hp]
  clear q0 q1 qf U1 Ys hA1 hM m0 m1 mf UM TO Yw;have TM:Boxed V1 w 71 mb:=Kd.boxed Za.kd hb Y9;have VW:=Yd.below Za.bel;have T5:=(Oy V1 V1).drew;have hl1:=XJ.lo';have Xa:=Cc V1.drew lo mb pb { R0 with act:=A1 } p.enter (EN x.1) TW (XJ.below TW T5) ((VW.en x.1 p hp).below (T5.mono hl1)) (by show R0.q.length<=_;omega);have hdq:=Y.vJ { R0 with act:=A1 } (EN x.1);have hdq1:=(hP.en x.1 p hp).len;have hdq2:(Y.doL { R0 with act:=A1 } (EN x.1)).q.length<=4398046511000:=by
   have:({ R0 with act:=A1 }:Y.RSt).q=R0.q:=rfl;rw[this]at hdq;omega
  clear hdq hdq1;obtain⟨R2,Y1⟩:∃R2,Y.doL { R0 with act:=A1 } (EN x.1)=R2:=⟨_,rfl⟩;rw[Y1]at Xa hdq2 HE;clear Y1;have q0:V1.drew.cell? w=_:=TM.cell;have q8:V1.drew.cell? (b,x.1*10+8)=some p.enter.v:=(VW.bG.at' x.1 p hp).c8;unfold U.Sl.v at q8 Xa;obtain⟨ea,en,ec⟩:∃q:U.Sl,q=p.enter:=⟨_,rfl⟩;have Wx:Hid (∀w2,Y.MT w2 lo mb pb R2->Y.Rf lo V1.drew w2->w2.cell? w=some ↑mb/\w2.cell? (b,x.1*10)=some ↑(p.kind:Int)/\(p.kind == 2->() 101 #[mb,(b,x.1*10)] w2 fun e w'=>e=.returned (.tuple #[])/\KeepsFrom W0.heap.size V w'/\Y.KpT V w'/\Y.MT w' lo mb pb (Y.bZ ps fin EN r (Y.ba (pre++[x])))/\Boxed w' w 71 mb/\Y.Rf lo w w')/\((p.kind == 2)=false->KeepsFrom W0.heap.size V w2/\Y.KpT V w2/\Y.MT w2 lo mb pb (Y.bZ ps fin EN r (Y.ba (pre++[x])))/\Boxed w2 w 71 mb/\Y.Rf lo w w2)):=fun w2 Vh Y1=>by
   have Ye:Y.Rf lo V w2:=Za.trans ((Y.RfE.of T5 hl1).trans Y1);have VO:=Yd.below Ye.bel;have TP:Boxed w2 w 71 mb:=Kd.boxed Ye.kd hb Y9;have fin':∀w',Y.MT w' lo mb pb (Y.iN ps fin EN R0 x.1)->Y.Rf lo V w'->KeepsFrom W0.heap.size V w'/\Y.KpT V w'/\Y.MT w' lo mb pb (Y.bZ ps fin EN r (Y.ba (pre++[x])))/\Boxed w' w 71 mb/\Y.Rf lo w w':=fun w' YX hR'=>⟨hR'.oth.from _,fun hT=>Y.b8 TW hR'.bel hT,by rw[HSN.out];exact YX,Kd.boxed hR'.kd hb Y9,hR.trans hR'⟩;refine⟨TP.cell,(VO.bG.at' x.1 p hp).c0,fun hk=>?_,fun hk=>?_⟩
   ·refine(zV w2 lo mb pb b cap R2 ps fin x.1 EN LV VO Vh hi hdq2).mono ?_;rintro e w' ⟨rfl,a,c⟩;have:=HE.out;rw[OD hk]at this;exact⟨rfl,fin' w' (this▸a) (Ye.trans c)⟩
   ·have:=HE.out;rw[OB (by rw[hk];decide)]at this;exact fin' w2 (this▸Vh) Ye
  clear XJ Za TM VW Yd hb;refine aW (dQ l) 5 zab zab zab ?_;simp only[List.take_succ_cons,List.take_zero,List.drop_succ_cons,List.drop_zero]
  repeat still_step
  refine P8 ?_;obtain⟨kb,Vq⟩:∃kb,(p.kind == 2)=kb:=⟨_,rfl⟩;cases kb
  ·gi_wp2_with(refine⟨trivial,?_⟩;gi_at_call 100;refine(aI Xa).mono ?_;intro e w2 h8;obtain⟨rfl,h8,g8⟩:=h8;obtain⟨f0,f1,_,f3⟩:=Wx.out w2 h8 g8;have F3:Hid _:=f3 Vq;clear h8 g8 f3);exact F3.out
  ·gi_wp2_with(first
    |(refine⟨trivial,?_⟩;gi_at_call 100;refine(aI Xa).mono ?_;intro e w2 h8;obtain⟨rfl,h8,g8⟩:=h8;obtain⟨f0,f1,f2,_⟩:=Wx.out w2 h8 g8;have F2:Hid _:=f2 Vq;clear h8 g8 f2)
    |(refine⟨trivial,?_⟩;gi_at_call 101;refine(aI F2.out).mono ?_;intro e w3 h9;obtain⟨rfl,h9⟩:=h9;have H9:Hid _:=h9;clear h9))
   exact H9.out
 case done=>
  exact zdv
 case stop=>
  exact zfz
attribute [local go_sem] Pp
theorem Kf{n:Nat}(h1:2<=n){g:Operand}{ps:Array Tmp}{assign body:Code}{Q:Exit->Act->World->Prop}{a:Act}(Bs s:Nat)(hs:s<4294967296)
  (he:a.eval g=.func (.func 234) #[] #[Bs]) (Wb:Bs<w.heap.size) (hc:w.cell? Bs=some (.int .u32 s)) (Zl:1=ps.size)
  (I:List (Y.In s)->World->Prop) (Ix:Code->List (Y.In s)->World->Prop) (hI:OwnFrom w.heap.size I) (Zm:∀c,OwnFrom w (Ix c)) (h0:I [] w) (Ax:Y.In s->Act->World->Prop) (hAx:∀x a',OwnFrom w (fun(_:Unit) W=>Ax x a' W))
  (Up:∀(l:Nat) (pre:List (Y.In s)) (x:Y.In s) (W:World) (K:Act->World->Prop),I pre W->(∀a' W',KeepsFrom w W W'->True->I pre W'->Ax x a' W'->K a' W') ->
   assign.wpIn (Fence.wide.inRound l) (n-1-1) prog (Exit.then K (fun _ _ _=>False)) { tmps:=(ps.zip #[Value.int .i64 (x.1:Int)]).foldl (fun t (p,v)=>t.setIfInBounds p v) a.tmps,defers:=[] } W)
  (Vc:∀(l:Nat) (pre:List (Y.In s)) (x:Y.In s) (a':Act) (W:World),w.heap.size<=l->(∃r,W.heap[l]?=some (.loop r))->I pre W->Ax x a' W->pre.length<32->body.wpIn (Fence.wide.inRound l) (n-1-1) prog (ownPostG w (fun _ _=>True) I Ix (pre++[x]) W) a' W)
  (Vn:∀(D:Nat) (xs:List (Y.In s)) (W:World),w.heap.size<=D->Y.ba xs=(Y.els s).reverse->I xs W->W.heap[D]?=some (.deferred (some []))->Q .normal { a with defers:={ target:=.collected D,args:=#[] }::a.defers } W)
  (VB:∀(D:Nat) (c:Code) (pre:List (Y.In s)) (W:World),w.heap.size<=D->Y.ba pre <+: (Y.els s).reverse->Ix c pre W->W.heap[D]?=some (.deferred (some []))->c.wpIn Fence.wide n prog Q { a with defers:={ target:=.collected D,args:=#[] }::a.defers } W):
  (Code.rangeFunc g ps assign body).wpIn Fence.wide n prog Q a w:=
 RE rfl zaa (gf:=234) he trivial (QN func234 zab rfl)
  (lO (n-1) zaa Bs s hs w Wb hc) (fun _ _=>trivial) (fun _ _ _ _ _ _ _ _=>trivial) (Oy _ _) (fun _=>Zl)
  I Ix hI Zm h0 Ax hAx Up Vc (fun D xs W hD hS=>Vn D xs W hD zaN) (fun D c pre W hD hS=>VB D c pre W hD zaN)
namespace Y
def qY(LV:Nat->List PA)(r:RSt)(i:Nat):RSt:=let r1:=doL r (LV i);{ r1 with act:=r1.act&&&(4294967295-2 ^ i) }
def dU(LV:Nat->List PA)(r:RSt)(l:List Nat):RSt:=l.foldl (qY LV) r
theorem Au(LV:Nat->List PA)(r:RSt)(l:List Nat)(i:Nat):dU LV r (l++[i])=qY LV (dU LV r l) i:=by unfold dU;rw[Px];rfl
theorem oK{w:World}{lo:Nat}{pb b cap:Nat}{ps:List PS}{fin:Nat}{EN LV:Nat->List PA}(h:gy w lo pb b cap ps fin EN LV):∀(l:List Nat) (r:RSt),(∀i∈l,i<ps.length)->(dU LV r l).q.length<=r.q.length+l.length*1048576
 |[],_,_=>by simp[dU]
 |i::l,r,hl=>by
  obtain⟨p,hp⟩:∃p,ps[i]?=some p:=⟨_,Ou (hl i (O1 ..))⟩;have h0:=(h.lv i p hp).len;have h1:=vJ r (LV i);have h2:=oK h l (qY LV r i) (fun j hj=>hl j (OZ _ hj));have h3:(qY LV r i).q=(doL r (LV i)).q:=rfl;rw[h3]at h2;show(dU LV (qY LV r i) l).q.length<=_;rw[PR];omega
end Y
theorem Fv(w:World)(lo:Y.Lo)(mb pb b cap:Nat)(r:Y.RSt)(ps:List Y.PS)(fin s:Nat)(EN LV:Nat->List Y.PA)(hP:Y.gy w lo pb b cap ps fin EN LV)(h:Y.MT w lo mb pb r)(hs:s<4294967296)(Ux:∀i∈Y.els s,i<ps.length)(WJ:r.q.length<=4397000000000):
  () 154 #[mb,.int .u32 s] w fun e w'=>e=.returned (.tuple #[])/\Y.MT w' lo mb pb (Y.dU LV r (Y.els s).reverse)/\Y.Rf lo w w':=by
 refine(O3 (n:=8)).1 ?_;have TT:=h.lo';refine Pq func154 rfl trivial ?_ rfl;simp only[ntmps154,List.size_toArray,List.length_cons,List.length_nil,Nat.reduceAdd,Nat.reduceSub,Array.replicate_succ,Array.replicate_zero,List.push_toArray,List.append_toArray,List.nil_append,List.cons_append];gi_wp2_with(refine⟨trivial,?_⟩;gi_at_call 204;refine(O3.2 (om s _)).mono ?_;rintro e w9 ⟨rfl,Pg⟩;rw[Pg];clear Pg w9);have b0:=(O4 w 71 mb).alloc (.cells #[.int .u32 s] 107);have b1:=O4 (w.alloc (.cells #[mb] 71)) 107 (.int .u32 s);simp only[World.size_alloc]at b1;have Ut:Below w w ((w.alloc (.cells #[mb] 71)).alloc (.cells #[.int .u32 s] 107)):=((Oy _ w).alloc (Ow _) _).alloc zad _;have XR:((w.alloc (.cells #[mb] 71)).alloc (.cells #[.int .u32 s] 107)).heap.size=w.heap.size+2:=zad;generalize(w.alloc (.cells #[mb] 71)).alloc (.cells #[.int .u32 s] 107)=W0 at *;have h0:=h.below hP.lw Ut;have TW:=hP.lw;have hlen:=hP.bG.len;have Y9:¬Y.cR 71:=zaP;refine Kf zaa (w.heap.size+1) s hs rfl zaa b1.cell rfl
  (fun pre V=>Y.MT V lo mb pb (Y.dU LV r (Y.ba pre))/\Boxed V w 71 mb/\Y.Rf lo w V) (fun _ _ _=>False)
  (Pa (fun pre A C row h hg hr=>h.gr TW hg (fun r e=>⟨zas,(hr r e).2⟩)) (Pa (PY (PG _ _ _) _) (fun pre A C row h hg hr=>h.gr TT hg (fun r e=>⟨zas,(hr r e).2⟩))))
  (fun _ _ _ _ _ hs _ _=>hs) ⟨h0,b0,Y.RfE.of Ut TT⟩
  (fun x a' _=>a'={ tmps:=#[.pointer (some ⟨mb,0,none⟩),.int .u32 s,.pointer (some ⟨w.heap.size,0,none⟩),undef,.int .i64 x.1,.int .u32 s,.func (.func 234) #[] #[.pointer (some ⟨w.heap.size+1,0,none⟩)],.int .i64 x.1,undef,undef,undef,undef,undef,undef,undef,undef,undef,undef,undef,undef,undef,undef,undef,undef,undef,undef,undef,undef,undef,undef],defers:=[] }) (fun _ _ _ _ _ _ hs _ _=>hs) ?assign ?body ?done ?stop
 case assign=>
  intro l pre x V K hI hK;exact zfu
 case body=>
  rintro l pre x a' V hl ⟨rl,V6⟩ ⟨hM,hb,hR⟩ rfl Uo;have hi:=Ux x.1 x.2;have Wf:=(Y.cC.1 x.2).1;obtain⟨p,hp⟩:∃p,ps[x.1]?=some p:=⟨_,Ou hi⟩;have Yc:=Y.oK hP (Y.ba pre) r (fun i hi=>Ux i (by
   rw[Y.cG]at hi;obtain⟨y,_,rfl⟩:=O7.1 hi;exact y.2))
  have Xs:(Y.ba pre).length=pre.length:=by rw[Y.cG,OK]
  rw[Xs]at Yc;obtain⟨R0,V7⟩:∃R0,Y.dU LV r (Y.ba pre)=R0:=⟨_,rfl⟩;have HSN:Hid (Y.dU LV r (Y.ba (pre++[x]))=Y.qY LV R0 x.1):=by
   unfold Hid;rw[Y.ej,Y.Au,V7]
  rw[V7]at hM Yc;clear V7;have Yd:=hP.below hR.bel;obtain⟨m0,m1,mf⟩:=hM.c0;have UB:=(Oy V V).drew;have Z2:=hM.lo';have q0:V.drew.cell? w=_:=hb.cell;have qm:V.drew.cell? mb=_:=m0;have qr:V.drew.cell? pb=_:=Yd.bG.row;have q9:V.drew.cell? (b,x.1*10+9)=some p.leave.v:=(Yd.bG.at' x.1 p hp).c9;have Xa:=Cc V.drew lo mb pb R0 p.leave (LV x.1) TW (hM.below TW UB) ((Yd.lv x.1 p hp).below (UB.mono Z2)) zaa;have hda:=Y.jz (LV x.1) R0;have Wj:=hM.act;have h2:=gI Wf;have hxi:((x.1:Int)<(ps.length:Int)):=zaa;have ZX:1<=8-1-1:=zaa;unfold U.Sl.v at q9 Xa;have HE:Hid (Y.qY LV R0 x.1={ Y.doL R0 (LV x.1) with act:=(Y.doL R0 (LV x.1)).act&&&(4294967295-2 ^ x.1) }):=rfl;obtain⟨R2,Y1⟩:∃R2,Y.doL R0 (LV x.1)=R2:=⟨_,rfl⟩;rw[Y1]at Xa HE hda;have hact2:R2.act<4294967296:=by rw[hda];exact Wj
  clear Y1 hda;have hand:=Td R2.act (2 ^ x.1) hact2 h2;have handl:R2.act&&&(4294967295-2 ^ x.1)<4294967296:=Pm Qi hact2;obtain⟨A1,hA1⟩:∃A1,R2.act&&&(4294967295-2 ^ x.1)=A1:=⟨_,rfl⟩;rw[hA1]at hand handl HE;rw[<- jH]at hand;clear hA1;have Wx:Hid (∀w2,Y.MT w2 lo mb pb R2->Y.Rf lo V.drew w2->w2.drew.cell? w=some ↑mb/\w2.drew.cell? ⟨mb,1,none⟩=some (.int .u32 R2.act)/\w2.drew.frozen? ⟨mb,1,none⟩=false/\KeepsFrom W0.heap.size V (w2.drew.setCell ⟨mb,1,none⟩ (.int .u32 A1))/\True/\Y.MT (w2.drew.setCell ⟨mb,1,none⟩ (.int .u32 A1)) lo mb pb (Y.dU LV r (Y.ba (pre++[x])))/\Boxed (w2.drew.setCell ⟨mb,1,none⟩ (.int .u32 A1)) w.heap.size 71 mb/\Y.Rf lo w (w2.drew.setCell ⟨mb,1,none⟩ (.int .u32 A1))):=fun w2 Vh Y1=>by
   have Ye:Y.Rf lo V w2:=(Y.RfE.of UB Z2).trans Y1;have UU:=(Oy w2 w2).drew;have hM2d:=Vh.below TW UU;obtain⟨_,c1,cf⟩:=hM2d.c0;obtain⟨Vi,Xn⟩:=hM2d.Jl TW A1 handl;have hRV3:=Ye.trans ((Y.RfE.of UU Vh.lo').trans Xn);exact⟨(Kd.boxed Ye.kd hb Y9:Boxed w2 _ _ _).cell,c1,cf 1,hRV3.oth.from _,trivial,by rw[HSN.out,HE.out];exact Vi,Kd.boxed hRV3.kd hb Y9,hR.trans hRV3⟩
  clear hM hb Yd hR m0 m1 mf;gi_wp2;refine aW (dQ l) 12 zab zab zab ?_;simp only[List.take_succ_cons,List.take_zero,List.drop_succ_cons,List.drop_zero]
  repeat still_step
  refine P8 ?_;gi_wp2_with(refine⟨trivial,?_⟩;gi_at_call 100;refine(aI Xa).mono ?_;intro e w2 h8;obtain⟨rfl,h8,g8⟩:=h8;obtain⟨f0,f1,f2,f3⟩:=Wx.out w2 h8 g8;have F3:Hid _:=f3;clear h8 g8 f3);have U1:=iR x.1 w2.drew Wf;refine aW (dQ l) 9 zab zab zab ?_;simp only[List.take_succ_cons,List.take_zero,List.drop_succ_cons,List.drop_zero]
  iterate 5 still_step
  still_call U1
  iterate 3 still_step
  refine P8 ?_;gi_wp2;exact F3.out
 case done=>
  exact zdv
 case stop=>
  exact zfz
