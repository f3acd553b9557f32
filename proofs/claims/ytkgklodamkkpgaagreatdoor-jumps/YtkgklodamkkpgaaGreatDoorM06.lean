import Derived.Test.YtkgklodamkkpgaaGreatDoorM05
set_option maxRecDepth 100000
set_option maxHeartbeats 8000000
namespace Go.Proofs.YtkgklodamkkpgaaGreatDoor
variable {zp:Prop}
theorem zdq (h:zp:=by
 rintro D ys V hD hys ⟨hM,_,hR⟩ hdef;rw [hys] at hM;gi_wp2;refine ⟨zad,.inl ⟨_,_,rfl,NP hdef,?_⟩⟩;exact ⟨_,N5 rfl _ _ _,rfl,hM.gr hlw (OG V D _) (fun r e=>zaJ),hR.gr hlo (OG V D _) (fun r e=>zaJ)⟩):zp:=h
theorem zek (h:zp:=by
 go_roundw
 case rel=>exact ⟨k+1,zad,zaa,H8⟩
 case measure=>simp only [intOf];omega):zp:=h
theorem zew (h:zp:=by
 intro l pre x V K hI hK;gi_wp2;exact hK _ _ (Oj _ _) (fun h=>h) hI rfl):zp:=h
theorem zeZ (h:zp:=by
 cases a <;> simp only [gO,jf] <;> (try split) <;> rfl):zp:=h
theorem zfj (h:zp:=by
 rintro D c pre V _ _ h _;exact h.elim):zp:=h
theorem zau (h:zp:=by unfold Pg.dW;decide):zp:=h
theorem zaJ (h:zp:=by cases e;exact ⟨by omega,_,hdef,rfl⟩):zp:=h
theorem zaN (h:zp:=by unfold Pg.cJ;decide):zp:=h
open Tryz
variable {nm0:ByteArray} {k r mb pb b cap fin:Nat} {R:Nat->List Pg.Nd} {lo:Pg.Lo} {W W' w:World} {ps:List Pg.PS}
section
open Go.RowKit Go.Proofs Go.Shelf
attribute [local go_sem] NR
namespace Pg
def rk (nm0:ByteArray) (k:Nat) (R:Nat->List Nd) (ys:List Nat):Nat->List Nd:=fun r=>if r∈ys.map (k*65 + ·) then bp nm0 (R r) else R r
def wdR (nm0:ByteArray) (k:Nat) (R:Nat->List Nd):Nat->List Nd:=fun r=>if r / 65=k/\r<390 then bp nm0 (R r) else R r
theorem zy (nm0:ByteArray) (l:List Nd):bp nm0 (bp nm0 l)=bp nm0 l:=by unfold bp;rw [Qn];simp
theorem Ke (nm0:ByteArray) (k:Nat) (R:Nat->List Nd) (ys:List Nat) (x q:Nat):rk nm0 k R (ys++[x]) q=upd (rk nm0 k R ys) (k*65+x) (bp nm0 (rk nm0 k R ys (k*65+x))) q:=by
 by_cases e:q=k*65+x
 ·subst e;rw [aC];unfold rk;rw [M6 zad];split
  ·rw [zy]
  ·rfl
 ·rw [aG _ _ e];unfold rk;have:(q∈(ys++[x]).map (k*65 + ·))↔q∈ys.map (k*65 + ·):=by
   rw [NW,Nr];simp [e]
  simp only [this]
theorem Kc {h:Nat} (hk:k<6) (hh:∀ j,j<64->h.testBit j = !(R (k*65+j)).isEmpty) (hr:isR r):wdR nm0 k R r=rk nm0 k R (eE h) r:=by
 unfold wdR rk;by_cases e:r / 65=k/\r<390
 ·rw [M6 e];have hm:r % 65≠64:=by rcases hr with ⟨_,h⟩ | h <;> omega
  have hrr:r=k*65+r % 65:=zaa;by_cases hb:h.testBit (r % 65)=true
  ·rw [M6 (NI.2 ⟨r % 65,fG.2 ⟨zaa,hb⟩,hrr.symm⟩)]
  ·have hb2:(R r).isEmpty=true:=by
    have:=hh (r % 65) zaa;rw [<- hrr] at this;rw [this] at hb;simpa using hb
   have hb3:R r=[]:=by simpa using hb2
   rw [hb3];split <;> rfl
 ·rw [M4 e,M4 (fun hm=>e ?_)];obtain ⟨j,hj,rfl⟩:=NI.1 hm;have:=(fG.1 hj).1;omega
end Pg
theorem Fl (w:World) (lo:Pg.Lo) (mb pb:Nat) (qv:Value) (s:Pg.MSt) (R:Nat->List Pg.Nd) (k Nb:Nat) (nm0:ByteArray) (hk:k<6) (hls:lo<=w.heap.size) (hM:Pg.au w lo mb pb qv s) (hW:Pg.WhM w lo s R) (hN:Boxed w Nb 9 (.string nm0)) (hg:5<lo.n) (hG:TabAt 5 Lib.deBruijn64tab w) :
  () 375 #[.pointer (some ⟨mb,28+k*65,none⟩),.func (.func 373) #[] #[Nb]] w fun e w'=>e = .returned (.tuple #[])/\Pg.MW w lo mb pb qv s (Pg.wdR nm0 k R) w':=by
 refine (Nz (n:=7)).1 ?_;obtain ⟨h,h1,h2,h3⟩:=hW.held k hk;have hml:=hM.lt;refine NX func375 rfl trivial ?_ rfl;simp only [ntmps375,List.size_toArray,List.length_cons,List.length_nil,Nat.reduceAdd,Nat.reduceSub,Array.replicate_succ,Array.replicate_zero,List.push_toArray,List.append_toArray,List.nil_append,List.cons_append];gi_wp2_with (refine ⟨trivial,?_⟩;gi_at_call 234;refine (Nz.2 (mJ mb (28+k*65) _)).mono ?_;rintro e w9 ⟨rfl,hw9⟩;rw [hw9];clear hw9 w9);have B0:Below w w (((w.alloc (.cells #[.pointer (some ⟨mb,28+k*65,none⟩)] 369)).alloc (.cells #[.func (.func 373) #[] #[Nb]] 273)).alloc (.cells #[.pointer (some ⟨mb,28+k*65,none⟩)] 369)):=(((MY _ w).alloc (MR _) _).alloc zad _).alloc zae _;have x0:Boxed (((w.alloc (.cells #[.pointer (some ⟨mb,28+k*65,none⟩)] 369)).alloc (.cells #[.func (.func 373) #[] #[Nb]] 273)).alloc (.cells #[.pointer (some ⟨mb,28+k*65,none⟩)] 369)) w.heap.size 369 (.pointer (some ⟨mb,28+k*65,none⟩)):=((NA w _ _).alloc _).alloc _;have x1:Boxed (((w.alloc (.cells #[.pointer (some ⟨mb,28+k*65,none⟩)] 369)).alloc (.cells #[.func (.func 373) #[] #[Nb]] 273)).alloc (.cells #[.pointer (some ⟨mb,28+k*65,none⟩)] 369)) (w.heap.size+1) 273 (.func (.func 373) #[] #[Nb]):=by
  have:=(NA (w.alloc (.cells #[(.pointer (some ⟨mb,28+k*65,none⟩))] 369)) 273 (.func (.func 373) #[] #[Nb])).alloc (.cells #[(.pointer (some ⟨mb,28+k*65,none⟩))] 369);rw [Of] at this;exact this
 have x2:Boxed (((w.alloc (.cells #[.pointer (some ⟨mb,28+k*65,none⟩)] 369)).alloc (.cells #[.func (.func 373) #[] #[Nb]] 273)).alloc (.cells #[.pointer (some ⟨mb,28+k*65,none⟩)] 369)) (w.heap.size+1+1) 369 (.pointer (some ⟨mb,28+k*65,none⟩)):=by
  have:=NA ((w.alloc (.cells #[(.pointer (some ⟨mb,28+k*65,none⟩))] 369)).alloc (.cells #[(.func (.func 373) #[] #[Nb])] 273)) 369 (.pointer (some ⟨mb,28+k*65,none⟩));rw [Of,Of] at this;exact this
 have hs0:(((w.alloc (.cells #[.pointer (some ⟨mb,28+k*65,none⟩)] 369)).alloc (.cells #[.func (.func 373) #[] #[Nb]] 273)).alloc (.cells #[.pointer (some ⟨mb,28+k*65,none⟩)] 369)).heap.size=w.heap.size+3:=zad;generalize (((w.alloc (.cells #[.pointer (some ⟨mb,28+k*65,none⟩)] 369)).alloc (.cells #[.func (.func 373) #[] #[Nb]] 273)).alloc (.cells #[.pointer (some ⟨mb,28+k*65,none⟩)] 369))=W0 at *;have hMW0:Pg.MW w lo mb pb qv s (Pg.rk nm0 k R []) W0:=Pg.MW.below (Pg.MW.congr ⟨s.wh,hM,hW,Pg.RfE.refl _ _⟩ (fun r _=>rfl)) hls B0;have xN:=aB hN B0 hN.lt;have hG0:TabAt 5 Lib.deBruijn64tab W0:=fun j hj=>(B0.cell (p:=⟨5,j,none⟩) (Nq hg hls)).trans (hG j hj);have hh0:W0.cell? ⟨mb,28+k*65+64,none⟩=some (.int .u64 h):=(B0.cell (p:=⟨mb,28+k*65+64,none⟩) hml).trans (by rw [On];exact (hM.whc _ zaa zaa).trans (congrArg some h2));refine Qb rfl zaa (gf:=257) rfl trivial (Pe func257 zab rfl)
  (rM 6 zaa (w.heap.size+1+1) mb (28+k*65) h h1 (fun A C=>TabAt 5 Lib.deBruijn64tab A->TabAt 5 Lib.deBruijn64tab C) (fun _ _ h=>h) W0 zaa zaa zaa x2.cell hh0 hG0)
  (fun h k x=>k (h x)) (fun V l o o' hl h hc hw x j hj=>((Po (n₀:=W0.heap.size) (MR _) V l o o' hl h hc hw).cell (p:=⟨5,j,none⟩) (show 5<W0.heap.size by omega)).trans (x j hj)) (MY _ _) (fun _=>rfl)
  (fun ys V=>Pg.MW w lo mb pb qv s (Pg.rk nm0 k R (ys.map (·.1))) V/\((Boxed V w 369 (.pointer (some ⟨mb,28+k*65,none⟩))/\Boxed V (w.heap.size+1) 273 (.func (.func 373) #[] #[Nb]))/\Boxed V Nb 9 (.string nm0))) (fun _ _ _=>False)
  (NH (fun ys A C row h hg hr=>h.gr hls hg (fun r e=>⟨zas,(hr r e).2⟩)) (NH (NH (Oo (Og _ _ _) _) (Oo (Og _ _ _) _)) (Oo (Og _ _ _) _)))
  (fun _ _ _ _ _ hs _ _=>hs) ⟨hMW0,⟨x0,x1⟩,xN⟩
  (fun x a' _=>a'={ tmps:=#[.pointer (some ⟨mb,28+k*65,none⟩),.func (.func 373) #[] #[.pointer (some ⟨Nb,0,none⟩)],.pointer (some ⟨w.heap.size,0,none⟩),.pointer (some ⟨w.heap.size+1,0,none⟩),.int .i64 x.1,.pointer (some ⟨mb,28+k*65,none⟩),.func (.func 257) #[] #[.pointer (some ⟨w.heap.size+1+1,0,none⟩)],.int .i64 x.1,undef,undef,undef,undef,undef,undef,undef,undef,undef,undef],defers:=[] }) (fun _ _ _ _ _ _ hs _ _=>hs) ?assign ?body ?done ?stop
 case assign =>
  exact zew
 case body =>
  rintro l pre x a' V hl ⟨rl,hrl⟩ ⟨hMW,⟨z0,z1⟩,zN⟩ rfl hpl;obtain ⟨hx64,hxb⟩:=Pg.fG.1 x.2;have hir:Pg.isR (k*65+x.1) := .inl zaa;have q0:V.drew.cell? w=_:=z0.cell;have q1:V.drew.cell? ⟨w.heap.size+1,0,none⟩=_:=z1.cell;have hBd:=(MY V V).drew;have hdr:=vf V.drew w lo mb pb qv s _ (k*65+x.1) Nb nm0 hir hls (hMW.below hls hBd) zN;rw [<- On] at hdr;have hx64':((x.1:Int)<64):=zaa;have hd1:1<=7-1-1:=zaa;have HMK:Hid (∀ w1,(∃ wh0 wh',Pg.jX wh0 (Pg.rk nm0 k R (pre.map (·.1)))/\Pg.au w1 lo mb pb qv { s with wh:=wh' }/\Pg.cX w1 lo wh' (Pg.upd (Pg.rk nm0 k R (pre.map (·.1))) (k*65+x.1) (Pg.bp nm0 (Pg.rk nm0 k R (pre.map (·.1)) (k*65+x.1))))/\(∀ k,k<6->wh' (28+(k*65+64))=wh0 (28+(k*65+64)))/\Pg.Rw lo w w1/\Pg.Rw lo V.drew w1) ->
    w1.cell? w=some (.pointer (some ⟨mb,28+k*65,none⟩))/\() 198 #[(.pointer (some ⟨mb,28+k*65,none⟩)),(x.1:Int)] w1 fun e w'=>e = .returned (.tuple #[])/\KeepsFrom W0.heap.size V w'/\(TabAt 5 Lib.deBruijn64tab V->TabAt 5 Lib.deBruijn64tab w')/\Pg.MW w lo mb pb qv s (Pg.rk nm0 k R ((pre++[x]).map (·.1))) w'/\((Boxed w' w 369 (.pointer (some ⟨mb,28+k*65,none⟩))/\Boxed w' (w.heap.size+1) 273 (.func (.func 373) #[] #[Nb]))/\Boxed w' Nb 9 (.string nm0))):=fun w1 hw1=>by
   obtain ⟨wh0,wh',e1,e2,e3,e4,e5,e6⟩:=hw1;have hVs:lo<=V.drew.heap.size:=MX hls (by obtain ⟨_,_,_,hc⟩:=hMW;exact hc.bel.size);have hsz1:lo<=w1.heap.size:=MX hVs e6.bel.size;obtain ⟨hq,g1,g2,g3⟩:=e1 k hk;have bx:∀ (B:Nat) (t:TypeId) (v:Value),Boxed V B t v->¬ Pg.dW t->∀ W,Pg.Rw lo V.drew W->Boxed W B t v:=fun B t v hb ht W hW=>Kd.boxed hW.kd (A:=V.drew) hb ht;have nt1:¬ Pg.dW 369:=zau;have nt2:¬ Pg.dW 273:=zau;have nt3:¬ Pg.dW 9:=zau;refine ⟨(bx _ _ _ z0 nt1 w1 e6).cell,?_⟩;refine (so w1 mb (28+k*65) x.1 _ hq hx64 g1 (by rw [On];exact (e2.whc _ zaa zaa).trans (congrArg some (e3.ring _ hir))) (by rw [On];exact (e2.whc _ zaa zaa).trans (congrArg some ((e4 k hk).trans g2))) (e2.frozen _)).mono ?_;rintro e w' ⟨rfl,rfl⟩;rw [Pg.aC];obtain ⟨m1,m2,m3⟩:=e3.mark e2 k hk (.int .u64 (Pg.iq hq x.1 (Pg.bp nm0 (Pg.rk nm0 k R (pre.map (·.1)) (k*65+x.1))).isEmpty)) hsz1;have mr:=Pg.JZ e2 hsz1 (28+k*65+64) (.int .u64 (Pg.iq hq x.1 (Pg.bp nm0 (Pg.rk nm0 k R (pre.map (·.1)) (k*65+x.1))).isEmpty));have mV:=e6.trans mr;refine ⟨rfl,?_,fun hT j hj=>(mV.bel.cell (p:=⟨5,j,none⟩) hg).trans (hT j hj),⟨_,m1,?_,e5.trans mr⟩,⟨bx _ _ _ z0 nt1 _ mV,bx _ _ _ z1 nt2 _ mV⟩,bx _ _ _ zN nt3 _ mV⟩
   ·exact ((PZ V).trans mV.oth).from _
   ·refine Pg.WhM.congr (R:=Pg.upd (Pg.rk nm0 k R (pre.map (·.1))) (k*65+x.1) (Pg.bp nm0 (Pg.rk nm0 k R (pre.map (·.1)) (k*65+x.1)))) ⟨m2,fun k' hk' => ?_⟩ (fun r _=>by rw [NW];exact Pg.Ke nm0 k R _ x.1 r);by_cases e:k'=k
    ·subst e;refine ⟨_,Pg.n7 g1 hx64,Pg.aC _ _ _,fun j hj => ?_⟩;rw [Pg.l9 hx64 j hj];by_cases e:j=x.1
     ·subst e;rw [M6 rfl,Pg.aC]
     ·rw [M4 e,Pg.aG _ _ zaa];exact g3 j hj
    ·obtain ⟨a,b1,b2,b3⟩:=e1 k' hk';refine ⟨a,b1,?_,fun j hj => ?_⟩
     ·show Pg.upd wh' _ _ _=_;rw [Pg.aG _ _ zaa,e4 k' hk'];exact b2
     ·rw [Pg.aG _ _ zaa];exact b3 j hj
  gi_wp2;refine aV (dF l) 6 zab zab zab ?_;simp only [List.take_succ_cons,List.take_zero,List.drop_succ_cons,List.drop_zero]
  repeat still_step
  refine Ov ?_;gi_wp2_with (first
   | (refine ⟨trivial,?_⟩;gi_at_call 376;refine (aH hdr).mono ?_;intro e w1 h9;obtain ⟨rfl,h9⟩:=h9;obtain ⟨p0,pm⟩:=HMK.out w1 h9;have HPM:Hid _:=pm;clear h9 pm)
   | (refine ⟨trivial,?_⟩;gi_at_call 198;refine (aH HPM.out).mono ?_;intro e w8 h8;obtain ⟨rfl,h8⟩:=h8;have H8:Hid _:=h8;clear h8))
  exact H8.out
 case done =>
  rintro D ys V hD hys ⟨hMW,_⟩ hdef;have hMW2:=hMW.congr (fun r hr=>(Pg.Kc (nm0:=nm0) hk h3 hr).trans (congrArg (fun l=>Pg.rk nm0 k R l r) hys.symm));gi_wp2;refine ⟨zad,.inl ⟨_,_,rfl,NP hdef,?_⟩⟩;exact ⟨_,N5 rfl _ _ _,rfl,hMW2.gr hls (OG V D _) (fun r e=>zaJ)⟩
 case stop =>
  exact zfj
namespace Pg
def dkR (nm0:ByteArray) (k:Nat) (R:Nat->List Nd):Nat->List Nd:=fun r=>if r<k*65/\r<390 then bp nm0 (R r) else R r
theorem Gd (hr:isR r):dkR nm0 (k+1) R r=wdR nm0 k (dkR nm0 k R) r:=by
 unfold wdR dkR;by_cases h1:r<k*65/\r<390
 ·rw [M6 h1,M6 zaa,M4 zaa]
 ·rw [M4 h1];by_cases h2:r / 65=k/\r<390
  ·rw [M6 h2,M6 zaa]
  ·rw [M4 h2,M4 (by rcases hr with ⟨a,b⟩ | hr <;> omega)]
end Pg
theorem Gg (w:World) (lo:Pg.Lo) (mb pb:Nat) (qv:Value) (s:Pg.MSt) (R:Nat->List Pg.Nd) (Nb:Nat) (nm0:ByteArray) (hls:lo<=w.heap.size) (hM:Pg.au w lo mb pb qv s) (hW:Pg.WhM w lo s R) (hN:Boxed w Nb 9 (.string nm0)) (hg:5<lo.n) (hG:TabAt 5 Lib.deBruijn64tab w) :
  () 372 #[.pointer (some ⟨mb,27,none⟩),.func (.func 373) #[] #[Nb]] w fun e w'=>e = .returned (.tuple #[])/\Pg.MW w lo mb pb qv s (fun r=>Pg.bp nm0 (R r)) w':=by
 have h0:Pg.MW w lo mb pb qv s (Pg.dkR nm0 0 R) w:=Pg.MW.congr ⟨s.wh,hM,hW,Pg.RfE.refl _ _⟩ (fun r _=>by unfold Pg.dkR;rw [M4 zaa]);have HN:Hid (∀ V,Pg.Rw lo w V->Boxed V Nb 9 (.string nm0)/\TabAt 5 Lib.deBruijn64tab V/\lo<=V.heap.size):=fun V hV=>⟨Kd.boxed hV.kd hN zau,fun j hj=>(hV.bel.cell (p:=⟨5,j,none⟩) hg).trans (hG j hj),MX hls hV.bel.size⟩;have HW:Hid (∀ V k,k<6->Pg.MW w lo mb pb qv s (Pg.dkR nm0 k R) V->() 375 #[.pointer (some ⟨mb,28+k*65,none⟩),.func (.func 373) #[] #[Nb]] V fun e w'=>e = .returned (.tuple #[])/\Pg.MW w lo mb pb qv s (Pg.dkR nm0 (k+1) R) w'):=fun V k hk hV=>by
  obtain ⟨wh',a,b,c⟩:=hV;obtain ⟨n1,n2,n3⟩:=HN.out V c;refine (Fl V lo mb pb qv _ _ k Nb nm0 hk n3 a b n1 hg n2).mono ?_;rintro e w' ⟨rfl,wh2,a2,b2,c2⟩;exact ⟨rfl,Pg.MW.congr ⟨wh2,a2,b2,c.trans c2⟩ (fun r hr=>Pg.Gd hr)⟩
 have HO:Hid (∀ V,Pg.MW w lo mb pb qv s (Pg.dkR nm0 6 R) V->() 376 #[.pointer (some ⟨mb,418,none⟩),.func (.func 373) #[] #[Nb]] V fun e w'=>e = .returned (.tuple #[])/\Pg.MW w lo mb pb qv s (fun r=>Pg.bp nm0 (R r)) w'):=fun V hV=>by
  have hc:Pg.Rw lo w V:=by obtain ⟨_,_,_,c⟩:=hV;exact c
  obtain ⟨n1,n2,n3⟩:=HN.out V hc;refine (vf V w lo mb pb qv s _ 390 Nb nm0 (.inr rfl) hls hV n1).mono ?_;rintro e w' ⟨rfl,wh0,wh',e1,e2,e3,e4,e5,e6⟩;refine ⟨rfl,Pg.MW.congr (R:=Pg.upd (Pg.dkR nm0 6 R) 390 (Pg.bp nm0 (Pg.dkR nm0 6 R 390))) ⟨wh',e2,⟨e3,fun k hk => ?_⟩,e5⟩ (fun r hr => ?_)⟩
  ·obtain ⟨h,h1,h2,h3⟩:=e1 k hk;exact ⟨h,h1,(e4 k hk).trans h2,fun j hj=>by rw [Pg.aG _ _ zaa];exact h3 j hj⟩
  ·by_cases e:r=390
   ·subst e;rw [Pg.aC];unfold Pg.dkR;rw [M4 zaa]
   ·rw [Pg.aG _ _ e];unfold Pg.dkR;rw [M6 (by rcases hr with ⟨a,b⟩ | hr <;> omega)]
 clear hM hW hN hG;go_enter func372,ntmps372;go_wp2
 go_loopw [5] (fun v wr=>∃ k:Nat,v = .int .i64 k/\k<=6/\Pg.MW w lo mb pb qv s (Pg.dkR nm0 k R) wr) (fun v _=>6-(intOf v).toNat)
 case atStart=>exact ⟨0,rfl,zaa,h0⟩
 case round =>
  obtain ⟨k,rfl,hk6,hk⟩:=hrel;have HK:Hid _:=hk;clear hk h0;by_cases e:k=6
  ·subst e;go_wp2_with (go_at_call 376;refine (HO.out _ HK.out).mono ?_;intro e w9 h9;obtain ⟨rfl,h9⟩:=h9;have H9:Hid _:=h9;clear h9);go_end0;exact ⟨rfl,H9.out⟩
  ·have hk5:k<6:=zaa;have hk5':((k:Int)<6):=zaa;go_wp2_with (go_at_call 375;refine (HW.out _ k hk5 HK.out).mono ?_;intro e w9 h9;obtain ⟨rfl,h9⟩:=h9;have H9:Hid _:=h9;clear h9)
   go_roundw
   case rel=>exact ⟨k+1,zad,zaa,H9.out⟩
   case measure=>simp only [intOf];omega
theorem EA (nm0:ByteArray) (l:List Pg.Nd):(Pg.bp nm0 l).map (·.2)=(l.map (·.2)).filter (fun t => !(t.nm.toList == nm0.toList)):=by
 unfold Pg.bp;rw [QP];rfl
theorem A8 (w:World) (lo:Pg.Lo) (mb pb:Nat) (qv:Value) (s:Pg.MSt) (T:List Pg.Tn) (nm0:ByteArray) (hls:lo<=w.heap.size) (hM:Pg.au w lo mb pb qv s) (hT:Pg.fm w lo s T) (hg:5<lo.n) (hG:TabAt 5 Lib.deBruijn64tab w) :
  () 370 #[mb,nm0] w fun e w'=>e = .returned (.tuple #[])/\∃ wh',Pg.au w' lo mb pb qv { s with wh:=wh' }/\Pg.fm w' lo { s with wh:=wh' } (T.filter fun t => !(t.nm.toList == nm0.toList))/\Pg.Rf lo w w':=by
 have hb:Below w w (w.alloc (.cells #[nm0] 9)):=(MY _ w).alloc (MR _) _;have hD:() 372 #[.pointer (some ⟨mb,27,none⟩),.func (.func 373) #[] #[w]] (w.alloc (.cells #[nm0] 9)) fun e w'=>e = .returned (.tuple #[])/\∃ wh',Pg.au w' lo mb pb qv { s with wh:=wh' }/\Pg.fm w' lo { s with wh:=wh' } (T.filter fun t => !(t.nm.toList == nm0.toList))/\Pg.Rf lo w w':=by
  obtain ⟨R,hW,hF,hB⟩:=hT;refine (Gg _ lo mb pb qv s R w nm0 (MX hls hb.size) (hM.below hb) ⟨hW.rgs.below hb,hW.held⟩ (NA w _ _) hg (fun j hj=>(hb.cell (p:=⟨5,j,none⟩) (Nq hg hls)).trans (hG j hj))).mono ?_;rintro e w' ⟨rfl,wh',a,b,c⟩;refine ⟨rfl,wh',a,⟨_,b,fun r hr => ?_,fun t ht=>hB t (OE.1 ht).1⟩,(Pg.RfE.of hb hls).trans (Pg.vJ c)⟩;rw [EA,hF r hr,Qn,Qn]
  congr 1
  funext t;exact Bool.and_comm _ _
 clear hM hT hG;go_enter func370,ntmps370;go_wp2_with (go_at_call 372;refine hD.mono ?_;intro e w9 h9;obtain ⟨rfl,h9⟩:=h9;have H9:Hid _:=h9;clear h9);go_end0;exact ⟨rfl,H9.out⟩
namespace Pg
def yU (ps:List PS) (fin:Nat) (s:MSt) (i:Nat):MSt:=match ps[i]? with
 | none=>s
 | some p=>if p.owner == -1 then { s with fin:=eM 5 } else match ps[p.owner.toNat]? with
  | none=>s
  | some q=>if q.owner == -1 then { s with q:=s.q++[q.done] } else match ps[q.owner.toNat]? with
   | none=>{ s with q:=s.q++[q.done] }
   | some r=>if r.kind == 1&&atEnd ps fin s.act ps.length q.owner.toNat then { s with q:=s.q++[q.done]++[r.done] } else { s with q:=s.q++[q.done] }
end Pg
theorem Bl (w:World) (lo:Pg.Lo) (mb pb b cap:Nat) (qv:Value) (s:Pg.MSt) (ps:List Pg.PS) (fin i:Nat) (p:Pg.PS) (hM:Pg.au w lo mb pb qv s) (hlo:lo<=w.heap.size) (hP:Pg.bZ w pb b cap ps) (hpb:pb<lo) (hb:b<lo) (hf2:w.cell? ⟨pb,2,none⟩=some (.int .u32 fin)) (hfl:fin<4294967296) (hact:s.act<4294967296) (hpi:ps[i]?=some p)
  (how:∀ (i:Nat) (p:Pg.PS),ps[i]?=some p->p.owner = -1\/∃ o:Nat,p.owner=o/\o<i) (hpts:∀ (i:Nat) (p:Pg.PS),ps[i]?=some p->∀ j∈Pg.els p.parts,i<j/\j<ps.length) (hg:1<lo.n) (hT:TabAt 1 Lib.deBruijn32tab w) (hql:s.q.length<=4398046511000) :
  () 95 #[mb,.pointer (some ⟨b,i*10,none⟩)] w fun e w'=>e = .returned (.tuple #[])/\∃ qv',Pg.au w' lo mb pb qv' (Pg.yU ps fin s i)/\Pg.Rq lo w w':=by
 have hlen:=hP.len;have hil:i<ps.length:=(MZ.1 hpi).1;have hi3:=(hP.at' i p hpi).c3;obtain ⟨sz,hsz⟩:∃ sz,Pg.yU ps fin s i=sz:=⟨_,rfl⟩;rw [hsz];have HSZ:Hid (Pg.yU ps fin s i=sz):=hsz;clear hsz
 rcases how i p hpi with ho | ⟨o,ho,hoi⟩
 ·have c9:w.cell? ⟨mb,419,none⟩=some s.fin:=hM.cell 419 zac;have f9:=hM.frozen 419;have hS:sz={ s with fin:=Pg.eM 5 }:=by rw [<- HSZ.out];unfold Pg.yU;rw [hpi];dsimp only;rw [ho];rfl
  have hM9:Pg.au (w.setCell ⟨mb,419,none⟩ (.iface 29 (.int .i64 5))) lo mb pb qv sz:=by
   rw [hS];refine hM.set 419 _ _ zac rfl (fun j hj => ?_);by_cases e:j=419
   ·subst e;rfl
   ·rw [M4 e];have hj:j<419:=zaa;simp [Pg.eR,hj]
  have hR9:Pg.Rq lo w (w.setCell ⟨mb,419,none⟩ (.iface 29 (.int .i64 5))):=Pg.RfE.mo (P:=(· = mb)) ((Mo.refl (· = mb) w).set ⟨mb,419,none⟩ _ rfl) (fun k hk=>by
   obtain ⟨arr,a1,_⟩:=hM.blk;subst hk;exact ⟨hM.lo',arr,_,_,a1,.inl rfl⟩) hlo
  rw [ho] at hi3;clear hS ho HSZ hM;go_enter func95,ntmps95;go_wp2;refine OI (N5 rfl _ _ _) rfl ?_;exact ⟨rfl,_,hM9,hR9⟩
 ·have hol:o<ps.length:=zaa;obtain ⟨q,hq⟩:∃ q,ps[o]?=some q:=⟨_,MU hol⟩;have hm0:w.cell? mb=some ↑pb:=hM.cell 0 zac;rw [ho] at hi3;have hon:((o:Int) == -1)=false:=zad;have hqd:=(hP.at' o q hq).c2;have hBd:=(MY w w).drew;have hra:=pH w.drew lo mb pb qv s q.done (hM.below hBd) hlo zaa;have hRd:Pg.Rq lo w w.drew:=Pg.RfE.of hBd hlo;have HO:Hid (p.owner=o):=ho;clear ho;go_enter func95,ntmps95
  go_upto_region 2 with fail
  refine No (S:=(fun V=>V.cell? mb=some ↑pb/\V.cell? pb=some (.slice b ps.length cap)/\V.cell? ⟨b,i*10+3,none⟩=some ↑(o:Int))) zab ⟨hm0,hP.row,hi3⟩ (fun u0 => ?_);refine tD (some 15) 0 mb rfl u0 ?_;refine tD (some 16) 1 mb rfl u0 ?_;refine tD (some 17) 2 mb rfl u0 ?_;refine tD (some 18) 3 pb rfl u0 ?_;refine tD (some 19) 4 pb rfl u0 ?_;refine tD (some 20) 5 pb rfl u0 ?_;refine tD (some 21) 6 (.slice b ps.length cap) rfl u0 ?_;refine tD (some 22) 7 (.pointer (some ⟨b,i*10,none⟩)) rfl u0 ?_;refine tD (some 23) 8 (.pointer (some ⟨b,i*10,none⟩)) rfl u0 ?_;refine tD (some 24) 9 (.pointer (some ⟨b,i*10+3,none⟩)) rfl u0 ?_;refine tD (some 25) 10 (.int .i64 o) rfl u0 ?_;refine tD (some 26) 11 (.pointer (some ⟨b,o*10,none⟩)) rfl u0 ?_;refine tD (some 4) 12 (.pointer (some ⟨b,o*10,none⟩)) rfl u0 ?_;refine Nt zab ?_ _;have hqd:w.drew.cell? ⟨b,o*10+2,none⟩=_:=hqd
  go_upto_region 4 with (go_at_call 111;refine hra.mono ?_;intro e w3 h3;obtain ⟨rfl,qv3,hM3,hR3⟩:=h3)
  clear u0;have hR13:=hRd.trans hR3;have hP3:=hP.below hR13.bel hpb hb;have ho3:=(hP3.at' o q hq).c3;have hto:p.owner.toNat=o:=by rw [HO.out];rfl
  have hne1:(p.owner == -1)=false:=by rw [HO.out];simp
  rcases how o q hq with hu | ⟨u,hu,huo⟩
  ·have hS:sz={ s with q:=s.q++[q.done] }:=by rw [<- HSZ.out];unfold Pg.yU;rw [hpi];dsimp only;rw [M4 (by rw [hne1];decide),hto,hq];dsimp only;rw [hu];rfl
   have HM3:Hid (Pg.au w3 lo mb pb qv3 sz):=by rw [hS];exact hM3
   rw [hu] at ho3;clear hS hto hne1 hu hM3;go_wp2;refine OI (N5 rfl _ _ _) rfl ?_;exact ⟨rfl,_,HM3.out,hR13⟩
  ·have hul:u<ps.length:=zaa;obtain ⟨r,hr⟩:∃ r,ps[u]?=some r:=⟨_,MU hul⟩;have hS:sz=if r.kind == 1&&Pg.atEnd ps fin s.act ps.length u then { s with q:=s.q++[q.done]++[r.done] } else { s with q:=s.q++[q.done] }:=by
    rw [<- HSZ.out];unfold Pg.yU;rw [hpi];dsimp only;rw [M4 (by rw [hne1];decide),hto,hq];dsimp only;rw [hu,M4 zad];simp only [Int.toNat_natCast,hr]
   have HS:Hid _:=hS;rw [hu] at ho3;have hun:((u:Int) == -1)=false:=zad;have hm0:w3.cell? mb=some ↑pb:=hM3.cell 0 zac;have HU:Hid (q.owner=u):=hu;clear hS hto hne1 hu
   go_upto_region 5 with fail
   refine No (S:=(fun V=>V.cell? mb=some ↑pb/\V.cell? pb=some (.slice b ps.length cap)/\V.cell? ⟨b,o*10+3,none⟩=some ↑(u:Int))) zab ⟨hm0,hP3.row,ho3⟩ (fun u0 => ?_);refine tD (some 38) 0 mb rfl u0 ?_;refine tD (some 39) 1 mb rfl u0 ?_;refine tD (some 40) 2 mb rfl u0 ?_;refine tD (some 41) 3 pb rfl u0 ?_;refine tD (some 42) 4 pb rfl u0 ?_;refine tD (some 43) 5 pb rfl u0 ?_;refine tD (some 44) 6 (.slice b ps.length cap) rfl u0 ?_;refine tD (some 45) 7 (.pointer (some ⟨b,o*10,none⟩)) rfl u0 ?_;refine tD (some 46) 8 (.pointer (some ⟨b,o*10,none⟩)) rfl u0 ?_;refine tD (some 47) 9 (.pointer (some ⟨b,o*10+3,none⟩)) rfl u0 ?_;refine tD (some 48) 10 (.int .i64 u) rfl u0 ?_;refine tD (some 49) 11 (.pointer (some ⟨b,u*10,none⟩)) rfl u0 ?_;refine tD (some 5) 12 (.pointer (some ⟨b,u*10,none⟩)) rfl u0 ?_;refine Nt zab ?_ _;clear u0;simp only [Act.put,List.setIfInBounds_toArray,List.set_cons_succ,List.set_cons_zero];have hR14:Pg.Rq lo w w3.drew:=hR13.trans (Pg.RfE.of (MY w3 w3).drew (MX hlo hR13.bel.size));have hM4:=hM3.below (MY w3 w3).drew;obtain ⟨w4,hw4⟩:∃ W,w3.drew=W:=⟨_,rfl⟩;rw [hw4] at hR14 hM4 ⊢;clear hw4 hM3 hm0 ho3 hP3;have hs4:=hR14.bel.size;have hP4:=hP.below hR14.bel hpb hb;have hm0:w4.cell? mb=some ↑pb:=hM4.cell 0 zac;have hm1:w4.cell? ⟨mb,1,none⟩=some (.int .u32 s.act):=hM4.cell 1 zac;have ho3:w4.cell? ⟨b,o*10+3,none⟩=some ↑(u:Int):=by have:=(hP4.at' o q hq).c3;rw [HU.out] at this;exact this
   have hu0:=(hP4.at' u r hr).c0;have hf4:=(hR14.bel.cell (p:=⟨pb,2,none⟩) hpb).trans hf2;have hT4:TabAt 1 Lib.deBruijn32tab w4:=Pg.KpT.of hR14.bel hg hT;have hae:=DU pb b cap ps fin s.act hfl hact hpts ps.length u r w4.drew zaa hr hf4 (hP4.below ((MY w4 w4).drew) zaa zaa) (by show pb<w4.heap.size;omega) (by show b<w4.heap.size;omega) (by show _<w4.heap.size;omega) hT4;obtain ⟨ae,hae0⟩:∃ ae,Pg.atEnd ps fin s.act ps.length u=ae:=⟨_,rfl⟩;obtain ⟨bv,hbv⟩:∃ bv,(r.kind == 1&&ae)=bv:=⟨_,rfl⟩;have HS:Hid (sz=if bv then { s with q:=s.q++[q.done]++[r.done] } else { s with q:=s.q++[q.done] }):=by have:=HS.out;rw [hae0,hbv] at this;exact this
   rw [hae0] at hae;have HBV:Hid _:=hbv;clear hae0 hbv
   go_upto_region 6 with fail
   go_cut [69] from 50 (fun c V=>c = .bool bv/\Below w4 w4 V)
   case first =>
    rename_i J hJ;by_cases hk:r.kind=1
    ·have hk1:(r.kind == 1)=true:=za6;have HB:Hid (bv=ae):=by have:=HBV.out;rw [hk1,Qv] at this;exact this.symm
     clear hk HS HBV;have hmbl:mb<w4.drew.heap.size:=hM4.lt;have hbl:b<w4.drew.heap.size:=by show b<w4.heap.size;omega
     have hkB:∀ V:World,Below w4.drew.heap.size w4.drew V->V.cell? mb=some ↑pb/\V.cell? ⟨mb,1,none⟩=some (.int .u32 s.act)/\V.cell? ⟨b,o*10+3,none⟩=some ↑(u:Int)/\V.cell? ⟨b,u*10,none⟩=some ↑(r.kind:Int):=fun V hB=>⟨(hB.cell (p:=⟨mb,0,none⟩) hmbl).trans hm0,(hB.cell (p:=⟨mb,1,none⟩) hmbl).trans hm1,(hB.cell (p:=⟨b,o*10+3,none⟩) hbl).trans ho3,(hB.cell (p:=⟨b,u*10,none⟩) hbl).trans hu0⟩;refine No (S:=(fun V=>V.cell? mb=some ↑pb/\V.cell? ⟨mb,1,none⟩=some (.int .u32 s.act)/\V.cell? ⟨b,o*10+3,none⟩=some ↑(u:Int)/\V.cell? ⟨b,u*10,none⟩=some ↑(r.kind:Int))) zab ⟨hm0,hm1,ho3,hu0⟩ (fun u0 => ?_);refine tD (some 50) 0 (.pointer (some ⟨b,u*10,none⟩)) rfl u0 ?_;refine tD (some 51) 1 (.pointer (some ⟨b,u*10,none⟩)) rfl u0 ?_;refine tD (some 52) 2 (.pointer (some ⟨b,u*10,none⟩)) rfl u0 ?_;refine tD (some 53) 3 (.int .i64 r.kind) rfl u0 ?_;refine tD (some 54) 4 (.bool true) rfl u0 ?_;refine tD (some 55) 5 (.bool true) rfl u0 ?_;refine dR (d:=some 56) (i:=6) (v:=(.pointer (some ⟨mb,0,none⟩))) rfl rfl zab zab zab (fun _ _ _ h=>h) (Or.inl ⟨zab,fun w hSw=>zai⟩) u0 ?_;refine dR (d:=some 57) (i:=7) (v:=(.pointer (some ⟨mb,0,none⟩))) rfl rfl zab zab zab (fun _ _ _ h=>h) (Or.inl ⟨zab,fun w hSw=>zai⟩) u0 ?_;refine dR (d:=some 58) (i:=8) (v:=(.pointer (some ⟨mb,0,none⟩))) rfl rfl zab zab zab (fun _ _ _ h=>h) (Or.inl ⟨zab,fun w hSw=>zai⟩) u0 ?_;refine dR (d:=some 59) (i:=9) (v:=(.pointer (some ⟨pb,0,none⟩))) rfl rfl zab zab zab (fun _ _ _ h=>h) (Or.inl ⟨zab,fun w hSw=>zai⟩) u0 ?_;refine dR (d:=some 60) (i:=10) (v:=(.pointer (some ⟨b,o*10,none⟩))) rfl rfl zab zab zab (fun _ _ _ h=>h) (Or.inl ⟨zab,fun w hSw=>zai⟩) u0 ?_;refine dR (d:=some 61) (i:=11) (v:=(.pointer (some ⟨b,o*10,none⟩))) rfl rfl zab zab zab (fun _ _ _ h=>h) (Or.inl ⟨zab,fun w hSw=>zai⟩) u0 ?_;refine dR (d:=some 62) (i:=12) (v:=(.pointer (some ⟨b,o*10+3,none⟩))) rfl rfl zab zab zab (fun _ _ _ h=>h) (Or.inl ⟨zab,fun w hSw=>zai⟩) u0 ?_;refine dR (d:=some 63) (i:=13) (v:=(.int .i64 u)) rfl rfl zab zab zab (fun _ _ _ h=>h) (Or.inl ⟨zab,fun w hSw=>zai⟩) u0 ?_;refine dR (d:=some 64) (i:=14) (v:=(.pointer (some ⟨mb,0,none⟩))) rfl rfl zab zab zab (fun _ _ _ h=>h) (Or.inl ⟨zab,fun w hSw=>zai⟩) u0 ?_;refine dR (d:=some 65) (i:=15) (v:=(.pointer (some ⟨mb,0,none⟩))) rfl rfl zab zab zab (fun _ _ _ h=>h) (Or.inl ⟨zab,fun w hSw=>zai⟩) u0 ?_;refine dR (d:=some 66) (i:=16) (v:=(.pointer (some ⟨mb,1,none⟩))) rfl rfl zab zab zab (fun _ _ _ h=>h) (Or.inl ⟨zab,fun w hSw=>zai⟩) u0 ?_;refine dR (d:=some 67) (i:=17) (v:=(.int .u32 s.act)) rfl rfl zab zab zab (fun _ _ _ h=>h) (Or.inl ⟨zab,fun w hSw=>zai⟩) u0 ?_;refine zH 18 rfl fun K hK => ?_;go_simp;refine hae.mono ?_;rintro e w9 ⟨rfl,hB9⟩;refine hK.out _ _ (hkB w9 hB9) (fun u0 => ?_);clear hK K;refine tD (some 69) 19 (.bool ae) rfl u0 ?_;refine Nt zab ?_ _;clear u0 hkB;simp only [Act.put,List.setIfInBounds_toArray,List.set_cons_succ,List.set_cons_zero];refine hJ _ _ ?_;go_meet
     case rel=>exact ⟨by rw [HB.out],(MY w4 w4).drew.trans hB9⟩
    ·have hk1:(r.kind == 1)=false:=zbs;have HB:Hid (bv=false):=by have:=HBV.out;rw [hk1,Pk] at this;exact this.symm
     clear hk HS HBV hae hM4 hm0 hm1 ho3 hP4 hf4 hT4;refine No (S:=(fun V=>V.cell? ⟨b,u*10,none⟩=some ↑(r.kind:Int))) zab hu0 (fun u0 => ?_);refine tD (some 50) 0 (.pointer (some ⟨b,u*10,none⟩)) rfl u0 ?_;refine tD (some 51) 1 (.pointer (some ⟨b,u*10,none⟩)) rfl u0 ?_;refine tD (some 52) 2 (.pointer (some ⟨b,u*10,none⟩)) rfl u0 ?_;refine tD (some 53) 3 (.int .i64 r.kind) rfl u0 ?_;refine tD (some 54) 4 (.bool false) rfl u0 ?_;refine tD (some 55) 5 (.bool false) rfl u0 ?_;refine tU (some 56) 6 rfl u0 ?_;refine tU (some 57) 7 rfl u0 ?_;refine tU (some 58) 8 rfl u0 ?_;refine tU (some 59) 9 rfl u0 ?_;refine tU (some 60) 10 rfl u0 ?_;refine tU (some 61) 11 rfl u0 ?_;refine tU (some 62) 12 rfl u0 ?_;refine tU (some 63) 13 rfl u0 ?_;refine tU (some 64) 14 rfl u0 ?_;refine tU (some 65) 15 rfl u0 ?_;refine tU (some 66) 16 rfl u0 ?_;refine tU (some 67) 17 rfl u0 ?_;refine tU (some 68) 18 rfl u0 ?_;refine tD (some 69) 19 (.bool false) rfl u0 ?_;refine Nt zab ?_ _;clear u0;simp only [Act.put,List.setIfInBounds_toArray,List.set_cons_succ,List.set_cons_zero];refine hJ _ _ ?_;go_meet
     case rel=>exact ⟨by rw [HB.out],(MY w4 w4).drew⟩
   case rest =>
    obtain ⟨rfl,hB49⟩:=hcut;clear hae HBV hm0 hm1 ho3 hP4 hf4 hT4 hu0;obtain ⟨w9,hw9⟩:∃ W,wc=W:=⟨_,rfl⟩;rw [hw9] at hB49 ⊢;clear hw9 wc;have hM9:=hM4.below hB49;have hR9:Pg.Rq lo w w9:=hR14.trans (Pg.RfE.of hB49 zaa);have hs9:=hB49.size;have hu2:=((hP.below hR9.bel hpb hb).at' u r hr).c2;cases bv
    ·have HM9:Hid (Pg.au w9 lo mb pb qv3 sz):=by have:=HS.out;rw [M4 zac] at this;rw [this];exact hM9
     clear HS hM9;go_wp2;go_end0;exact ⟨rfl,_,HM9.out,hR9⟩
    ·have HS1:Hid (sz={ s with q:=s.q++[q.done]++[r.done] }):=by have:=HS.out;rw [M6 rfl] at this;exact this
     have hra2:=pH w9 lo mb pb qv3 { s with q:=s.q++[q.done] } r.done hM9 zaa zae;dsimp only at hra2;rw [<- HS1.out] at hra2;clear HS hM9;go_wp2_with (go_at_call 111;refine hra2.mono ?_;intro e w5 h5;obtain ⟨rfl,qv5,hM5,hR5⟩:=h5);go_end0;exact ⟨rfl,_,hM5,hR9.trans hR5⟩
namespace Pg
structure RSt where
 act:Nat
 kept:Nat->Nat
 q:List ByteArray
 now:Nat
 tm:List Tn
 fin:Nat
def RSt.m (r:RSt) (wh:Nat->Value):MSt:=⟨r.act,r.kept,r.q,r.now,wh,eM r.fin⟩
structure MT (W:World) (lo:Pg.Lo) (mb pb:Nat) (r:RSt):Prop where
 ex:∃ qv wh,au W lo mb pb qv (r.m wh)/\fm W lo (r.m wh) r.tm
 lo':lo<=W.heap.size
 act:r.act<4294967296
 now:r.now<18446744073709551616
 tml:r.tm.length<=12
 tab:TabAt 5 Lib.deBruijn64tab W
 tab5:TabAt 1 Lib.deBruijn32tab W
structure Lw (lo:Nat):Prop where
 g:5<lo
 g5:1<lo
theorem fk {lo:Nat} (hl:Lw lo) (h:Below lo W W') (hT:TabAt 5 Lib.deBruijn64tab W):TabAt 5 Lib.deBruijn64tab W':=fun j hj=>(h.cell (p:=⟨5,j,none⟩) hl.g).trans (hT j hj)
theorem bU {lo:Nat} (hl:Lw lo) (h:Below lo W W') (hT:TabAt 1 Lib.deBruijn32tab W):TabAt 1 Lib.deBruijn32tab W':=fun j hj=>(h.cell (p:=⟨1,j,none⟩) hl.g5).trans (hT j hj)
theorem MT.rq {r r':RSt} {qv':Value} {wh:Nat->Value} (hl:Lw lo) (h:MT W lo mb pb r) (hT:fm W lo (r.m wh) r.tm) (hM:au W' lo mb pb qv' (r'.m wh)) (hR:Rq lo W W') (h1:r'.tm=r.tm) (h2:r'.now=r.now) (h3:r'.act<4294967296):MT W' lo mb pb r' :=
 ⟨⟨qv',wh,hM,by rw [h1];exact hT.rq hR rfl h2⟩,MX h.lo' hR.bel.size,h3,by rw [h2];exact h.now,by rw [h1];exact h.tml,fk hl hR.bel h.tab,bU hl hR.bel h.tab5⟩
theorem MT.below {r:RSt} (h:MT W lo mb pb r) (hl:Lw lo) (hb:Below W W W'):MT W' lo mb pb r:=by
 obtain ⟨qv,wh,a,b⟩:=h.ex;have hlo:=h.lo';exact ⟨⟨qv,wh,a.below hb,b.below hb⟩,MX hlo hb.size,h.act,h.now,h.tml,fk hl (hb.mono hlo) h.tab,bU hl (hb.mono hlo) h.tab5⟩
theorem MT.lt {r:RSt} (h:MT W lo mb pb r):mb<W.heap.size:=by
 obtain ⟨qv,wh,a,b⟩:=h.ex;exact a.lt
def LZ:ByteArray:=⟨#[102,117,108,108]⟩
def jf (r:RSt) (ev nm:ByteArray) (d:Nat):RSt:=if r.tm.length=12 then { r with q:=r.q++[LZ] } else { r with tm:=r.tm++[⟨atF r.now d,ev,nm⟩] }
inductive PA where
 | raise (ev:ByteArray)
 | send (ev:ByteArray) (d:Nat)
 | sendAs (ev:ByteArray) (d:Nat) (id:ByteArray)
 | cancel (id:ByteArray)
def PA.v:PA->Value
 | .raise ev => .iface 422 (.agg #[.string ev])
 | .send ev d => .iface 255 (.agg #[.string ev,.int .u64 d])
 | .sendAs ev d id => .iface 257 (.agg #[.string ev,.int .u64 d,.string id])
 | .cancel id => .iface 259 (.agg #[.string id])
def PA.ok:PA->Prop
 | .send _ d=>d<18446744073709551616
 | .sendAs _ d _=>d<18446744073709551616
 | _=>True
def gO (r:RSt):PA->RSt
 | .raise ev=>{ r with q:=r.q++[ev] }
 | .send ev d=>jf r ev ⟨#[]⟩ d
 | .sendAs ev d id=>jf r ev id d
 | .cancel id=>{ r with tm:=r.tm.filter fun t => !(t.nm.toList == id.toList) }
theorem Ki (r:RSt) (ev nm:ByteArray) (d:Nat):(jf r ev nm d).q.length<=r.q.length+1:=by
 unfold jf;split <;> simp
theorem KV (r:RSt) (a:PA):(gO r a).q.length<=r.q.length+1:=by
 cases a <;> simp only [gO] <;> first | exact Ki _ _ _ _ | simp
end Pg
theorem nw (w:World) (lo:Pg.Lo) (mb pb:Nat) (r:Pg.RSt) (ev:ByteArray) (hl:Pg.Lw lo) (h:Pg.MT w lo mb pb r) (hql:r.q.length<=4398046511104) :
  () 111 #[mb,ev] w fun e w'=>e = .returned (.tuple #[])/\Pg.MT w' lo mb pb { r with q:=r.q++[ev] }/\Pg.Rf lo w w':=by
 obtain ⟨qv,wh,a,b⟩:=h.ex;refine (pH w lo mb pb qv (r.m wh) ev a h.lo' hql).mono ?_;rintro e w' ⟨rfl,qv',a',c⟩;exact ⟨rfl,h.rq hl b (r':={ r with q:=r.q++[ev] }) a' c rfl rfl h.act,Pg.vI c⟩
theorem yD (w:World) (lo:Pg.Lo) (mb pb:Nat) (r:Pg.RSt) (nm0:ByteArray) (hl:Pg.Lw lo) (h:Pg.MT w lo mb pb r) :
  () 370 #[mb,nm0] w fun e w'=>e = .returned (.tuple #[])/\Pg.MT w' lo mb pb (Pg.gO r (.cancel nm0))/\Pg.Rf lo w w':=by
 obtain ⟨qv,wh,a,b⟩:=h.ex;refine (A8 w lo mb pb qv (r.m wh) r.tm nm0 h.lo' a b hl.g h.tab).mono ?_;rintro e w' ⟨rfl,wh',a',b',c⟩;exact ⟨rfl,⟨⟨qv,wh',a',b'⟩,MX h.lo' c.bel.size,h.act,h.now,MX (Ob _ _) h.tml,Pg.fk hl c.bel h.tab,Pg.bU hl c.bel h.tab5⟩,c⟩
theorem vK (w:World) (lo:Pg.Lo) (mb pb:Nat) (r:Pg.RSt) (ev nm:ByteArray) (d:Nat) (hl:Pg.Lw lo) (h:Pg.MT w lo mb pb r) (hql:r.q.length<=4398046511104) (hd:d<18446744073709551616) :
  () 371 #[mb,ev,nm,.int .u64 d] w fun e w'=>e = .returned (.tuple #[])/\Pg.MT w' lo mb pb (Pg.jf r ev nm d)/\Pg.Rf lo w w':=by
 have hlen:() 323 #[.pointer (some ⟨mb,27,none⟩)] w fun e w'=>e = .returned (r.tm.length:Int)/\Below w w w':=by
  obtain ⟨qv,wh,a,b⟩:=h.ex;exact JN w lo mb pb qv (r.m wh) r.tm a b (by have:=h.tml;omega) (Nq hl.g h.lo') h.tab
 by_cases h12:r.tm.length=12
 ·have HR:Hid (∀ w9,Below w w w9->() 111 #[mb,.string ⟨#[102,117,108,108]⟩] w9 fun e w'=>e = .returned (.tuple #[])/\Pg.MT w' lo mb pb (Pg.jf r ev nm d)/\Pg.Rf lo w w'):=fun w9 hb=>by
   refine (nw w9 lo mb pb r ⟨#[102,117,108,108]⟩ hl (h.below hl hb) hql).mono ?_;rintro e w' ⟨rfl,a,c⟩;refine ⟨rfl,?_,(Pg.RfE.of hb h.lo').trans c⟩;unfold Pg.jf;rw [M6 h12];exact a
  rw [h12] at hlen;clear h;go_enter func371,ntmps371;go_wp2_with (first
   | (go_at_call 323;refine hlen.mono ?_;rintro e w9 ⟨rfl,hb9⟩)
   | (go_at_call 111;refine (HR.out w9 hb9).mono ?_;intro e w8 h8;obtain ⟨rfl,h8⟩:=h8;have H8:Hid _:=h8;clear h8))
  refine OI (N5 rfl _ _ _) rfl ?_;exact ⟨rfl,H8.out⟩
 ·have HA:Hid (∀ w9,Below w w w9->() 374 #[.pointer (some ⟨mb,27,none⟩),.int .u64 d,.agg #[ev,nm]] w9 fun e w'=>e = .returned (.tuple #[])/\Pg.MT w' lo mb pb (Pg.jf r ev nm d)/\Pg.Rf lo w w'):=fun w9 hb=>by
   have h9:=h.below hl hb;obtain ⟨qv,wh,a,b⟩:=h9.ex;refine (IT w9 lo mb pb qv (r.m wh) r.tm d ev nm a b h9.lo' h.now hd).mono ?_;rintro e w' ⟨rfl,wh',a',b',c⟩;refine ⟨rfl,?_,(Pg.RfE.of hb h.lo').trans (Pg.vJ c)⟩;unfold Pg.jf;rw [M4 h12];exact ⟨⟨qv,wh',a',b'⟩,MX h9.lo' c.bel.size,h.act,h.now,by have:=h.tml;simp;omega,Pg.fk hl c.bel h9.tab,Pg.bU hl c.bel h9.tab5⟩
  have h12':((r.tm.length:Int) == 12)=false:=zae;clear h;go_enter func371,ntmps371;go_wp2_with (first
   | (go_at_call 323;refine hlen.mono ?_;rintro e w9 ⟨rfl,hb9⟩)
   | (go_at_call 374;refine (HA.out w9 hb9).mono ?_;intro e w8 h8;obtain ⟨rfl,h8⟩:=h8;have H8:Hid _:=h8;clear h8))
  go_end0;exact ⟨rfl,H8.out⟩
theorem MH (a:Value) (w:World):(method 596 422 (.agg #[a]) "Do").run prog w = .ok (363,.agg #[a]) w:=zab
theorem MG (a:Value) (w:World):(method 596 259 (.agg #[a]) "Do").run prog w = .ok (335,.agg #[a]) w:=zab
theorem MI (a b:Value) (w:World):(method 596 255 (.agg #[a, b]) "Do").run prog w = .ok (328,.agg #[a,b]) w:=zab
theorem MF (a b c:Value) (w:World):(method 596 257 (.agg #[a,b, c]) "Do").run prog w = .ok (332,.agg #[a,b,c]) w:=zab
theorem MK (p:Option Addr) (w:World):(method 596 48 (.pointer p) "Raise").run prog w = .ok (111,.pointer p) w:=zab
theorem Mi (p:Option Addr) (w:World):(method 596 48 (.pointer p) "Send").run prog w = .ok (371,.pointer p) w:=zab
theorem MJ (p:Option Addr) (w:World):(method 596 48 (.pointer p) "Cancel").run prog w = .ok (370,.pointer p) w:=zab
theorem yP (w:World) (lo:Pg.Lo) (mb pb:Nat) (r:Pg.RSt) (ev:ByteArray) (hl:Pg.Lw lo) (h:Pg.MT w lo mb pb r) (hql:r.q.length<=4398046511104) :
  () 363 #[.agg #[ev],.iface 48 mb] w fun e w'=>e = .returned (.tuple #[])/\Pg.MT w' lo mb pb (Pg.gO r (.raise ev))/\Pg.Rf lo w w':=by
 have hb:Below w w (w.alloc (.cells #[ev] 422)):=(MY _ w).alloc (MR _) _;have hra:=(nw _ lo mb pb r ev hl (h.below hl hb) hql).mono (fun e w' x=>(⟨x.1,x.2.1,(Pg.RfE.of hb h.lo').trans x.2.2⟩:e = .returned (.tuple #[])/\Pg.MT w' lo mb pb { r with q:=r.q++[ev] }/\Pg.Rf lo w w'));have hm:=MK;clear h hb;go_enter func363,ntmps363;go_wp2_with (go_at_call 111;refine hra.mono ?_;intro e w8 h8;obtain ⟨rfl,h8⟩:=h8;have H8:Hid _:=h8;clear h8);go_end0;exact ⟨rfl,H8.out⟩
theorem wN (w:World) (lo:Pg.Lo) (mb pb:Nat) (r:Pg.RSt) (id:ByteArray) (hl:Pg.Lw lo) (h:Pg.MT w lo mb pb r) :
  () 335 #[.agg #[id],.iface 48 mb] w fun e w'=>e = .returned (.tuple #[])/\Pg.MT w' lo mb pb (Pg.gO r (.cancel id))/\Pg.Rf lo w w':=by
 have hb:Below w w (w.alloc (.cells #[id] 259)):=(MY _ w).alloc (MR _) _;have hra:=(yD _ lo mb pb r id hl (h.below hl hb)).mono (fun e w' x=>(⟨x.1,x.2.1,(Pg.RfE.of hb h.lo').trans x.2.2⟩:e = .returned (.tuple #[])/\Pg.MT w' lo mb pb (Pg.gO r (.cancel id))/\Pg.Rf lo w w'));have hm:=MJ;clear h hb;go_enter func335,ntmps335;go_wp2_with (go_at_call 370;refine hra.mono ?_;intro e w8 h8;obtain ⟨rfl,h8⟩:=h8;have H8:Hid _:=h8;clear h8);go_end0;exact ⟨rfl,H8.out⟩
theorem Bf (w:World) (lo:Pg.Lo) (mb pb:Nat) (r:Pg.RSt) (ev:ByteArray) (d:Nat) (hl:Pg.Lw lo) (h:Pg.MT w lo mb pb r) (hql:r.q.length<=4398046511104) (hd:d<18446744073709551616) :
  () 328 #[.agg #[ev,.int .u64 d],.iface 48 mb] w fun e w'=>e = .returned (.tuple #[])/\Pg.MT w' lo mb pb (Pg.gO r (.send ev d))/\Pg.Rf lo w w':=by
 have hb:Below w w (w.alloc (.cells #[ev,.int .u64 d] 255)):=(MY _ w).alloc (MR _) _;have hra:=(vK _ lo mb pb r ev ⟨#[]⟩ d hl (h.below hl hb) hql hd).mono (fun e w' x=>(⟨x.1,x.2.1,(Pg.RfE.of hb h.lo').trans x.2.2⟩:e = .returned (.tuple #[])/\Pg.MT w' lo mb pb (Pg.gO r (.send ev d))/\Pg.Rf lo w w'));have hm:=Mi;clear h hb;go_enter func328,ntmps328;go_wp2_with (go_at_call 371;refine hra.mono ?_;intro e w8 h8;obtain ⟨rfl,h8⟩:=h8;have H8:Hid _:=h8;clear h8);go_end0;exact ⟨rfl,H8.out⟩
theorem wQ (w:World) (lo:Pg.Lo) (mb pb:Nat) (r:Pg.RSt) (ev:ByteArray) (d:Nat) (id:ByteArray) (hl:Pg.Lw lo) (h:Pg.MT w lo mb pb r) (hql:r.q.length<=4398046511104) (hd:d<18446744073709551616) :
  () 332 #[.agg #[ev,.int .u64 d,id],.iface 48 mb] w fun e w'=>e = .returned (.tuple #[])/\Pg.MT w' lo mb pb (Pg.gO r (.sendAs ev d id))/\Pg.Rf lo w w':=by
 have hb:Below w w (w.alloc (.cells #[ev,.int .u64 d,id] 257)):=(MY _ w).alloc (MR _) _;have hra:=(vK _ lo mb pb r ev id d hl (h.below hl hb) hql hd).mono (fun e w' x=>(⟨x.1,x.2.1,(Pg.RfE.of hb h.lo').trans x.2.2⟩:e = .returned (.tuple #[])/\Pg.MT w' lo mb pb (Pg.gO r (.sendAs ev d id))/\Pg.Rf lo w w'));have hm:=Mi;clear h hb;go_enter func332,ntmps332;go_wp2_with (go_at_call 371;refine hra.mono ?_;intro e w8 h8;obtain ⟨rfl,h8⟩:=h8;have H8:Hid _:=h8;clear h8);go_end0;exact ⟨rfl,H8.out⟩
namespace Pg
structure fA (W:World) (lo:Nat) (v:Ref.Sl) (L:List PA):Prop where
 n:v.n=L.length
 cap:L.length<=v.c
 cell:∀ (k:Nat) (x:PA),L[k]?=some x->∃ ab,v.a=some ⟨ab,0,none⟩/\ab<lo/\W.cell? ⟨ab,k,none⟩=some x.v
 ok:∀ x∈L,x.ok
 len:L.length<=1048576
theorem fA.below {lo:Nat} {v:Ref.Sl} {L:List PA} (h:fA W lo v L) (hb:Below lo W W'):fA W' lo v L:=⟨h.n,h.cap,fun k x hx=>by
 obtain ⟨ab,a,b,c⟩:=h.cell k x hx;exact ⟨ab,a,b,(hb.cell (p:=⟨ab,k,none⟩) b).trans c⟩,h.ok,h.len⟩
def doL (r:RSt) (L:List PA):RSt:=L.foldl gO r
theorem Ge (r:RSt) (L:List PA) (x:PA):doL r (L++[x])=gO (doL r L) x:=by unfold doL;rw [Ot];rfl
theorem uK (r:RSt):∀ L:List PA,(doL r L).q.length<=r.q.length+L.length:=fun L=>by
 induction L generalizing r with
 | nil=>exact MR _
 | cons x L ih =>
  have h1:=ih (gO r x);have h2:=KV r x;show (doL (gO r x) L).q.length<=_;rw [Oa];omega
end Pg
theorem Bg (w:World) (lo:Pg.Lo) (mb pb:Nat) (r:Pg.RSt) (v:Ref.Sl) (L:List Pg.PA) (hl:Pg.Lw lo) (h:Pg.MT w lo mb pb r) (hA:Pg.fA w lo v L) (hql:r.q.length<=4398000000000) :
  () 94 #[mb,v.v] w fun e w'=>e = .returned (.tuple #[])/\Pg.MT w' lo mb pb (Pg.doL r L)/\Pg.Rf lo w w':=by
 obtain ⟨va,vn,vc⟩:=v;have hn:vn=L.length:=hA.n;have hcap:L.length<=vc:=hA.cap;have hlen:=hA.len;subst hn;have HA:Hid _:=hA;have H0:Hid _:=h;clear hA h;unfold Ref.Sl.v;dsimp only;go_enter func94,ntmps94;go_wp2
 go_loopw [8] (fun i wr=>∃ k:Nat,i = .int .i64 k/\k<=L.length/\Hid (Pg.MT wr lo mb pb (Pg.doL r (L.take k))/\Pg.Rf lo w wr)) (fun i _=>L.length-(intOf i).toNat)
 case atStart=>exact ⟨0,rfl,zaa,H0.out,Pg.RfE.refl _ _⟩
 case round =>
  obtain ⟨k,rfl,hkl,HM⟩:=hrel;by_cases hk:k<L.length
  ·obtain ⟨x,hx⟩:∃ x,L[k]?=some x:=⟨_,MU hk⟩;have hxok:=HA.out.ok x (Nc hx);obtain ⟨ab,ha,hab,hc⟩:=(HA.out.below HM.out.2.bel).cell k x hx;dsimp only at ha;subst ha;have hq:=Pg.uK r (L.take k);have hq2:(Pg.doL r (L.take k)).q.length<=4398046511104:=by rw [N8] at hq;omega
   have HN:Hid (Pg.doL r (L.take (k+1))=Pg.gO (Pg.doL r (L.take k)) x):=by
    unfold Hid;rw [OH,hx];exact Pg.Ge _ _ _
   have hres:Hid (∀ w8,Pg.MT w8 lo mb pb (Pg.gO (Pg.doL r (L.take k)) x)->Pg.Rf lo wr w8->Pg.MT w8 lo mb pb (Pg.doL r (L.take (k+1)))/\Pg.Rf lo w w8):=fun w8 a b=>⟨by rw [HN.out];exact a,HM.out.2.trans b⟩;have hki:((k:Int)<(L.length:Int)):=zaa;clear hq hx;cases x with
   | raise ev =>
    have hd:=yP wr lo mb pb _ ev hl HM.out.1 hq2;have hm:=MH;unfold Pg.PA.v at hc;dsimp only at hc;go_wp2_with (go_at_call 363;refine hd.mono ?_;intro e w8 h8;obtain ⟨rfl,h8,g8⟩:=h8;have H8:Hid _:=hres.out w8 h8 g8;clear h8 g8);exact zek
   | send ev d =>
    have hd:=Bf wr lo mb pb _ ev d hl HM.out.1 hq2 hxok;have hm:=MI;unfold Pg.PA.v at hc;dsimp only at hc;go_wp2_with (go_at_call 328;refine hd.mono ?_;intro e w8 h8;obtain ⟨rfl,h8,g8⟩:=h8;have H8:Hid _:=hres.out w8 h8 g8;clear h8 g8);exact zek
   | sendAs ev d id =>
    have hd:=wQ wr lo mb pb _ ev d id hl HM.out.1 hq2 hxok;have hm:=MF;unfold Pg.PA.v at hc;dsimp only at hc;go_wp2_with (go_at_call 332;refine hd.mono ?_;intro e w8 h8;obtain ⟨rfl,h8,g8⟩:=h8;have H8:Hid _:=hres.out w8 h8 g8;clear h8 g8);exact zek
   | cancel id =>
    have hd:=wN wr lo mb pb _ id hl HM.out.1;have hm:=MG;unfold Pg.PA.v at hc;dsimp only at hc;go_wp2_with (go_at_call 335;refine hd.mono ?_;intro e w8 h8;obtain ⟨rfl,h8,g8⟩:=h8;have H8:Hid _:=hres.out w8 h8 g8;clear h8 g8);exact zek
  ·obtain rfl:k=L.length:=zaa;have HF:=HM.out;rw [N6] at HF;have HF2:Hid _:=HF;clear HF;go_wp2;go_end0;exact ⟨rfl,HF2.out⟩
attribute [local go_sem] NR
namespace Pg
def ke (ps:List PS) (fin:Nat) (s:RSt) (i:Nat):RSt:=match ps[i]? with
 | none=>s
 | some p=>if p.owner == -1 then { s with fin:=5 } else match ps[p.owner.toNat]? with
  | none=>s
  | some q=>if q.owner == -1 then { s with q:=s.q++[q.done] } else match ps[q.owner.toNat]? with
   | none=>{ s with q:=s.q++[q.done] }
   | some r=>if r.kind == 1&&atEnd ps fin s.act ps.length q.owner.toNat then { s with q:=s.q++[q.done]++[r.done] } else { s with q:=s.q++[q.done] }
theorem Lj (ps:List PS) (fin:Nat) (s:RSt) (i:Nat) (wh:Nat->Value):yU ps fin (s.m wh) i=(ke ps fin s i).m wh:=by
 unfold yU ke;cases ps[i]? with
 | none=>rfl
 | some p =>
  dsimp only;split
  ·rfl
  ·cases ps[p.owner.toNat]? with
   | none=>rfl
   | some q =>
    dsimp only;split
    ·rfl
    ·cases ps[q.owner.toNat]? with
     | none=>rfl
     | some r =>
      dsimp only;show (if (r.kind == 1&&atEnd ps fin s.act ps.length q.owner.toNat)=true then _ else _)=_;split <;> rfl
theorem pr (ps:List PS) (fin:Nat) (s:RSt) (i:Nat):(ke ps fin s i).act=s.act/\(ke ps fin s i).tm=s.tm/\(ke ps fin s i).now=s.now/\(ke ps fin s i).kept=s.kept/\(ke ps fin s i).q.length<=s.q.length+2:=by
 unfold ke;cases ps[i]? with
 | none=>simp
 | some p =>
  dsimp only;split
  ·simp
  ·cases ps[p.owner.toNat]? with
   | none=>simp
   | some q =>
    dsimp only;split
    ·simp
    ·cases ps[q.owner.toNat]? with
     | none=>simp
     | some r =>
      dsimp only;split <;> simp
structure fT (w:World) (lo:Nat) (pb b cap:Nat) (ps:List PS) (fin:Nat) (EN LV:Nat->List PA):Prop where
 bC:bZ w pb b cap ps
 pb':pb<lo
 b':b<lo
 f2:w.cell? ⟨pb,2,none⟩=some (.int .u32 fin)
 finl:fin<4294967296
 own:∀ (i:Nat) (p:PS),ps[i]?=some p->p.owner = -1\/∃ o:Nat,p.owner=o/\o<i
 pts:∀ (i:Nat) (p:PS),ps[i]?=some p->∀ j∈els p.parts,i<j/\j<ps.length
 en:∀ (i:Nat) (p:PS),ps[i]?=some p->fA w lo p.enter (EN i)
 lv:∀ (i:Nat) (p:PS),ps[i]?=some p->fA w lo p.leave (LV i)
 lw:Lw lo
theorem fT.below {w':World} {lo:Nat} {EN LV:Nat->List PA} (h:fT w lo pb b cap ps fin EN LV) (hb:Below lo w w'):fT w' lo pb b cap ps fin EN LV :=
 ⟨h.bC.below hb h.pb' h.b',h.pb',h.b',(hb.cell (p:=⟨pb,2,none⟩) h.pb').trans h.f2,h.finl,h.own,h.pts,fun i p hp=>(h.en i p hp).below hb,fun i p hp=>(h.lv i p hp).below hb,h.lw⟩
def jF (ps:List PS) (fin:Nat) (EN:Nat->List PA) (r:RSt) (i:Nat):RSt :=
 let r2:=doL { r with act:=r.act|||2 ^ i } (EN i)
 match ps[i]? with
 | some p=>if p.kind == 2 then ke ps fin r2 i else r2
 | none=>r2
def cM (ps:List PS) (fin:Nat) (EN:Nat->List PA) (r:RSt) (l:List Nat):RSt:=l.foldl (jF ps fin EN) r
theorem yR (ps:List PS) (fin:Nat) (EN:Nat->List PA) (r:RSt) (l:List Nat) (i:Nat):cM ps fin EN r (l++[i])=jF ps fin EN (cM ps fin EN r l) i:=by unfold cM;rw [Ot];rfl
theorem FB (r:RSt) (a:PA):(gO r a).act=r.act:=by
 exact zeZ
theorem wO:∀ (L:List PA) (r:RSt),(doL r L).act=r.act
 | [],_=>rfl
 | x::L,r=>(wO L (gO r x)).trans (FB r x)
theorem Lg {lo:Nat} {EN LV:Nat->List PA} (h:fT w lo pb b cap ps fin EN LV) (r:RSt) {i:Nat} (hi:i<ps.length):(jF ps fin EN r i).q.length<=r.q.length+1048578:=by
 obtain ⟨p,hp⟩:∃ p,ps[i]?=some p:=⟨_,MU hi⟩;have h1:=(h.en i p hp).len;have h2:=uK { r with act:=r.act|||2 ^ i } (EN i);have h3:=(pr ps fin (doL { r with act:=r.act|||2 ^ i } (EN i)) i).2.2.2.2;have h4:({ r with act:=r.act|||2 ^ i }:RSt).q=r.q:=rfl;rw [h4] at h2;unfold jF;dsimp only;rw [hp];dsimp only;split <;> omega
theorem nQ {w:World} {lo:Nat} {pb b cap:Nat} {ps:List PS} {fin:Nat} {EN LV:Nat->List PA} (h:fT w lo pb b cap ps fin EN LV):∀ (l:List Nat) (r:RSt),(∀ i∈l,i<ps.length)->(cM ps fin EN r l).q.length<=r.q.length+l.length*1048578
 | [],_,_=>by simp [cM]
 | i::l,r,hl=>by
  have h1:=Lg h r (hl i (NK ..));have h2:=nQ h l (jF ps fin EN r i) (fun j hj=>hl j (NL _ hj));show (cM ps fin EN (jF ps fin EN r i) l).q.length<=_;rw [Oa];omega
end Pg
theorem Pg.MT.gr {row:Option Nat} {r:Pg.RSt} (h:Pg.MT W lo mb pb r) (hl:Pg.Lw lo) (hg:W.grownBy W' row) (hr:∀ r,row=some r->lo<=r/\∃ o:Obj,W.heap[r]?=some o/\o.isCells=false):Pg.MT W' lo mb pb r:=by
 obtain ⟨qv,wh,a,b⟩:=h.ex;have hb:Below lo W W':=⟨hg.os,hg.tape,hg.output,hg.size,fun k hk=>hg.block k (by have:=h.lo';omega) (fun e=>zbe)⟩;exact ⟨⟨qv,wh,a.gr hg (fun r e=>(hr r e).2),b.kd (Pg.gR (E:=fun _=>False) hg (fun r e=>(hr r e).2)) (fun h=>h) rfl rfl⟩,MX h.lo' hg.size,h.act,h.now,h.tml,Pg.fk hl hb h.tab,Pg.bU hl hb h.tab5⟩
theorem Pg.MT.Ii {r:Pg.RSt} (h:Pg.MT W lo mb pb r) (hl:Pg.Lw lo) (a:Nat) (ha:a<4294967296):Pg.MT (W.setCell ⟨mb,1,none⟩ (.int .u32 a)) lo mb pb { r with act:=a }/\Pg.Rf lo W (W.setCell ⟨mb,1,none⟩ (.int .u32 a)):=by
 obtain ⟨qv,wh,m,b⟩:=h.ex;have hM:Pg.au (W.setCell ⟨mb,1,none⟩ (.int .u32 a)) lo mb pb qv (({ r with act:=a }:Pg.RSt).m wh):=m.set 1 _ _ zac rfl (fun j hj=>by
  by_cases e:j=1
  ·subst e;rfl
  ·rw [M4 e];unfold Pg.eR;split
   ·rfl
   ·rfl)
 have hR:Pg.Rq lo W (W.setCell ⟨mb,1,none⟩ (.int .u32 a)):=Pg.RfE.mo (P:=(· = mb)) ((Mo.refl _ _).set _ _ rfl) (fun k hk=>by
  obtain ⟨arr,a1,_⟩:=m.blk;subst hk;exact ⟨m.lo',arr,_,_,a1,.inl rfl⟩) h.lo'
 exact ⟨h.rq hl b hM hR rfl rfl ha,Pg.vI hR⟩
theorem Pg.MT.c0 {r:Pg.RSt} (h:Pg.MT W lo mb pb r):W.cell? mb=some ↑pb/\W.cell? ⟨mb,1,none⟩=some (.int .u32 r.act)/\∀ i,W.frozen? ⟨mb,i,none⟩=false:=by
 obtain ⟨qv,wh,m,b⟩:=h.ex;exact ⟨m.cell 0 zac,m.cell 1 zac,m.frozen⟩
theorem yV (w:World) (lo:Pg.Lo) (mb pb b cap:Nat) (r:Pg.RSt) (ps:List Pg.PS) (fin i:Nat) (EN LV:Nat->List Pg.PA) (hP:Pg.fT w lo pb b cap ps fin EN LV) (h:Pg.MT w lo mb pb r) (hi:i<ps.length) (hql:r.q.length<=4398046511000) :
  () 95 #[mb,.pointer (some ⟨b,i*10,none⟩)] w fun e w'=>e = .returned (.tuple #[])/\Pg.MT w' lo mb pb (Pg.ke ps fin r i)/\Pg.Rf lo w w':=by
 obtain ⟨qv,wh,a,b'⟩:=h.ex;obtain ⟨p,hp⟩:∃ p,ps[i]?=some p:=⟨_,MU hi⟩;refine (Bl w lo mb pb b cap qv (r.m wh) ps fin i p a h.lo' hP.bC hP.pb' hP.b' hP.f2 hP.finl h.act hp hP.own hP.pts hP.lw.g5 h.tab5 hql).mono ?_;rintro e w' ⟨rfl,qv',a',c⟩;rw [Pg.Lj] at a';obtain ⟨s1,s2,s3,_⟩:=Pg.pr ps fin r i;exact ⟨rfl,h.rq hP.lw b' a' c s2 s3 (by rw [s1];exact h.act),Pg.vI c⟩
theorem uO (w:World) (lo:Pg.Lo) (mb pb b cap:Nat) (r:Pg.RSt) (ps:List Pg.PS) (fin s:Nat) (EN LV:Nat->List Pg.PA) (hP:Pg.fT w lo pb b cap ps fin EN LV) (h:Pg.MT w lo mb pb r) (hs:s<4294967296) (hin:∀ i∈Pg.els s,i<ps.length) (hql:r.q.length<=4397000000000) :
  () 57 #[mb,.int .u32 s] w fun e w'=>e = .returned (.tuple #[])/\Pg.MT w' lo mb pb (Pg.cM ps fin EN r (Pg.els s))/\Pg.Rf lo w w':=by
 refine (Nz (n:=8)).1 ?_;have hlo:=h.lo';refine NX func57 rfl trivial ?_ rfl;simp only [ntmps57,List.size_toArray,List.length_cons,List.length_nil,Nat.reduceAdd,Nat.reduceSub,Array.replicate_succ,Array.replicate_zero,List.push_toArray,List.append_toArray,List.nil_append,List.cons_append];gi_wp2_with (refine ⟨trivial,?_⟩;gi_at_call 92;refine (Nz.2 (dy s _)).mono ?_;rintro e w9 ⟨rfl,hw9⟩;rw [hw9];clear hw9 w9);have b0:=(NA w 48 mb).alloc (.cells #[.int .u32 s] 75);have b1:=NA (w.alloc (.cells #[mb] 48)) 75 (.int .u32 s);simp only [World.size_alloc] at b1;have hB0:Below w w ((w.alloc (.cells #[mb] 48)).alloc (.cells #[.int .u32 s] 75)):=((MY _ w).alloc (MR _) _).alloc zad _;have hs0:((w.alloc (.cells #[mb] 48)).alloc (.cells #[.int .u32 s] 75)).heap.size=w.heap.size+2:=zad;generalize (w.alloc (.cells #[mb] 48)).alloc (.cells #[.int .u32 s] 75)=W0 at *;have h0:=h.below hP.lw hB0;have hlw:=hP.lw;have hg5:=hP.lw.g5;have hlen:=hP.bC.len;have hnty:¬ Pg.cJ 48:=zaN;refine nS zaa (w.heap.size+1) s hs rfl zaa zaa b1.cell h0.tab5 rfl
  (fun pre V=>Pg.MT V lo mb pb (Pg.cM ps fin EN r (Pg.aX pre))/\Boxed V w 48 mb/\Pg.Rf lo w V) (fun _ _ _=>False)
  (NH (fun pre A C row h hg hr=>h.gr hlw hg (fun r e=>⟨zas,(hr r e).2⟩)) (NH (Oo (Og _ _ _) _) (fun pre A C row h hg hr=>h.gr hlo hg (fun r e=>⟨zas,(hr r e).2⟩))))
  (fun _ _ _ _ _ hs _ _=>hs) ⟨h0,b0,Pg.RfE.of hB0 hlo⟩
  (fun x a' _=>a'={ tmps:=#[.pointer (some ⟨mb,0,none⟩),.int .u32 s,.pointer (some ⟨w.heap.size,0,none⟩),undef,.int .i64 x.1,undef,.int .u32 s,.func (.func 144) #[] #[.pointer (some ⟨w.heap.size+1,0,none⟩)],.int .i64 x.1,undef,undef,undef,undef,undef,undef,undef,undef,undef,undef,undef,undef,undef,undef,undef,undef,undef,undef,undef,undef,undef,undef,undef,undef,undef,undef,undef,undef,undef,undef,undef,undef],defers:=[] }) (fun _ _ _ _ _ _ hs _ _=>hs) ?assign ?body ?done ?stop
 case assign =>
  exact zew
 case body =>
  rintro l pre x a' V hl ⟨rl,hrl⟩ ⟨hM,hb,hR⟩ rfl hpl;have hi:=hin x.1 x.2;have hi32:=(Pg.n8.1 x.2).1;obtain ⟨p,hp⟩:∃ p,ps[x.1]?=some p:=⟨_,MU hi⟩;have hq0:=Pg.nQ hP (Pg.aX pre) r (fun i hi=>hin i (by
   rw [Pg.cy] at hi;obtain ⟨y,_,rfl⟩:=NI.1 hi;exact y.2))
  have hvl:(Pg.aX pre).length=pre.length:=by rw [Pg.cy,Ng]
  rw [hvl] at hq0;obtain ⟨R0,hR0⟩:∃ R0,Pg.cM ps fin EN r (Pg.aX pre)=R0:=⟨_,rfl⟩;have HSN:Hid (Pg.cM ps fin EN r (Pg.aX (pre++[x]))=Pg.jF ps fin EN R0 x.1):=by
   unfold Hid;rw [Pg.dS,Pg.yR,hR0]
  rw [hR0] at hM hq0;clear hR0;have hPV:=hP.below hR.bel;obtain ⟨m0,m1,mf⟩:=hM.c0;have hbc:=hb.cell;have hrow:=hPV.bC.row;have hlV:=hM.lo';have hact:=hM.act;have h2:=gb hi32;have hor:=Pu R0.act (2 ^ x.1) hact h2;have horl:R0.act|||2 ^ x.1<4294967296:=by
   have:=NV (n:=32) (x:=R0.act) (y:=2 ^ x.1) zaa zaa;omega
  obtain ⟨A1,hA1⟩:∃ A1,R0.act|||2 ^ x.1=A1:=⟨_,rfl⟩;rw [hA1] at hor horl;rw [<- jg] at hor;have hBd:=(MY V V).drew;obtain ⟨hM1,hR1⟩:=(hM.below hlw hBd).Ii hlw A1 horl;have hRV1:Pg.Rf lo V (V.drew.setCell ⟨mb,1,none⟩ (.int .u32 A1)):=(Pg.RfE.of hBd hlV).trans hR1;have q0:V.drew.cell? w=_:=hbc;have q1:V.drew.cell? ⟨mb,1,none⟩=_:=m1;have qf:V.drew.frozen? ⟨mb,1,none⟩=false:=mf 1;have hone:=iz x.1 V.drew hi32;have hxi:((x.1:Int)<(ps.length:Int)):=zaa;have hd1:1<=8-1-1:=zaa;gi_wp2;refine aV (dF l) 9 zab zab zab ?_;simp only [List.take_succ_cons,List.take_zero,List.drop_succ_cons,List.drop_zero]
  iterate 5 still_step
  still_call hone
  iterate 3 still_step
  refine Ov ?_;gi_wp2;have hM1:Pg.MT (V.setCell ⟨mb,1,none⟩ (.int .u32 A1)).drew lo mb pb { R0 with act:=A1 }:=hM1;have hRV1:Pg.Rf lo V (V.setCell ⟨mb,1,none⟩ (.int .u32 A1)).drew:=hRV1;generalize (V.setCell ⟨mb,1,none⟩ (.int .u32 A1)).drew=V1 at *;have HE:Hid (Pg.jF ps fin EN R0 x.1=if p.kind == 2 then Pg.ke ps fin (Pg.doL { R0 with act:=A1 } (EN x.1)) x.1 else Pg.doL { R0 with act:=A1 } (EN x.1)):=by
   unfold Hid Pg.jF;dsimp only;rw [hA1,hp]
  clear q0 q1 qf hone hor hA1 hM m0 m1 mf hbc hrow hR1;have hb1:Boxed V1 w 48 mb:=Kd.boxed hRV1.kd hb hnty;have hP1:=hPV.below hRV1.bel;have hB1:=(MY V1 V1).drew;have hl1:=hM1.lo';have hdo:=Bg V1.drew lo mb pb { R0 with act:=A1 } p.enter (EN x.1) hlw (hM1.below hlw hB1) ((hP1.en x.1 p hp).below (hB1.mono hl1)) (by show R0.q.length<=_;omega);have hdq:=Pg.uK { R0 with act:=A1 } (EN x.1);have hdq1:=(hP.en x.1 p hp).len;have hdq2:(Pg.doL { R0 with act:=A1 } (EN x.1)).q.length<=4398046511000:=by
   have:({ R0 with act:=A1 }:Pg.RSt).q=R0.q:=rfl;rw [this] at hdq;omega
  clear hdq hdq1;obtain ⟨R2,hR2⟩:∃ R2,Pg.doL { R0 with act:=A1 } (EN x.1)=R2:=⟨_,rfl⟩;rw [hR2] at hdo hdq2 HE;clear hR2;have q0:V1.drew.cell? w=_:=hb1.cell;have q8:V1.drew.cell? ⟨b,x.1*10+8,none⟩=some p.enter.v:=(hP1.bC.at' x.1 p hp).c8;unfold Ref.Sl.v at q8 hdo;obtain ⟨ea,en,ec⟩:∃ q:Ref.Sl,q=p.enter:=⟨_,rfl⟩;have HFIN:Hid (∀ w2,Pg.MT w2 lo mb pb R2->Pg.Rf lo V1.drew w2->w2.cell? w=some ↑mb/\w2.cell? ⟨b,x.1*10,none⟩=some ↑(p.kind:Int)/\(p.kind == 2->() 95 #[mb,.pointer (some ⟨b,x.1*10,none⟩)] w2 fun e w'=>e = .returned (.tuple #[])/\KeepsFrom W0.heap.size V w'/\Pg.KpT V w'/\Pg.MT w' lo mb pb (Pg.cM ps fin EN r (Pg.aX (pre++[x])))/\Boxed w' w 48 mb/\Pg.Rf lo w w')/\((p.kind == 2)=false->KeepsFrom W0.heap.size V w2/\Pg.KpT V w2/\Pg.MT w2 lo mb pb (Pg.cM ps fin EN r (Pg.aX (pre++[x])))/\Boxed w2 w 48 mb/\Pg.Rf lo w w2)):=fun w2 hM2 hR2=>by
   have hRV2:Pg.Rf lo V w2:=hRV1.trans ((Pg.RfE.of hB1 hl1).trans hR2);have hP2:=hPV.below hRV2.bel;have hb2:Boxed w2 w 48 mb:=Kd.boxed hRV2.kd hb hnty;have fin':∀ w',Pg.MT w' lo mb pb (Pg.jF ps fin EN R0 x.1)->Pg.Rf lo V w'->KeepsFrom W0.heap.size V w'/\Pg.KpT V w'/\Pg.MT w' lo mb pb (Pg.cM ps fin EN r (Pg.aX (pre++[x])))/\Boxed w' w 48 mb/\Pg.Rf lo w w':=fun w' hM' hR'=>⟨hR'.oth.from _,fun hT=>Pg.bU hlw hR'.bel hT,by rw [HSN.out];exact hM',Kd.boxed hR'.kd hb hnty,hR.trans hR'⟩;refine ⟨hb2.cell,(hP2.bC.at' x.1 p hp).c0,fun hk => ?_,fun hk => ?_⟩
   ·refine (yV w2 lo mb pb b cap R2 ps fin x.1 EN LV hP2 hM2 hi hdq2).mono ?_;rintro e w' ⟨rfl,a,c⟩;have:=HE.out;rw [M6 hk] at this;exact ⟨rfl,fin' w' (this ▸ a) (hRV2.trans c)⟩
   ·have:=HE.out;rw [M4 (by rw [hk];decide)] at this;exact fin' w2 (this ▸ hM2) hRV2
  clear hM1 hRV1 hb1 hP1 hPV hb;refine aV (dF l) 5 zab zab zab ?_;simp only [List.take_succ_cons,List.take_zero,List.drop_succ_cons,List.drop_zero]
  repeat still_step
  refine Ov ?_;obtain ⟨kb,hkb⟩:∃ kb,(p.kind == 2)=kb:=⟨_,rfl⟩;cases kb
  ·gi_wp2_with (refine ⟨trivial,?_⟩;gi_at_call 94;refine (aH hdo).mono ?_;intro e w2 h8;obtain ⟨rfl,h8,g8⟩:=h8;obtain ⟨f0,f1,_,f3⟩:=HFIN.out w2 h8 g8;have F3:Hid _:=f3 hkb;clear h8 g8 f3);exact F3.out
  ·gi_wp2_with (first
    | (refine ⟨trivial,?_⟩;gi_at_call 94;refine (aH hdo).mono ?_;intro e w2 h8;obtain ⟨rfl,h8,g8⟩:=h8;obtain ⟨f0,f1,f2,_⟩:=HFIN.out w2 h8 g8;have F2:Hid _:=f2 hkb;clear h8 g8 f2)
    | (refine ⟨trivial,?_⟩;gi_at_call 95;refine (aH F2.out).mono ?_;intro e w3 h9;obtain ⟨rfl,h9⟩:=h9;have H9:Hid _:=h9;clear h9))
   exact H9.out
 case done =>
  exact zdq
 case stop =>
  exact zfj
attribute [local go_sem] NR
theorem Ja {n:Nat} (h1:2<=n) {g:Operand} {ps:Array Tmp} {assign body:Code} {Q:Exit->Act->World->Prop} {a:Act} (Bs s:Nat) (hs:s<4294967296)
  (he:a.eval g = .func (.func 231) #[] #[Bs]) (hBs:Bs<w.heap.size) (hc:w.cell? Bs=some (.int .u32 s)) (hps:1=ps.size)
  (I:List (Pg.In s)->World->Prop) (Ix:Code->List (Pg.In s)->World->Prop) (hI:OwnFrom w.heap.size I) (hIx:∀ c,OwnFrom w (Ix c)) (h0:I [] w) (Ax:Pg.In s->Act->World->Prop) (hAx:∀ x a',OwnFrom w (fun (_:Unit) W=>Ax x a' W))
  (hassign:∀ (l:Nat) (pre:List (Pg.In s)) (x:Pg.In s) (W:World) (K:Act->World->Prop),I pre W->(∀ a' W',KeepsFrom w W W'->True->I pre W'->Ax x a' W'->K a' W') ->
   assign.wpIn (Fence.wide.inRound l) (n-1-1) prog (Exit.then K (fun _ _ _=>False)) { tmps:=(ps.zip #[Value.int .i64 (x.1:Int)]).foldl (fun t (p,v)=>t.setIfInBounds p v) a.tmps,defers:=[] } W)
  (hbody:∀ (l:Nat) (pre:List (Pg.In s)) (x:Pg.In s) (a':Act) (W:World),w.heap.size<=l->(∃ r,W.heap[l]?=some (.loop r))->I pre W->Ax x a' W->pre.length<32->body.wpIn (Fence.wide.inRound l) (n-1-1) prog (ownPostG w (fun _ _=>True) I Ix (pre++[x]) W) a' W)
  (hdone:∀ (D:Nat) (xs:List (Pg.In s)) (W:World),w.heap.size<=D->Pg.aX xs=(Pg.els s).reverse->I xs W->W.heap[D]?=some (.deferred (some []))->Q .normal { a with defers:={ target := .collected D,args:=#[] }::a.defers } W)
  (hstop:∀ (D:Nat) (c:Code) (pre:List (Pg.In s)) (W:World),w.heap.size<=D->Pg.aX pre <+: (Pg.els s).reverse->Ix c pre W->W.heap[D]?=some (.deferred (some []))->c.wpIn Fence.wide n prog Q { a with defers:={ target := .collected D,args:=#[] }::a.defers } W) :
  (Code.rangeFunc g ps assign body).wpIn Fence.wide n prog Q a w :=
 Qb rfl zaa (gf:=231) he trivial (Pe func231 zab rfl)
  (kY (n-1) zaa Bs s hs w hBs hc) (fun _ _=>trivial) (fun _ _ _ _ _ _ _ _=>trivial) (MY _ _) (fun _=>hps)
  I Ix hI hIx h0 Ax hAx hassign hbody (fun D xs W hD hS=>hdone D xs W hD zaM) (fun D c pre W hD hS=>hstop D c pre W hD zaM)
namespace Pg
def tV (LV:Nat->List PA) (r:RSt) (i:Nat):RSt:=let r1:=doL r (LV i);{ r1 with act:=r1.act&&&(4294967295-2 ^ i) }
def eF (LV:Nat->List PA) (r:RSt) (l:List Nat):RSt:=l.foldl (tV LV) r
theorem zF (LV:Nat->List PA) (r:RSt) (l:List Nat) (i:Nat):eF LV r (l++[i])=tV LV (eF LV r l) i:=by unfold eF;rw [Ot];rfl
theorem nX {w:World} {lo:Nat} {pb b cap:Nat} {ps:List PS} {fin:Nat} {EN LV:Nat->List PA} (h:fT w lo pb b cap ps fin EN LV):∀ (l:List Nat) (r:RSt),(∀ i∈l,i<ps.length)->(eF LV r l).q.length<=r.q.length+l.length*1048576
 | [],_,_=>by simp [eF]
 | i::l,r,hl=>by
  obtain ⟨p,hp⟩:∃ p,ps[i]?=some p:=⟨_,MU (hl i (NK ..))⟩;have h0:=(h.lv i p hp).len;have h1:=uK r (LV i);have h2:=nX h l (tV LV r i) (fun j hj=>hl j (NL _ hj));have h3:(tV LV r i).q=(doL r (LV i)).q:=rfl;rw [h3] at h2;show (eF LV (tV LV r i) l).q.length<=_;rw [Oa];omega
end Pg
theorem Et (w:World) (lo:Pg.Lo) (mb pb b cap:Nat) (r:Pg.RSt) (ps:List Pg.PS) (fin s:Nat) (EN LV:Nat->List Pg.PA) (hP:Pg.fT w lo pb b cap ps fin EN LV) (h:Pg.MT w lo mb pb r) (hs:s<4294967296) (hin:∀ i∈Pg.els s,i<ps.length) (hql:r.q.length<=4397000000000) :
  () 150 #[mb,.int .u32 s] w fun e w'=>e = .returned (.tuple #[])/\Pg.MT w' lo mb pb (Pg.eF LV r (Pg.els s).reverse)/\Pg.Rf lo w w':=by
 refine (Nz (n:=8)).1 ?_;have hlo:=h.lo';refine NX func150 rfl trivial ?_ rfl;simp only [ntmps150,List.size_toArray,List.length_cons,List.length_nil,Nat.reduceAdd,Nat.reduceSub,Array.replicate_succ,Array.replicate_zero,List.push_toArray,List.append_toArray,List.nil_append,List.cons_append];gi_wp2_with (refine ⟨trivial,?_⟩;gi_at_call 195;refine (Nz.2 (nJ s _)).mono ?_;rintro e w9 ⟨rfl,hw9⟩;rw [hw9];clear hw9 w9);have b0:=(NA w 48 mb).alloc (.cells #[.int .u32 s] 75);have b1:=NA (w.alloc (.cells #[mb] 48)) 75 (.int .u32 s);simp only [World.size_alloc] at b1;have hB0:Below w w ((w.alloc (.cells #[mb] 48)).alloc (.cells #[.int .u32 s] 75)):=((MY _ w).alloc (MR _) _).alloc zad _;have hs0:((w.alloc (.cells #[mb] 48)).alloc (.cells #[.int .u32 s] 75)).heap.size=w.heap.size+2:=zad;generalize (w.alloc (.cells #[mb] 48)).alloc (.cells #[.int .u32 s] 75)=W0 at *;have h0:=h.below hP.lw hB0;have hlw:=hP.lw;have hlen:=hP.bC.len;have hnty:¬ Pg.cJ 48:=zaN;refine Ja zaa (w.heap.size+1) s hs rfl zaa b1.cell rfl
  (fun pre V=>Pg.MT V lo mb pb (Pg.eF LV r (Pg.aX pre))/\Boxed V w 48 mb/\Pg.Rf lo w V) (fun _ _ _=>False)
  (NH (fun pre A C row h hg hr=>h.gr hlw hg (fun r e=>⟨zas,(hr r e).2⟩)) (NH (Oo (Og _ _ _) _) (fun pre A C row h hg hr=>h.gr hlo hg (fun r e=>⟨zas,(hr r e).2⟩))))
  (fun _ _ _ _ _ hs _ _=>hs) ⟨h0,b0,Pg.RfE.of hB0 hlo⟩
  (fun x a' _=>a'={ tmps:=#[.pointer (some ⟨mb,0,none⟩),.int .u32 s,.pointer (some ⟨w.heap.size,0,none⟩),undef,.int .i64 x.1,.int .u32 s,.func (.func 231) #[] #[.pointer (some ⟨w.heap.size+1,0,none⟩)],.int .i64 x.1,undef,undef,undef,undef,undef,undef,undef,undef,undef,undef,undef,undef,undef,undef,undef,undef,undef,undef,undef,undef,undef,undef],defers:=[] }) (fun _ _ _ _ _ _ hs _ _=>hs) ?assign ?body ?done ?stop
 case assign =>
  intro l pre x V K hI hK;exact zfe
 case body =>
  rintro l pre x a' V hl ⟨rl,hrl⟩ ⟨hM,hb,hR⟩ rfl hpl;have hi:=hin x.1 x.2;have hi32:=(Pg.n8.1 x.2).1;obtain ⟨p,hp⟩:∃ p,ps[x.1]?=some p:=⟨_,MU hi⟩;have hq0:=Pg.nX hP (Pg.aX pre) r (fun i hi=>hin i (by
   rw [Pg.cy] at hi;obtain ⟨y,_,rfl⟩:=NI.1 hi;exact y.2))
  have hvl:(Pg.aX pre).length=pre.length:=by rw [Pg.cy,Ng]
  rw [hvl] at hq0;obtain ⟨R0,hR0⟩:∃ R0,Pg.eF LV r (Pg.aX pre)=R0:=⟨_,rfl⟩;have HSN:Hid (Pg.eF LV r (Pg.aX (pre++[x]))=Pg.tV LV R0 x.1):=by
   unfold Hid;rw [Pg.dS,Pg.zF,hR0]
  rw [hR0] at hM hq0;clear hR0;have hPV:=hP.below hR.bel;obtain ⟨m0,m1,mf⟩:=hM.c0;have hBd:=(MY V V).drew;have hlV:=hM.lo';have q0:V.drew.cell? w=_:=hb.cell;have qm:V.drew.cell? mb=_:=m0;have qr:V.drew.cell? pb=_:=hPV.bC.row;have q9:V.drew.cell? ⟨b,x.1*10+9,none⟩=some p.leave.v:=(hPV.bC.at' x.1 p hp).c9;have hdo:=Bg V.drew lo mb pb R0 p.leave (LV x.1) hlw (hM.below hlw hBd) ((hPV.lv x.1 p hp).below (hBd.mono hlV)) zaa;have hda:=Pg.wO (LV x.1) R0;have hact:=hM.act;have h2:=gb hi32;have hxi:((x.1:Int)<(ps.length:Int)):=zaa;have hd1:1<=8-1-1:=zaa;unfold Ref.Sl.v at q9 hdo;have HE:Hid (Pg.tV LV R0 x.1={ Pg.doL R0 (LV x.1) with act:=(Pg.doL R0 (LV x.1)).act&&&(4294967295-2 ^ x.1) }):=rfl;obtain ⟨R2,hR2⟩:∃ R2,Pg.doL R0 (LV x.1)=R2:=⟨_,rfl⟩;rw [hR2] at hdo HE hda;have hact2:R2.act<4294967296:=by rw [hda];exact hact
  clear hR2 hda;have hand:=RC R2.act (2 ^ x.1) hact2 h2;have handl:R2.act&&&(4294967295-2 ^ x.1)<4294967296:=NT OQ hact2;obtain ⟨A1,hA1⟩:∃ A1,R2.act&&&(4294967295-2 ^ x.1)=A1:=⟨_,rfl⟩;rw [hA1] at hand handl HE;rw [<- jg] at hand;clear hA1;have HFIN:Hid (∀ w2,Pg.MT w2 lo mb pb R2->Pg.Rf lo V.drew w2->w2.drew.cell? w=some ↑mb/\w2.drew.cell? ⟨mb,1,none⟩=some (.int .u32 R2.act)/\w2.drew.frozen? ⟨mb,1,none⟩=false/\KeepsFrom W0.heap.size V (w2.drew.setCell ⟨mb,1,none⟩ (.int .u32 A1))/\True/\Pg.MT (w2.drew.setCell ⟨mb,1,none⟩ (.int .u32 A1)) lo mb pb (Pg.eF LV r (Pg.aX (pre++[x])))/\Boxed (w2.drew.setCell ⟨mb,1,none⟩ (.int .u32 A1)) w.heap.size 48 mb/\Pg.Rf lo w (w2.drew.setCell ⟨mb,1,none⟩ (.int .u32 A1))):=fun w2 hM2 hR2=>by
   have hRV2:Pg.Rf lo V w2:=(Pg.RfE.of hBd hlV).trans hR2;have hB2:=(MY w2 w2).drew;have hM2d:=hM2.below hlw hB2;obtain ⟨_,c1,cf⟩:=hM2d.c0;obtain ⟨hM3,hR3⟩:=hM2d.Ii hlw A1 handl;have hRV3:=hRV2.trans ((Pg.RfE.of hB2 hM2.lo').trans hR3);exact ⟨(Kd.boxed hRV2.kd hb hnty:Boxed w2 _ _ _).cell,c1,cf 1,hRV3.oth.from _,trivial,by rw [HSN.out,HE.out];exact hM3,Kd.boxed hRV3.kd hb hnty,hR.trans hRV3⟩
  clear hM hb hPV hR m0 m1 mf;gi_wp2;refine aV (dF l) 12 zab zab zab ?_;simp only [List.take_succ_cons,List.take_zero,List.drop_succ_cons,List.drop_zero]
  repeat still_step
  refine Ov ?_;gi_wp2_with (refine ⟨trivial,?_⟩;gi_at_call 94;refine (aH hdo).mono ?_;intro e w2 h8;obtain ⟨rfl,h8,g8⟩:=h8;obtain ⟨f0,f1,f2,f3⟩:=HFIN.out w2 h8 g8;have F3:Hid _:=f3;clear h8 g8 f3);have hone:=iz x.1 w2.drew hi32;refine aV (dF l) 9 zab zab zab ?_;simp only [List.take_succ_cons,List.take_zero,List.drop_succ_cons,List.drop_zero]
  iterate 5 still_step
  still_call hone
  iterate 3 still_step
  refine Ov ?_;gi_wp2;exact F3.out
 case done =>
  exact zdq
 case stop =>
  exact zfj
