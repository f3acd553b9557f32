import Derived.Test.YtegmoddppafkfaaGreatDoorM00
import Derived.Test.YtegmoddppafkfaaGreatDoorM15
set_option maxRecDepth 100000
set_option maxHeartbeats 8000000
namespace Go.Proofs.YtegmoddppafkfaaGreatDoor
section
open Go.RowKit Go.Proofs Go.Shelf
namespace Pg
theorem fB {W:World} {b o:Nat} {v:Value} (h:W.cell? ⟨b,o,none⟩=some v):b<W.heap.size:=World.block_lt_of_cell? _ _ h
theorem kC {W:World} {B:Nat} {t:TypeId} {u v:Value} (h:Boxed W B t u) (k:Boxed W B t v):u=v:=by
 have:=h.symm.trans k
 simpa using this
theorem pU.uniq {W:World} {pb b:Nat} {e e':En} {v:Value} (h:pU W pb b e v) (k:pU W pb b e' v):e=e':=by
 cases e with
 | nil =>
  cases e' with
  | nil=>rfl
  | all a=>obtain ⟨c,k1,_⟩:=k;rw [show v=_ from h] at k1;simp at k1
  | hist p t=>obtain ⟨c3,c7,c6,c5,k1,_⟩:=k;rw [show v=_ from h] at k1;simp at k1
 | all a =>
  obtain ⟨c,h1,h2⟩:=h
  cases e' with
  | nil=>rw [show v=_ from k] at h1;simp at h1
  | all a' =>
   obtain ⟨c',k1,k2⟩:=k
   rw [h1] at k1
   simp at k1
   subst k1
   have:=kC h2 k2
   simp at this
   rw [show a=a' by omega]
  | hist p t=>obtain ⟨c3,c7,c6,c5,k1,_⟩:=k;rw [h1] at k1;simp at k1
 | hist p t =>
  obtain ⟨c3,c7,c6,c5,h1,_,h7,_,h5⟩:=h
  cases e' with
  | nil=>rw [show v=_ from k] at h1;simp at h1
  | all a'=>obtain ⟨c',k1,k2⟩:=k;rw [h1] at k1;simp at k1
  | hist p' t' =>
   obtain ⟨d3,d7,d6,d5,k1,_,k7,_,k5⟩:=k
   rw [h1] at k1
   simp at k1
   obtain ⟨_,e7,_,e5⟩:=k1
   subst e7 e5
   have x7:=kC h7 k7
   have x5:=kC h5 k5
   simp at x7 x5
   rw [show p=p' by omega,show t=t' by omega]
theorem dF.uniq {W:World} {pb b m:Nat} {x y:PM} (h:dF W pb b m x) (k:dF W pb b m y):x=y:=by
 obtain ⟨fv,h1,h2⟩:=h
 obtain ⟨gv,k1,k2⟩:=k
 rw [h1] at k1
 obtain ⟨xo,xl,⟨xa,xn,xc⟩,xe⟩:=x
 obtain ⟨yo,yl,⟨ya,yn,yc⟩,ye⟩:=y
 simp at k1
 obtain ⟨a1,a2,⟨a3,a4,a5⟩,a6⟩:=k1
 subst a3 a4 a5 a6
 have:=h2.uniq k2
 simp at this
 subst this
 rw [show xo=yo by omega,show xl=yl by omega]
theorem jG (ps:List PS) {L:List (Option PM)} {z:PM}:∀ (k i:Nat),(kK ps L k)[i]?=some (some z)→∃ j:Nat,L[j]?=some (some z)
 | 0,i,h=>⟨i,h⟩
 | k+1,i,h=>by
  rw [kK] at h
  unfold oO at h
  split at h
  ·split at h
   ·exact jG ps k i h
   ·rename_i p _ _ _
    by_cases e:k=i
    ·subst e
     by_cases hl:k<(kK ps L k).length
     ·rw [List.getElem?_set_self hl] at h
      rw [List.getD_eq_getElem?_getD] at h
      cases hq:(kK ps L k)[p.owner.toNat]? with
      | none=>rw [hq] at h;simp at h
      | some y =>
       rw [hq] at h
       simp at h
       subst h
       exact jG ps k _ hq
     ·rw [List.getElem?_eq_none (by simp;omega)] at h
      cases h
    ·rw [List.getElem?_set_ne e] at h
     exact jG ps k i h
  ·exact jG ps k i h
theorem qV {ps:List PS} {F:ByteArray→Option Nat} {T:ByteArray→Option (List (Option PM))} {i:Nat} {V:List MV} {Z:PM→Prop} (hT:∀ ev row (a:Nat) z,T ev=some row→row[a]?=some (some z)→Z z) (hV:∀ m∈V,Z (iS ps F i m)):∀ (j:Nat) ev row (a:Nat) z,cU ps F T i V j ev=some row→row[a]?=some (some z)→Z z
 | 0,ev,row,a,z,h,hz=>hT ev row a z h hz
 | j+1,ev,row,a,z,h,hz=>by
  have ih:=qV hT hV j
  cases hm:V[j]? with
  | none=>rw [cU,hm] at h;exact ih ev row a z h hz
  | some m =>
   rw [cU,hm] at h
   dsimp only at h
   unfold mR at h
   split at h
   ·have hr:∀ (a:Nat) z,((cU ps F T i V j m.event).getD (List.replicate ps.length none))[a]?=some (some z)→Z z:=fun a z hz=>by
     cases hq:cU ps F T i V j m.event with
     | none =>
      rw [hq] at hz
      have:=List.eq_of_mem_replicate (List.mem_of_getElem? hz)
      cases this
     | some row'=>rw [hq] at hz;exact ih _ row' a z hq hz
    have h:=Option.some.inj h
    subst h
    dsimp only at hz
    split at hz
    ·by_cases e:i=a
     ·subst e
      by_cases hl:i<((cU ps F T i V j m.event).getD (List.replicate ps.length none)).length
      ·rw [List.getElem?_set_self hl] at hz
       simp at hz
       subst hz
       exact hV m (List.mem_of_getElem? hm)
      ·rw [List.getElem?_eq_none (by simp;omega)] at hz
       cases hz
     ·rw [List.getElem?_set_ne e] at hz
      exact hr a z hz
    ·exact hr a z hz
   ·exact ih ev row a z h hz
theorem rK {ps:List PS} {F:ByteArray→Option Nat} {V:Nat→List MV} {Z:PM→Prop} {N:Nat} (hV:∀ i,i<N→∀ m∈V i,Z (iS ps F i m)):∀ (k:Nat),k≤N→∀ ev row (a:Nat) z,dW ps F V k ev=some row→row[a]?=some (some z)→Z z
 | 0,_,ev,row,a,z,h,hz=>by cases h
 | k+1,hk,ev,row,a,z,h,hz=>qV (rK hV k (by omega)) (hV k (by omega)) _ ev row a z h hz
theorem jx.rows {W:World} {pb b:Nat} {pmF:Nat→PM} (hpm:∀ m z,dF W pb b m z→pmF m=z) {L:List (Option Nat)} {row:List (Option PM)} (h5:∀ i:Nat,jx W pb b (L[i]?) (row[i]?)):row=L.map (Option.map pmF):=by
 apply List.ext_getElem?
 intro i
 rw [List.getElem?_map]
 have h6:=h5 i
 cases hq:L[i]? with
 | none =>
  rw [hq] at h6
  cases hr:row[i]? with
  | none=>rfl
  | some y=>rw [hr] at h6;cases y <;> exact h6.elim
 | some o =>
  rw [hq] at h6
  cases o with
  | none =>
   cases hr:row[i]? with
   | none=>rw [hr] at h6;exact h6.elim
   | some y =>
    rw [hr] at h6
    cases y with
    | none=>rfl
    | some z=>exact h6.elim
  | some m =>
   cases hr:row[i]? with
   | none=>rw [hr] at h6;exact h6.elim
   | some y =>
    rw [hr] at h6
    cases y with
    | none=>exact h6.elim
    | some z =>
     simp only [Option.map_some]
     rw [hpm m z h6]
def Bo (X:List MS) (H:List HV) (k:Nat):Bool:=match H[k]? with | some h=>(match X[h.idx]? with | some x=>decide (x.kind=4) | none=>false) | none=>false
def jo (X:List MS) (V:Nat→List MV) (ev:ByteArray):Option (List (Option PM)):=(dW (psF X) (dr X X.length) V X.length ev).map fun row=>kK (psF X) row X.length
def enF (X:List MS) (AV:Ref.Sl→List PA) (i:Nat):List PA:=match X[i]? with | some x=>AV x.ve | none=>[]
def lvF (X:List MS) (AV:Ref.Sl→List PA) (i:Nat):List PA:=match X[i]? with | some x=>AV x.vl | none=>[]
theorem CD {w0 w:World} {pb:Nat} {X:List MS} {V:Nat→List MV} (AV:Ref.Sl→List PA) (h2:∀ (i:Nat) (x:MS),X[i]?=some x→x.owner = -1) (h:Dg w0 w pb X V) (hX:X.length≤24) (hX0:0<X.length) (hox:∀ (i:Nat) (x:MS),X[i]?=some x→x.owner = -1∨∃ o:Nat,x.owner=o∧o<i) (hhx:∀ (i:Nat) (x:MS),X[i]?=some x→isH x.kind=false) (hl:Lw w.heap.size)
  (hea:∀ (i:Nat) (x:MS),X[i]?=some x→du w w.heap.size x.ve (AV x.ve)∧du w w.heap.size x.vl (AV x.vl)) (hma:∀ i,i<X.length→∀ m∈V i,du w w.heap.size m.aj (AV m.aj)∧∀ a∈AV m.aj,a.sz) :
  ∃ b hvs H D mbm n M Lr pmF acF,mx w w.heap.size pb b X.length (psF X) (bQ X X.length) (enF X AV) (lvF X AV) hvs H D mbm n (jo X V) M Lr pmF acF∧H.map (fun h=>(h.idx,h.own))=oK X X.length∧(∀ (k:Nat) (h:HV) (x:MS),H[k]?=some h→X[h.idx]?=some x→D k=decide (x.kind=4))∧(∀ ev,(M ev).map (fun g=>(Lr g).map (Option.map pmF))=jo X V ev)∧(∀ ev (g i m:Nat),M ev=some g→(Lr g)[i]?=some (some m)→acF m=AV (pmF m).aj)∧(∀ m,∀ a∈acF m,a.sz)∧∃ L0:Nat→List (Option Nat),∀ ev g,M ev=some g→Lr g=dR (psF X) (L0 g) X.length∧dW (psF X) (dr X X.length) V X.length ev=some ((L0 g).map (Option.map pmF)):=by
 obtain ⟨b,mb,hv,H,n,M,L,hB0,hPB,hPA,hrow,hH,hTab,hOnc⟩:=h
 have hlen:=n5 X
 have hGN:=Co X hox
 have hG:cQ (psF X).length (psF X):=by rw [hlen];exact hGN
 have hO:=Eg X hox
 have hbl:b<w.heap.size:=by
  obtain ⟨p,hp⟩:∃ p,(psF X)[0]?=some p:=⟨_,List.getElem?_eq_getElem (by omega)⟩
  exact fB (hPA.at' 0 p hp).c1
 have hst:=fun i p (hp:(psF X)[i]?=some p)=>FI X hox hp
 have how:∀ (i:Nat) (p:PS),(psF X)[i]?=some p→p.owner = -1∨∃ o:Nat,p.owner=o∧o<i:=fun i p hp=>by
  obtain ⟨x,hx,e⟩:=hst i p hp
  have:p.owner=x.owner:=congrArg St.owner e
  rw [this]
  exact hox i x hx
 have hhp:∀ (i:Nat) (p:PS),(psF X)[i]?=some p→isH p.kind=false:=fun i p hp=>by
  obtain ⟨x,hx,e⟩:=hst i p hp
  rw [show p.kind=x.kind from congrArg St.kind e]
  exact hhx i x hx
 have hplan:fi w w.heap.size pb b X.length (psF X) (bQ X X.length) (enF X AV) (lvF X AV) :=
  ⟨hPA,(Array.getElem?_eq_some_iff.1 hPB).1,hbl,by rw [cell_of_row _ _ _ _ _ _ hPB];rfl,qb hX (kH X (Nat.le_refl _) _ (Nat.le_refl _)),how,fun i p hp j hj=>by rw [hlen];exact hO.part i p hp j hj,
   fun i p hp=>by
    obtain ⟨x,hx,e⟩:=hst i p hp
    have e1:p.enter=x.ve:=congrArg St.enter e
    rw [e1]
    unfold enF
    rw [hx]
    exact (hea i x hx).1,
   fun i p hp=>by
    obtain ⟨x,hx,e⟩:=hst i p hp
    have e1:p.leave=x.vl:=congrArg St.leave e
    rw [e1]
    unfold lvF
    rw [hx]
    exact (hea i x hx).2,hl,fun i p hp=>by
    obtain ⟨x,hx,e⟩:=hst i p hp
    rw [show p.owner=x.owner from congrArg St.owner e]
    exact h2 i x hx⟩
 have hZ:∀ i,i<X.length→∀ m∈V i,(fun z=>∃ i mv,i<X.length∧mv∈V i∧z=iS (psF X) (dr X X.length) i mv) (iS (psF X) (dr X X.length) i m):=fun i hi m hm=>⟨i,m,hi,hm,rfl⟩
 have hent:∀ ev (g i m:Nat),M ev=some g→(L g)[i]?=some (some m)→∃ row z,jo X V ev=some row∧row[i]?=some (some z)∧dF w pb b m z∧∃ i mv,i<X.length∧mv∈V i∧z=iS (psF X) (dr X X.length) i mv:=fun ev g i m hg hm=>by
  obtain ⟨_,_,row,h3,_,h5⟩:=hTab.row ev g hg
  have h6:=h5 i
  rw [hm] at h6
  cases hq:row[i]? with
  | none=>rw [hq] at h6;exact h6.elim
  | some y =>
   cases y with
   | none=>rw [hq] at h6;exact h6.elim
   | some z =>
    rw [hq] at h6
    refine ⟨row,z,h3,hq,h6,?_⟩
    cases ht:dW (psF X) (dr X X.length) V X.length ev with
    | none=>rw [ht] at h3;cases h3
    | some row0 =>
     rw [ht] at h3
     have h3:=Option.some.inj h3
     subst h3
     obtain ⟨j,hj⟩:=jG (psF X) X.length i hq
     exact rK (Z:=fun z=>∃ i mv,i<X.length∧mv∈V i∧z=iS (psF X) (dr X X.length) i mv) hZ X.length (Nat.le_refl _) ev row0 j z ht hj
 have hnil:H=[]:=by
  have h0:∀ k,oK X k=[]:=fun k=>by
   induction k with
   | zero=>rfl
   | succ k ih =>
    rw [oK,ih]
    split
    ·rename_i x hx
     rw [hhx k x hx]
     rfl
    ·rfl
  have h1:=hH.idx
  rw [h0] at h1
  exact List.map_eq_nil_iff.1 h1
 classical
 obtain ⟨pmF,hpm⟩:∃ pmF:Nat→PM,∀ m z,dF w pb b m z→pmF m=z:=⟨fun m=>if h:∃ z,dF w pb b m z then h.choose else ⟨0,0,⟨none,0,0⟩,.nil⟩,fun m z hz=>by
  have he:∃ z,dF w pb b m z:=⟨z,hz⟩
  dsimp only
  rw [dif_pos he]
  exact he.choose_spec.uniq hz⟩
 refine ⟨b,hv,H,Bo X H,mb,n,M,L,pmF,fun m=>if ∃ (ev:ByteArray) (g i:Nat),M ev=some g∧(L g)[i]?=some (some m) then AV (pmF m).aj else [],⟨hplan,⟨by rw [cell_of_row _ _ _ _ _ _ hPB];rfl,hrow,fun k y hy => ?_,?_,hnil⟩,⟨by rw [hlen];exact hPB,by rw [hlen];exact hTab⟩,fun ev g i m hg hm => ?_,by omega,fun a ha=>DL _ ha⟩,hH.idx,fun k y x hy hx => ?_,fun ev => ?_,fun ev g i m hg hm => ?_,fun m a ha => ?_,?_⟩
 ·obtain ⟨x,po,a1,a2,a3⟩:=hH.ay y (List.mem_of_getElem? hy)
  have:=(List.getElem?_eq_some_iff.1 a1).1
  refine ⟨by omega,(List.getElem?_eq_some_iff.1 a2).1,po,a2,?_⟩
  unfold Bo
  rw [hy]
  dsimp only
  rw [a1]
  exact a3
 ·have h1:=congrArg List.length hH.idx
  have h2:=oL X X.length
  rw [List.length_map] at h1
  omega
 ·obtain ⟨row,z,t1,t2,t3,j,mv,hj,hmv,rfl⟩:=hent ev g i m hg hm
  rw [hpm m _ t3]
  have hown:(iS (psF X) (dr X X.length) j mv).own=j:=by unfold iS;split <;> (try split) <;> rfl
  have hac:(iS (psF X) (dr X X.length) j mv).aj=mv.aj:=by unfold iS;split <;> (try split) <;> rfl
  refine ⟨t3,by rw [hown];omega,?_,?_,?_⟩
  ·unfold iS
   split
   ·exact dz _
   ·split
    ·exact Bu hG _ _
    ·exact dz _
  ·rw [if_pos ⟨ev,g,i,hg,hm⟩,hac]
   exact (hma j hj mv hmv).1
  ·unfold iS
   split
   ·trivial
   ·split
    ·exact zY hG hhp _ _
    ·trivial
 ·unfold Bo
  rw [hy]
  dsimp only
  rw [hx]
 ·cases hg:M ev with
  | none=>exact (hTab.nope ev hg).symm
  | some g =>
   obtain ⟨_,h2,row,h3,h4,h5⟩:=hTab.row ev g hg
   rw [show jo X V ev=some row from h3]
   simp only [Option.map_some,Option.some.injEq]
   exact (jx.rows hpm h5).symm
 ·dsimp only
  rw [if_pos ⟨ev,g,i,hg,hm⟩]
 ·dsimp only at ha
  split at ha
  ·rename_i he
   obtain ⟨ev,g,i,hg,hm⟩:=he
   obtain ⟨row,z,t1,t2,t3,j,mv,hj,hmv,rfl⟩:=hent ev g i m hg hm
   rw [hpm m _ t3] at ha
   have hac:(iS (psF X) (dr X X.length) j mv).aj=mv.aj:=by unfold iS;split <;> (try split) <;> rfl
   rw [hac] at ha
   exact (hma j hj mv hmv).2 a ha
  ·cases ha
 ·obtain ⟨L0,hL0⟩:=hOnc
  refine ⟨L0,fun ev g hg => ?_⟩
  obtain ⟨e1,row0,e2,e3⟩:=hL0 ev g hg
  exact ⟨e1,by rw [e2,jx.rows hpm e3]⟩
end Pg
namespace Pg
structure Live (w:World) (lo mb pb b cap:Nat) (ps:List PS) (fin:Nat) (EN LV:Nat→List PA) (hvs:Ref.Sl) (H:List HV) (D:Nat→Bool) (mbm n:Nat) (T:ByteArray→Option (List (Option PM))) (M:ByteArray→Option Nat) (Lr:Nat→List (Option Nat)) (pmF:Nat→PM) (acF:Nat→List PA) (r:RSt):Prop where
 run:mx w lo pb b cap ps fin EN LV hvs H D mbm n T M Lr pmF acF
 sz:SzP ps EN LV
 sza:∀ m,∀ a∈acF m,a.sz
 mt:MT w lo mb pb r
 ok:ROK ps r
 qk:QOK r
 q0:r.q=[]
section
variable {w w':World} {lo mb pb b cap:Nat} {ps:List PS} {fin:Nat} {EN LV:Nat→List PA} {hvs:Ref.Sl} {H:List HV} {D:Nat→Bool} {mbm n:Nat} {T:ByteArray→Option (List (Option PM))} {M:ByteArray→Option Nat} {Lr:Nat→List (Option Nat)} {pmF:Nat→PM} {acF:Nat→List PA} {r:RSt}
theorem Live.ay (h:Live w lo mb pb b cap ps fin EN LV hvs H D mbm n T M Lr pmF acF r) (hb:Below w.heap.size w w'):Live w' lo mb pb b cap ps fin EN LV hvs H D mbm n T M Lr pmF acF r:=⟨h.run.rf (RfE.of hb h.mt.lo'),h.sz,h.sza,h.mt.below h.run.dc.lw hb,h.ok,h.qk,h.q0⟩
end
def br (step:RSt→ByteArray→RSt) (r:RSt) (ev:ByteArray):RSt:=dZ step { r with q:=r.q++[ev] }
theorem MT.moU {P:Nat→Prop} {W W':World} {lo mb pb:Nat} {r:RSt} (h:MT W lo mb pb r) (hl:Lw lo) (hm:Mo P W W') (hP:∀ k,P k→lo≤k∧∃ c t,W.heap[k]?=some (.cells c t (0,0))∧¬ cG t):MT W' lo mb pb r:=by
 obtain ⟨qv,wh,a,b⟩:=h.ex
 have hb:Below lo W W':=⟨hm.os,hm.tape,hm.output,hm.size,fun k hk=>hm.block k (by have:=h.lo';omega) (fun hp=>by have:=(hP k hp).1;omega)⟩
 have hk:Kd (fun t=>¬ cG t) W W':=gE hm (fun k c t f hp hc=>by
  obtain ⟨_,c',t',hc',ht'⟩:=hP k hp
  rw [hc] at hc'
  cases hc'
  exact ht')
 refine ⟨⟨qv,wh,a.mo hm (fun e => ?_) (fun g hg e => ?_),b.kd hk (fun h=>h (.inr (.inr rfl))) rfl rfl⟩,Nat.le_trans h.lo' hm.size,h.act,h.now,h.tml,fc hl hb h.tab,bM hl hb h.tab5⟩
 ·obtain ⟨_,c,t,hc,ht⟩:=hP _ e
  obtain ⟨arr,a1,_⟩:=a.blk
  rw [hc] at a1
  cases a1
  exact ht (.inl rfl)
 ·obtain ⟨_,c,t,hc,ht⟩:=hP _ e
  obtain ⟨c',hc'⟩:=a.que.kind g hg
  rw [hc] at hc'
  cases hc'
  exact ht (.inr (.inl rfl))
theorem RfE.xS {E:TypeId→Prop} {lo s:Nat} {w W:World} {cs:Array Value} (h:RfE E lo w W) (hlo:lo≤w.heap.size) (hs:w.heap.size≤s):RfE E lo w (W.setRow s cs):=by
 have o:=il W s cs
 exact ⟨⟨h.bel.os,h.bel.tape,h.bel.output,by rw [setRow_size];exact h.bel.size,fun k hk=>(setRow_other W s k cs (by omega)).trans (h.bel.block k hk)⟩,
  ⟨by rw [setRow_size];exact h.kd.size,fun k c t f hk hn=>(setRow_other W s k cs (by have:=(Array.getElem?_eq_some_iff.1 hk).1;omega)).trans (h.kd.ay k c t f hk hn)⟩,
  ⟨by rw [setRow_size];exact h.oth.size,fun k o hk ho=>(setRow_other W s k cs (by have:=(Array.getElem?_eq_some_iff.1 hk).1;omega)).trans (h.oth.same k o hk ho)⟩⟩
theorem qT (W:World) (s:Nat) (cs:Array Value):Mo (· = s) W (W.setRow s cs):=⟨rfl,rfl,rfl,Nat.le_of_eq (setRow_size W s cs).symm,fun k _ hk=>setRow_other W s k cs hk⟩
theorem s9:¬ cG 63:=fun h=>by rcases h with h | h | h <;> exact absurd h (by decide)
def nG:Obj := .cells #[.string ⟨#[]⟩,.int .u64 0,.slice none 0 0] 63
end Pg
theorem Tryz.nD:(Tryz.prog.info? 63).map (·.size)=some 3:=by kernel_rfl
theorem Tryz.El:Tryz.f97.results=#[.cell 4 63]:=rfl
section
variable (w:World) (lo mb pb b cap:Nat) (ps:List Pg.PS) (fin:Nat) (EN LV:Nat→List Pg.PA) (hvs:Ref.Sl) (H:List Pg.HV) (D:Nat→Bool) (mbm n:Nat) (T:ByteArray→Option (List (Option Pg.PM))) (M:ByteArray→Option Nat) (Lr:Nat→List (Option Nat)) (pmF:Nat→Pg.PM) (acF:Nat→List Pg.PA) (r:Pg.RSt) (ev:ByteArray)
abbrev EX (ev:ByteArray):Prop:=∀ V:World,Calls Tryz.prog 141 #[.string ev] V fun e w'=>e = .returned (.string ev)∧Below V.heap.size V w'
theorem wa (hQ:Pg.Live w lo mb pb b cap ps fin EN LV hvs H D mbm n T M Lr pmF acF r) (hev:ev.size≤1000000) (hcl:EX ev) :
  Calls Tryz.prog 97 #[.pointer (some ⟨mb,0,none⟩),.string ev] w fun e w'=>∃ a k c,e = .returned (.agg #[.string ev,.int .u64 (Pg.br (Pg.aP ps fin EN LV H D M Lr pmF acF) r ev).now,.slice a k c])∧Hid (Pg.Live w' lo mb pb b cap ps fin EN LV hvs H D mbm n T M Lr pmF acF (Pg.br (Pg.aP ps fin EN LV H D M Lr pmF acF) r ev)∧Pg.Rf lo w w'∧Pg.Nms w' lo (.slice a k c) ((Pg.els (Pg.br (Pg.aP ps fin EN LV H D M Lr pmF acF) r ev).act).map (Pg.cE ps))):=by
 have hlw:=hQ.run.dc.lw
 have hlo:=hQ.mt.lo'
 have hB0:Below w.heap.size w (w.alloc Pg.nG):=(Below.refl _ w).alloc (Nat.le_refl _) _
 have hP:=hQ.ay hB0
 have hR0:Pg.Rf lo w (w.alloc Pg.nG):=Pg.RfE.of hB0 hlo
 have hz0:(w.alloc Pg.nG).heap[w.heap.size]?=some Pg.nG:=heap_alloc_new _ _
 have hq0:=hP.q0
 generalize hW0:w.alloc Pg.nG=W0 at *
 have HRA:Hid (Calls Tryz.prog 131 #[.pointer (some ⟨mb,0,none⟩),.string ev] W0 fun e w'=>e = .returned (.tuple #[])∧Hid (Pg.MT w' lo mb pb { r with q:=r.q++[ev] }∧Pg.Rf lo W0 w')):=(kT W0 lo mb pb r ev hlw hP.mt (by rw [hq0];decide)).mono (fun e w' x=>⟨x.1,x.2.1,x.2.2⟩)
 have hr1:Pg.ROK ps { r with q:=r.q++[ev] }:=⟨hP.ok.act,hP.ok.kept⟩
 have hq1:Pg.QOK { r with q:=r.q++[ev] }:=hP.qk.snoc hev
 obtain ⟨hr2,hq2⟩:=Pg.pk (fun r x h k=>Pg.oz hP.run hP.sz hP.sza h k x) hr1 hq1
 have HAR:Hid (∀ V,Hid (Pg.MT V lo mb pb { r with q:=r.q++[ev] }∧Pg.Rf lo W0 V)→Calls Tryz.prog 113 #[.pointer (some ⟨mb,0,none⟩)] V fun e w'=>e = .returned (.tuple #[])∧Hid (Pg.MT w' lo mb pb (Pg.br (Pg.aP ps fin EN LV H D M Lr pmF acF) r ev)∧Pg.Rf lo W0 w')):=fun V hV =>
  (iJ V lo mb pb b cap _ ps fin EN LV hvs H D mbm n T M Lr pmF acF (hP.run.rf hV.out.2) hP.sz hP.sza hV.out.1 hr1 hq1 (by show (r.q++[ev]).length≤_;rw [hq0];simp)).mono (fun e w' x=>⟨x.1,x.2.1,hV.out.2.trans x.2.2⟩)
 have hra:Pg.ROK ps (Pg.br (Pg.aP ps fin EN LV H D M Lr pmF acF) r ev):=hr2
 have hqa:Pg.QOK (Pg.br (Pg.aP ps fin EN LV H D M Lr pmF acF) r ev):=hq2
 have hqz:(Pg.br (Pg.aP ps fin EN LV H D M Lr pmF acF) r ev).q=[]:=rfl
 clear hr2 hq2 hr1 hq1
 generalize Pg.br (Pg.aP ps fin EN LV H D M Lr pmF acF) r ev=r2 at *
 have HST:Hid (∀ V,Hid (Pg.MT V lo mb pb r2∧Pg.Rf lo W0 V)→Calls Tryz.prog 114 #[.pointer (some ⟨mb,0,none⟩),.string ev] V fun e w'=>∃ a k c,e = .returned (.agg #[.string ev,.int .u64 r2.now,.slice a k c])∧Hid (w'.heap[w.heap.size]?=some Pg.nG∧∀ cs,Pg.Live (w'.setRow w.heap.size cs) lo mb pb b cap ps fin EN LV hvs H D mbm n T M Lr pmF acF r2∧Pg.Rf lo w (w'.setRow w.heap.size cs)∧Pg.Nms (w'.setRow w.heap.size cs) lo (.slice a k c) ((Pg.els r2.act).map (Pg.cE ps)))):=fun V hV =>
  (vQ V lo mb pb b cap r2 ps fin EN LV ev (hP.run.rf hV.out.2).dc hV.out.1 (Pg.ia hra.act) hcl).mono (fun e w' x=>by
   obtain ⟨sv,x1,x2,x3⟩:=x
   obtain ⟨a,c,rfl⟩:=x2.n
   have hRv:Pg.Rf lo W0 w':=hV.out.2.trans (Pg.RfE.of x3 hV.out.1.lo')
   have hz:w'.heap[w.heap.size]?=some Pg.nG:=(hRv.kd.ay _ _ _ _ hz0 Pg.s9).trans hz0
   have hmt:=hV.out.1.below hlw x3
   have hn0:Pg.Nms w' lo (.slice a ((Pg.els r2.act).map (Pg.cE ps)).length c) ((Pg.els r2.act).map (Pg.cE ps)):=⟨x2.1,x2.2.imp id (fun ⟨g,cp,cu,y1,y2,y3⟩=>⟨g,cp,cu,y1,Nat.le_trans hV.out.1.lo' y2,y3⟩)⟩
   refine ⟨a,_,c,x1,hz,fun cs => ?_⟩
   have hR':Pg.Rf lo w (w'.setRow w.heap.size cs):=Pg.RfE.xS (hR0.trans hRv) hlo (Nat.le_refl _)
   exact ⟨⟨hQ.run.rf hR',hP.sz,hP.sza,Pg.MT.moU hmt hlw (Pg.qT _ _ _) (fun k hk=>by subst hk;exact ⟨hlo,_,_,hz,Pg.s9⟩),hra,hqa,hqz⟩,hR',Kd.row (E:=fun t=>¬ Pg.cG t) (gE (Pg.qT _ _ _) (fun k c t f hp hc=>by subst hp;rw [hz] at hc;cases hc;exact Pg.s9)) hn0 (fun h=>h (.inr (.inl rfl)))⟩)
 clear hP hQ hcl hra hqa hqz hq0 hR0 hz0 hB0
 have HW0:Hid _:=hW0
 clear hW0
 unfold Pg.nG at HW0
 go_enter Tryz.func97,Tryz.ntmps97
 go_wp2_with (first
  | (go_at_call 131;rw [HW0.out];refine HRA.out.mono ?_;rintro e w1 ⟨rfl,h1⟩)
  | (go_at_call 113;refine (HAR.out _ h1).mono ?_;rintro e w2 ⟨rfl,h2⟩)
  | (go_at_call 114;refine (HST.out _ h2).mono ?_;rintro e w3 ⟨sa,sk,sc,rfl,h3⟩)
  | (show wpList _ _ _ (Oper.mk none _ _ _ _ _::_) _ _;refine ee rfl 63 (.tmp 4) (.tmp 12) rfl w.heap.size 63 _ _ rfl rfl h3.out.1 Tryz.nD rfl rfl ?_))
 refine dt Tryz.El w.heap.size _ _ _ _ rfl (setRow_heap w3 w.heap.size _ _ _ _ h3.out.1) Tryz.underlying63 rfl Tryz.nD rfl ?_
 exact ⟨_,_,_,rfl,h3.out.2 _⟩
namespace Pg
def rZ (w:World) (lo mb pb b cap:Nat) (ps:List PS) (fin:Nat) (EN LV:Nat→List PA) (hvs:Ref.Sl) (H:List HV) (D:Nat→Bool) (mbm n:Nat) (T:ByteArray→Option (List (Option PM))) (M:ByteArray→Option Nat) (Lr:Nat→List (Option Nat)) (pmF:Nat→PM) (acF:Nat→List PA) (r:RSt) (ev:ByteArray) (e:Ending) (w':World):Prop :=
 if r.fin=0 then ∃ sb sv,e = .returned (.tuple #[.slice (some ⟨sb,0,none⟩) 1 1,fuelV (br (aP ps fin EN LV H D M Lr pmF acF) r ev).fin])∧w'.heap[sb]?=some (.cells #[.string ev,.int .u64 (br (aP ps fin EN LV H D M Lr pmF acF) r ev).now,sv] 63 (0,0))∧Nms w' lo sv ((els (br (aP ps fin EN LV H D M Lr pmF acF) r ev).act).map (cE ps))∧Live w' lo mb pb b cap ps fin EN LV hvs H D mbm n T M Lr pmF acF (br (aP ps fin EN LV H D M Lr pmF acF) r ev)∧Rf lo w w'∧lo≤sb
 else e = .returned (.tuple #[.slice none 0 0,eJ r.fin])∧Below w.heap.size w w'
end Pg
theorem zE (hP:Pg.Live w lo mb pb b cap ps fin EN LV hvs H D mbm n T M Lr pmF acF r) (hev:ev.size≤1000000) (hcl:EX ev) :
  Calls Tryz.prog 68 #[.pointer (some ⟨mb,0,none⟩),.string ev] w (Pg.rZ w lo mb pb b cap ps fin EN LV hvs H D mbm n T M Lr pmF acF r ev):=by
 obtain ⟨qv,wh,hM,_⟩:=hP.mt.ex
 have h5:w.cell? ⟨mb,419,none⟩=some (Pg.eJ r.fin):=hM.cell 419 (by decide)
 clear hM
 by_cases hf:r.fin=0
 ·have he:Pg.eJ r.fin = .nilIface:=by rw [hf];rfl
  rw [he] at h5
  have HT:Hid _:=wa w lo mb pb b cap ps fin EN LV hvs H D mbm n T M Lr pmF acF r ev hP hev hcl
  have hlw:=hP.run.dc.lw
  have HF:Hid (r.fin=0):=hf
  generalize hr2:Pg.br (Pg.aP ps fin EN LV H D M Lr pmF acF) r ev=r2 at *
  have HR2:Hid _:=hr2
  have HOF:Hid (∀ V,Hid (Pg.Live V lo mb pb b cap ps fin EN LV hvs H D mbm n T M Lr pmF acF r2)→Calls Tryz.prog 98 #[.pointer (some ⟨mb,0,none⟩)] V fun e w'=>e = .returned (Pg.fuelV r2.fin)∧w'=V):=fun V hV=>by
   obtain ⟨qv,wh,a,_⟩:=hV.out.mt.ex
   exact iD V lo mb pb qv (r2.m wh) r2.fin a rfl hV.out.qk.fin
  have HB:Hid (∀ (V:World) (o:Obj),Below V.heap.size V (V.alloc o)):=fun V o=>(Below.refl _ V).alloc (Nat.le_refl _) _
  clear hP hcl hr2 hf
  go_enter Tryz.func68,Tryz.ntmps68
  go_wp2_with (first
   | (go_at_call 97;refine Calls.mono HT.out ?_;rintro e w1 ⟨sa,sk,sc,rfl,h1⟩)
   | (go_at_call 98;refine (HOF.out _ (h1.out.1.ay (HB.out _ _))).mono ?_;rintro e w4 ⟨rfl,hw4⟩;rw [hw4];clear hw4 w4))
  go_ret2
  unfold Pg.rZ
  rw [if_pos HF.out,HR2.out]
  have hbl:=HB.out w1 (.cells #[.string ev,.int .u64 r2.now,.slice sa sk sc] 63)
  exact ⟨_,_,rfl,heap_alloc_new _ _,Kd.row (bC (E:=fun _=>False) hbl) h1.out.2.2 (fun h=>h),h1.out.1.ay hbl,h1.out.2.1.trans (Pg.RfE.of hbl h1.out.1.mt.lo'),h1.out.1.mt.lo'⟩
 ·have he:Pg.eJ r.fin = .iface 47 (.int .i64 r.fin):=by unfold Pg.eJ;rw [if_neg hf]
  have HF:Hid (¬ r.fin=0):=hf
  have HE:Hid _:=he
  rw [he] at h5
  clear hP hcl hf he
  go_enter Tryz.func68,Tryz.ntmps68
  go_wp2
  go_quiet (fail)
  go_wp2
  go_ret2
  unfold Pg.rZ
  rw [if_neg HF.out,HE.out]
  exact ⟨rfl,⟨rfl,rfl,rfl,Nat.le_refl _,fun _ _=>rfl⟩⟩
end
end
end Go.Proofs.YtegmoddppafkfaaGreatDoor
