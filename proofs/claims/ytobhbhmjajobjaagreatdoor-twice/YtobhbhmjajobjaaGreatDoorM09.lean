import Derived.Test.YtobhbhmjajobjaaGreatDoorM08
set_option maxRecDepth 100000
set_option maxHeartbeats 8000000
namespace Go.Proofs.YtobhbhmjajobjaaGreatDoor
theorem zbA {zp:Prop} (h:zp:=by unfold eF;split <;> (try split) <;> rfl):zp:=h
variable {N a b pb:Nat} {ps:List Pg.PS} {W:World} {v:Value}
section
open Go.RowKit Go.Proofs Go.Shelf
namespace Pg
structure St where
 kind:Int
 name:ByteArray
 done:ByteArray
 owner:Int
 enter:Ref.Sl
 leave:Ref.Sl
def PS.st (p:PS):St:=⟨p.kind,p.name,p.done,p.owner,p.enter,p.leave⟩
def MS.st (x:MS):St:=⟨x.kind,x.name,qx++x.name,x.owner,x.ve,x.vl⟩
theorem kg {α β:Type} (f:α->β) (l:List α) (i:Nat) (a b:α) (h:l[i]?=some a) (e:f b=f a):(l.set i b).map f=l.map f:=by
 apply OL
 intro j;simp only [List.getElem?_map];by_cases hj:i=j
 ·subst hj;rw [M0 (Mx.1 h).1,h];simp [e]
 ·rw [Ng hj]
theorem z7 (ps:List PS) (i:Nat):(bJ ps i).map PS.st=ps.map PS.st:=by
 unfold bJ;split
 ·rfl
 ·rename_i p hp;have h1:=kg PS.st ps i p { p with wth:=kB ps i p } hp rfl;split
  ·exact h1
  ·split
   ·exact h1
   ·rename_i q hq;by_cases e:i=p.owner.toNat
    ·rw [<- e] at hq ⊢;rw [hp] at hq;cases hq
     rw [PO];exact kg PS.st ps i p _ hp rfl
    ·exact (kg PS.st (ps.set i { p with wth:=kB ps i p }) p.owner.toNat q { q with inside:=q.inside|||(p.inside|||2 ^ i) } (by rw [Ng e];exact hq) rfl).trans h1
theorem zZ (ps:List PS):∀ k,(dL ps k).map PS.st=ps.map PS.st
 | 0=>rfl
 | k+1=>by rw [dL,z7,zZ ps k]
theorem xX (X:List MS) (hox:∀ (i:Nat) (x:MS),X[i]?=some x->x.owner = -1\/∃ o:Nat,x.owner=o/\o<i):∀ k,k<=X.length->∀ (i:Nat) (p:PS) (x:MS),i<k->(bE X k)[i]?=some p->X[i]?=some x->p.st=x.st
 | 0,_,i,p,x,hi,_,_=>by omega
 | k+1,hk,i,p,x,hi,hp,hx=>by
  have ih:=xX X hox k zaa;have hl:=ef X k;obtain ⟨y,hy⟩:∃ y,X[k]?=some y:=⟨_,Mu zaa⟩;rw [bE,hy] at hp;dsimp only at hp;have hset:∀ (qs:List PS) (ar:Nat),qs.length=X.length->(∀ (i:Nat) (p:PS) (x:MS),i<k->qs[i]?=some p->X[i]?=some x->p.st=x.st)->(qs.set k (Ef y ar))[i]?=some p->p.st=x.st:=fun qs ar hql h1 hp=>by
   by_cases e:k=i
   ·subst e;rw [M0 zaa] at hp;rw [hy] at hx;cases hp;cases hx
    rfl
   ·rw [Ng e] at hp;exact h1 i p x zaa hp hx
  unfold my at hp;split at hp
  ·exact hset _ 0 hl ih hp
  ·rename_i hn;obtain ⟨o,ho,hoi⟩:∃ o:Nat,y.owner=o/\o<k:=by
    rcases hox k y hy with h | h
    ·rw [h] at hn;exact absurd rfl hn
    ·exact h
   have hto:y.owner.toNat=o:=by rw [ho];rfl
   rw [hto] at hp;split at hp
   ·rename_i hq;rw [Mu zaa] at hq;cases hq
   ·rename_i q hq;split at hp
    ·exact hset _ _ hl ih hp
    ·refine hset _ _ (by simpa using hl) (fun a pa xa ha hpa hxa => ?_) hp;by_cases e:o=a
     ·subst e;rw [M0 zaa] at hpa;cases hpa
      exact ih o q xa ha hq hxa
     ·rw [Ng e] at hpa;exact ih a pa xa ha hpa hxa
theorem oy (X:List MS):(psF X).length=X.length:=by unfold psF;rw [pJ,ef]
theorem GS (X:List MS) (hox:∀ (i:Nat) (x:MS),X[i]?=some x->x.owner = -1\/∃ o:Nat,x.owner=o/\o<i) {i:Nat} {p:PS} (hp:(psF X)[i]?=some p):∃ x,X[i]?=some x/\p.st=x.st:=by
 have hi:i<X.length:=by have:=(Mx.1 hp).1;rwa [oy] at this
 obtain ⟨x,hx⟩:∃ x,X[i]?=some x:=⟨_,Mu hi⟩;refine ⟨x,hx,?_⟩;have h1:=congrArg (fun l=>l[i]?) (zZ (bE X X.length) X.length);simp only [List.getElem?_map] at h1;rw [show (dL (bE X X.length) X.length)[i]?=some p from hp] at h1;obtain ⟨q,hq⟩:∃ q,(bE X X.length)[i]?=some q:=⟨_,Mu (by rw [ef];exact hi)⟩;rw [hq] at h1;have h2:p.st=q.st:=by simpa using h1
 rw [h2];exact xX X hox X.length (Mt _) i q x hi hq hx
theorem qR (X:List MS) (hox:∀ (i:Nat) (x:MS),X[i]?=some x->x.owner = -1\/∃ o:Nat,x.owner=o/\o<i):∀ k,k<=X.length->cV X.length (bE X k)
 | 0,_=>fun i p hp=>by
  have:p=zPS:=O5 (MG hp);subst this;exact ⟨dH _,dH _,dH _,dH _⟩
 | k+1,hk=>by
  obtain ⟨y,hy⟩:∃ y,X[k]?=some y:=⟨_,Mu zaa⟩;rw [bE,hy];exact uf (qR X hox k zaa) zaa y (hox k y hy)
theorem sW {N:Nat} {ps:List PS} (hN:ps.length=N) (h:cV N ps):∀ k,k<=N->cV N (dL ps k)
 | 0,_=>h
 | k+1,hk=>mK (sW hN h k zaa) zaa
theorem zG (X:List MS) (hox:∀ (i:Nat) (x:MS),X[i]?=some x->x.owner = -1\/∃ o:Nat,x.owner=o/\o<i):cV X.length (psF X):=sW (ef _ _) (qR X hox _ (Mt _)) _ (Mt _)
theorem ug (X:List MS) (hox:∀ (i:Nat) (x:MS),X[i]?=some x->x.owner = -1\/∃ o:Nat,x.owner=o/\o<i):∀ k,k<=X.length->Ord X k (bE X k)
 | 0,_=>⟨fun i p x hi=>zaa,fun i p hp j hj=>by
  have:p=zPS:=O5 (MG hp);subst this;have hj:j∈els 0:=hj;rw [kY] at hj;cases hj⟩
 | k+1,hk=>by
  obtain ⟨y,hy⟩:∃ y,X[k]?=some y:=⟨_,Mu zaa⟩;have hl:=ef X k;rw [bE,hy];exact xV (ug X hox k zaa) zaa hy (hox k y hy)
theorem vE {X:List MS} {n:Nat} {ps:List PS} (h:Ord X n ps):∀ k,Ord X n (dL ps k)
 | 0=>h
 | k+1=>oO (vE h k)
theorem JK (X:List MS) (hox:∀ (i:Nat) (x:MS),X[i]?=some x->x.owner = -1\/∃ o:Nat,x.owner=o/\o<i):Ord X X.length (psF X):=vE (ug X hox _ (Mt _)) _
theorem CQ (ps:List PS):∀ (l:List Nat) (o:Nat),tF ps o l<=o
 | [],_=>Mt _
 | i::l,o=>Mv (CQ ps l (o&&&(4294967295-je ps i))) Oi
theorem I7 (ps:List PS) (h:a<2 ^ N):inn ps a<2 ^ N:=Nt (CQ ps _ _) h
theorem Dt (h:cV N ps) (i:Nat):je ps i<2 ^ N:=by
 unfold je;split
 ·rename_i p hp;exact (h i p hp).2.2.1
 ·exact dH N
theorem DZ (h:cV N ps) (i:Nat):jh ps i<2 ^ N:=by
 unfold jh;split
 ·rename_i p hp;exact (h i p hp).2.1
 ·exact dH N
theorem we (h:a<2 ^ N):a&&&b<2 ^ N:=Nt Oi h
theorem uZ {N:Nat} {ps:List PS} (h:cV N ps) (ow:Nat):∀ (l:List Nat) (o:Nat),o<2 ^ N->l.foldl (fun o i=>o|||(fw ps i|||(je ps i&&&jh ps ow))) o<2 ^ N
 | [],_,ho=>ho
 | i::l,_,ho=>uZ h ow l _ (Nv ho (Nv (jR h i) (we (Dt h i))))
theorem zJ (h:cV N ps) (ow s:Nat):dO ps ow s<2 ^ N:=by
 unfold dO;split
 ·exact we (jR h ow)
 ·exact uZ h ow _ 0 (dH N)
theorem ur {N:Nat} {ps:List PS} (h:cV N ps):∀ (l:List Nat) (o:Nat),o<2 ^ N->kM ps o l<2 ^ N
 | [],_,ho=>ho
 | k::l,o,ho=>by
  show kM ps (if o.testBit k then o else o|||fw ps k) l<_;refine ur h l _ ?_;split
  ·exact ho
  ·exact Nv ho (jR h k)
theorem uq {N:Nat} {ps:List PS} (h:cV N ps):∀ (l:List Nat) (o:Nat),o<2 ^ N->nI ps o l<2 ^ N
 | [],_,ho=>ho
 | i::l,o,ho=>by
  show nI ps (match ps[i]? with | some p=>if p.kind != 1 then o else kM ps o (els p.parts) | none=>o) l<_;refine uq h l _ ?_;split
  ·split
   ·exact ho
   ·exact ur h _ _ ho
  ·exact ho
theorem mF (h:cV N ps) {s:Nat} (hs:s<2 ^ N):complete ps s<2 ^ N:=uq h _ _ hs
theorem FQ (h:cV ps.length ps) (i j:Nat):dom ps i j<2 ^ ps.length:=by
 unfold dom;split
 ·exact DZ h _
 ·have:=dH ps.length;omega
theorem D5 (h:cV ps.length ps) (hh:∀ (i:Nat) (p:PS),ps[i]?=some p->isH p.kind=true->∃ o:Nat,p.owner=o/\o<i) (i d:Nat):Dc ps (gY ps i d):=by
 unfold gY;split
 ·trivial
 ·rename_i p hp;have h1:p.around&&&dom ps i d<2 ^ ps.length:=we (h d p hp).2.2.1;split
  ·rename_i hk;obtain ⟨o,ho,hod⟩:=hh d p hp hk;have hdl:=(Mx.1 hp).1;obtain ⟨po,hpo⟩:∃ po,ps[o]?=some po:=⟨_,Mu zaa⟩;exact ⟨h1,p,o,po,hp,ho,hpo,fun k _=>zJ h o k,fun s hs=>mF h hs⟩
  ·exact mF h (Nv h1 (h d p hp).2.2.2)
theorem il {o:Nat} (h:W.cell? ⟨b,o,none⟩=some v):b<W.heap.size:=MQ _ _ h
theorem mQ {B:Nat} {t:TypeId} {u:Value} (h:Boxed W B t u) (k:Boxed W B t v):u=v:=by
 have:=h.symm.trans k;simpa using this
theorem tt.uniq {W:World} {pb b:Nat} {e e':En} {v:Value} (h:tt W pb b e v) (k:tt W pb b e' v):e=e':=by
 cases e with
 | nil =>
  cases e' with
  | nil=>rfl
  | all a=>obtain ⟨c,k1,_⟩:=k;rw [show v=_ from h] at k1;simp at k1
  | hist p t=>obtain ⟨c3,c7,c6,c5,k1,_⟩:=k;rw [show v=_ from h] at k1;simp at k1
 | all a =>
  obtain ⟨c,h1,h2⟩:=h;cases e' with
  | nil=>rw [show v=_ from k] at h1;simp at h1
  | all a' =>
   obtain ⟨c',k1,k2⟩:=k;rw [h1] at k1;simp at k1;subst k1;have:=mQ h2 k2;simp at this;rw [show a=a' by omega]
  | hist p t=>obtain ⟨c3,c7,c6,c5,k1,_⟩:=k;rw [h1] at k1;simp at k1
 | hist p t =>
  obtain ⟨c3,c7,c6,c5,h1,_,h7,_,h5⟩:=h;cases e' with
  | nil=>rw [show v=_ from k] at h1;simp at h1
  | all a'=>obtain ⟨c',k1,k2⟩:=k;rw [h1] at k1;simp at k1
  | hist p' t' =>
   obtain ⟨d3,d7,d6,d5,k1,_,k7,_,k5⟩:=k;rw [h1] at k1;simp at k1;obtain ⟨_,e7,_,e5⟩:=k1;subst e7 e5;have x7:=mQ h7 k7;have x5:=mQ h5 k5;simp at x7 x5;rw [show p=p' by omega,show t=t' by omega]
theorem eh.uniq {m:Nat} {x y:PM} (h:eh W pb b m x) (k:eh W pb b m y):x=y:=by
 obtain ⟨fv,h1,h2⟩:=h;obtain ⟨gv,k1,k2⟩:=k;rw [h1] at k1;obtain ⟨xo,xl,⟨xa,xn,xc⟩,xe⟩:=x;obtain ⟨yo,yl,⟨ya,yn,yc⟩,ye⟩:=y;simp at k1;obtain ⟨a1,a2,⟨a3,a4,a5⟩,a6⟩:=k1;subst a3 a4 a5 a6;have:=h2.uniq k2;simp at this;subst this;rw [show xo=yo by omega,show xl=yl by omega]
theorem k9 (ps:List PS) {L:List (Option PM)} {z:PM}:∀ (k i:Nat),(mW ps L k)[i]?=some (some z)->∃ j:Nat,L[j]?=some (some z)
 | 0,i,h=>⟨i,h⟩
 | k+1,i,h=>by
  rw [mW] at h;unfold rH at h;split at h
  ·split at h
   ·exact k9 ps k i h
   ·rename_i p _ _ _;by_cases e:k=i
    ·subst e;by_cases hl:k<(mW ps L k).length
     ·rw [M0 hl] at h;rw [MI] at h;cases hq:(mW ps L k)[p.owner.toNat]? with
      | none=>rw [hq] at h;simp at h
      | some y =>
       rw [hq] at h;simp at h;subst h;exact k9 ps k _ hq
     ·rw [M4 zaf] at h;cases h
    ·rw [Ng e] at h;exact k9 ps k i h
  ·exact k9 ps k i h
theorem uS {ps:List PS} {F:ByteArray->Option Nat} {T:ByteArray->Option (List (Option PM))} {i:Nat} {V:List MV} {Z:PM->Prop} (hT:∀ ev row (a:Nat) z,T ev=some row->row[a]?=some (some z)->Z z) (hV:∀ m∈V,Z (eF ps F i m)):∀ (j:Nat) ev row (a:Nat) z,dT ps F T i V j ev=some row->row[a]?=some (some z)->Z z
 | 0,ev,row,a,z,h,hz=>hT ev row a z h hz
 | j+1,ev,row,a,z,h,hz=>by
  have ih:=uS hT hV j;cases hm:V[j]? with
  | none=>rw [dT,hm] at h;exact ih ev row a z h hz
  | some m =>
   rw [dT,hm] at h;dsimp only at h;unfold lA at h;split at h
   ·have hr:∀ (a:Nat) z,((dT ps F T i V j m.event).getD (List.replicate ps.length none))[a]?=some (some z)->Z z:=fun a z hz=>by
     cases hq:dT ps F T i V j m.event with
     | none =>
      rw [hq] at hz;have:=O5 (MG hz);cases this
     | some row'=>rw [hq] at hz;exact ih _ row' a z hq hz
    have h:=Np h;subst h;dsimp only at hz;split at hz
    ·by_cases e:i=a
     ·subst e;by_cases hl:i<((dT ps F T i V j m.event).getD (List.replicate ps.length none)).length
      ·rw [M0 hl] at hz;simp at hz;subst hz;exact hV m (MG hm)
      ·rw [M4 zaf] at hz;cases hz
     ·rw [Ng e] at hz;exact hr a z hz
    ·exact hr a z hz
   ·exact ih ev row a z h hz
theorem vG {ps:List PS} {F:ByteArray->Option Nat} {V:Nat->List MV} {Z:PM->Prop} {N:Nat} (hV:∀ i,i<N->∀ m∈V i,Z (eF ps F i m)):∀ (k:Nat),k<=N->∀ ev row (a:Nat) z,dQ ps F V k ev=some row->row[a]?=some (some z)->Z z
 | 0,_,ev,row,a,z,h,hz=>by cases h
 | k+1,hk,ev,row,a,z,h,hz=>uS (vG hV k zaa) (hV k zaa) _ ev row a z h hz
theorem kR.rows {W:World} {pb b:Nat} {pmF:Nat->PM} (hpm:∀ m z,eh W pb b m z->pmF m=z) {L:List (Option Nat)} {row:List (Option PM)} (h5:∀ i:Nat,kR W pb b (L[i]?) (row[i]?)):row=L.map (Option.map pmF):=by
 apply OL
 intro i;rw [MF];have h6:=h5 i;cases hq:L[i]? with
 | none =>
  rw [hq] at h6;cases hr:row[i]? with
  | none=>rfl
  | some y=>rw [hr] at h6;cases y <;> exact h6.elim
 | some o =>
  rw [hq] at h6;cases o with
  | none =>
   cases hr:row[i]? with
   | none=>rw [hr] at h6;exact h6.elim
   | some y =>
    rw [hr] at h6;cases y with
    | none=>rfl
    | some z=>exact h6.elim
  | some m =>
   cases hr:row[i]? with
   | none=>rw [hr] at h6;exact h6.elim
   | some y =>
    rw [hr] at h6;cases y with
    | none=>exact h6.elim
    | some z =>
     simp only [Option.map_some];rw [hpm m z h6]
def FM (X:List MS) (H:List HV) (k:Nat):Bool:=match H[k]? with | some h=>(match X[h.idx]? with | some x=>decide (x.kind=4) | none=>false) | none=>false
def Cf (X:List MS) (V:Nat->List MV) (ev:ByteArray):Option (List (Option PM)):=(dQ (psF X) (bS X X.length) V X.length ev).map fun row=>mW (psF X) row X.length
def enF (X:List MS) (AV:Ref.Sl->List PA) (i:Nat):List PA:=match X[i]? with | some x=>AV x.ve | none=>[]
def lvF (X:List MS) (AV:Ref.Sl->List PA) (i:Nat):List PA:=match X[i]? with | some x=>AV x.vl | none=>[]
theorem Hg {w0 w:World} {X:List MS} {V:Nat->List MV} (AV:Ref.Sl->List PA) (h:E6 w0 w pb X V) (hX:X.length<=24) (hX0:0<X.length) (hox:∀ (i:Nat) (x:MS),X[i]?=some x->x.owner = -1\/∃ o:Nat,x.owner=o/\o<i) (hhx:∀ (i:Nat) (x:MS),X[i]?=some x->isH x.kind=true->x.owner ≠ -1) (hl:Lw w.heap.size)
  (hea:∀ (i:Nat) (x:MS),X[i]?=some x->fy w w x.ve (AV x.ve)/\fy w w x.vl (AV x.vl)) (hma:∀ i,i<X.length->∀ m∈V i,fy w w m.aw (AV m.aw)/\∀ a∈AV m.aw,a.sz) :
  ∃ b hvs H D mbm n M Lr pmF acF,jd w w pb b X.length (psF X) (bp X X.length) (enF X AV) (lvF X AV) hvs H D mbm n (Cf X V) M Lr pmF acF/\H.map (fun h=>(h.idx,h.own))=jF X X.length/\(∀ (k:Nat) (h:HV) (x:MS),H[k]?=some h->X[h.idx]?=some x->D k=decide (x.kind=4))/\(∀ ev,(M ev).map (fun g=>(Lr g).map (Option.map pmF))=Cf X V ev)/\(∀ ev (g i m:Nat),M ev=some g->(Lr g)[i]?=some (some m)->acF m=AV (pmF m).aw)/\(∀ m,∀ a∈acF m,a.sz)/\∃ L0:Nat->List (Option Nat),∀ ev g,M ev=some g->Lr g=cM (psF X) (L0 g) X.length/\dQ (psF X) (bS X X.length) V X.length ev=some ((L0 g).map (Option.map pmF)):=by
 obtain ⟨b,mb,hv,H,n,M,L,hB0,hPB,hPA,hrow,hH,hTab,hOnc⟩:=h;have hlen:=oy X;have hGN:=zG X hox;have hG:cV (psF X).length (psF X):=by rw [hlen];exact hGN
 have hO:=JK X hox;have hbl:b<w.heap.size:=by
  obtain ⟨p,hp⟩:∃ p,(psF X)[0]?=some p:=⟨_,Mu zaa⟩;exact il (hPA.at' 0 p hp).c1
 have hst:=fun i p (hp:(psF X)[i]?=some p)=>GS X hox hp;have how:∀ (i:Nat) (p:PS),(psF X)[i]?=some p->p.owner = -1\/∃ o:Nat,p.owner=o/\o<i:=fun i p hp=>by
  obtain ⟨x,hx,e⟩:=hst i p hp;have:p.owner=x.owner:=congrArg St.owner e;rw [this];exact hox i x hx
 have hhp:∀ (i:Nat) (p:PS),(psF X)[i]?=some p->isH p.kind=true->∃ o:Nat,p.owner=o/\o<i:=fun i p hp hk=>by
  obtain ⟨x,hx,e⟩:=hst i p hp;have e1:p.owner=x.owner:=congrArg St.owner e;have e2:p.kind=x.kind:=congrArg St.kind e
  rcases how i p hp with h | h
  ·exact absurd (e1.symm.trans h) (hhx i x hx (by rw [<- e2];exact hk))
  ·exact h
 have hplan:fQ w w pb b X.length (psF X) (bp X X.length) (enF X AV) (lvF X AV) :=
  ⟨hPA,(Ms.1 hPB).1,hbl,by rw [My _ _ _ _ _ _ hPB];rfl,qg hX (mT X (Mt _) _ (Mt _)),how,fun i p hp j hj=>by rw [hlen];exact hO.part i p hp j hj,
   fun i p hp=>by
    obtain ⟨x,hx,e⟩:=hst i p hp;have e1:p.enter=x.ve:=congrArg St.enter e;rw [e1];unfold enF;rw [hx];exact (hea i x hx).1,
   fun i p hp=>by
    obtain ⟨x,hx,e⟩:=hst i p hp;have e1:p.leave=x.vl:=congrArg St.leave e;rw [e1];unfold lvF;rw [hx];exact (hea i x hx).2,hl⟩
 have hZ:∀ i,i<X.length->∀ m∈V i,(fun z=>∃ i mv,i<X.length/\mv∈V i/\z=eF (psF X) (bS X X.length) i mv) (eF (psF X) (bS X X.length) i m):=fun i hi m hm=>⟨i,m,hi,hm,rfl⟩;have hent:∀ ev (g i m:Nat),M ev=some g->(L g)[i]?=some (some m)->∃ row z,Cf X V ev=some row/\row[i]?=some (some z)/\eh w pb b m z/\∃ i mv,i<X.length/\mv∈V i/\z=eF (psF X) (bS X X.length) i mv:=fun ev g i m hg hm=>by
  obtain ⟨_,_,row,h3,_,h5⟩:=hTab.row ev g hg;have h6:=h5 i;rw [hm] at h6;cases hq:row[i]? with
  | none=>rw [hq] at h6;exact h6.elim
  | some y =>
   cases y with
   | none=>rw [hq] at h6;exact h6.elim
   | some z =>
    rw [hq] at h6;refine ⟨row,z,h3,hq,h6,?_⟩;cases ht:dQ (psF X) (bS X X.length) V X.length ev with
    | none=>rw [ht] at h3;cases h3
    | some row0 =>
     rw [ht] at h3;have h3:=Np h3;subst h3;obtain ⟨j,hj⟩:=k9 (psF X) X.length i hq;exact vG (Z:=fun z=>∃ i mv,i<X.length/\mv∈V i/\z=eF (psF X) (bS X X.length) i mv) hZ X.length (Mt _) ev row0 j z ht hj
 classical
 obtain ⟨pmF,hpm⟩:∃ pmF:Nat->PM,∀ m z,eh w pb b m z->pmF m=z:=⟨fun m=>if h:∃ z,eh w pb b m z then h.choose else ⟨0,0,⟨none,0,0⟩,.nil⟩,fun m z hz=>by
  have he:∃ z,eh w pb b m z:=⟨z,hz⟩;dsimp only;rw [dif_pos he];exact he.choose_spec.uniq hz⟩
 refine ⟨b,hv,H,FM X H,mb,n,M,L,pmF,fun m=>if ∃ (ev:ByteArray) (g i:Nat),M ev=some g/\(L g)[i]?=some (some m) then AV (pmF m).aw else [],⟨hplan,⟨by rw [My _ _ _ _ _ _ hPB];rfl,hrow,fun k y hy => ?_,?_⟩,⟨by rw [hlen];exact hPB,by rw [hlen];exact hTab⟩,fun ev g i m hg hm => ?_,zaa,fun a ha=>I7 _ ha⟩,hH.idx,fun k y x hy hx => ?_,fun ev => ?_,fun ev g i m hg hm => ?_,fun m a ha => ?_,?_⟩
 ·obtain ⟨x,po,a1,a2,a3⟩:=hH.ak y (MG hy);have:=(Mx.1 a1).1;refine ⟨zaa,(Mx.1 a2).1,po,a2,?_⟩;unfold FM;rw [hy];dsimp only;rw [a1];exact a3
 ·have h1:=congrArg List.length hH.idx;have h2:=rF X X.length;rw [MH] at h1;omega
 ·obtain ⟨row,z,t1,t2,t3,j,mv,hj,hmv,rfl⟩:=hent ev g i m hg hm;rw [hpm m _ t3];have hown:(eF (psF X) (bS X X.length) j mv).own=j:=zbA;have hac:(eF (psF X) (bS X X.length) j mv).aw=mv.aw:=zbA;refine ⟨t3,by rw [hown];omega,?_,?_,?_⟩
  ·unfold eF;split
   ·exact dH _
   ·split
    ·exact FQ hG _ _
    ·exact dH _
  ·rw [MB ⟨ev,g,i,hg,hm⟩,hac];exact (hma j hj mv hmv).1
  ·unfold eF;split
   ·trivial
   ·split
    ·exact D5 hG hhp _ _
    ·trivial
 ·unfold FM;rw [hy];dsimp only;rw [hx]
 ·cases hg:M ev with
  | none=>exact (hTab.nope ev hg).symm
  | some g =>
   obtain ⟨_,h2,row,h3,h4,h5⟩:=hTab.row ev g hg;rw [show Cf X V ev=some row from h3];simp only [Option.map_some,Option.some.injEq];exact (kR.rows hpm h5).symm
 ·dsimp only;rw [MB ⟨ev,g,i,hg,hm⟩]
 ·dsimp only at ha;split at ha
  ·rename_i he;obtain ⟨ev,g,i,hg,hm⟩:=he;obtain ⟨row,z,t1,t2,t3,j,mv,hj,hmv,rfl⟩:=hent ev g i m hg hm;rw [hpm m _ t3] at ha;have hac:(eF (psF X) (bS X X.length) j mv).aw=mv.aw:=zbA;rw [hac] at ha;exact (hma j hj mv hmv).2 a ha
  ·cases ha
 ·obtain ⟨L0,hL0⟩:=hOnc;refine ⟨L0,fun ev g hg => ?_⟩;obtain ⟨e1,row0,e2,e3⟩:=hL0 ev g hg;exact ⟨e1,by rw [e2,kR.rows hpm e3]⟩
