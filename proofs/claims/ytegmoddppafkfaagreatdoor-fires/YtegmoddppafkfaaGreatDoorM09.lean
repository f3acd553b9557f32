import Derived.Test.YtegmoddppafkfaaGreatDoorM08
set_option maxRecDepth 100000
set_option maxHeartbeats 8000000
namespace Go.Proofs.YtegmoddppafkfaaGreatDoor
theorem zbw {zp:Prop} (h:zp:=by unfold jB;split <;> (try split) <;> rfl):zp:=h
variable {N a b pb:Nat} {ps:List Pg.PS} {W:World} {v:Value}
section
open Go.RowKit Go.Proofs Go.Shelf
namespace Pg
structure St where
 kind:Int
 name:ByteArray
 done:ByteArray
 owner:Int
 enter:Ref.Sl
 leave:Ref.Sl
def PS.st (p:PS):St:=⟨p.kind,p.name,p.done,p.owner,p.enter,p.leave⟩
def MS.st (x:MS):St:=⟨x.kind,x.name,p8++x.name,x.owner,x.ve,x.vl⟩
theorem j0 {α β:Type} (f:α->β) (l:List α) (i:Nat) (a b:α) (h:l[i]?=some a) (e:f b=f a):(l.set i b).map f=l.map f:=by
 apply Np
 intro j;simp only [List.getElem?_map];by_cases hj:i=j
 ·subst hj;rw [LF (Lc.1 h).1,h];simp [e]
 ·rw [LO hj]
theorem zk (ps:List PS) (i:Nat):(bK ps i).map PS.st=ps.map PS.st:=by
 unfold bK;split
 ·rfl
 ·rename_i p hp;have h1:=j0 PS.st ps i p { p with wth:=l8 ps i p } hp rfl;split
  ·exact h1
  ·split
   ·exact h1
   ·rename_i q hq;by_cases e:i=p.owner.toNat
    ·rw [<- e] at hq ⊢;rw [hp] at hq;cases hq
     rw [Oi];exact j0 PS.st ps i p _ hp rfl
    ·exact (j0 PS.st (ps.set i { p with wth:=l8 ps i p }) p.owner.toNat q { q with inside:=q.inside|||(p.inside|||2 ^ i) } (by rw [LO e];exact hq) rfl).trans h1
theorem zj (ps:List PS):∀ k,(eC ps k).map PS.st=ps.map PS.st
 | 0=>rfl
 | k+1=>by rw [eC,zk,zj ps k]
theorem xk (X:List MS) (hox:∀ (i:Nat) (x:MS),X[i]?=some x->x.owner = -1\/∃ o:Nat,x.owner=o/\o<i):∀ k,k<=X.length->∀ (i:Nat) (p:PS) (x:MS),i<k->(bC X k)[i]?=some p->X[i]?=some x->p.st=x.st
 | 0,_,i,p,x,hi,_,_=>by omega
 | k+1,hk,i,p,x,hi,hp,hx=>by
  have ih:=xk X hox k zaa;have hl:=dU X k;obtain ⟨y,hy⟩:∃ y,X[k]?=some y:=⟨_,K8 zaa⟩;rw [bC,hy] at hp;dsimp only at hp;have hset:∀ (qs:List PS) (ar:Nat),qs.length=X.length->(∀ (i:Nat) (p:PS) (x:MS),i<k->qs[i]?=some p->X[i]?=some x->p.st=x.st)->(qs.set k (Dw y ar))[i]?=some p->p.st=x.st:=fun qs ar hql h1 hp=>by
   by_cases e:k=i
   ·subst e;rw [LF zaa] at hp;rw [hy] at hx;cases hp;cases hx
    rfl
   ·rw [LO e] at hp;exact h1 i p x zaa hp hx
  unfold l6 at hp;split at hp
  ·exact hset _ 0 hl ih hp
  ·rename_i hn;obtain ⟨o,ho,hoi⟩:∃ o:Nat,y.owner=o/\o<k:=by
    rcases hox k y hy with h | h
    ·rw [h] at hn;exact absurd rfl hn
    ·exact h
   have hto:y.owner.toNat=o:=by rw [ho];rfl
   rw [hto] at hp;split at hp
   ·rename_i hq;rw [K8 zaa] at hq;cases hq
   ·rename_i q hq;split at hp
    ·exact hset _ _ hl ih hp
    ·refine hset _ _ (by simpa using hl) (fun a pa xa ha hpa hxa => ?_) hp;by_cases e:o=a
     ·subst e;rw [LF zaa] at hpa;cases hpa
      exact ih o q xa ha hq hxa
     ·rw [LO e] at hpa;exact ih a pa xa ha hpa hxa
theorem qg (X:List MS):(psF X).length=X.length:=by unfold psF;rw [o9,dU]
theorem FU (X:List MS) (hox:∀ (i:Nat) (x:MS),X[i]?=some x->x.owner = -1\/∃ o:Nat,x.owner=o/\o<i) {i:Nat} {p:PS} (hp:(psF X)[i]?=some p):∃ x,X[i]?=some x/\p.st=x.st:=by
 have hi:i<X.length:=by have:=(Lc.1 hp).1;rwa [qg] at this
 obtain ⟨x,hx⟩:∃ x,X[i]?=some x:=⟨_,K8 hi⟩;refine ⟨x,hx,?_⟩;have h1:=congrArg (fun l=>l[i]?) (zj (bC X X.length) X.length);simp only [List.getElem?_map] at h1;rw [show (eC (bC X X.length) X.length)[i]?=some p from hp] at h1;obtain ⟨q,hq⟩:∃ q,(bC X X.length)[i]?=some q:=⟨_,K8 (by rw [dU];exact hi)⟩;rw [hq] at h1;have h2:p.st=q.st:=by simpa using h1
 rw [h2];exact xk X hox X.length (K7 _) i q x hi hq hx
theorem qA (X:List MS) (hox:∀ (i:Nat) (x:MS),X[i]?=some x->x.owner = -1\/∃ o:Nat,x.owner=o/\o<i):∀ k,k<=X.length->cQ X.length (bC X k)
 | 0,_=>fun i p hp=>by
  have:p=zPS:=NL (Lj hp);subst this;exact ⟨dC _,dC _,dC _,dC _⟩
 | k+1,hk=>by
  obtain ⟨y,hy⟩:∃ y,X[k]?=some y:=⟨_,K8 zaa⟩;rw [bC,hy];exact tB (qA X hox k zaa) zaa y (hox k y hy)
theorem sB {N:Nat} {ps:List PS} (hN:ps.length=N) (h:cQ N ps):∀ k,k<=N->cQ N (eC ps k)
 | 0,_=>h
 | k+1,hk=>mu (sB hN h k zaa) zaa
theorem yP (X:List MS) (hox:∀ (i:Nat) (x:MS),X[i]?=some x->x.owner = -1\/∃ o:Nat,x.owner=o/\o<i):cQ X.length (psF X):=sB (dU _ _) (qA X hox _ (K7 _)) _ (K7 _)
theorem tC (X:List MS) (hox:∀ (i:Nat) (x:MS),X[i]?=some x->x.owner = -1\/∃ o:Nat,x.owner=o/\o<i):∀ k,k<=X.length->Ord X k (bC X k)
 | 0,_=>⟨fun i p x hi=>zaa,fun i p hp j hj=>by
  have:p=zPS:=NL (Lj hp);subst this;have hj:j∈els 0:=hj;rw [kL] at hj;cases hj⟩
 | k+1,hk=>by
  obtain ⟨y,hy⟩:∃ y,X[k]?=some y:=⟨_,K8 zaa⟩;have hl:=dU X k;rw [bC,hy];exact xi (tC X hox k zaa) zaa hy (hox k y hy)
theorem uG {X:List MS} {n:Nat} {ps:List PS} (h:Ord X n ps):∀ k,Ord X n (eC ps k)
 | 0=>h
 | k+1=>ox (uG h k)
theorem IK (X:List MS) (hox:∀ (i:Nat) (x:MS),X[i]?=some x->x.owner = -1\/∃ o:Nat,x.owner=o/\o<i):Ord X X.length (psF X):=uG (tC X hox _ (K7 _)) _
theorem Cc (ps:List PS):∀ (l:List Nat) (o:Nat),vP ps o l<=o
 | [],_=>K7 _
 | i::l,o=>La (Cc ps l (o&&&(4294967295-kx ps i))) MY
theorem Hy (ps:List PS) (h:a<2 ^ N):inn ps a<2 ^ N:=LZ (Cc ps _ _) h
theorem CN (h:cQ N ps) (i:Nat):kx ps i<2 ^ N:=by
 unfold kx;split
 ·rename_i p hp;exact (h i p hp).2.2.1
 ·exact dC N
theorem Dh (h:cQ N ps) (i:Nat):kz ps i<2 ^ N:=by
 unfold kz;split
 ·rename_i p hp;exact (h i p hp).2.1
 ·exact dC N
theorem vw (h:a<2 ^ N):a&&&b<2 ^ N:=LZ MY h
theorem ur {N:Nat} {ps:List PS} (h:cQ N ps) (ow:Nat):∀ (l:List Nat) (o:Nat),o<2 ^ N->l.foldl (fun o i=>o|||(gj ps i|||(kx ps i&&&kz ps ow))) o<2 ^ N
 | [],_,ho=>ho
 | i::l,_,ho=>ur h ow l _ (L6 ho (L6 (jI h i) (vw (CN h i))))
theorem yQ (h:cQ N ps) (ow s:Nat):eu ps ow s<2 ^ N:=by
 unfold eu;split
 ·exact vw (jI h ow)
 ·exact ur h ow _ 0 (dC N)
theorem tL {N:Nat} {ps:List PS} (h:cQ N ps):∀ (l:List Nat) (o:Nat),o<2 ^ N->mC ps o l<2 ^ N
 | [],_,ho=>ho
 | k::l,o,ho=>by
  show mC ps (if o.testBit k then o else o|||gj ps k) l<_;refine tL h l _ ?_;split
  ·exact ho
  ·exact L6 ho (jI h k)
theorem tK {N:Nat} {ps:List PS} (h:cQ N ps):∀ (l:List Nat) (o:Nat),o<2 ^ N->oJ ps o l<2 ^ N
 | [],_,ho=>ho
 | i::l,o,ho=>by
  show oJ ps (match ps[i]? with | some p=>if p.kind != 1 then o else mC ps o (els p.parts) | none=>o) l<_;refine tK h l _ ?_;split
  ·split
   ·exact ho
   ·exact tL h _ _ ho
  ·exact ho
theorem mi (h:cQ N ps) {s:Nat} (hs:s<2 ^ N):complete ps s<2 ^ N:=tK h _ _ hs
theorem EZ (h:cQ ps.length ps) (i j:Nat):dom ps i j<2 ^ ps.length:=by
 unfold dom;split
 ·exact Dh h _
 ·have:=dC ps.length;omega
theorem Dk (h:cQ ps.length ps) (hh:∀ (i:Nat) (p:PS),ps[i]?=some p->isH p.kind=true->∃ o:Nat,p.owner=o/\o<i) (i d:Nat):Cz ps (jW ps i d):=by
 unfold jW;split
 ·trivial
 ·rename_i p hp;have h1:p.around&&&dom ps i d<2 ^ ps.length:=vw (h d p hp).2.2.1;split
  ·rename_i hk;obtain ⟨o,ho,hod⟩:=hh d p hp hk;have hdl:=(Lc.1 hp).1;obtain ⟨po,hpo⟩:∃ po,ps[o]?=some po:=⟨_,K8 zaa⟩;exact ⟨h1,p,o,po,hp,ho,hpo,fun k _=>yQ h o k,fun s hs=>mi h hs⟩
  ·exact mi h (L6 h1 (h d p hp).2.2.2)
theorem gU {o:Nat} (h:W.cell? ⟨b,o,none⟩=some v):b<W.heap.size:=LC _ _ h
theorem mA {B:Nat} {t:TypeId} {u:Value} (h:Boxed W B t u) (k:Boxed W B t v):u=v:=by
 have:=h.symm.trans k;simpa using this
theorem sN.uniq {W:World} {pb b:Nat} {e e':En} {v:Value} (h:sN W pb b e v) (k:sN W pb b e' v):e=e':=by
 cases e with
 | nil =>
  cases e' with
  | nil=>rfl
  | all a=>obtain ⟨c,k1,_⟩:=k;rw [show v=_ from h] at k1;simp at k1
  | hist p t=>obtain ⟨c3,c7,c6,c5,k1,_⟩:=k;rw [show v=_ from h] at k1;simp at k1
 | all a =>
  obtain ⟨c,h1,h2⟩:=h;cases e' with
  | nil=>rw [show v=_ from k] at h1;simp at h1
  | all a' =>
   obtain ⟨c',k1,k2⟩:=k;rw [h1] at k1;simp at k1;subst k1;have:=mA h2 k2;simp at this;rw [show a=a' by omega]
  | hist p t=>obtain ⟨c3,c7,c6,c5,k1,_⟩:=k;rw [h1] at k1;simp at k1
 | hist p t =>
  obtain ⟨c3,c7,c6,c5,h1,_,h7,_,h5⟩:=h;cases e' with
  | nil=>rw [show v=_ from k] at h1;simp at h1
  | all a'=>obtain ⟨c',k1,k2⟩:=k;rw [h1] at k1;simp at k1
  | hist p' t' =>
   obtain ⟨d3,d7,d6,d5,k1,_,k7,_,k5⟩:=k;rw [h1] at k1;simp at k1;obtain ⟨_,e7,_,e5⟩:=k1;subst e7 e5;have x7:=mA h7 k7;have x5:=mA h5 k5;simp at x7 x5;rw [show p=p' by omega,show t=t' by omega]
theorem dV.uniq {m:Nat} {x y:PM} (h:dV W pb b m x) (k:dV W pb b m y):x=y:=by
 obtain ⟨fv,h1,h2⟩:=h;obtain ⟨gv,k1,k2⟩:=k;rw [h1] at k1;obtain ⟨xo,xl,⟨xa,xn,xc⟩,xe⟩:=x;obtain ⟨yo,yl,⟨ya,yn,yc⟩,ye⟩:=y;simp at k1;obtain ⟨a1,a2,⟨a3,a4,a5⟩,a6⟩:=k1;subst a3 a4 a5 a6;have:=h2.uniq k2;simp at this;subst this;rw [show xo=yo by omega,show xl=yl by omega]
theorem kN (ps:List PS) {L:List (Option PM)} {z:PM}:∀ (k i:Nat),(mG ps L k)[i]?=some (some z)->∃ j:Nat,L[j]?=some (some z)
 | 0,i,h=>⟨i,h⟩
 | k+1,i,h=>by
  rw [mG] at h;unfold qW at h;split at h
  ·split at h
   ·exact kN ps k i h
   ·rename_i p _ _ _;by_cases e:k=i
    ·subst e;by_cases hl:k<(mG ps L k).length
     ·rw [LF hl] at h;rw [Lm] at h;cases hq:(mG ps L k)[p.owner.toNat]? with
      | none=>rw [hq] at h;simp at h
      | some y =>
       rw [hq] at h;simp at h;subst h;exact kN ps k _ hq
     ·rw [LR zaf] at h;cases h
    ·rw [LO e] at h;exact kN ps k i h
  ·exact kN ps k i h
theorem ui {ps:List PS} {F:ByteArray->Option Nat} {T:ByteArray->Option (List (Option PM))} {i:Nat} {V:List MV} {Z:PM->Prop} (hT:∀ ev row (a:Nat) z,T ev=some row->row[a]?=some (some z)->Z z) (hV:∀ m∈V,Z (jB ps F i m)):∀ (j:Nat) ev row (a:Nat) z,eJ ps F T i V j ev=some row->row[a]?=some (some z)->Z z
 | 0,ev,row,a,z,h,hz=>hT ev row a z h hz
 | j+1,ev,row,a,z,h,hz=>by
  have ih:=ui hT hV j;cases hm:V[j]? with
  | none=>rw [eJ,hm] at h;exact ih ev row a z h hz
  | some m =>
   rw [eJ,hm] at h;dsimp only at h;unfold wi at h;split at h
   ·have hr:∀ (a:Nat) z,((eJ ps F T i V j m.event).getD (List.replicate ps.length none))[a]?=some (some z)->Z z:=fun a z hz=>by
     cases hq:eJ ps F T i V j m.event with
     | none =>
      rw [hq] at hz;have:=NL (Lj hz);cases this
     | some row'=>rw [hq] at hz;exact ih _ row' a z hq hz
    have h:=Md h;subst h;dsimp only at hz;split at hz
    ·by_cases e:i=a
     ·subst e;by_cases hl:i<((eJ ps F T i V j m.event).getD (List.replicate ps.length none)).length
      ·rw [LF hl] at hz;simp at hz;subst hz;exact hV m (Lj hm)
      ·rw [LR zaf] at hz;cases hz
     ·rw [LO e] at hz;exact hr a z hz
    ·exact hr a z hz
   ·exact ih ev row a z h hz
theorem uH {ps:List PS} {F:ByteArray->Option Nat} {V:Nat->List MV} {Z:PM->Prop} {N:Nat} (hV:∀ i,i<N->∀ m∈V i,Z (jB ps F i m)):∀ (k:Nat),k<=N->∀ ev row (a:Nat) z,eV ps F V k ev=some row->row[a]?=some (some z)->Z z
 | 0,_,ev,row,a,z,h,hz=>by cases h
 | k+1,hk,ev,row,a,z,h,hz=>ui (uH hV k zaa) (hV k zaa) _ ev row a z h hz
theorem kD.rows {W:World} {pb b:Nat} {pmF:Nat->PM} (hpm:∀ m z,dV W pb b m z->pmF m=z) {L:List (Option Nat)} {row:List (Option PM)} (h5:∀ i:Nat,kD W pb b (L[i]?) (row[i]?)):row=L.map (Option.map pmF):=by
 apply Np
 intro i;rw [Lv];have h6:=h5 i;cases hq:L[i]? with
 | none =>
  rw [hq] at h6;cases hr:row[i]? with
  | none=>rfl
  | some y=>rw [hr] at h6;cases y <;> exact h6.elim
 | some o =>
  rw [hq] at h6;cases o with
  | none =>
   cases hr:row[i]? with
   | none=>rw [hr] at h6;exact h6.elim
   | some y =>
    rw [hr] at h6;cases y with
    | none=>rfl
    | some z=>exact h6.elim
  | some m =>
   cases hr:row[i]? with
   | none=>rw [hr] at h6;exact h6.elim
   | some y =>
    rw [hr] at h6;cases y with
    | none=>exact h6.elim
    | some z =>
     simp only [Option.map_some];rw [hpm m z h6]
def EV (X:List MS) (H:List HV) (k:Nat):Bool:=match H[k]? with | some h=>(match X[h.idx]? with | some x=>decide (x.kind=4) | none=>false) | none=>false
def D4 (X:List MS) (V:Nat->List MV) (ev:ByteArray):Option (List (Option PM)):=(eV (psF X) (dw X X.length) V X.length ev).map fun row=>mG (psF X) row X.length
def enF (X:List MS) (AV:Ref.Sl->List PA) (i:Nat):List PA:=match X[i]? with | some x=>AV x.ve | none=>[]
def lvF (X:List MS) (AV:Ref.Sl->List PA) (i:Nat):List PA:=match X[i]? with | some x=>AV x.vl | none=>[]
theorem Gb {w0 w:World} {X:List MS} {V:Nat->List MV} (AV:Ref.Sl->List PA) (h:Ej w0 w pb X V) (hX:X.length<=24) (hX0:0<X.length) (hox:∀ (i:Nat) (x:MS),X[i]?=some x->x.owner = -1\/∃ o:Nat,x.owner=o/\o<i) (hhx:∀ (i:Nat) (x:MS),X[i]?=some x->isH x.kind=true->x.owner ≠ -1) (hl:Lw w.heap.size)
  (hea:∀ (i:Nat) (x:MS),X[i]?=some x->fT w w x.ve (AV x.ve)/\fT w w x.vl (AV x.vl)) (hma:∀ i,i<X.length->∀ m∈V i,fT w w m.ax (AV m.ax)/\∀ a∈AV m.ax,a.sz) :
  ∃ b hvs H D mbm n M Lr pmF acF,mZ w w pb b X.length (psF X) (bL X X.length) (enF X AV) (lvF X AV) hvs H D mbm n (D4 X V) M Lr pmF acF/\H.map (fun h=>(h.idx,h.own))=qS X X.length/\(∀ (k:Nat) (h:HV) (x:MS),H[k]?=some h->X[h.idx]?=some x->D k=decide (x.kind=4))/\(∀ ev,(M ev).map (fun g=>(Lr g).map (Option.map pmF))=D4 X V ev)/\(∀ ev (g i m:Nat),M ev=some g->(Lr g)[i]?=some (some m)->acF m=AV (pmF m).ax)/\(∀ m,∀ a∈acF m,a.sz)/\∃ L0:Nat->List (Option Nat),∀ ev g,M ev=some g->Lr g=eo (psF X) (L0 g) X.length/\eV (psF X) (dw X X.length) V X.length ev=some ((L0 g).map (Option.map pmF)):=by
 obtain ⟨b,mb,hv,H,n,M,L,hB0,hPB,hPA,hrow,hH,hTab,hOnc⟩:=h;have hlen:=qg X;have hGN:=yP X hox;have hG:cQ (psF X).length (psF X):=by rw [hlen];exact hGN
 have hO:=IK X hox;have hbl:b<w.heap.size:=by
  obtain ⟨p,hp⟩:∃ p,(psF X)[0]?=some p:=⟨_,K8 zaa⟩;exact gU (hPA.at' 0 p hp).c1
 have hst:=fun i p (hp:(psF X)[i]?=some p)=>FU X hox hp;have how:∀ (i:Nat) (p:PS),(psF X)[i]?=some p->p.owner = -1\/∃ o:Nat,p.owner=o/\o<i:=fun i p hp=>by
  obtain ⟨x,hx,e⟩:=hst i p hp;have:p.owner=x.owner:=congrArg St.owner e;rw [this];exact hox i x hx
 have hhp:∀ (i:Nat) (p:PS),(psF X)[i]?=some p->isH p.kind=true->∃ o:Nat,p.owner=o/\o<i:=fun i p hp hk=>by
  obtain ⟨x,hx,e⟩:=hst i p hp;have e1:p.owner=x.owner:=congrArg St.owner e;have e2:p.kind=x.kind:=congrArg St.kind e
  rcases how i p hp with h | h
  ·exact absurd (e1.symm.trans h) (hhx i x hx (by rw [<- e2];exact hk))
  ·exact h
 have hplan:fC w w pb b X.length (psF X) (bL X X.length) (enF X AV) (lvF X AV) :=
  ⟨hPA,(K6.1 hPB).1,hbl,by rw [Lb _ _ _ _ _ _ hPB];rfl,pT hX (mE X (K7 _) _ (K7 _)),how,fun i p hp j hj=>by rw [hlen];exact hO.part i p hp j hj,
   fun i p hp=>by
    obtain ⟨x,hx,e⟩:=hst i p hp;have e1:p.enter=x.ve:=congrArg St.enter e;rw [e1];unfold enF;rw [hx];exact (hea i x hx).1,
   fun i p hp=>by
    obtain ⟨x,hx,e⟩:=hst i p hp;have e1:p.leave=x.vl:=congrArg St.leave e;rw [e1];unfold lvF;rw [hx];exact (hea i x hx).2,hl⟩
 have hZ:∀ i,i<X.length->∀ m∈V i,(fun z=>∃ i mv,i<X.length/\mv∈V i/\z=jB (psF X) (dw X X.length) i mv) (jB (psF X) (dw X X.length) i m):=fun i hi m hm=>⟨i,m,hi,hm,rfl⟩;have hent:∀ ev (g i m:Nat),M ev=some g->(L g)[i]?=some (some m)->∃ row z,D4 X V ev=some row/\row[i]?=some (some z)/\dV w pb b m z/\∃ i mv,i<X.length/\mv∈V i/\z=jB (psF X) (dw X X.length) i mv:=fun ev g i m hg hm=>by
  obtain ⟨_,_,row,h3,_,h5⟩:=hTab.row ev g hg;have h6:=h5 i;rw [hm] at h6;cases hq:row[i]? with
  | none=>rw [hq] at h6;exact h6.elim
  | some y =>
   cases y with
   | none=>rw [hq] at h6;exact h6.elim
   | some z =>
    rw [hq] at h6;refine ⟨row,z,h3,hq,h6,?_⟩;cases ht:eV (psF X) (dw X X.length) V X.length ev with
    | none=>rw [ht] at h3;cases h3
    | some row0 =>
     rw [ht] at h3;have h3:=Md h3;subst h3;obtain ⟨j,hj⟩:=kN (psF X) X.length i hq;exact uH (Z:=fun z=>∃ i mv,i<X.length/\mv∈V i/\z=jB (psF X) (dw X X.length) i mv) hZ X.length (K7 _) ev row0 j z ht hj
 classical
 obtain ⟨pmF,hpm⟩:∃ pmF:Nat->PM,∀ m z,dV w pb b m z->pmF m=z:=⟨fun m=>if h:∃ z,dV w pb b m z then h.choose else ⟨0,0,⟨none,0,0⟩,.nil⟩,fun m z hz=>by
  have he:∃ z,dV w pb b m z:=⟨z,hz⟩;dsimp only;rw [dif_pos he];exact he.choose_spec.uniq hz⟩
 refine ⟨b,hv,H,EV X H,mb,n,M,L,pmF,fun m=>if ∃ (ev:ByteArray) (g i:Nat),M ev=some g/\(L g)[i]?=some (some m) then AV (pmF m).ax else [],⟨hplan,⟨by rw [Lb _ _ _ _ _ _ hPB];rfl,hrow,fun k y hy => ?_,?_⟩,⟨by rw [hlen];exact hPB,by rw [hlen];exact hTab⟩,fun ev g i m hg hm => ?_,zaa,fun a ha=>Hy _ ha⟩,hH.idx,fun k y x hy hx => ?_,fun ev => ?_,fun ev g i m hg hm => ?_,fun m a ha => ?_,?_⟩
 ·obtain ⟨x,po,a1,a2,a3⟩:=hH.aq y (Lj hy);have:=(Lc.1 a1).1;refine ⟨zaa,(Lc.1 a2).1,po,a2,?_⟩;unfold EV;rw [hy];dsimp only;rw [a1];exact a3
 ·have h1:=congrArg List.length hH.idx;have h2:=qT X X.length;rw [Lt] at h1;omega
 ·obtain ⟨row,z,t1,t2,t3,j,mv,hj,hmv,rfl⟩:=hent ev g i m hg hm;rw [hpm m _ t3];have hown:(jB (psF X) (dw X X.length) j mv).own=j:=zbw;have hac:(jB (psF X) (dw X X.length) j mv).ax=mv.ax:=zbw;refine ⟨t3,by rw [hown];omega,?_,?_,?_⟩
  ·unfold jB;split
   ·exact dC _
   ·split
    ·exact EZ hG _ _
    ·exact dC _
  ·rw [Lg ⟨ev,g,i,hg,hm⟩,hac];exact (hma j hj mv hmv).1
  ·unfold jB;split
   ·trivial
   ·split
    ·exact Dk hG hhp _ _
    ·trivial
 ·unfold EV;rw [hy];dsimp only;rw [hx]
 ·cases hg:M ev with
  | none=>exact (hTab.nope ev hg).symm
  | some g =>
   obtain ⟨_,h2,row,h3,h4,h5⟩:=hTab.row ev g hg;rw [show D4 X V ev=some row from h3];simp only [Option.map_some,Option.some.injEq];exact (kD.rows hpm h5).symm
 ·dsimp only;rw [Lg ⟨ev,g,i,hg,hm⟩]
 ·dsimp only at ha;split at ha
  ·rename_i he;obtain ⟨ev,g,i,hg,hm⟩:=he;obtain ⟨row,z,t1,t2,t3,j,mv,hj,hmv,rfl⟩:=hent ev g i m hg hm;rw [hpm m _ t3] at ha;have hac:(jB (psF X) (dw X X.length) j mv).ax=mv.ax:=zbw;rw [hac] at ha;exact (hma j hj mv hmv).2 a ha
  ·cases ha
 ·obtain ⟨L0,hL0⟩:=hOnc;refine ⟨L0,fun ev g hg => ?_⟩;obtain ⟨e1,row0,e2,e3⟩:=hL0 ev g hg;exact ⟨e1,by rw [e2,kD.rows hpm e3]⟩
