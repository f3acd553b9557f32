import Derived.Test.YtkgklodamkkpgaaGreatDoorM08
set_option maxRecDepth 100000
set_option maxHeartbeats 8000000
namespace Go.Proofs.YtkgklodamkkpgaaGreatDoor
theorem zbC {zp:Prop} (h:zp:=by unfold eG;split <;> (try split) <;> rfl):zp:=h
variable {N a b pb:Nat} {ps:List Pg.PS} {W:World} {v:Value}
section
open Go.RowKit Go.Proofs Go.Shelf
namespace Pg
structure St where
 kind:Int
 name:ByteArray
 done:ByteArray
 owner:Int
 enter:Ref.Sl
 leave:Ref.Sl
def PS.st (p:PS):St:=⟨p.kind,p.name,p.done,p.owner,p.enter,p.leave⟩
def MS.st (x:MS):St:=⟨x.kind,x.name,qG++x.name,x.owner,x.ve,x.vl⟩
theorem kr {α β:Type} (f:α->β) (l:List α) (i:Nat) (a b:α) (h:l[i]?=some a) (e:f b=f a):(l.set i b).map f=l.map f:=by
 apply Pc
 intro j;simp only [List.getElem?_map];by_cases hj:i=j
 ·subst hj;rw [Nw (MZ.1 h).1,h];simp [e]
 ·rw [NG hj]
theorem Al (ps:List PS) (i:Nat):(bK ps i).map PS.st=ps.map PS.st:=by
 unfold bK;split
 ·rfl
 ·rename_i p hp;have h1:=kr PS.st ps i p { p with wth:=kG ps i p } hp rfl;split
  ·exact h1
  ·split
   ·exact h1
   ·rename_i q hq;by_cases e:i=p.owner.toNat
    ·rw [<- e] at hq ⊢;rw [hp] at hq;cases hq
     rw [Ql];exact kr PS.st ps i p _ hp rfl
    ·exact (kr PS.st (ps.set i { p with wth:=kG ps i p }) p.owner.toNat q { q with inside:=q.inside|||(p.inside|||2 ^ i) } (by rw [NG e];exact hq) rfl).trans h1
theorem Ak (ps:List PS):∀ k,(dL ps k).map PS.st=ps.map PS.st
 | 0=>rfl
 | k+1=>by rw [dL,Al,Ak ps k]
theorem yq (X:List MS) (hox:∀ (i:Nat) (x:MS),X[i]?=some x->x.owner = -1\/∃ o:Nat,x.owner=o/\o<i):∀ k,k<=X.length->∀ (i:Nat) (p:PS) (x:MS),i<k->(bE X k)[i]?=some p->X[i]?=some x->p.st=x.st
 | 0,_,i,p,x,hi,_,_=>by omega
 | k+1,hk,i,p,x,hi,hp,hx=>by
  have ih:=yq X hox k zaa;have hl:=eh X k;obtain ⟨y,hy⟩:∃ y,X[k]?=some y:=⟨_,MU zaa⟩;rw [bE,hy] at hp;dsimp only at hp;have hset:∀ (qs:List PS) (ar:Nat),qs.length=X.length->(∀ (i:Nat) (p:PS) (x:MS),i<k->qs[i]?=some p->X[i]?=some x->p.st=x.st)->(qs.set k (EC y ar))[i]?=some p->p.st=x.st:=fun qs ar hql h1 hp=>by
   by_cases e:k=i
   ·subst e;rw [Nw zaa] at hp;rw [hy] at hx;cases hp;cases hx
    rfl
   ·rw [NG e] at hp;exact h1 i p x zaa hp hx
  unfold mC at hp;split at hp
  ·exact hset _ 0 hl ih hp
  ·rename_i hn;obtain ⟨o,ho,hoi⟩:∃ o:Nat,y.owner=o/\o<k:=by
    rcases hox k y hy with h | h
    ·rw [h] at hn;exact absurd rfl hn
    ·exact h
   have hto:y.owner.toNat=o:=by rw [ho];rfl
   rw [hto] at hp;split at hp
   ·rename_i hq;rw [MU zaa] at hq;cases hq
   ·rename_i q hq;split at hp
    ·exact hset _ _ hl ih hp
    ·refine hset _ _ (by simpa using hl) (fun a pa xa ha hpa hxa => ?_) hp;by_cases e:o=a
     ·subst e;rw [Nw zaa] at hpa;cases hpa
      exact ih o q xa ha hq hxa
     ·rw [NG e] at hpa;exact ih a pa xa ha hpa hxa
theorem oB (X:List MS):(psF X).length=X.length:=by unfold psF;rw [pP,eh]
theorem Hp (X:List MS) (hox:∀ (i:Nat) (x:MS),X[i]?=some x->x.owner = -1\/∃ o:Nat,x.owner=o/\o<i) {i:Nat} {p:PS} (hp:(psF X)[i]?=some p):∃ x,X[i]?=some x/\p.st=x.st:=by
 have hi:i<X.length:=by have:=(MZ.1 hp).1;rwa [oB] at this
 obtain ⟨x,hx⟩:∃ x,X[i]?=some x:=⟨_,MU hi⟩;refine ⟨x,hx,?_⟩;have h1:=congrArg (fun l=>l[i]?) (Ak (bE X X.length) X.length);simp only [List.getElem?_map] at h1;rw [show (dL (bE X X.length) X.length)[i]?=some p from hp] at h1;obtain ⟨q,hq⟩:∃ q,(bE X X.length)[i]?=some q:=⟨_,MU (by rw [eh];exact hi)⟩;rw [hq] at h1;have h2:p.st=q.st:=by simpa using h1
 rw [h2];exact yq X hox X.length (MR _) i q x hi hq hx
theorem re (X:List MS) (hox:∀ (i:Nat) (x:MS),X[i]?=some x->x.owner = -1\/∃ o:Nat,x.owner=o/\o<i):∀ k,k<=X.length->cW X.length (bE X k)
 | 0,_=>fun i p hp=>by
  have:p=zPS:=PC (Nc hp);subst this;exact ⟨dH _,dH _,dH _,dH _⟩
 | k+1,hk=>by
  obtain ⟨y,hy⟩:∃ y,X[k]?=some y:=⟨_,MU zaa⟩;rw [bE,hy];exact uu (re X hox k zaa) zaa y (hox k y hy)
theorem th {N:Nat} {ps:List PS} (hN:ps.length=N) (h:cW N ps):∀ k,k<=N->cW N (dL ps k)
 | 0,_=>h
 | k+1,hk=>mN (th hN h k zaa) zaa
theorem zU (X:List MS) (hox:∀ (i:Nat) (x:MS),X[i]?=some x->x.owner = -1\/∃ o:Nat,x.owner=o/\o<i):cW X.length (psF X):=th (eh _ _) (re X hox _ (MR _)) _ (MR _)
theorem uv (X:List MS) (hox:∀ (i:Nat) (x:MS),X[i]?=some x->x.owner = -1\/∃ o:Nat,x.owner=o/\o<i):∀ k,k<=X.length->Ord X k (bE X k)
 | 0,_=>⟨fun i p x hi=>zaa,fun i p hp j hj=>by
  have:p=zPS:=PC (Nc hp);subst this;have hj:j∈els 0:=hj;rw [k9] at hj;cases hj⟩
 | k+1,hk=>by
  obtain ⟨y,hy⟩:∃ y,X[k]?=some y:=⟨_,MU zaa⟩;have hl:=eh X k;rw [bE,hy];exact ym (uv X hox k zaa) zaa hy (hox k y hy)
theorem vR {X:List MS} {n:Nat} {ps:List PS} (h:Ord X n ps):∀ k,Ord X n (dL ps k)
 | 0=>h
 | k+1=>oR (vR h k)
theorem J6 (X:List MS) (hox:∀ (i:Nat) (x:MS),X[i]?=some x->x.owner = -1\/∃ o:Nat,x.owner=o/\o<i):Ord X X.length (psF X):=vR (uv X hox _ (MR _)) _
theorem Da (ps:List PS):∀ (l:List Nat) (o:Nat),tR ps o l<=o
 | [],_=>MR _
 | i::l,o=>MX (Da ps l (o&&&(4294967295-ji ps i))) OQ
theorem Jw (ps:List PS) (h:a<2 ^ N):inn ps a<2 ^ N:=NT (Da ps _ _) h
theorem DQ (h:cW N ps) (i:Nat):ji ps i<2 ^ N:=by
 unfold ji;split
 ·rename_i p hp;exact (h i p hp).2.2.1
 ·exact dH N
theorem Em (h:cW N ps) (i:Nat):jn ps i<2 ^ N:=by
 unfold jn;split
 ·rename_i p hp;exact (h i p hp).2.1
 ·exact dH N
theorem wD (h:a<2 ^ N):a&&&b<2 ^ N:=NT OQ h
theorem vE {N:Nat} {ps:List PS} (h:cW N ps) (ow:Nat):∀ (l:List Nat) (o:Nat),o<2 ^ N->l.foldl (fun o i=>o|||(fy ps i|||(ji ps i&&&jn ps ow))) o<2 ^ N
 | [],_,ho=>ho
 | i::l,_,ho=>vE h ow l _ (NV ho (NV (jW h i) (wD (DQ h i))))
theorem zW (h:cW N ps) (ow s:Nat):dO ps ow s<2 ^ N:=by
 unfold dO;split
 ·exact wD (jW h ow)
 ·exact vE h ow _ 0 (dH N)
theorem uE {N:Nat} {ps:List PS} (h:cW N ps):∀ (l:List Nat) (o:Nat),o<2 ^ N->kQ ps o l<2 ^ N
 | [],_,ho=>ho
 | k::l,o,ho=>by
  show kQ ps (if o.testBit k then o else o|||fy ps k) l<_;refine uE h l _ ?_;split
  ·exact ho
  ·exact NV ho (jW h k)
theorem uD {N:Nat} {ps:List PS} (h:cW N ps):∀ (l:List Nat) (o:Nat),o<2 ^ N->nM ps o l<2 ^ N
 | [],_,ho=>ho
 | i::l,o,ho=>by
  show nM ps (match ps[i]? with | some p=>if p.kind != 1 then o else kQ ps o (els p.parts) | none=>o) l<_;refine uD h l _ ?_;split
  ·split
   ·exact ho
   ·exact uE h _ _ ho
  ·exact ho
theorem mI (h:cW N ps) {s:Nat} (hs:s<2 ^ N):complete ps s<2 ^ N:=uD h _ _ hs
theorem Gf (h:cW ps.length ps) (i j:Nat):dom ps i j<2 ^ ps.length:=by
 unfold dom;split
 ·exact Em h _
 ·have:=dH ps.length;omega
theorem Es (h:cW ps.length ps) (hh:∀ (i:Nat) (p:PS),ps[i]?=some p->isH p.kind=true->∃ o:Nat,p.owner=o/\o<i) (i d:Nat):DB ps (ie ps i d):=by
 unfold ie;split
 ·trivial
 ·rename_i p hp;have h1:p.around&&&dom ps i d<2 ^ ps.length:=wD (h d p hp).2.2.1;split
  ·rename_i hk;obtain ⟨o,ho,hod⟩:=hh d p hp hk;have hdl:=(MZ.1 hp).1;obtain ⟨po,hpo⟩:∃ po,ps[o]?=some po:=⟨_,MU zaa⟩;exact ⟨h1,p,o,po,hp,ho,hpo,fun k _=>zW h o k,fun s hs=>mI h hs⟩
  ·exact mI h (NV h1 (h d p hp).2.2.2)
theorem iu {o:Nat} (h:W.cell? ⟨b,o,none⟩=some v):b<W.heap.size:=Np _ _ h
theorem mS {B:Nat} {t:TypeId} {u:Value} (h:Boxed W B t u) (k:Boxed W B t v):u=v:=by
 have:=h.symm.trans k;simpa using this
theorem tJ.uniq {W:World} {pb b:Nat} {e e':En} {v:Value} (h:tJ W pb b e v) (k:tJ W pb b e' v):e=e':=by
 cases e with
 | nil =>
  cases e' with
  | nil=>rfl
  | all a=>obtain ⟨c,k1,_⟩:=k;rw [show v=_ from h] at k1;simp at k1
  | hist p t=>obtain ⟨c3,c7,c6,c5,k1,_⟩:=k;rw [show v=_ from h] at k1;simp at k1
 | all a =>
  obtain ⟨c,h1,h2⟩:=h;cases e' with
  | nil=>rw [show v=_ from k] at h1;simp at h1
  | all a' =>
   obtain ⟨c',k1,k2⟩:=k;rw [h1] at k1;simp at k1;subst k1;have:=mS h2 k2;simp at this;rw [show a=a' by omega]
  | hist p t=>obtain ⟨c3,c7,c6,c5,k1,_⟩:=k;rw [h1] at k1;simp at k1
 | hist p t =>
  obtain ⟨c3,c7,c6,c5,h1,_,h7,_,h5⟩:=h;cases e' with
  | nil=>rw [show v=_ from k] at h1;simp at h1
  | all a'=>obtain ⟨c',k1,k2⟩:=k;rw [h1] at k1;simp at k1
  | hist p' t' =>
   obtain ⟨d3,d7,d6,d5,k1,_,k7,_,k5⟩:=k;rw [h1] at k1;simp at k1;obtain ⟨_,e7,_,e5⟩:=k1;subst e7 e5;have x7:=mS h7 k7;have x5:=mS h5 k5;simp at x7 x5;rw [show p=p' by omega,show t=t' by omega]
theorem ej.uniq {m:Nat} {x y:PM} (h:ej W pb b m x) (k:ej W pb b m y):x=y:=by
 obtain ⟨fv,h1,h2⟩:=h;obtain ⟨gv,k1,k2⟩:=k;rw [h1] at k1;obtain ⟨xo,xl,⟨xa,xn,xc⟩,xe⟩:=x;obtain ⟨yo,yl,⟨ya,yn,yc⟩,ye⟩:=y;simp at k1;obtain ⟨a1,a2,⟨a3,a4,a5⟩,a6⟩:=k1;subst a3 a4 a5 a6;have:=h2.uniq k2;simp at this;subst this;rw [show xo=yo by omega,show xl=yl by omega]
theorem lg (ps:List PS) {L:List (Option PM)} {z:PM}:∀ (k i:Nat),(ng ps L k)[i]?=some (some z)->∃ j:Nat,L[j]?=some (some z)
 | 0,i,h=>⟨i,h⟩
 | k+1,i,h=>by
  rw [ng] at h;unfold rQ at h;split at h
  ·split at h
   ·exact lg ps k i h
   ·rename_i p _ _ _;by_cases e:k=i
    ·subst e;by_cases hl:k<(ng ps L k).length
     ·rw [Nw hl] at h;rw [Nh] at h;cases hq:(ng ps L k)[p.owner.toNat]? with
      | none=>rw [hq] at h;simp at h
      | some y =>
       rw [hq] at h;simp at h;subst h;exact lg ps k _ hq
     ·rw [Ny zae] at h;cases h
    ·rw [NG e] at h;exact lg ps k i h
  ·exact lg ps k i h
theorem vq {ps:List PS} {F:ByteArray->Option Nat} {T:ByteArray->Option (List (Option PM))} {i:Nat} {V:List MV} {Z:PM->Prop} (hT:∀ ev row (a:Nat) z,T ev=some row->row[a]?=some (some z)->Z z) (hV:∀ m∈V,Z (eG ps F i m)):∀ (j:Nat) ev row (a:Nat) z,dT ps F T i V j ev=some row->row[a]?=some (some z)->Z z
 | 0,ev,row,a,z,h,hz=>hT ev row a z h hz
 | j+1,ev,row,a,z,h,hz=>by
  have ih:=vq hT hV j;cases hm:V[j]? with
  | none=>rw [dT,hm] at h;exact ih ev row a z h hz
  | some m =>
   rw [dT,hm] at h;dsimp only at h;unfold lD at h;split at h
   ·have hr:∀ (a:Nat) z,((dT ps F T i V j m.event).getD (List.replicate ps.length none))[a]?=some (some z)->Z z:=fun a z hz=>by
     cases hq:dT ps F T i V j m.event with
     | none =>
      rw [hq] at hz;have:=PC (Nc hz);cases this
     | some row'=>rw [hq] at hz;exact ih _ row' a z hq hz
    have h:=NO h;subst h;dsimp only at hz;split at hz
    ·by_cases e:i=a
     ·subst e;by_cases hl:i<((dT ps F T i V j m.event).getD (List.replicate ps.length none)).length
      ·rw [Nw hl] at hz;simp at hz;subst hz;exact hV m (Nc hm)
      ·rw [Ny zae] at hz;cases hz
     ·rw [NG e] at hz;exact hr a z hz
    ·exact hr a z hz
   ·exact ih ev row a z h hz
theorem vT {ps:List PS} {F:ByteArray->Option Nat} {V:Nat->List MV} {Z:PM->Prop} {N:Nat} (hV:∀ i,i<N->∀ m∈V i,Z (eG ps F i m)):∀ (k:Nat),k<=N->∀ ev row (a:Nat) z,dQ ps F V k ev=some row->row[a]?=some (some z)->Z z
 | 0,_,ev,row,a,z,h,hz=>by cases h
 | k+1,hk,ev,row,a,z,h,hz=>vq (vT hV k zaa) (hV k zaa) _ ev row a z h hz
theorem kU.rows {W:World} {pb b:Nat} {pmF:Nat->PM} (hpm:∀ m z,ej W pb b m z->pmF m=z) {L:List (Option Nat)} {row:List (Option PM)} (h5:∀ i:Nat,kU W pb b (L[i]?) (row[i]?)):row=L.map (Option.map pmF):=by
 apply Pc
 intro i;rw [Nf];have h6:=h5 i;cases hq:L[i]? with
 | none =>
  rw [hq] at h6;cases hr:row[i]? with
  | none=>rfl
  | some y=>rw [hr] at h6;cases y <;> exact h6.elim
 | some o =>
  rw [hq] at h6;cases o with
  | none =>
   cases hr:row[i]? with
   | none=>rw [hr] at h6;exact h6.elim
   | some y =>
    rw [hr] at h6;cases y with
    | none=>rfl
    | some z=>exact h6.elim
  | some m =>
   cases hr:row[i]? with
   | none=>rw [hr] at h6;exact h6.elim
   | some y =>
    rw [hr] at h6;cases y with
    | none=>exact h6.elim
    | some z =>
     simp only [Option.map_some];rw [hpm m z h6]
def Ga (X:List MS) (H:List HV) (k:Nat):Bool:=match H[k]? with | some h=>(match X[h.idx]? with | some x=>decide (x.kind=4) | none=>false) | none=>false
def Cv (X:List MS) (V:Nat->List MV) (ev:ByteArray):Option (List (Option PM)):=(dQ (psF X) (bT X X.length) V X.length ev).map fun row=>ng (psF X) row X.length
def enF (X:List MS) (AV:Ref.Sl->List PA) (i:Nat):List PA:=match X[i]? with | some x=>AV x.ve | none=>[]
def lvF (X:List MS) (AV:Ref.Sl->List PA) (i:Nat):List PA:=match X[i]? with | some x=>AV x.vl | none=>[]
theorem Ig {w0 w:World} {X:List MS} {V:Nat->List MV} (AV:Ref.Sl->List PA) (h:Fu w0 w pb X V) (hX:X.length<=24) (hX0:0<X.length) (hox:∀ (i:Nat) (x:MS),X[i]?=some x->x.owner = -1\/∃ o:Nat,x.owner=o/\o<i) (hhx:∀ (i:Nat) (x:MS),X[i]?=some x->isH x.kind=true->x.owner ≠ -1) (hl:Lw w.heap.size)
  (hea:∀ (i:Nat) (x:MS),X[i]?=some x->fA w w x.ve (AV x.ve)/\fA w w x.vl (AV x.vl)) (hma:∀ i,i<X.length->∀ m∈V i,fA w w m.aw (AV m.aw)/\∀ a∈AV m.aw,a.sz) :
  ∃ b hvs H D mbm n M Lr pmF acF,jh w w pb b X.length (psF X) (bo X X.length) (enF X AV) (lvF X AV) hvs H D mbm n (Cv X V) M Lr pmF acF/\H.map (fun h=>(h.idx,h.own))=jL X X.length/\(∀ (k:Nat) (h:HV) (x:MS),H[k]?=some h->X[h.idx]?=some x->D k=decide (x.kind=4))/\(∀ ev,(M ev).map (fun g=>(Lr g).map (Option.map pmF))=Cv X V ev)/\(∀ ev (g i m:Nat),M ev=some g->(Lr g)[i]?=some (some m)->acF m=AV (pmF m).aw)/\(∀ m,∀ a∈acF m,a.sz)/\∃ L0:Nat->List (Option Nat),∀ ev g,M ev=some g->Lr g=cQ (psF X) (L0 g) X.length/\dQ (psF X) (bT X X.length) V X.length ev=some ((L0 g).map (Option.map pmF)):=by
 obtain ⟨b,mb,hv,H,n,M,L,hB0,hPB,hPA,hrow,hH,hTab,hOnc⟩:=h;have hlen:=oB X;have hGN:=zU X hox;have hG:cW (psF X).length (psF X):=by rw [hlen];exact hGN
 have hO:=J6 X hox;have hbl:b<w.heap.size:=by
  obtain ⟨p,hp⟩:∃ p,(psF X)[0]?=some p:=⟨_,MU zaa⟩;exact iu (hPA.at' 0 p hp).c1
 have hst:=fun i p (hp:(psF X)[i]?=some p)=>Hp X hox hp;have how:∀ (i:Nat) (p:PS),(psF X)[i]?=some p->p.owner = -1\/∃ o:Nat,p.owner=o/\o<i:=fun i p hp=>by
  obtain ⟨x,hx,e⟩:=hst i p hp;have:p.owner=x.owner:=congrArg St.owner e;rw [this];exact hox i x hx
 have hhp:∀ (i:Nat) (p:PS),(psF X)[i]?=some p->isH p.kind=true->∃ o:Nat,p.owner=o/\o<i:=fun i p hp hk=>by
  obtain ⟨x,hx,e⟩:=hst i p hp;have e1:p.owner=x.owner:=congrArg St.owner e;have e2:p.kind=x.kind:=congrArg St.kind e
  rcases how i p hp with h | h
  ·exact absurd (e1.symm.trans h) (hhx i x hx (by rw [<- e2];exact hk))
  ·exact h
 have hplan:fT w w pb b X.length (psF X) (bo X X.length) (enF X AV) (lvF X AV) :=
  ⟨hPA,(MQ.1 hPB).1,hbl,by rw [M0 _ _ _ _ _ _ hPB];rfl,qu hX (mW X (MR _) _ (MR _)),how,fun i p hp j hj=>by rw [hlen];exact hO.part i p hp j hj,
   fun i p hp=>by
    obtain ⟨x,hx,e⟩:=hst i p hp;have e1:p.enter=x.ve:=congrArg St.enter e;rw [e1];unfold enF;rw [hx];exact (hea i x hx).1,
   fun i p hp=>by
    obtain ⟨x,hx,e⟩:=hst i p hp;have e1:p.leave=x.vl:=congrArg St.leave e;rw [e1];unfold lvF;rw [hx];exact (hea i x hx).2,hl⟩
 have hZ:∀ i,i<X.length->∀ m∈V i,(fun z=>∃ i mv,i<X.length/\mv∈V i/\z=eG (psF X) (bT X X.length) i mv) (eG (psF X) (bT X X.length) i m):=fun i hi m hm=>⟨i,m,hi,hm,rfl⟩;have hent:∀ ev (g i m:Nat),M ev=some g->(L g)[i]?=some (some m)->∃ row z,Cv X V ev=some row/\row[i]?=some (some z)/\ej w pb b m z/\∃ i mv,i<X.length/\mv∈V i/\z=eG (psF X) (bT X X.length) i mv:=fun ev g i m hg hm=>by
  obtain ⟨_,_,row,h3,_,h5⟩:=hTab.row ev g hg;have h6:=h5 i;rw [hm] at h6;cases hq:row[i]? with
  | none=>rw [hq] at h6;exact h6.elim
  | some y =>
   cases y with
   | none=>rw [hq] at h6;exact h6.elim
   | some z =>
    rw [hq] at h6;refine ⟨row,z,h3,hq,h6,?_⟩;cases ht:dQ (psF X) (bT X X.length) V X.length ev with
    | none=>rw [ht] at h3;cases h3
    | some row0 =>
     rw [ht] at h3;have h3:=NO h3;subst h3;obtain ⟨j,hj⟩:=lg (psF X) X.length i hq;exact vT (Z:=fun z=>∃ i mv,i<X.length/\mv∈V i/\z=eG (psF X) (bT X X.length) i mv) hZ X.length (MR _) ev row0 j z ht hj
 classical
 obtain ⟨pmF,hpm⟩:∃ pmF:Nat->PM,∀ m z,ej w pb b m z->pmF m=z:=⟨fun m=>if h:∃ z,ej w pb b m z then h.choose else ⟨0,0,⟨none,0,0⟩,.nil⟩,fun m z hz=>by
  have he:∃ z,ej w pb b m z:=⟨z,hz⟩;dsimp only;rw [dif_pos he];exact he.choose_spec.uniq hz⟩
 refine ⟨b,hv,H,Ga X H,mb,n,M,L,pmF,fun m=>if ∃ (ev:ByteArray) (g i:Nat),M ev=some g/\(L g)[i]?=some (some m) then AV (pmF m).aw else [],⟨hplan,⟨by rw [M0 _ _ _ _ _ _ hPB];rfl,hrow,fun k y hy => ?_,?_⟩,⟨by rw [hlen];exact hPB,by rw [hlen];exact hTab⟩,fun ev g i m hg hm => ?_,zaa,fun a ha=>Jw _ ha⟩,hH.idx,fun k y x hy hx => ?_,fun ev => ?_,fun ev g i m hg hm => ?_,fun m a ha => ?_,?_⟩
 ·obtain ⟨x,po,a1,a2,a3⟩:=hH.ao y (Nc hy);have:=(MZ.1 a1).1;refine ⟨zaa,(MZ.1 a2).1,po,a2,?_⟩;unfold Ga;rw [hy];dsimp only;rw [a1];exact a3
 ·have h1:=congrArg List.length hH.idx;have h2:=rO X X.length;rw [Ng] at h1;omega
 ·obtain ⟨row,z,t1,t2,t3,j,mv,hj,hmv,rfl⟩:=hent ev g i m hg hm;rw [hpm m _ t3];have hown:(eG (psF X) (bT X X.length) j mv).own=j:=zbC;have hac:(eG (psF X) (bT X X.length) j mv).aw=mv.aw:=zbC;refine ⟨t3,by rw [hown];omega,?_,?_,?_⟩
  ·unfold eG;split
   ·exact dH _
   ·split
    ·exact Gf hG _ _
    ·exact dH _
  ·rw [M6 ⟨ev,g,i,hg,hm⟩,hac];exact (hma j hj mv hmv).1
  ·unfold eG;split
   ·trivial
   ·split
    ·exact Es hG hhp _ _
    ·trivial
 ·unfold Ga;rw [hy];dsimp only;rw [hx]
 ·cases hg:M ev with
  | none=>exact (hTab.nope ev hg).symm
  | some g =>
   obtain ⟨_,h2,row,h3,h4,h5⟩:=hTab.row ev g hg;rw [show Cv X V ev=some row from h3];simp only [Option.map_some,Option.some.injEq];exact (kU.rows hpm h5).symm
 ·dsimp only;rw [M6 ⟨ev,g,i,hg,hm⟩]
 ·dsimp only at ha;split at ha
  ·rename_i he;obtain ⟨ev,g,i,hg,hm⟩:=he;obtain ⟨row,z,t1,t2,t3,j,mv,hj,hmv,rfl⟩:=hent ev g i m hg hm;rw [hpm m _ t3] at ha;have hac:(eG (psF X) (bT X X.length) j mv).aw=mv.aw:=zbC;rw [hac] at ha;exact (hma j hj mv hmv).2 a ha
  ·cases ha
 ·obtain ⟨L0,hL0⟩:=hOnc;refine ⟨L0,fun ev g hg => ?_⟩;obtain ⟨e1,row0,e2,e3⟩:=hL0 ev g hg;exact ⟨e1,by rw [e2,kU.rows hpm e3]⟩
