import Derived.Test.YtibbecdlllchkaaGreatDoorM08
set_option maxRecDepth 100000
set_option maxHeartbeats 8000000
namespace Go.Proofs.YtibbecdlllchkaaGreatDoor
theorem zbG{zp:Prop}(h:zp:=by unfold eQ;split<;>(try split)<;>rfl):zp:=h
variable {N a b pb:Nat}{ps:List Y.PS}{W:World}{v:Value}
section
open Go.RowKit Go.Proofs Go.Shelf
namespace Y
structure St where
 kind:Int
 name:()
 done:()
 owner:Int
 enter:U.Sl
 leave:U.Sl
def PS.st(p:PS):St:=⟨p.kind,p.name,p.done,p.owner,p.enter,p.leave⟩
def MS.st(x:MS):St:=⟨x.kind,x.name,rR++x.name,x.owner,x.ve,x.vl⟩
theorem jc{α β:Type}(f:α->β)(l:List α)(i:Nat)(a b:α)(h:l[i]?=some a)(e:f b=f a):(l.set i b).map f=l.map f:=by
 apply RA
 intro j;simp only[List.getElem?_map];by_cases hj:i=j
 ·subst hj;rw[P4 (Ps.1 h).1,h];simp[e]
 ·rw[Qb hj]
theorem BT(ps:List PS)(i:Nat):(bT ps i).map PS.st=ps.map PS.st:=by
 unfold bT;split
 ·rfl
 ·rename_i p hp;have h1:=jc PS.st ps i p { p with wth:=lU ps i p } hp rfl;split
  ·exact h1
  ·split
   ·exact h1
   ·rename_i q hq;by_cases e:i=p.owner.toNat
    ·rw[<- e]at hq⊢;rw[hp]at hq;cases hq
     rw[S1];exact jc PS.st ps i p _ hp rfl
    ·exact(jc PS.st (ps.set i { p with wth:=lU ps i p }) p.owner.toNat q { q with inside:=q.inside|||(p.inside|||2 ^ i) } (by rw[Qb e];exact hq) rfl).trans h1
theorem BS(ps:List PS):∀k,(dY ps k).map PS.st=ps.map PS.st
 |0=>rfl
 |k+1=>by rw[dY,BT,BS ps k]
theorem zU(X:List MS)(XL:∀(i:Nat) (x:MS),X[i]?=some x->x.owner=-1\/∃o:Nat,x.owner=o/\o<i):∀k,k<=X.length->∀(i:Nat) (p:PS) (x:MS),i<k->(bL X k)[i]?=some p->X[i]?=some x->p.st=x.st
 |0,_,i,p,x,hi,_,_=>by omega
 |k+1,hk,i,p,x,hi,hp,hx=>by
  have ih:=zU X XL k zaa;have hl:=eN X k;obtain⟨y,hy⟩:∃y,X[k]?=some y:=⟨_,Pp zaa⟩;rw[bL,hy]at hp;dsimp only at hp;have Vq:∀(qs:List PS) (ar:Nat),qs.length=X.length->(∀(i:Nat) (p:PS) (x:MS),i<k->qs[i]?=some p->X[i]?=some x->p.st=x.st)->(qs.set k (Gt y ar))[i]?=some p->p.st=x.st:=fun qs ar Yb h1 hp=>by
   by_cases e:k=i
   ·subst e;rw[P4 zaa]at hp;rw[hy]at hx;cases hp;cases hx
    rfl
   ·rw[Qb e]at hp;exact h1 i p x zaa hp hx
  unfold nW at hp;split at hp
  ·exact Vq _ 0 hl ih hp
  ·rename_i hn;obtain⟨o,ho,hoi⟩:∃o:Nat,y.owner=o/\o<k:=by
    rcases XL k y hy with h|h
    ·rw[h]at hn;exact absurd rfl hn
    ·exact h
   have YD:y.owner.toNat=o:=by rw[ho];rfl
   rw[YD]at hp;split at hp
   ·rename_i hq;rw[Pp zaa]at hq;cases hq
   ·rename_i q hq;split at hp
    ·exact Vq _ _ hl ih hp
    ·refine Vq _ _ (by simpa using hl) (fun a pa xa ha hpa hxa=>?_) hp;by_cases e:o=a
     ·subst e;rw[P4 zaa]at hpa;cases hpa
      exact ih o q xa ha hq hxa
     ·rw[Qb e]at hpa;exact ih a pa xa ha hpa hxa
theorem pT(X:List MS):(psF X).length=X.length:=by unfold psF;rw[qP,eN]
theorem J4(X:List MS)(XL:∀(i:Nat) (x:MS),X[i]?=some x->x.owner=-1\/∃o:Nat,x.owner=o/\o<i){i:Nat}{p:PS}(hp:(psF X)[i]?=some p):∃x,X[i]?=some x/\p.st=x.st:=by
 have hi:i<X.length:=by have:=(Ps.1 hp).1;rwa [pT]at this
 obtain⟨x,hx⟩:∃x,X[i]?=some x:=⟨_,Pp hi⟩;refine⟨x,hx,?_⟩;have h1:=congrArg (fun l=>l[i]?) (BS (bL X X.length) X.length);simp only[List.getElem?_map]at h1;rw[show(dY (bL X X.length) X.length)[i]?=some p from hp]at h1;obtain⟨q,hq⟩:∃q,(bL X X.length)[i]?=some q:=⟨_,Pp (by rw[eN];exact hi)⟩;rw[hq]at h1;have h2:p.st=q.st:=by simpa using h1
 rw[h2];exact zU X XL X.length (Po _) i q x hi hq hx
theorem sC(X:List MS)(XL:∀(i:Nat) (x:MS),X[i]?=some x->x.owner=-1\/∃o:Nat,x.owner=o/\o<i):∀k,k<=X.length->dt X.length (bL X k)
 |0,_=>fun i p hp=>by
  have:p=zPS:=Sh (PD hp);subst this;exact⟨dR _,dR _,dR _,dR _⟩
 |k+1,hk=>by
  obtain⟨y,hy⟩:∃y,X[k]?=some y:=⟨_,Pp zaa⟩;rw[bL,hy];exact vR (sC X XL k zaa) zaa y (XL k y hy)
theorem uF{N:Nat}{ps:List PS}(hN:ps.length=N)(h:dt N ps):∀k,k<=N->dt N (dY ps k)
 |0,_=>h
 |k+1,hk=>om (uF hN h k zaa) zaa
theorem Bp(X:List MS)(XL:∀(i:Nat) (x:MS),X[i]?=some x->x.owner=-1\/∃o:Nat,x.owner=o/\o<i):dt X.length (psF X):=uF (eN _ _) (sC X XL _ (Po _)) _ (Po _)
theorem vS(X:List MS)(XL:∀(i:Nat) (x:MS),X[i]?=some x->x.owner=-1\/∃o:Nat,x.owner=o/\o<i):∀k,k<=X.length->Ord X k (bL X k)
 | 0,_=>⟨fun i p x hi=>zaa,fun i p hp j hj=>by
  have:p=zPS:=Sh (PD hp);subst this;have hj:j∈els 0:=hj;rw[my]at hj;cases hj⟩
 |k+1,hk=>by
  obtain⟨y,hy⟩:∃y,X[k]?=some y:=⟨_,Pp zaa⟩;have hl:=eN X k;rw[bL,hy];exact zS (vS X XL k zaa) zaa hy (XL k y hy)
theorem xu{X:List MS}{n:Nat}{ps:List PS}(h:Ord X n ps):∀k,Ord X n (dY ps k)
 |0=>h
 |k+1=>qg (xu h k)
theorem Ml(X:List MS)(XL:∀(i:Nat) (x:MS),X[i]?=some x->x.owner=-1\/∃o:Nat,x.owner=o/\o<i):Ord X X.length (psF X):=xu (vS X XL _ (Po _)) _
theorem ES(ps:List PS):∀(l:List Nat) (o:Nat),vi ps o l<=o
 |[],_=>Po _
 |i::l,o=>Pr (ES ps l (o&&&(4294967295-kc ps i))) Rh
theorem LA(ps:List PS)(h:a<2 ^ N):inn ps a<2 ^ N:=Qq (ES ps _ _) h
theorem FD(h:dt N ps)(i:Nat):kc ps i<2 ^ N:=by
 unfold kc;split
 ·rename_i p hp;exact(h i p hp).2.2.1
 ·exact dR N
theorem Ga(h:dt N ps)(i:Nat):kg ps i<2 ^ N:=by
 unfold kg;split
 ·rename_i p hp;exact(h i p hp).2.1
 ·exact dR N
theorem xW(h:a<2 ^ N):a&&&b<2 ^ N:=Qq Rh h
theorem wX{N:Nat}{ps:List PS}(h:dt N ps)(ow:Nat):∀(l:List Nat) (o:Nat),o<2 ^ N->l.foldl (fun o i=>o|||(gn ps i|||(kc ps i&&&kg ps ow))) o<2 ^ N
 |[],_,ho=>ho
 |i::l,_,ho=>wX h ow l _ (Qt ho (Qt (kY h i) (xW (FD h i))))
theorem Bz(h:dt N ps)(ow s:Nat):ef ps ow s<2 ^ N:=by
 unfold ef;split
 ·exact xW (kY h ow)
 ·exact wX h ow _ 0 (dR N)
theorem wb{N:Nat}{ps:List PS}(h:dt N ps):∀(l:List Nat) (o:Nat),o<2 ^ N->me ps o l<2 ^ N
 |[],_,ho=>ho
 |k::l,o,ho=>by
  show me ps (if o.testBit k then o else o|||gn ps k) l<_;refine wb h l _ ?_;split
  ·exact ho
  ·exact Qt ho (kY h k)
theorem wa{N:Nat}{ps:List PS}(h:dt N ps):∀(l:List Nat) (o:Nat),o<2 ^ N->o9 ps o l<2 ^ N
 |[],_,ho=>ho
 |i::l,o,ho=>by
  show o9 ps (match ps[i]? with|some p=>if p.kind != 1 then o else me ps o (els p.parts)|none=>o) l<_;refine wa h l _ ?_;split
  ·split
   ·exact ho
   ·exact wb h _ _ ho
  ·exact ho
theorem n8(h:dt N ps){s:Nat}(hs:s<2 ^ N):complete ps s<2 ^ N:=wa h _ _ hs
theorem I2(h:dt ps.length ps)(i j:Nat):dom ps i j<2 ^ ps.length:=by
 unfold dom;split
 ·exact Ga h _
 ·have:=dR ps.length;omega
theorem Gf(h:dt ps.length ps)(hh:∀(i:Nat) (p:PS),ps[i]?=some p->isH p.kind=true->∃o:Nat,p.owner=o/\o<i)(i d:Nat):Fk ps (iV ps i d):=by
 unfold iV;split
 ·trivial
 ·rename_i p hp;have h1:p.around&&&dom ps i d<2 ^ ps.length:=xW (h d p hp).2.2.1;split
  ·rename_i hk;obtain⟨o,ho,hod⟩:=hh d p hp hk;have V4:=(Ps.1 hp).1;obtain⟨po,WZ⟩:∃po,ps[o]?=some po:=⟨_,Pp zaa⟩;exact⟨h1,p,o,po,hp,ho,WZ,fun k _=>Bz h o k,fun s hs=>n8 h hs⟩
  ·exact n8 h (Qt h1 (h d p hp).2.2.2)
theorem i1{o:Nat}(h:W.cell? (b,o)=some v):b<W.heap.size:=PW _ _ h
theorem oy{B:Nat}{t:TypeId}{u:Value}(h:Boxed W B t u)(k:Boxed W B t v):u=v:=by
 have:=h.symm.trans k;simpa using this
theorem uX.uniq{W:World}{pb b:Nat}{e e':En}{v:Value}(h:uX W pb b e v)(k:uX W pb b e' v):e=e':=by
 cases e with
 |nil=>
  cases e' with
  |nil=>rfl
  |all a=>obtain⟨c,k1,_⟩:=k;rw[show v=_ from h]at k1;simp at k1
  |hist p t=>obtain⟨c3,c7,c6,c5,k1,_⟩:=k;rw[show v=_ from h]at k1;simp at k1
 |all a=>
  obtain⟨c,h1,h2⟩:=h;cases e' with
  |nil=>rw[show v=_ from k]at h1;simp at h1
  |all a'=>
   obtain⟨c',k1,k2⟩:=k;rw[h1]at k1;simp at k1;subst k1;have:=oy h2 k2;simp at this;rw[show a=a' by omega]
  |hist p t=>obtain⟨c3,c7,c6,c5,k1,_⟩:=k;rw[h1]at k1;simp at k1
 |hist p t=>
  obtain⟨c3,c7,c6,c5,h1,_,h7,_,h5⟩:=h;cases e' with
  |nil=>rw[show v=_ from k]at h1;simp at h1
  |all a'=>obtain⟨c',k1,k2⟩:=k;rw[h1]at k1;simp at k1
  |hist p' t'=>
   obtain⟨d3,d7,d6,d5,k1,_,k7,_,k5⟩:=k;rw[h1]at k1;simp at k1;obtain⟨_,e7,_,e5⟩:=k1;subst e7 e5;have x7:=oy h7 k7;have x5:=oy h5 k5;simp at x7 x5;rw[show p=p' by omega,show t=t' by omega]
theorem eP.uniq{m:Nat}{x y:PM}(h:eP W pb b m x)(k:eP W pb b m y):x=y:=by
 obtain⟨fv,h1,h2⟩:=h;obtain⟨gv,k1,k2⟩:=k;rw[h1]at k1;obtain⟨xo,xl,⟨xa,xn,xc⟩,xe⟩:=x;obtain⟨yo,yl,⟨ya,yn,yc⟩,ye⟩:=y;simp at k1;obtain⟨a1,a2,⟨a3,a4,a5⟩,a6⟩:=k1;subst a3 a4 a5 a6;have:=h2.uniq k2;simp at this;subst this;rw[show xo=yo by omega,show xl=yl by omega]
theorem mC(ps:List PS){L:List (Option PM)}{z:PM}:∀(k i:Nat),(oE ps L k)[i]?=some (some z)->∃j:Nat,L[j]?=some (some z)
 |0,i,h=>⟨i,h⟩
 |k+1,i,h=>by
  rw[oE]at h;unfold tk at h;split at h
  ·split at h
   ·exact mC ps k i h
   ·rename_i p _ _ _;by_cases e:k=i
    ·subst e;by_cases hl:k<(oE ps L k).length
     ·rw[P4 hl]at h;rw[PH]at h;cases hq:(oE ps L k)[p.owner.toNat]? with
      |none=>rw[hq]at h;simp at h
      |some y=>
       rw[hq]at h;simp at h;subst h;exact mC ps k _ hq
     ·rw[P6 zaf]at h;cases h
    ·rw[Qb e]at h;exact mC ps k i h
  ·exact mC ps k i h
theorem wO{ps:List PS}{F:()->Option Nat}{T:()->Option (List (Option PM))}{i:Nat}{V:List MV}{Z:PM->Prop}(hT:∀ev row (a:Nat) z,T ev=some row->row[a]?=some (some z)->Z z)(hV:∀m∈V,Z (eQ ps F i m)):∀(j:Nat) ev row (a:Nat) z,aX ps F T i V j ev=some row->row[a]?=some (some z)->Z z
 |0,ev,row,a,z,h,hz=>hT ev row a z h hz
 |j+1,ev,row,a,z,h,hz=>by
  have ih:=wO hT hV j;cases hm:V[j]? with
  |none=>rw[aX,hm]at h;exact ih ev row a z h hz
  |some m=>
   rw[aX,hm]at h;dsimp only at h;unfold mO at h;split at h
   ·have hr:∀(a:Nat) z,((aX ps F T i V j m.event).getD (List.replicate ps.length none))[a]?=some (some z)->Z z:=fun a z hz=>by
     cases hq:aX ps F T i V j m.event with
     |none=>
      rw[hq]at hz;have:=Sh (PD hz);cases this
     |some row'=>rw[hq]at hz;exact ih _ row' a z hq hz
    have h:=Qh h;subst h;dsimp only at hz;split at hz
    ·by_cases e:i=a
     ·subst e;by_cases hl:i<((aX ps F T i V j m.event).getD (List.replicate ps.length none)).length
      ·rw[P4 hl]at hz;simp at hz;subst hz;exact hV m (PD hm)
      ·rw[P6 zaf]at hz;cases hz
     ·rw[Qb e]at hz;exact hr a z hz
    ·exact hr a z hz
   ·exact ih ev row a z h hz
theorem xw{ps:List PS}{F:()->Option Nat}{V:Nat->List MV}{Z:PM->Prop}{N:Nat}(hV:∀i,i<N->∀m∈V i,Z (eQ ps F i m)):∀(k:Nat),k<=N->∀ev row (a:Nat) z,ep ps F V k ev=some row->row[a]?=some (some z)->Z z
 |0,_,ev,row,a,z,h,hz=>by cases h
 |k+1,hk,ev,row,a,z,h,hz=>wO (xw hV k zaa) (hV k zaa) _ ev row a z h hz
theorem ml.rows{W:World}{pb b:Nat}{pmF:Nat->PM}(Zw:∀m z,eP W pb b m z->pmF m=z){L:List (Option Nat)}{row:List (Option PM)}(h5:∀i:Nat,ml W pb b (L[i]?) (row[i]?)):row=L.map (Option.map pmF):=by
 apply RA
 intro i;rw[Pv];have h6:=h5 i;cases hq:L[i]? with
 |none=>
  rw[hq]at h6;cases hr:row[i]? with
  |none=>rfl
  |some y=>rw[hr]at h6;cases y<;>exact h6.elim
 |some o=>
  rw[hq]at h6;cases o with
  |none=>
   cases hr:row[i]? with
   |none=>rw[hr]at h6;exact h6.elim
   |some y=>
    rw[hr]at h6;cases y with
    |none=>rfl
    |some z=>exact h6.elim
  |some m=>
   cases hr:row[i]? with
   |none=>rw[hr]at h6;exact h6.elim
   |some y=>
    rw[hr]at h6;cases y with
    |none=>exact h6.elim
    |some z=>
     simp only[Option.map_some];rw[Zw m z h6]
def IY(X:List MS)(H:List HV)(k:Nat):Bool:=match H[k]? with|some h=>(match X[h.idx]? with|some x=>decide (x.kind=4)|none=>false)|none=>false
def D7(X:List MS)(V:Nat->List MV)(ev:()):Option (List (Option PM)):=(ep (psF X) (b7 X X.length) V X.length ev).map fun row=>oE (psF X) row X.length
def enF(X:List MS)(AV:U.Sl->List PA)(i:Nat):List PA:=match X[i]? with|some x=>AV x.ve|none=>[]
def lvF(X:List MS)(AV:U.Sl->List PA)(i:Nat):List PA:=match X[i]? with|some x=>AV x.vl|none=>[]
theorem Kk{w0 w:World}{X:List MS}{V:Nat->List MV}(AV:U.Sl->List PA)(h:Hy w0 w pb X V)(hX:X.length<=24)(hX0:0<X.length)(XL:∀(i:Nat) (x:MS),X[i]?=some x->x.owner=-1\/∃o:Nat,x.owner=o/\o<i)(hhx:∀(i:Nat) (x:MS),X[i]?=some x->isH x.kind=true->x.owner≠-1)(hl:Lw w.heap.size)
  (hea:∀(i:Nat) (x:MS),X[i]?=some x->gu w w x.ve (AV x.ve)/\gu w w x.vl (AV x.vl)) (hma:∀i,i<X.length->∀m∈V i,gu w w m.ai (AV m.ai)/\∀a∈AV m.ai,a.sz):
  ∃b hvs H D mbm n M Lr pmF acF,ka w w pb b X.length (psF X) (bF X X.length) (enF X AV) (lvF X AV) hvs H D mbm n (D7 X V) M Lr pmF acF/\H.map (fun h=>(h.idx,h.own))=kL X X.length/\(∀(k:Nat) (h:HV) (x:MS),H[k]?=some h->X[h.idx]?=some x->D k=decide (x.kind=4))/\(∀ev,(M ev).map (fun g=>(Lr g).map (Option.map pmF))=D7 X V ev)/\(∀ev (g i m:Nat),M ev=some g->(Lr g)[i]?=some (some m)->acF m=AV (pmF m).ai)/\(∀m,∀a∈acF m,a.sz)/\∃L0:Nat->List (Option Nat),∀ev g,M ev=some g->Lr g=di (psF X) (L0 g) X.length/\ep (psF X) (b7 X X.length) V X.length ev=some ((L0 g).map (Option.map pmF)):=by
 obtain⟨b,mb,hv,H,n,M,L,VG,V3,hPA,U5,hH,Wf,hOnc⟩:=h;have hlen:=pT X;have hGN:=Bp X XL;have hG:dt (psF X).length (psF X):=by rw[hlen];exact hGN
 have hO:=Ml X XL;have VM:b<w.heap.size:=by
  obtain⟨p,hp⟩:∃p,(psF X)[0]?=some p:=⟨_,Pp zaa⟩;exact i1 (hPA.at' 0 p hp).c1
 have hst:=fun i p (hp:(psF X)[i]?=some p)=>J4 X XL hp;have how:∀(i:Nat) (p:PS),(psF X)[i]?=some p->p.owner=-1\/∃o:Nat,p.owner=o/\o<i:=fun i p hp=>by
  obtain⟨x,hx,e⟩:=hst i p hp;have:p.owner=x.owner:=congrArg St.owner e;rw[this];exact XL i x hx
 have hhp:∀(i:Nat) (p:PS),(psF X)[i]?=some p->isH p.kind=true->∃o:Nat,p.owner=o/\o<i:=fun i p hp hk=>by
  obtain⟨x,hx,e⟩:=hst i p hp;have e1:p.owner=x.owner:=congrArg St.owner e;have e2:p.kind=x.kind:=congrArg St.kind e
  rcases how i p hp with h|h
  ·exact absurd (e1.symm.trans h) (hhx i x hx (by rw[<- e2];exact hk))
  ·exact h
 have hplan:gN w w pb b X.length (psF X) (bF X X.length) (enF X AV) (lvF X AV):=
  ⟨hPA,(Pn.1 V3).1,VM,by rw[Pt _ _ _ _ _ _ V3];rfl,rG hX (oC X (Po _) _ (Po _)),how,fun i p hp j hj=>by rw[hlen];exact hO.part i p hp j hj,
   fun i p hp=>by
    obtain⟨x,hx,e⟩:=hst i p hp;have e1:p.enter=x.ve:=congrArg St.enter e;rw[e1];unfold enF;rw[hx];exact(hea i x hx).1,
   fun i p hp=>by
    obtain⟨x,hx,e⟩:=hst i p hp;have e1:p.leave=x.vl:=congrArg St.leave e;rw[e1];unfold lvF;rw[hx];exact(hea i x hx).2,hl⟩
 have hZ:∀i,i<X.length->∀m∈V i,(fun z=>∃i mv,i<X.length/\mv∈V i/\z=eQ (psF X) (b7 X X.length) i mv) (eQ (psF X) (b7 X X.length) i m):=fun i hi m hm=>⟨i,m,hi,hm,rfl⟩;have XO:∀ev (g i m:Nat),M ev=some g->(L g)[i]?=some (some m)->∃row z,D7 X V ev=some row/\row[i]?=some (some z)/\eP w pb b m z/\∃i mv,i<X.length/\mv∈V i/\z=eQ (psF X) (b7 X X.length) i mv:=fun ev g i m hg hm=>by
  obtain⟨_,_,row,h3,_,h5⟩:=Wf.row ev g hg;have h6:=h5 i;rw[hm]at h6;cases hq:row[i]? with
  |none=>rw[hq]at h6;exact h6.elim
  |some y=>
   cases y with
   |none=>rw[hq]at h6;exact h6.elim
   |some z=>
    rw[hq]at h6;refine⟨row,z,h3,hq,h6,?_⟩;cases ht:ep (psF X) (b7 X X.length) V X.length ev with
    |none=>rw[ht]at h3;cases h3
    |some row0=>
     rw[ht]at h3;have h3:=Qh h3;subst h3;obtain⟨j,hj⟩:=mC (psF X) X.length i hq;exact xw (Z:=fun z=>∃i mv,i<X.length/\mv∈V i/\z=eQ (psF X) (b7 X X.length) i mv) hZ X.length (Po _) ev row0 j z ht hj
 classical
 obtain⟨pmF,Zw⟩:∃pmF:Nat->PM,∀m z,eP w pb b m z->pmF m=z:=⟨fun m=>if h:∃z,eP w pb b m z then h.choose else⟨0,0,⟨none,0,0⟩,.nil⟩,fun m z hz=>by
  have he:∃z,eP w pb b m z:=⟨z,hz⟩;dsimp only;rw[dif_pos he];exact he.choose_spec.uniq hz⟩
 refine⟨b,hv,H,IY X H,mb,n,M,L,pmF,fun m=>if ∃(ev:()) (g i:Nat),M ev=some g/\(L g)[i]?=some (some m) then AV (pmF m).ai else[],⟨hplan,⟨by rw[Pt _ _ _ _ _ _ V3];rfl,U5,fun k y hy=>?_,?_⟩,⟨by rw[hlen];exact V3,by rw[hlen];exact Wf⟩,fun ev g i m hg hm=>?_,zaa,fun a ha=>LA _ ha⟩,hH.idx,fun k y x hy hx=>?_,fun ev=>?_,fun ev g i m hg hm=>?_,fun m a ha=>?_,?_⟩
 ·obtain⟨x,po,a1,a2,a3⟩:=hH.aq y (PD hy);have:=(Ps.1 a1).1;refine⟨zaa,(Ps.1 a2).1,po,a2,?_⟩;unfold IY;rw[hy];dsimp only;rw[a1];exact a3
 ·have h1:=congrArg List.length hH.idx;have h2:=ti X X.length;rw[PE]at h1;omega
 ·obtain⟨row,z,t1,t2,t3,j,mv,hj,hmv,rfl⟩:=XO ev g i m hg hm;rw[Zw m _ t3];have U2:(eQ (psF X) (b7 X X.length) j mv).own=j:=zbG;have Y8:(eQ (psF X) (b7 X X.length) j mv).ai=mv.ai:=zbG;refine⟨t3,by rw[U2];omega,?_,?_,?_⟩
  ·unfold eQ;split
   ·exact dR _
   ·split
    ·exact I2 hG _ _
    ·exact dR _
  ·rw[PC ⟨ev,g,i,hg,hm⟩,Y8];exact(hma j hj mv hmv).1
  ·unfold eQ;split
   ·trivial
   ·split
    ·exact Gf hG hhp _ _
    ·trivial
 ·unfold IY;rw[hy];dsimp only;rw[hx]
 ·cases hg:M ev with
  |none=>exact(Wf.nope ev hg).symm
  |some g=>
   obtain⟨_,h2,row,h3,h4,h5⟩:=Wf.row ev g hg;rw[show D7 X V ev=some row from h3];simp only[Option.map_some,Option.some.injEq];exact(ml.rows Zw h5).symm
 ·dsimp only;rw[PC ⟨ev,g,i,hg,hm⟩]
 ·dsimp only at ha;split at ha
  ·rename_i he;obtain⟨ev,g,i,hg,hm⟩:=he;obtain⟨row,z,t1,t2,t3,j,mv,hj,hmv,rfl⟩:=XO ev g i m hg hm;rw[Zw m _ t3]at ha;have Y8:(eQ (psF X) (b7 X X.length) j mv).ai=mv.ai:=zbG;rw[Y8]at ha;exact(hma j hj mv hmv).2 a ha
  ·cases ha
 ·obtain⟨L0,hL0⟩:=hOnc;refine⟨L0,fun ev g hg=>?_⟩;obtain⟨e1,row0,e2,e3⟩:=hL0 ev g hg;exact⟨e1,by rw[e2,ml.rows Zw e3]⟩
