import Derived.Test.YtpkhcncoildcnaaGreatDoorM08
set_option maxRecDepth 100000
set_option maxHeartbeats 8000000
namespace Go.Proofs.YtpkhcncoildcnaaGreatDoor
theorem zbG{zp:Prop}(h:zp:=by unfold dL;split<;>(try split)<;>rfl):zp:=h
variable {N a b pb:Nat}{ps:List Y.PS}{W:World}{v:Value}
section
open Go.RowKit Go.Proofs Go.Shelf
namespace Y
structure St where
 kind:Int
 name:()
 done:()
 owner:Int
 enter:U.Sl
 leave:U.Sl
def PS.st(p:PS):St:=⟨p.kind,p.name,p.done,p.owner,p.enter,p.leave⟩
def MS.st(x:MS):St:=⟨x.kind,x.name,rE++x.name,x.owner,x.ve,x.vl⟩
theorem iQ{α β:Type}(f:α->β)(l:List α)(i:Nat)(a b:α)(h:l[i]?=some a)(e:f b=f a):(l.set i b).map f=l.map f:=by
 apply Qo
 intro j;simp only[List.getElem?_map];by_cases hj:i=j
 ·subst hj;rw[OR (Oz.1 h).1,h];simp[e]
 ·rw[OU hj]
theorem Bb(ps:List PS)(i:Nat):(aX ps i).map PS.st=ps.map PS.st:=by
 unfold aX;split
 ·rfl
 ·rename_i p hp;have h1:=iQ PS.st ps i p { p with wth:=gG ps i p } hp rfl;split
  ·exact h1
  ·split
   ·exact h1
   ·rename_i q hq;by_cases e:i=p.owner.toNat
    ·rw[<- e]at hq⊢;rw[hp]at hq;cases hq
     rw[RR];exact iQ PS.st ps i p _ hp rfl
    ·exact(iQ PS.st (ps.set i { p with wth:=gG ps i p }) p.owner.toNat q { q with inside:=q.inside|||(p.inside|||2 ^ i) } (by rw[OU e];exact hq) rfl).trans h1
theorem Ba(ps:List PS):∀k,(cX ps k).map PS.st=ps.map PS.st
 |0=>rfl
 |k+1=>by rw[cX,Bb,Ba ps k]
theorem zk(X:List MS)(Uv:∀(i:Nat) (x:MS),X[i]?=some x->x.owner=-1\/∃o:Nat,x.owner=o/\o<i):∀k,k<=X.length->∀(i:Nat) (p:PS) (x:MS),i<k->(a8 X k)[i]?=some p->X[i]?=some x->p.st=x.st
 |0,_,i,p,x,hi,_,_=>by omega
 |k+1,hk,i,p,x,hi,hp,hx=>by
  have ih:=zk X Uv k zaa;have hl:=cV X k;obtain⟨y,hy⟩:∃y,X[k]?=some y:=⟨_,Ou zaa⟩;rw[a8,hy]at hp;dsimp only at hp;have T4:∀(qs:List PS) (ar:Nat),qs.length=X.length->(∀(i:Nat) (p:PS) (x:MS),i<k->qs[i]?=some p->X[i]?=some x->p.st=x.st)->(qs.set k (l7 y ar))[i]?=some p->p.st=x.st:=fun qs ar WJ h1 hp=>by
   by_cases e:k=i
   ·subst e;rw[OR zaa]at hp;rw[hy]at hx;cases hp;cases hx
    rfl
   ·rw[OU e]at hp;exact h1 i p x zaa hp hx
  unfold jI at hp;split at hp
  ·exact T4 _ 0 hl ih hp
  ·rename_i hn;obtain⟨o,ho,hoi⟩:∃o:Nat,y.owner=o/\o<k:=by
    rcases Uv k y hy with h|h
    ·rw[h]at hn;exact absurd rfl hn
    ·exact h
   have Wo:y.owner.toNat=o:=zaD;rw[Wo]at hp;split at hp
   ·rename_i hq;rw[Ou zaa]at hq;cases hq
   ·rename_i q hq;split at hp
    ·exact T4 _ _ hl ih hp
    ·refine T4 _ _ (by simpa using hl) (fun a pa xa ha YU hxa=>?_) hp;by_cases e:o=a
     ·subst e;rw[OR zaa]at YU;cases YU
      exact ih o q xa ha hq hxa
     ·rw[OU e]at YU;exact ih a pa xa ha YU hxa
theorem ig(X:List MS):(psF X).length=X.length:=by unfold psF;rw[ku,cV]
theorem nW(X:List MS)(Uv:∀(i:Nat) (x:MS),X[i]?=some x->x.owner=-1\/∃o:Nat,x.owner=o/\o<i){i:Nat}{p:PS}(hp:(psF X)[i]?=some p):∃x,X[i]?=some x/\p.st=x.st:=by
 have hi:i<X.length:=by have:=(Oz.1 hp).1;rwa [ig]at this
 obtain⟨x,hx⟩:∃x,X[i]?=some x:=⟨_,Ou hi⟩;refine⟨x,hx,?_⟩;have h1:=congrArg (fun l=>l[i]?) (Ba (a8 X X.length) X.length);simp only[List.getElem?_map]at h1;rw[show(cX (a8 X X.length) X.length)[i]?=some p from hp]at h1;obtain⟨q,hq⟩:∃q,(a8 X X.length)[i]?=some q:=⟨_,Ou (by rw[cV];exact hi)⟩;rw[hq]at h1;have h2:p.st=q.st:=by simpa using h1
 rw[h2];exact zk X Uv X.length (Ow _) i q x hi hq hx
theorem rZ(X:List MS)(Uv:∀(i:Nat) (x:MS),X[i]?=some x->x.owner=-1\/∃o:Nat,x.owner=o/\o<i):∀k,k<=X.length->de X.length (a8 X k)
 |0,_=>fun i p hp=>by
  have:p=zPS:=Qs (OG hp);subst this;exact⟨dS _,dS _,dS _,dS _⟩
 |k+1,hk=>by
  obtain⟨y,hy⟩:∃y,X[k]?=some y:=⟨_,Ou zaa⟩;rw[a8,hy];exact vq (rZ X Uv k zaa) zaa y (Uv k y hy)
theorem uf{N:Nat}{ps:List PS}(hN:ps.length=N)(h:de N ps):∀k,k<=N->de N (cX ps k)
 |0,_=>h
 |k+1,hk=>nB (uf hN h k zaa) zaa
theorem o9(X:List MS)(Uv:∀(i:Nat) (x:MS),X[i]?=some x->x.owner=-1\/∃o:Nat,x.owner=o/\o<i):de X.length (psF X):=uf (cV _ _) (rZ X Uv _ (Ow _)) _ (Ow _)
theorem pQ(X:List MS)(Uv:∀(i:Nat) (x:MS),X[i]?=some x->x.owner=-1\/∃o:Nat,x.owner=o/\o<i):∀k,k<=X.length->Ord X k (a8 X k)
 | 0,_=>⟨fun i p x hi=>zaa,fun i p hp j hj=>by
  have:p=zPS:=Qs (OG hp);subst this;have hj:j∈els 0:=hj;rw[lR]at hj;cases hj⟩
 |k+1,hk=>by
  obtain⟨y,hy⟩:∃y,X[k]?=some y:=⟨_,Ou zaa⟩;have hl:=cV X k;rw[a8,hy];exact zi (pQ X Uv k zaa) zaa hy (Uv k y hy)
theorem qu{X:List MS}{n:Nat}{ps:List PS}(h:Ord X n ps):∀k,Ord X n (cX ps k)
 |0=>h
 |k+1=>pH (qu h k)
theorem Li(X:List MS)(Uv:∀(i:Nat) (x:MS),X[i]?=some x->x.owner=-1\/∃o:Nat,x.owner=o/\o<i):Ord X X.length (psF X):=qu (pQ X Uv _ (Ow _)) _
theorem D5(ps:List PS):∀(l:List Nat) (o:Nat),qW ps o l<=o
 |[],_=>Ow _
 |i::l,o=>Ox (D5 ps l (o&&&(4294967295-dc ps i))) Qi
theorem KD(ps:List PS)(h:a<2 ^ N):inn ps a<2 ^ N:=Pm (D5 ps _ _) h
theorem EO(h:de N ps)(i:Nat):dc ps i<2 ^ N:=by
 unfold dc;split
 ·rename_i p hp;exact(h i p hp).2.2.1
 ·exact dS N
theorem Fp(h:de N ps)(i:Nat):fm ps i<2 ^ N:=by
 unfold fm;split
 ·rename_i p hp;exact(h i p hp).2.1
 ·exact dS N
theorem xy(h:a<2 ^ N):a&&&b<2 ^ N:=Pm Qi h
theorem wv{N:Nat}{ps:List PS}(h:de N ps)(ow:Nat):∀(l:List Nat) (o:Nat),o<2 ^ N->l.foldl (fun o i=>o|||(bW ps i|||(dc ps i&&&fm ps ow))) o<2 ^ N
 |[],_,ho=>ho
 |i::l,_,ho=>wv h ow l _ (Po ho (Po (kA h i) (xy (EO h i))))
theorem AN(h:de N ps)(ow s:Nat):dE ps ow s<2 ^ N:=by
 unfold dE;split
 ·exact xy (kA h ow)
 ·exact wv h ow _ 0 (dS N)
theorem vD{N:Nat}{ps:List PS}(h:de N ps):∀(l:List Nat) (o:Nat),o<2 ^ N->gU ps o l<2 ^ N
 |[],_,ho=>ho
 |k::l,o,ho=>by
  show gU ps (if o.testBit k then o else o|||bW ps k) l<_;refine vD h l _ ?_;split
  ·exact ho
  ·exact Po ho (kA h k)
theorem vC{N:Nat}{ps:List PS}(h:de N ps):∀(l:List Nat) (o:Nat),o<2 ^ N->j6 ps o l<2 ^ N
 |[],_,ho=>ho
 |i::l,o,ho=>by
  show j6 ps (match ps[i]? with|some p=>if p.kind != 1 then o else gU ps o (els p.parts)|none=>o) l<_;refine vC h l _ ?_;split
  ·split
   ·exact ho
   ·exact vD h _ _ ho
  ·exact ho
theorem nw(h:de N ps){s:Nat}(hs:s<2 ^ N):complete ps s<2 ^ N:=vC h _ _ hs
theorem Hq(h:de ps.length ps)(i j:Nat):dom ps i j<2 ^ ps.length:=by
 unfold dom;split
 ·exact Fp h _
 ·have:=dS ps.length;omega
theorem Fu(h:de ps.length ps)(hh:∀(i:Nat) (p:PS),ps[i]?=some p->isH p.kind=true->∃o:Nat,p.owner=o/\o<i)(i d:Nat):Ez ps (fD ps i d):=by
 unfold fD;split
 ·trivial
 ·rename_i p hp;have h1:p.around&&&dom ps i d<2 ^ ps.length:=xy (h d p hp).2.2.1;split
  ·rename_i hk;obtain⟨o,ho,hod⟩:=hh d p hp hk;have UH:=(Oz.1 hp).1;obtain⟨po,Vr⟩:∃po,ps[o]?=some po:=⟨_,Ou zaa⟩;exact⟨h1,p,o,po,hp,ho,Vr,fun k _=>AN h o k,fun s hs=>nw h hs⟩
  ·exact nw h (Po h1 (h d p hp).2.2.2)
theorem iM{o:Nat}(h:W.cell? (b,o)=some v):b<W.heap.size:=OW _ _ h
theorem nH{B:Nat}{t:TypeId}{u:Value}(h:Boxed W B t u)(k:Boxed W B t v):u=v:=by
 have:=h.symm.trans k;simpa using this
theorem uB.uniq{W:World}{pb b:Nat}{e e':En}{v:Value}(h:uB W pb b e v)(k:uB W pb b e' v):e=e':=by
 cases e with
 |nil=>
  cases e' with
  |nil=>rfl
  |all a=>obtain⟨c,k1,_⟩:=k;rw[show v=_ from h]at k1;simp at k1
  |hist p t=>obtain⟨c3,c7,c6,c5,k1,_⟩:=k;rw[show v=_ from h]at k1;simp at k1
 |all a=>
  obtain⟨c,h1,h2⟩:=h;cases e' with
  |nil=>rw[show v=_ from k]at h1;simp at h1
  |all a'=>
   obtain⟨c',k1,k2⟩:=k;rw[h1]at k1;simp at k1;subst k1;have:=nH h2 k2;simp at this;rw[show a=a' by omega]
  |hist p t=>obtain⟨c3,c7,c6,c5,k1,_⟩:=k;rw[h1]at k1;simp at k1
 |hist p t=>
  obtain⟨c3,c7,c6,c5,h1,_,h7,_,h5⟩:=h;cases e' with
  |nil=>rw[show v=_ from k]at h1;simp at h1
  |all a'=>obtain⟨c',k1,k2⟩:=k;rw[h1]at k1;simp at k1
  |hist p' t'=>
   obtain⟨d3,d7,d6,d5,k1,_,k7,_,k5⟩:=k;rw[h1]at k1;simp at k1;obtain⟨_,e7,_,e5⟩:=k1;subst e7 e5;have x7:=nH h7 k7;have x5:=nH h5 k5;simp at x7 x5;rw[show p=p' by omega,show t=t' by omega]
theorem eI.uniq{m:Nat}{x y:PM}(h:eI W pb b m x)(k:eI W pb b m y):x=y:=by
 obtain⟨fv,h1,h2⟩:=h;obtain⟨gv,k1,k2⟩:=k;rw[h1]at k1;obtain⟨xo,xl,⟨xa,xn,xc⟩,xe⟩:=x;obtain⟨yo,yl,⟨ya,yn,yc⟩,ye⟩:=y;simp at k1;obtain⟨a1,a2,⟨a3,a4,a5⟩,a6⟩:=k1;subst a3 a4 a5 a6;have:=h2.uniq k2;simp at this;subst this;rw[show xo=yo by omega,show xl=yl by omega]
theorem lT(ps:List PS){L:List (Option PM)}{z:PM}:∀(k i:Nat),(nN ps L k)[i]?=some (some z)->∃j:Nat,L[j]?=some (some z)
 |0,i,h=>⟨i,h⟩
 |k+1,i,h=>by
  rw[nN]at h;unfold sL at h;split at h
  ·split at h
   ·exact lT ps k i h
   ·rename_i p _ _ _;by_cases e:k=i
    ·subst e;by_cases hl:k<(nN ps L k).length
     ·rw[OR hl]at h;rw[OJ]at h;cases hq:(nN ps L k)[p.owner.toNat]? with
      |none=>rw[hq]at h;simp at h
      |some y=>
       rw[hq]at h;simp at h;subst h;exact lT ps k _ hq
     ·rw[OV zae]at h;cases h
    ·rw[OU e]at h;exact lT ps k i h
  ·exact lT ps k i h
theorem we{ps:List PS}{F:()->Option Nat}{T:()->Option (List (Option PM))}{i:Nat}{V:List MV}{Z:PM->Prop}(hT:∀ev row (a:Nat) z,T ev=some row->row[a]?=some (some z)->Z z)(hV:∀m∈V,Z (dL ps F i m)):∀(j:Nat) ev row (a:Nat) z,ep ps F T i V j ev=some row->row[a]?=some (some z)->Z z
 |0,ev,row,a,z,h,hz=>hT ev row a z h hz
 |j+1,ev,row,a,z,h,hz=>by
  have ih:=we hT hV j;cases hm:V[j]? with
  |none=>rw[ep,hm]at h;exact ih ev row a z h hz
  |some m=>
   rw[ep,hm]at h;dsimp only at h;unfold mg at h;split at h
   ·have hr:∀(a:Nat) z,((ep ps F T i V j m.event).getD (List.replicate ps.length none))[a]?=some (some z)->Z z:=fun a z hz=>by
     cases hq:ep ps F T i V j m.event with
     |none=>
      rw[hq]at hz;have:=Qs (OG hz);cases this
     |some row'=>rw[hq]at hz;exact ih _ row' a z hq hz
    have h:=Pd h;subst h;dsimp only at hz;split at hz
    ·by_cases e:i=a
     ·subst e;by_cases hl:i<((ep ps F T i V j m.event).getD (List.replicate ps.length none)).length
      ·rw[OR hl]at hz;simp at hz;subst hz;exact hV m (OG hm)
      ·rw[OV zae]at hz;cases hz
     ·rw[OU e]at hz;exact hr a z hz
    ·exact hr a z hz
   ·exact ih ev row a z h hz
theorem wO{ps:List PS}{F:()->Option Nat}{V:Nat->List MV}{Z:PM->Prop}{N:Nat}(hV:∀i,i<N->∀m∈V i,Z (dL ps F i m)):∀(k:Nat),k<=N->∀ev row (a:Nat) z,ef ps F V k ev=some row->row[a]?=some (some z)->Z z
 |0,_,ev,row,a,z,h,hz=>by cases h
 |k+1,hk,ev,row,a,z,h,hz=>we (wO hV k zaa) (hV k zaa) _ ev row a z h hz
theorem lJ.rows{W:World}{pb b:Nat}{pmF:Nat->PM}(X4:∀m z,eI W pb b m z->pmF m=z){L:List (Option Nat)}{row:List (Option PM)}(h5:∀i:Nat,lJ W pb b (L[i]?) (row[i]?)):row=L.map (Option.map pmF):=by
 apply Qo
 intro i;rw[OF];have h6:=h5 i;cases hq:L[i]? with
 |none=>
  rw[hq]at h6;cases hr:row[i]? with
  |none=>rfl
  |some y=>rw[hr]at h6;cases y<;>exact h6.elim
 |some o=>
  rw[hq]at h6;cases o with
  |none=>
   cases hr:row[i]? with
   |none=>rw[hr]at h6;exact h6.elim
   |some y=>
    rw[hr]at h6;cases y with
    |none=>rfl
    |some z=>exact h6.elim
  |some m=>
   cases hr:row[i]? with
   |none=>rw[hr]at h6;exact h6.elim
   |some y=>
    rw[hr]at h6;cases y with
    |none=>exact h6.elim
    |some z=>
     simp only[Option.map_some];rw[X4 m z h6]
def Hl(X:List MS)(H:List HV)(k:Nat):Bool:=match H[k]? with|some h=>(match X[h.idx]? with|some x=>decide (x.kind=4)|none=>false)|none=>false
def Dh(X:List MS)(V:Nat->List MV)(ev:()):Option (List (Option PM)):=(ef (psF X) (bH X X.length) V X.length ev).map fun row=>nN (psF X) row X.length
def enF(X:List MS)(AV:U.Sl->List PA)(i:Nat):List PA:=match X[i]? with|some x=>AV x.ve|none=>[]
def lvF(X:List MS)(AV:U.Sl->List PA)(i:Nat):List PA:=match X[i]? with|some x=>AV x.vl|none=>[]
theorem Jj{w0 w:World}{X:List MS}{V:Nat->List MV}(AV:U.Sl->List PA)(h:Gw w0 w pb X V)(hX:X.length<=24)(hX0:0<X.length)(Uv:∀(i:Nat) (x:MS),X[i]?=some x->x.owner=-1\/∃o:Nat,x.owner=o/\o<i)(hhx:∀(i:Nat) (x:MS),X[i]?=some x->isH x.kind=true->x.owner≠-1)(hl:Lw w.heap.size)
  (hea:∀(i:Nat) (x:MS),X[i]?=some x->fW w w x.ve (AV x.ve)/\fW w w x.vl (AV x.vl)) (hma:∀i,i<X.length->∀m∈V i,fW w w m.aw (AV m.aw)/\∀a∈AV m.aw,a.sz):
  ∃b hvs H D mbm n M Lr pmF acF,jW w w pb b X.length (psF X) (bn X X.length) (enF X AV) (lvF X AV) hvs H D mbm n (Dh X V) M Lr pmF acF/\H.map (fun h=>(h.idx,h.own))=jq X X.length/\(∀(k:Nat) (h:HV) (x:MS),H[k]?=some h->X[h.idx]?=some x->D k=decide (x.kind=4))/\(∀ev,(M ev).map (fun g=>(Lr g).map (Option.map pmF))=Dh X V ev)/\(∀ev (g i m:Nat),M ev=some g->(Lr g)[i]?=some (some m)->acF m=AV (pmF m).aw)/\(∀m,∀a∈acF m,a.sz)/\∃L0:Nat->List (Option Nat),∀ev g,M ev=some g->Lr g=cA (psF X) (L0 g) X.length/\ef (psF X) (bH X X.length) V X.length ev=some ((L0 g).map (Option.map pmF)):=by
 obtain⟨b,mb,hv,H,n,M,L,Ut,UT,hPA,TO,hH,U3,hOnc⟩:=h;have hlen:=ig X;have hGN:=o9 X Uv;have hG:de (psF X).length (psF X):=by rw[hlen];exact hGN
 have hO:=Li X Uv;have UE:b<w.heap.size:=by
  obtain⟨p,hp⟩:∃p,(psF X)[0]?=some p:=⟨_,Ou zaa⟩;exact iM (hPA.at' 0 p hp).c1
 have hst:=fun i p (hp:(psF X)[i]?=some p)=>nW X Uv hp;have how:∀(i:Nat) (p:PS),(psF X)[i]?=some p->p.owner=-1\/∃o:Nat,p.owner=o/\o<i:=fun i p hp=>by
  obtain⟨x,hx,e⟩:=hst i p hp;have:p.owner=x.owner:=congrArg St.owner e;rw[this];exact Uv i x hx
 have hhp:∀(i:Nat) (p:PS),(psF X)[i]?=some p->isH p.kind=true->∃o:Nat,p.owner=o/\o<i:=fun i p hp hk=>by
  obtain⟨x,hx,e⟩:=hst i p hp;have e1:p.owner=x.owner:=congrArg St.owner e;have e2:p.kind=x.kind:=congrArg St.kind e
  rcases how i p hp with h|h
  ·exact absurd (e1.symm.trans h) (hhx i x hx (by rw[<- e2];exact hk))
  ·exact h
 have hplan:gy w w pb b X.length (psF X) (bn X X.length) (enF X AV) (lvF X AV):=
  ⟨hPA,(Ov.1 UT).1,UE,by rw[OA _ _ _ _ _ _ UT];rfl,qZ hX (nL X (Ow _) _ (Ow _)),how,fun i p hp j hj=>by rw[hlen];exact hO.part i p hp j hj,
   fun i p hp=>by
    obtain⟨x,hx,e⟩:=hst i p hp;have e1:p.enter=x.ve:=congrArg St.enter e;rw[e1];unfold enF;rw[hx];exact(hea i x hx).1,
   fun i p hp=>by
    obtain⟨x,hx,e⟩:=hst i p hp;have e1:p.leave=x.vl:=congrArg St.leave e;rw[e1];unfold lvF;rw[hx];exact(hea i x hx).2,hl⟩
 have hZ:∀i,i<X.length->∀m∈V i,(fun z=>∃i mv,i<X.length/\mv∈V i/\z=dL (psF X) (bH X X.length) i mv) (dL (psF X) (bH X X.length) i m):=fun i hi m hm=>⟨i,m,hi,hm,rfl⟩;have Ws:∀ev (g i m:Nat),M ev=some g->(L g)[i]?=some (some m)->∃row z,Dh X V ev=some row/\row[i]?=some (some z)/\eI w pb b m z/\∃i mv,i<X.length/\mv∈V i/\z=dL (psF X) (bH X X.length) i mv:=fun ev g i m hg hm=>by
  obtain⟨_,_,row,h3,_,h5⟩:=U3.row ev g hg;have h6:=h5 i;rw[hm]at h6;cases hq:row[i]? with
  |none=>rw[hq]at h6;exact h6.elim
  |some y=>
   cases y with
   |none=>rw[hq]at h6;exact h6.elim
   |some z=>
    rw[hq]at h6;refine⟨row,z,h3,hq,h6,?_⟩;cases ht:ef (psF X) (bH X X.length) V X.length ev with
    |none=>rw[ht]at h3;cases h3
    |some row0=>
     rw[ht]at h3;have h3:=Pd h3;subst h3;obtain⟨j,hj⟩:=lT (psF X) X.length i hq;exact wO (Z:=fun z=>∃i mv,i<X.length/\mv∈V i/\z=dL (psF X) (bH X X.length) i mv) hZ X.length (Ow _) ev row0 j z ht hj
 classical
 obtain⟨pmF,X4⟩:∃pmF:Nat->PM,∀m z,eI w pb b m z->pmF m=z:=⟨fun m=>if h:∃z,eI w pb b m z then h.choose else⟨0,0,⟨none,0,0⟩,.nil⟩,fun m z hz=>by
  have he:∃z,eI w pb b m z:=⟨z,hz⟩;dsimp only;rw[dif_pos he];exact he.choose_spec.uniq hz⟩
 refine⟨b,hv,H,Hl X H,mb,n,M,L,pmF,fun m=>if ∃(ev:()) (g i:Nat),M ev=some g/\(L g)[i]?=some (some m) then AV (pmF m).aw else[],⟨hplan,⟨by rw[OA _ _ _ _ _ _ UT];rfl,TO,fun k y hy=>?_,?_⟩,⟨by rw[hlen];exact UT,by rw[hlen];exact U3⟩,fun ev g i m hg hm=>?_,zaa,fun a ha=>KD _ ha⟩,hH.idx,fun k y x hy hx=>?_,fun ev=>?_,fun ev g i m hg hm=>?_,fun m a ha=>?_,?_⟩
 ·obtain⟨x,po,a1,a2,a3⟩:=hH.aq y (OG hy);have:=(Oz.1 a1).1;refine⟨zaa,(Oz.1 a2).1,po,a2,?_⟩;unfold Hl;rw[hy];dsimp only;rw[a1];exact a3
 ·have h1:=congrArg List.length hH.idx;have h2:=sJ X X.length;rw[OK]at h1;omega
 ·obtain⟨row,z,t1,t2,t3,j,mv,hj,hmv,rfl⟩:=Ws ev g i m hg hm;rw[X4 m _ t3];have TN:(dL (psF X) (bH X X.length) j mv).own=j:=zbG;have Wm:(dL (psF X) (bH X X.length) j mv).aw=mv.aw:=zbG;refine⟨t3,by rw[TN];omega,?_,?_,?_⟩
  ·unfold dL;split
   ·exact dS _
   ·split
    ·exact Hq hG _ _
    ·exact dS _
  ·rw[OD ⟨ev,g,i,hg,hm⟩,Wm];exact(hma j hj mv hmv).1
  ·unfold dL;split
   ·trivial
   ·split
    ·exact Fu hG hhp _ _
    ·trivial
 ·unfold Hl;rw[hy];dsimp only;rw[hx]
 ·cases hg:M ev with
  |none=>exact(U3.nope ev hg).symm
  |some g=>
   obtain⟨_,h2,row,h3,h4,h5⟩:=U3.row ev g hg;rw[show Dh X V ev=some row from h3];simp only[Option.map_some,Option.some.injEq];exact(lJ.rows X4 h5).symm
 ·dsimp only;rw[OD ⟨ev,g,i,hg,hm⟩]
 ·dsimp only at ha;split at ha
  ·rename_i he;obtain⟨ev,g,i,hg,hm⟩:=he;obtain⟨row,z,t1,t2,t3,j,mv,hj,hmv,rfl⟩:=Ws ev g i m hg hm;rw[X4 m _ t3]at ha;have Wm:(dL (psF X) (bH X X.length) j mv).aw=mv.aw:=zbG;rw[Wm]at ha;exact(hma j hj mv hmv).2 a ha
  ·cases ha
 ·obtain⟨L0,hL0⟩:=hOnc;refine⟨L0,fun ev g hg=>?_⟩;obtain⟨e1,row0,e2,e3⟩:=hL0 ev g hg;exact⟨e1,by rw[e2,lJ.rows X4 e3]⟩
