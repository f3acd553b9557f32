import Derived.Test.YtpkhcncoildcnaaGreatDoorM09
set_option maxRecDepth 100000
set_option maxHeartbeats 8000000
namespace Go.Proofs.YtpkhcncoildcnaaGreatDoor
variable {zp:Prop}
theorem zeh(h:zp:=by
 rcases(h.sub (hu x).2 y).1 with z|z
 ·exact(hn a x (.inl z)).elim
 ·exact(hn a x (.inr z)).elim):zp:=h
theorem ze7(h:zp:=by
 simp only[List.mem_cons,exists_eq_or_imp];exact or_assoc):zp:=h
theorem zfk(h:zp:=by
 rcases x with rfl|x
 ·omega
 ·have:=mB x;omega):zp:=h
theorem zfl(h:zp:=by
 rintro⟨h1,y,h2,h3,_⟩;exact Yp j y h1 h2 h3):zp:=h
theorem zfE(h:zp:=by
 subst e;rw[hx]at hy;cases hy
 omega):zp:=h
variable {fin i c d u a o b:Nat}{EN LV:Nat->List Y.PA}{D D':Nat->Bool}{H H':List Y.HV}{j k:Option Nat}{s r:Nat->Prop}{A:List Y.PS}{p:Y.PS}{x:Y.MS}
section
open Go.RowKit Go.Proofs Go.Shelf
namespace Y
theorem sd{α:Type}{p q:α->Bool}:∀{l:List α},(∀x∈l,p x=q x)->l.any p=l.any q
 |[],_=>rfl
 |x::l,h=>by rw[List.any_cons,List.any_cons,h x (O1 ..),sd (fun y hy=>h y (OZ _ hy))]
theorem iO{α β:Type}{f g:β->α->β}:∀{l:List α} {b:β},(∀b,∀x∈l,f b x=g b x)->l.foldl f b=l.foldl g b
 |[],_,_=>rfl
 |x::l,b,h=>by rw[QB,QB,h b x (O1 ..),iO (fun b y hy=>h b y (OZ _ hy))]
section
variable {β:Type}
def DQ(N:Nat)(T:()->Option (List (Option β)))(i:Nat)(x:()×β):()->Option (List (Option β)):=fun e=>if e=x.1 then
  some (let row:=(T x.1).getD (List.replicate N none);match row[i]? with|some none=>row.set i (some x.2)|_=>row)
 else T e
def uH(N:Nat)(T:()->Option (List (Option β)))(i:Nat)(V:List (()×β)):Nat->()->Option (List (Option β))
 |0=>T
 |j+1=>match V[j]? with|some m=>DQ N (uH N T i V j) i m|none=>uH N T i V j
def uZ(N:Nat)(V:Nat->List (()×β)):Nat->()->Option (List (Option β))
 |0=>fun _=>none
 |k+1=>uH N (uZ N V k) k (V k) (V k).length
variable (ps:List PS)(F:()->Option Nat)(g:PM->β)
theorem CK(T:()->Option (List (Option PM)))(T':()->Option (List (Option β)))(h:∀e,(T e).map (List.map (Option.map g))=T' e)(i:Nat)(m:MV)(e:()):(mg ps F T i m e).map (List.map (Option.map g))=DQ ps.length T' i (m.event,g (dL ps F i m)) e:=by
 unfold mg DQ;dsimp only;by_cases he:e=m.event
 ·rw[OD he,OD he,TF];have hr:((T m.event).getD (List.replicate ps.length none)).map (Option.map g)=(T' m.event).getD (List.replicate ps.length none):=by
   rw[<- h];cases T m.event with
   |none=>simp
   |some row=>rfl
  rw[<- hr];generalize(T m.event).getD (List.replicate ps.length none)=row;rw[OF]
  rcases hx:row[i]? with _|(_|p)
  ·rfl
  ·simp only[Option.map_some,Option.map_none,List.map_set]
  ·rfl
 ·rw[OB he,OB he,h]
theorem wa(T:()->Option (List (Option PM)))(T':()->Option (List (Option β)))(h:∀e,(T e).map (List.map (Option.map g))=T' e)(i:Nat)(V:List MV):∀(j:Nat) (e:()),(ep ps F T i V j e).map (List.map (Option.map g))=uH ps.length T' i (V.map fun m=>(m.event,g (dL ps F i m))) j e
 |0,e=>h e
 |j+1,e=>by
  have ih:=wa T T' h i V j;rw[ep,uH,OF];cases V[j]? with
  |none=>exact ih e
  |some m=>exact CK ps F g _ _ ih i m e
theorem wN(V:Nat->List MV):∀(k:Nat) (e:()),(ef ps F V k e).map (List.map (Option.map g))=uZ ps.length (fun i=>(V i).map fun m=>(m.event,g (dL ps F i m))) k e
 |0,e=>rfl
 |k+1,e=>by
  have:=wa ps F g (ef ps F V k) _ (wN V k) k (V k) (V k).length e;rw[ef,this,uZ,OK]
end
def rR(L:List (Option PM)):Prop:=∀(i:Nat) (p:PM),L[i]?=some (some p)->p.own=i
theorem IH(ps:List PS)(F:()->Option Nat)(i:Nat)(m:MV):(dL ps F i m).own=i:=by
 unfold dL;split
 ·rfl
 ·split<;>rfl
theorem CL{ps:List PS}{F:()->Option Nat}{T:()->Option (List (Option PM))}(h:∀e row,T e=some row->rR row)(i:Nat)(m:MV):∀e row,mg ps F T i m e=some row->rR row:=fun e row hr=>by
 unfold mg at hr;by_cases he:e=m.event
 ·rw[OD he]at hr;have h0:rR ((T m.event).getD (List.replicate ps.length none)):=by
   cases hT:T m.event with
   |none=>
    intro j p hj;simp only[Option.getD_none]at hj;have:=OG hj;rw[List.mem_replicate]at this;cases this.2
   |some row=>exact h _ _ hT
  generalize(T m.event).getD (List.replicate ps.length none)=R at h0 hr;have hr:=Pd hr;dsimp only at hr;split at hr
  ·subst hr;intro j p hj;rw[Qv]at hj;split at hj
   ·rename_i e;split at hj
    ·cases hj;rw[<- e];exact IH ps F i m
    ·cases hj
   ·exact h0 j p hj
  ·subst hr;exact h0
 ·rw[OB he]at hr;exact h e row hr
theorem wg{ps:List PS}{F:()->Option Nat}{T:()->Option (List (Option PM))}(h:∀e row,T e=some row->rR row)(i:Nat)(V:List MV):∀(j:Nat) e row,ep ps F T i V j e=some row->rR row
 |0=>h
 |j+1=>by
  have ih:=wg (ps:=ps) (F:=F) h i V j;rw[ep];cases V[j]? with
  |none=>exact ih
  |some m=>exact CL ih i m
theorem wP{ps:List PS}{F:()->Option Nat}{V:Nat->List MV}:∀(k:Nat) e row,ef ps F V k e=some row->rR row
 |0=>fun e row h=>by cases h
 |k+1=>wg (wP k) k (V k) _
theorem Ad(ps:List PS)(L:List (Option Nat))(f:Nat->Nat):∀k,cA ps (L.map (Option.map f)) k=(cA ps L k).map (Option.map f)
 |0=>rfl
 |k+1=>by
  rw[cA,cA,Ad ps L f k];unfold kO;rw[OF];generalize cA ps L k=R
  rcases hx:R[k]? with _|(_|m)
  ·rfl
  ·simp only[Option.map_some,Option.map_none];cases ps[k]? with
   |none=>rfl
   |some p=>
    dsimp only;by_cases h:(p.owner == -1)=true
    ·rw[OD h,OD h]
    ·rw[OB h,OB h,Qw,OJ,OJ,OF];cases R[p.owner.toNat]?<;>rfl
  ·rfl
theorem jc(ps:List PS){L:List (Option Nat)}{z:Nat}:∀(k i:Nat),(cA ps L k)[i]?=some (some z)->∃j:Nat,L[j]?=some (some z)
 |0,i,h=>⟨i,h⟩
 |k+1,i,h=>by
  rw[cA]at h;unfold kO at h;split at h
  ·split at h
   ·exact jc ps k i h
   ·rename_i p _ _ _;by_cases e:k=i
    ·subst e;by_cases hl:k<(cA ps L k).length
     ·rw[OR hl]at h;rw[OJ]at h;cases hq:(cA ps L k)[p.owner.toNat]? with
      |none=>rw[hq]at h;simp at h
      |some y=>
       rw[hq]at h;simp at h;subst h;exact jc ps k _ hq
     ·rw[OV zae]at h;cases h
    ·rw[OU e]at h;exact jc ps k i h
  ·exact jc ps k i h
theorem Gk(L:List (Option Nat))(f:Nat->Nat)(hf:∀(i j a b:Nat),L[i]?=some (some a)->L[j]?=some (some b)->f a=f b->a=b)(l:List Nat):dC (L.map (Option.map f)) l=(dC L l).map f/\∀m∈dC L l,∃i:Nat,L[i]?=some (some m):=by
 have key:∀(l acc:List Nat),(∀m∈acc,∃i:Nat,L[i]?=some (some m))->l.foldl (eP (L.map (Option.map f))) (acc.map f)=(l.foldl (eP L) acc).map f/\∀m∈l.foldl (eP L) acc,∃i:Nat,L[i]?=some (some m):=by
  intro l
  induction l with
  |nil=>exact fun acc h=>⟨rfl,h⟩
  |cons i l ih=>
   intro acc h;rw[QB,QB];have e:eP (L.map (Option.map f)) (acc.map f) i=(eP L acc i).map f/\∀m∈eP L acc i,∃i:Nat,L[i]?=some (some m):=by
    unfold eP;rw[OF]
    rcases hx:L[i]? with _|(_|q)
    ·exact⟨rfl,h⟩
    ·exact⟨rfl,h⟩
    ·simp only[Option.map_some];have hc:(acc.map f).contains (f q)=acc.contains q:=by
      rw[RZ,R9,R9];refine⟨fun hm=>?_,fun hm=>Qt hm⟩;obtain⟨a,ha,e⟩:=O7.1 hm;obtain⟨j,hj⟩:=h a ha;rw[<- hf j i a q hj hx e];exact ha
     rw[hc];by_cases hq:acc.contains q=true
     ·rw[OD hq,OD hq];exact⟨rfl,h⟩
     ·rw[OB hq,OB hq,Pk];refine⟨rfl,fun m hm=>?_⟩
      rcases OT.1 hm with hm|hm
      ·exact h m hm
      ·rw[OE.1 hm];exact⟨i,hx⟩
   rw[e.1];exact ih _ e.2
 exact key l [] (fun m hm=>by cases hm)
section
variable {f:Nat->Nat}{pm pm':Nat->PM}{ac ac':Nat->List PA}
theorem KA(f:Nat->Nat)(q q':Nat->Bool):∀(L:List Nat),(∀m∈L,q' (f m)=q m)->flt q' (L.map f)=(flt q L).map f:=by
 intro L h;unfold flt;rw[Su]
 congr 1
 exact QU (fun m hm=>by show(!q' (f m))=!q m;rw[h m hm])
theorem EU(ps:List PS)(act:Nat)(lF oF lF' oF':Nat->Nat)(WL:List Nat)(h:∀m∈WL,lF' (f m)=lF m/\oF' (f m)=oF m):gB ps act lF' oF' (WL.map f)=(gB ps act lF oF WL).map f:=by
 have key:∀(l acc:List Nat),(∀m∈l,lF' (f m)=lF m/\oF' (f m)=oF m)->(∀m∈acc,lF' (f m)=lF m/\oF' (f m)=oF m)->(l.map f).foldl (fun acc v=>mx act lF' oF' (arA ps (oF' v)) acc v) (acc.map f)=(l.foldl (fun acc v=>mx act lF oF (arA ps (oF v)) acc v) acc).map f:=by
  intro l
  induction l with
  |nil=>exact fun acc _ _=>rfl
  |cons v l ih=>
   intro acc hl ha;obtain⟨e1,e2⟩:=hl v (O1 ..);rw[QQ,QB,QB];have e:mx act lF' oF' (arA ps (oF' (f v))) (acc.map f) (f v)=(mx act lF oF (arA ps (oF v)) acc v).map f:=by
    unfold mx;rw[e1,e2];have h1:(acc.map f).any (fun x=>eC act (lF' x) (lF v)&&!(arA ps (oF v)).testBit (oF' x))=acc.any (fun x=>eC act (lF x) (lF v)&&!(arA ps (oF v)).testBit (oF x)):=by
     rw[List.any_map];refine sd (fun m hm=>?_);obtain⟨a,b⟩:=ha m hm;simp only[Function.comp,a,b]
    rw[h1];split
    ·rfl
    ·rw[Pk,KA f (fun x=>eC act (lF x) (lF v)) _ acc (fun m hm=>by rw[(ha m hm).1])];rfl
   rw[e];exact ih _ (fun m hm=>hl m (OZ _ hm)) (fun m hm=>by
    rcases Bf hm with rfl|hm
    ·exact⟨e1,e2⟩
    ·exact ha m hm)
 exact key WL [] h (fun m hm=>by cases hm)
theorem zo(ps:List PS)(fin:Nat)(EN LV:Nat->List PA)(H:List HV)(D:Nat->Bool)(r:RSt)(C:List Nat)(h:∀m∈C,(pm' (f m)).lv=(pm m).lv/\(pm' (f m)).en=(pm m).en/\ac' (f m)=ac m):jZ ps fin EN LV H D pm' ac' r (C.map f)=jZ ps fin EN LV H D pm ac r C:=by
 have h1:eo r.act pm' (C.map f)=eo r.act pm C:=by
  unfold eo;rw[List.foldl_map];exact iO (fun a m hm=>by rw[(h m hm).1])
 have h2:∀z,fA ps pm' ac' z (C.map f)=fA ps pm ac z C:=fun z=>by
  unfold fA;rw[List.foldl_map];exact iO (fun a m hm=>by unfold nE;rw[(h m hm).2.1,(h m hm).2.2])
 unfold jZ;simp only[h1,h2]
end
def pmA(row:List (Option (PM×List PA)))(o:Nat):PM:=match row[o]? with|some (some x)=>x.1|_=>⟨0,0,U.Sl.nil,.nil⟩
def acA(row:List (Option (PM×List PA)))(o:Nat):List PA:=match row[o]? with|some (some x)=>x.2|_=>[]
def r9(ps:List PS)(fin:Nat)(EN LV:Nat->List PA)(H:List HV)(D:Nat->Bool)(row:Option (List (Option (PM×List PA))))(r:RSt):RSt:=match row with
 |none=>jZ ps fin EN LV H D (pmA []) (acA []) r []
 |some row=>jZ ps fin EN LV H D (pmA row) (acA row) r (gB ps r.act (fun m=>(pmA row m).lv) (fun m=>(pmA row m).own) (dC (cA ps (row.map (Option.map (·.1.own))) ps.length) (els (inn ps r.act))))
def gK(AV:U.Sl->List PA)(p:PM):PM×List PA:=(⟨p.own,p.lv,U.Sl.nil,p.en⟩,AV p.aw)
theorem BL{ps:List PS}{fin:Nat}{EN LV:Nat->List PA}{H:List HV}{D:Nat->Bool}{M:()->Option Nat}{Lr L0:Nat->List (Option Nat)}{pmF:Nat->PM}{acF:Nat->List PA}{AV:U.Sl->List PA}{T0:()->Option (List (Option PM))}(hA:∀ev (g i m:Nat),M ev=some g->(Lr g)[i]?=some (some m)->acF m=AV (pmF m).aw)(hL:∀ev g,M ev=some g->Lr g=cA ps (L0 g) ps.length/\T0 ev=some ((L0 g).map (Option.map pmF)))(hN:∀ev,M ev=none->T0 ev=none)(hO:∀ev row,T0 ev=some row->rR row)(r:RSt)(ev:()):
  aT ps fin EN LV H D M Lr pmF acF r ev=r9 ps fin EN LV H D ((T0 ev).map (List.map (Option.map (gK AV)))) r:=by
 unfold aT gJ r9;cases hM:M ev with
 |none=>
  rw[hN ev hM];exact(zo (f:=id) ps fin EN LV H D r [] (fun m hm=>by cases hm)).symm
 |some g=>
  obtain⟨hLr,hT0⟩:=hL ev g hM;rw[hT0];have TN:=hO ev _ hT0;have Ws:∀(i m:Nat),(L0 g)[i]?=some (some m)->(pmF m).own=i:=fun i m h=>TN i (pmF m) (by rw[OF,h];rfl);have hk:(((L0 g).map (Option.map pmF)).map (Option.map (gK AV))).map (Option.map (·.1.own))=(L0 g).map (Option.map fun m=>(pmF m).own):=by
   rw[Q6,Q6];refine S4 (fun x _=>?_);cases x<;>rfl
  dsimp only[Option.map_some];rw[hk,Ad,<- hLr];have hf:∀(i j a b:Nat),(Lr g)[i]?=some (some a)->(Lr g)[j]?=some (some b)->(pmF a).own=(pmF b).own->a=b:=fun i j a b ha hb e=>by
   rw[hLr]at ha hb;obtain⟨i',ha⟩:=jc ps _ _ ha;obtain⟨j',hb⟩:=jc ps _ _ hb;rw[Ws i' a ha,Ws j' b hb]at e;rw[e,hb]at ha;cases ha
   rfl
  obtain⟨w1,w2⟩:=Gk (Lr g) (fun m=>(pmF m).own) hf (els (inn ps r.act));rw[w1];have hm:∀m∈dC (Lr g) (els (inn ps r.act)),pmA (((L0 g).map (Option.map pmF)).map (Option.map (gK AV))) (pmF m).own=(gK AV (pmF m)).1/\acA (((L0 g).map (Option.map pmF)).map (Option.map (gK AV))) (pmF m).own=acF m:=fun m hm=>by
   obtain⟨i,hi⟩:=w2 m hm;have ha:=hA ev g i m hM hi;rw[hLr]at hi;obtain⟨j,hj⟩:=jc ps _ _ hi;have e:(((L0 g).map (Option.map pmF)).map (Option.map (gK AV)))[(pmF m).own]?=some (some (gK AV (pmF m))):=by
    rw[Ws j m hj,OF,OF,hj];rfl
   unfold pmA acA;rw[e,ha];exact⟨rfl,rfl⟩
  rw[EU (f:=fun m=>(pmF m).own) ps r.act (fun m=>(pmF m).lv) (fun m=>(pmF m).own) _ _ _ (fun m h=>by rw[(hm m h).1];exact⟨rfl,rfl⟩)];refine(zo (f:=fun m=>(pmF m).own) ps fin EN LV H D r _ (fun m h=>?_)).symm;obtain⟨c1,_⟩:=eW ps r.act (fun m=>(pmF m).lv) (fun m=>(pmF m).own) (dC (Lr g) (els (inn ps r.act))) _ (Ow _);rw[Pw]at c1;have:=hm m (c1 m h);rw[this.1,this.2];exact⟨rfl,rfl,rfl⟩
theorem Fs{ps:List PS}{left:Nat}{D D':Nat->Bool}{H H':List HV}(hH:H.map (fun h=>(h.idx,h.own))=H'.map (fun h=>(h.idx,h.own)))(hD:∀k,k<H.length->D k=D' k)(r:RSt):dJ ps left D H r H.length=dJ ps left D' H' r H'.length:=by
 have hl:H.length=H'.length:=by have:=congrArg List.length hH;simpa using this
 rw[<- hl];unfold dJ;refine iO (fun r k hk=>?_);have hk:=PD.1 hk;unfold lE;have e:H[k]?.map (fun h=>(h.idx,h.own))=H'[k]?.map (fun h=>(h.idx,h.own)):=by rw[<- OF,<- OF,hH]
 rw[hD k hk];cases h1:H[k]? with
 |none=>rw[h1]at e;cases h2:H'[k]? with
  |none=>rfl
  |some y=>rw[h2]at e;cases e
 |some x=>rw[h1]at e;cases h2:H'[k]? with
  |none=>rw[h2]at e;cases e
  |some y=>
   rw[h2]at e;simp only[Option.map_some,Option.some.injEq,Prod.mk.injEq]at e;dsimp only;rw[e.1,e.2]
theorem GR{ps:List PS}{pm:Nat->PM}{ac:Nat->List PA}(hH:H.map (fun h=>(h.idx,h.own))=H'.map (fun h=>(h.idx,h.own)))(hD:∀k,k<H.length->D k=D' k)(r:RSt)(C:List Nat):jZ ps fin EN LV H D pm ac r C=jZ ps fin EN LV H' D' pm ac r C:=by
 unfold jZ;simp only[Fs hH hD]
theorem GO{ps:List PS}(hH:H.map (fun h=>(h.idx,h.own))=H'.map (fun h=>(h.idx,h.own)))(hD:∀k,k<H.length->D k=D' k)(row:Option (List (Option (PM×List PA))))(r:RSt):r9 ps fin EN LV H D row r=r9 ps fin EN LV H' D' row r:=by
 unfold r9;cases row<;>exact GR hH hD r _
def PS.e(p:PS):PS:={ p with enter:=U.Sl.nil,leave:=U.Sl.nil }
section
variable (ps:List PS)
theorem BN:dc (ps.map PS.e)=dc ps:=by funext i;unfold dc;rw[OF];cases ps[i]?<;>rfl
theorem uA:bW (ps.map PS.e)=bW ps:=by funext i;unfold bW;rw[OF];cases ps[i]?<;>rfl
theorem Ii:fm (ps.map PS.e)=fm ps:=by funext i;unfold fm;rw[OF];cases ps[i]?<;>rfl
theorem KP:lB (ps.map PS.e)=lB ps:=by funext i;unfold lB;rw[OF];cases ps[i]?<;>rfl
theorem Nh:rh (ps.map PS.e)=rh ps:=by funext i;unfold rh;rw[OF];cases ps[i]?<;>rfl
theorem Ny:arA (ps.map PS.e)=arA ps:=by funext i;unfold arA;rw[OF];cases ps[i]?<;>rfl
theorem Lc:bJ (ps.map PS.e)=bJ ps:=by funext i;unfold bJ;rw[OF];cases ps[i]?<;>rfl
theorem L7:inn (ps.map PS.e)=inn ps:=by funext s;unfold inn qW;rw[BN]
theorem I8:dE (ps.map PS.e)=dE ps:=by funext o s;unfold dE ri;rw[BN,uA,Ii]
theorem L5:dom (ps.map PS.e)=dom ps:=by funext i j;unfold dom;rw[BN,KP,Ii,OK]
theorem MC:gU (ps.map PS.e)=gU ps:=by funext o l;unfold gU;rw[uA]
theorem su:complete (ps.map PS.e)=complete ps:=by
 funext s;unfold complete j6;rw[MC]
 congr 1
 funext o i;rw[OF];cases ps[i]?<;>rfl
theorem Iz:fD (ps.map PS.e)=fD ps:=by
 funext i j;unfold fD;rw[OF,L5,su];cases ps[j]?<;>rfl
theorem Hu:enters (ps.map PS.e)=enters ps:=by funext k e;cases e<;>simp only[enters,su,I8,Nh]
theorem Hz(L:List (Option Nat)):∀k,cA (ps.map PS.e) L k=cA ps L k
 |0=>rfl
 |k+1=>by
  rw[cA,cA,Hz L k];unfold kO;rw[OF]
  rcases(cA ps L k)[k]? with _|(_|x)<;>cases ps[k]?<;>rfl
theorem M0:dL (ps.map PS.e)=dL ps:=by funext F i m;unfold dL;rw[L5,Iz]
theorem DP(fin act:Nat):∀f,atEnd (ps.map PS.e) fin act f=atEnd ps fin act f
 |0=>rfl
 |f+1=>by
  funext i;rw[atEnd,atEnd,DP fin act f,OF];cases ps[i]?<;>rfl
theorem MP:kM (ps.map PS.e)=kM ps:=by
 funext fin s i;unfold kM;simp only[List.getElem?_map,DP,List.length_map];cases ps[i]? with
 |none=>rfl
 |some p=>
  simp only[Option.map_some];show(if p.owner == -1 then _ else match Option.map PS.e ps[p.owner.toNat]? with|none=>_|some q=>_)=_;cases ps[p.owner.toNat]? with
  |none=>rfl
  |some q=>
   simp only[Option.map_some];show(if p.owner == -1 then _ else if q.owner == -1 then _ else match Option.map PS.e ps[q.owner.toNat]? with|none=>_|some q=>_)=_;cases ps[q.owner.toNat]?<;>rfl
theorem MX:lE (ps.map PS.e)=lE ps:=by
 funext l D H r k;unfold lE;cases H[k]? with
 |none=>rfl
 |some h=>
  dsimp only;rw[OF];cases ps[h.own]? with
  |none=>rfl
  |some po=>
   simp only[Option.map_some];unfold lX;rw[L7];rfl
theorem MK:iN (ps.map PS.e)=iN ps:=by
 funext fin EN r i;unfold iN;rw[MP,OF];cases ps[i]?<;>rfl
theorem sD:bZ (ps.map PS.e)=bZ ps:=by funext fin EN r l;unfold bZ;rw[MK]
theorem Ms:fA (ps.map PS.e)=fA ps:=by
 have h:nE (ps.map PS.e)=nE ps:=by funext a b c d;unfold nE;rw[Hu]
 funext a b c d;unfold fA;rw[h]
theorem Mt:jZ (ps.map PS.e)=jZ ps:=by
 funext fin EN LV H D pm ac r C;unfold jZ dJ;rw[MX,Ms,sD]
theorem Mr:r9 (ps.map PS.e)=r9 ps:=by
 funext fin EN LV H D row r;unfold r9 gB;rw[Mt,Ny,L7,OK];simp only[Hz]
end
def bare(x:MS):MS:=⟨x.kind,x.name,x.depth,x.owner,U.Sl.nil,U.Sl.nil,U.Sl.nil,U.Sl.nil⟩
theorem DF(X:List MS):∀k,a8 (X.map bare) k=(a8 X k).map PS.e
 |0=>by unfold a8;rw[OK,List.map_replicate];rfl
 |k+1=>by
  rw[a8,a8,DF X k,OF];cases X[k]? with
  |none=>rfl
  |some x=>
   show jI ((a8 X k).map PS.e) k (bare x)=(jI (a8 X k) k x).map PS.e;generalize a8 X k=ps;unfold jI;show(if x.owner == -1 then(ps.map PS.e).set k (PS.e (l7 x 0)) else match (ps.map PS.e)[x.owner.toNat]? with|none=>_|some q=>_)=_;rw[OF];by_cases h:(x.owner == -1)=true
   ·rw[OD h,OD h,Qw]
   ·rw[OB h,OB h];cases ps[x.owner.toNat]? with
    |none=>rfl
    |some q=>
     simp only[Option.map_some];rw[Qw];by_cases h2:isH x.kind=true
     ·rw[OD h2,OD (show isH (bare x).kind=true from h2)];rfl
     ·rw[OB h2,OB (show ¬isH (bare x).kind=true from h2),Qw];rfl
theorem Er(ps:List PS):∀k,cX (ps.map PS.e) k=(cX ps k).map PS.e
 |0=>rfl
 |k+1=>by
  rw[cX,cX,Er ps k,OK];generalize cX ps k=R;generalize ps.length-1-k=i;have hW:∀p:PS,gG (R.map PS.e) i p.e=gG R i p:=fun p=>by unfold gG orW;rw[uA];rfl
  unfold aX;rw[OF];cases R[i]? with
  |none=>rfl
  |some p=>
   simp only[Option.map_some,hW];show(if p.owner == -1 then _ else match (R.map PS.e)[p.owner.toNat]? with|none=>_|some q=>_)=_;rw[OF];by_cases h:(p.owner == -1)=true
   ·rw[OD h,OD h,Qw];rfl
   ·rw[OB h,OB h];cases R[p.owner.toNat]? with
    |none=>rw[Qw];rfl
    |some q=>rw[Qw,Qw];rfl
theorem I0(X:List MS):psF (X.map bare)=(psF X).map PS.e:=by unfold psF;rw[DF,Er,OK]
end Y
end
section
namespace Lg
structure Tr where
 own:Nat->Option Nat
 H:Nat->Prop
 P:Nat->Prop
 N:Nat
 lt:∀{i o},own i=some o->o<i
 noh:∀{i o},own i=some o->¬H o
 top:∀{i},¬H i->i<N
variable {t:Tr}
inductive Un(t:Tr)(k:Option Nat):Nat->Prop
 |one {i:Nat}:t.own i=k->Un t k i
 |up {i o:Nat}:t.own i=some o->Un t k o->Un t k i
def Tr.ch(t:Tr)(j:Option Nat)(c:Nat):Prop:=t.own c=j/\¬t.H c
def pj(t:Tr)(j:Option Nat):Prop:=∃p,j=some p/\t.P p
def One(t:Tr)(s:Nat->Prop)(j:Option Nat):Prop:=(∀c d,t.own c=j->t.own d=j->s c->s d->c=d)/\∀c,t.ch j c->∃d,t.own d=j/\s d
structure L(t:Tr)(f:Prop)(k:Option Nat)(s:Nat->Prop):Prop where
 un:∀i,s i->Un t k i/\¬t.H i
 up:∀i o,s i->t.own i=some o->some o=k\/s o
 c1:∀j,(j=k\/∃i,j=some i/\s i)->¬pj t j->One t s j
 c2:f->∀p c,s p->t.P p->t.ch (some p) c->s c
theorem mB{k i:Nat}(h:Un t (some k) i):k<i:=by
 induction h with
 |one h=>exact t.lt h
 |up h _ ih=>exact Nat.lt_trans ih (t.lt h)
theorem qx(h:Un t (some i) i):False:=Nat.lt_irrefl _ (mB h)
theorem iW:∀(n i:Nat),i<=n->Un t none i:=fun n=>by
 induction n with
 |zero=>
  intro i hi;cases h:t.own i with
  |none=>exact .one h
  |some o=>have:=t.lt h;omega
 |succ n ih=>
  intro i hi;cases h:t.own i with
  |none=>exact .one h
  |some o=>exact .up h (ih o (by have:=t.lt h;omega))
theorem dx{k:Option Nat}{a i:Nat}(h:Un t (some a) i)(g:Un t k a):Un t k i:=by
 induction h with
 |one h=>exact .up h g
 |up h _ ih=>exact .up h ih
theorem lj{k:Option Nat}{i o:Nat}(h:Un t k i)(g:t.own i=some o):some o=k\/Un t k o:=by
 cases h with
 |one h=>exact .inl (g.symm.trans h)
 |up h x=>rw[g]at h;cases h;exact .inr x
theorem qy{a i:Nat}(h:Un t (some a) i):∃o,t.own i=some o/\(o=a\/Un t (some a) o):=by
 cases h with
 |one h=>exact⟨a,h,.inl rfl⟩
 |up h x=>exact⟨_,h,.inr x⟩
theorem Dp{a b i:Nat}(h:Un t (some a) i)(g:Un t (some b) i):a=b\/Un t (some a) b\/Un t (some b) a:=by
 induction h with
 |one h=>
  rcases lj g h with e|e
  ·exact .inl (Pd e)
  ·exact .inr (.inr e)
 |up h x ih=>
  rcases lj g h with e|e
  ·cases e;exact .inr (.inl x)
  ·exact ih e
theorem yX{j:Option Nat}{i:Nat}(h:Un t j i):∃c,t.own c=j/\(c=i\/Un t (some c) i):=by
 induction h with
 |one h=>exact⟨_,h,.inl rfl⟩
 |up h _ ih=>
  obtain⟨c,e,g⟩:=ih
  rcases g with rfl|g
  ·exact⟨c,e,.inr (.one h)⟩
  ·exact⟨c,e,.inr (.up h g)⟩
theorem sib(h:t.own c=j)(g:t.own d=j)(x:Un t (some c) d):False:=by
 obtain⟨o,e,q⟩:=qy x;have h1:=t.lt (h.trans (g.symm.trans e))
 rcases q with rfl|q
 ·omega
 ·have:=mB q;omega
theorem Oo(h:t.own c=j)(g:t.own d=j)(x:c=u\/Un t (some c) u)(y:d=u\/Un t (some d) u):c=d:=by
 rcases x with rfl|x
 ·rcases y with rfl|y
  ·rfl
  ·exact(sib g h y).elim
 ·rcases y with rfl|y
  ·exact(sib h g x).elim
  ·rcases Dp x y with e|e|e
   ·exact e
   ·exact(sib h g e).elim
   ·exact(sib g h e).elim
theorem One.congr(h:One t s j)(e:∀c,t.own c=j->(s c↔r c)):One t r j:=
 ⟨fun c d a b x y=>h.1 c d a b ((e c a).2 x) ((e d b).2 y),fun c x=>let⟨d,a,b⟩:=h.2 c x;⟨d,a,(e d a).1 b⟩⟩
theorem L.upS{f:Prop}{k:Option Nat}{s:Nat->Prop}(h:L t f k s){a i:Nat}(x:Un t (some a) i)(hi:s i)(hk:Un t k a):s a:=by
 induction x with
 |one e=>
  rcases h.up _ _ hi e with g|g
  ·rw[<- g]at hk;exact(qx hk).elim
  ·exact g
 |up e x ih=>
  rcases h.up _ _ hi e with g|g
  ·have:=dx x hk;rw[<- g]at this;exact(qx this).elim
  ·exact ih g
theorem L.step{e:Nat->Prop}(h:L t True none s)(g:L t True k e)(hk:∀o,k=some o->s o)(hp:¬pj t k):L t True none (fun i=>(s i/\¬Un t k i)\/e i):=by
 have hn:∀i,Un t none i:=fun i=>iW i i (Ow _);have Ux:∀{j c},t.own c=j->(j=k\/∃i,j=some i/\Un t k i)->(((s c/\¬Un t k c)\/e c)↔e c):=fun{j c} a b=>⟨fun x=>x.elim (fun x=>(x.2 (by
  rcases b with rfl|⟨i,rfl,b⟩
  ·exact .one a
  ·exact .up a b)).elim) id,.inr⟩
 have Z5:∀{j c},t.own c=j->j≠k->(∀i,j=some i->¬Un t k i)->(((s c/\¬Un t k c)\/e c)↔s c):=fun{j c} a b d=>by
  have:¬Un t k c:=fun x=>by
   cases x with
   |one x=>exact b (a.symm.trans x)
   |up x y=>exact d _ (a.symm.trans x) y
  exact⟨fun x=>x.elim (·.1) (fun x=>(this (g.un c x).1).elim),fun x=>.inl ⟨x,this⟩⟩
 refine⟨fun i hi=>⟨hn i,hi.elim (fun x=>(h.un i x.1).2) (fun x=>(g.un i x).2)⟩,fun i o hi ho=>.inr ?_,fun j hj hpj=>?_,fun _ p c hs hP hc=>?_⟩
 ·rcases hi with⟨x,y⟩|x
  ·rcases h.up i o x ho with q|q
   ·cases q
   ·exact .inl ⟨q,fun z=>y (.up ho z)⟩
  ·rcases g.up i o x ho with q|q
   ·exact .inl ⟨hk o q.symm,fun z=>by rw[<- q]at z;exact qx z⟩
   ·exact .inr q
 ·by_cases ek:j=k
  ·exact(g.c1 j (.inl ek) hpj).congr fun c a=>(Ux a (.inl ek)).symm
  ·by_cases eu:∃i,j=some i/\Un t k i
   ·obtain⟨i,rfl,hu⟩:=eu;have:e i:=by
     rcases hj with q|⟨i',q,x|x⟩
     ·cases q
     ·cases q;exact(x.2 hu).elim
     ·cases q;exact x
    exact(g.c1 _ (.inr ⟨i,rfl,this⟩) hpj).congr fun c a=>(Ux a (.inr ⟨i,rfl,hu⟩)).symm
   ·refine(h.c1 j (hj.imp id fun⟨i,q,x⟩=>⟨i,q,x.elim (·.1) fun x=>(eu ⟨i,q,(g.un i x).1⟩).elim⟩) hpj).congr fun c a=>(Z5 a ek fun i q x=>eu ⟨i,q,x⟩).symm
 ·by_cases eu:Un t k p
  ·exact .inr (g.c2 trivial p c (hs.elim (fun x=>(x.2 eu).elim) id) hP hc)
  ·have ek:some p≠k:=fun q=>hp ⟨p,q.symm,hP⟩;refine(Z5 hc.1 ek fun i q=>by cases q;exact eu).2 (h.c2 trivial p c ?_ hP hc)
   exact hs.elim (·.1) fun x=>(eu (g.un p x).1).elim
theorem L.restrict(h:L t True none s)(hu:s u):L t True (some u) (fun i=>s i/\Un t (some u) i):=by
 refine⟨fun i x=>⟨x.2,(h.un i x.1).2⟩,fun i o x e=>?_,fun j hj hp=>?_,fun _ p c x hP hc=>⟨h.c2 trivial p c x.1 hP hc,.up hc.1 x.2⟩⟩
 ·rcases lj x.2 e with q|q
  ·exact .inl q
  ·exact .inr ⟨(h.up i o x.1 e).elim (fun z=>by cases z) id,q⟩
 ·have Ux:∀c,t.own c=j->Un t (some u) c:=fun c a=>by
   rcases hj with rfl|⟨i,rfl,x⟩
   ·exact .one a
   ·exact .up a x.2
  refine(h.c1 j (.inr ?_) hp).congr fun c a=>⟨fun x=>⟨x,Ux c a⟩,(·.1)⟩
  rcases hj with rfl|⟨i,rfl,x⟩
  ·exact⟨u,rfl,hu⟩
  ·exact⟨i,rfl,x.1⟩
structure Wi(t:Tr)(sel W:Nat->Nat->Prop):Prop where
 ch:∀{p c},sel p c->t.ch (some p) c
 par:∀{p c},t.P p->t.ch (some p) c->sel p c
 one:∀{p c d},¬t.P p->sel p c->sel p d->c=d
 some':∀{p c},t.ch (some p) c->∃d,sel p d
 W:∀{a i},¬t.H a->(W a i↔i=a\/∃c,sel a c/\W c i)
variable {sel W:Nat->Nat->Prop}
theorem Wi.self(h:Wi t sel W)(ha:¬t.H a):W a a:=(h.W ha).2 (.inl rfl)
theorem Wi.ext(h:Wi t sel W):∀(n a:Nat),t.N-a<=n->¬t.H a->∀i,(W a i->i≠a->∃o,sel o i/\W a o)/\∀o,sel o i->W a o->W a i:=fun n=>by
 induction n with
 |zero=>intro a hn ha;have:=t.top ha;omega
 |succ n ih=>
  intro a hn ha i;have hc:∀{c},sel a c->∀i,(W c i->i≠c->∃o,sel o i/\W c o)/\∀o,sel o i->W c o->W c i:=fun{c} x=>ih c (by have:=t.lt (h.ch x).1;have:=t.top ha;omega) (h.ch x).2;refine⟨fun x e=>?_,fun o x y=>?_⟩
  ·obtain⟨c,q,y⟩:=((h.W ha).1 x).resolve_left e;by_cases e:i=c
   ·exact⟨a,e▸q,h.self ha⟩
   ·obtain⟨o,z,y⟩:=(hc q i).1 y e;exact⟨o,z,(h.W ha).2 (.inr ⟨c,q,y⟩)⟩
  ·rcases(h.W ha).1 y with rfl|⟨c,q,y⟩
   ·exact(h.W ha).2 (.inr ⟨i,x,h.self (h.ch x).2⟩)
   ·exact(h.W ha).2 (.inr ⟨c,q,(hc q i).2 o x y⟩)
theorem Wi.from(h:Wi t sel W)(ha:¬t.H a)(x:W a i)(e:i≠a):∃o,sel o i/\W a o:=(h.ext _ a (Ow _) ha i).1 x e
theorem Wi.on(h:Wi t sel W)(ha:¬t.H a)(x:sel o i)(y:W a o):W a i:=(h.ext _ a (Ow _) ha i).2 o x y
theorem Wi.un(h:Wi t sel W){a:Nat}(ha:¬t.H a):∀(n i:Nat),i<=n->W a i->(i=a\/Un t (some a) i)/\¬t.H i:=fun n=>by
 induction n with
 |zero=>
  intro i hi x;by_cases e:i=a
  ·exact⟨.inl e,e▸ha⟩
  ·obtain⟨o,y,_⟩:=h.from ha x e;have:=t.lt (h.ch y).1;omega
 |succ n ih=>
  intro i hi x;by_cases e:i=a
  ·exact⟨.inl e,e▸ha⟩
  ·obtain⟨o,y,z⟩:=h.from ha x e;have hc:=h.ch y;refine⟨.inr ?_,hc.2⟩
   rcases(ih o (by have:=t.lt hc.1;omega) z).1 with rfl|q
   ·exact .one hc.1
   ·exact .up hc.1 q
theorem Wi.sub(h:Wi t sel W)(ha:¬t.H a)(x:W a i):(i=a\/Un t (some a) i)/\¬t.H i:=h.un ha i i (Ow _) x
theorem Wi.own(h:Wi t sel W)(ha:¬t.H a)(x:W a i)(e:i≠a)(g:t.own i=some o):sel o i/\W a o:=by
 obtain⟨o',y,z⟩:=h.from ha x e;have:=g.symm.trans (h.ch y).1;cases this
 exact⟨y,z⟩
theorem Wi.Ec(h:Wi t sel W)(ha:¬t.H a)(x:W a o)(hp:¬t.P o)(h1:∀c,t.own c=some o->s c->sel o c)(h2:∀c,W a c->c≠a->s c):One t s (some o):=
 ⟨fun c d a b x y=>h.one hp (h1 c a x) (h1 d b y),fun c y=>by
  obtain⟨d,z⟩:=h.some' y;refine⟨d,(h.ch z).1,h2 d (h.on ha z x) fun e=>?_⟩;have h3:=t.lt (h.ch z).1
  rcases(h.sub ha x).1 with q|q
  ·omega
  ·have:=mB q;omega⟩
theorem Wi.all(h:Wi t sel W)(ha:¬t.H a):L t True (some a) (fun i=>W a i/\i≠a):=by
 refine⟨fun i x=>⟨(h.sub ha x.1).1.resolve_left x.2,(h.sub ha x.1).2⟩,fun i o x e=>?_,fun j hj hp=>?_,fun _ p c x hP hc=>?_⟩
 ·obtain⟨y,z⟩:=h.own ha x.1 x.2 e;by_cases q:o=a
  ·exact .inl (by rw[q])
  ·exact .inr ⟨z,q⟩
 ·obtain⟨o,rfl,x⟩:∃o,j=some o/\W a o:=by
   rcases hj with rfl|⟨i,rfl,x⟩
   ·exact⟨a,rfl,h.self ha⟩
   ·exact⟨i,rfl,x.1⟩
  exact h.Ec ha x (fun q=>hp ⟨o,rfl,q⟩) (fun c e x=>(h.own ha x.1 x.2 e).1) fun c x y=>⟨x,y⟩
 ·have y:=h.par hP hc;exact⟨h.on ha y x.1,fun e=>by
   have h1:=t.lt hc.1;have h2:=mB ((h.sub ha x.1).1.resolve_left x.2);omega⟩
theorem Wi.first(h:Wi t sel W)(ha:¬t.H a)(e:t.own a=none):L t True none (W a):=by
 refine⟨fun i x=>⟨iW i i (Ow _),(h.sub ha x).2⟩,fun i o x q=>.inr ?_,fun j hj hp=>?_,fun _ p c x hP hc=>h.on ha (h.par hP hc) x⟩
 ·by_cases z:i=a
  ·rw[z,e]at q;cases q
  ·exact(h.own ha x z q).2
 ·rcases hj with rfl|⟨o,rfl,x⟩
  ·have:∀c,t.own c=none->W a c->c=a:=fun c q x=>by
    rcases(h.sub ha x).1 with z|z
    ·exact z
    ·obtain⟨_,z,_⟩:=qy z;rw[q]at z;cases z
   exact⟨fun c d x y z w=>(this c x z).trans (this d y w).symm,fun _ _=>⟨a,e,h.self ha⟩⟩
  ·exact h.Ec ha x (fun q=>hp ⟨o,rfl,q⟩) (fun c q y=>(h.own ha y (fun z=>by rw[z,e]at q;cases q) q).1) fun c x _=>x
theorem L.chain(h:L t False (some u) r)(hu:¬t.H u)(hk:k=some u\/Un t k u):L t False k (fun i=>(Un t k i/\(i=u\/Un t (some i) u))\/r i):=by
 have hr:∀{c i},t.own c=some i->(i=u\/Un t (some u) i)->¬(c=u\/Un t (some c) u):=fun{c i} e x y=>by
  have h1:=t.lt e
  rcases y with rfl|y
  ·exact zfk
  ·have h2:=mB y;exact zfk
 refine⟨fun i x=>?_,fun i o x e=>?_,fun j hj hp=>?_,fun x=>x.elim⟩
 ·rcases x with⟨x,y⟩|x
  ·refine⟨x,?_⟩
   rcases y with rfl|y
   ·exact hu
   ·obtain⟨c,e,_⟩:=yX y;exact t.noh e
  ·refine⟨?_,(h.un i x).2⟩
   rcases hk with rfl|hk
   ·exact(h.un i x).1
   ·exact dx (h.un i x).1 hk
 ·rcases x with⟨x,y⟩|x
  ·refine(lj x e).imp id fun q=>.inl ⟨q,.inr ?_⟩
   rcases y with rfl|y
   ·exact .one e
   ·exact dx y (.one e)
  ·rcases h.up i o x e with q|q
   ·cases q
    exact hk.imp Eq.symm fun q=>.inl ⟨q,.inl rfl⟩
   ·exact .inr (.inr q)
 ·by_cases q:∃i,j=some i/\(i=u\/Un t (some u) i)
  ·obtain⟨i,rfl,q⟩:=q;refine(h.c1 _ ?_ hp).congr fun c a=>⟨.inr,fun x=>x.elim (fun x=>(hr a q x.2).elim) id⟩;by_cases e:i=u
   ·exact .inl (by rw[e])
   ·refine .inr ⟨i,rfl,?_⟩;have q:=q.resolve_left e
    rcases hj with z|⟨i',z,x|x⟩
    ·subst z
     rcases hk with z|z
     ·cases z;exact(e rfl).elim
     ·exact(qx (dx q z)).elim
    ·cases z
     rcases x.2 with z|z
     ·exact(e z).elim
     ·exact(qx (dx z q)).elim
    ·cases z;exact x
  ·have hju:Un t j u/\(j=k\/∃i,j=some i/\Un t k i):=by
    rcases hj with rfl|⟨i,rfl,x|x⟩
    ·exact⟨hk.resolve_left fun e=>q ⟨u,e,.inl rfl⟩,.inl rfl⟩
    ·exact⟨x.2.resolve_left fun e=>q ⟨i,rfl,.inl e⟩,.inr ⟨i,rfl,x.1⟩⟩
    ·exact(q ⟨i,rfl,.inr (h.un i x).1⟩).elim
   obtain⟨c,hc,hcu⟩:=yX hju.1;have hm:∀d,t.own d=j->((Un t k d/\(d=u\/Un t (some d) u))\/r d)->d=u\/Un t (some d) u:=fun d e x=>x.elim (·.2) fun x=>by
    obtain⟨o,e2,z⟩:=qy (h.un d x).1;exact(q ⟨o,e.symm.trans e2,z⟩).elim
   refine⟨fun a b x y z w=>Oo x y (hm a x z) (hm b y w),fun _ _=>⟨c,hc,.inl ⟨?_,hcu⟩⟩⟩
   rcases hju.2 with rfl|⟨i,rfl,z⟩
   ·exact .one hc
   ·exact .up hc z
theorem Wi.kept(h:Wi t sel W){A kv:Nat->Prop}(hA:L t True (some u) A)(hs:∀a,kv a->A a)(Wm:∀a b,kv a->kv b->¬Un t (some a) b)(TU:∃a,kv a):L t False (some u) (fun i=>∃a,kv a/\(W a i\/(Un t (some i) a/\Un t (some u) i))):=by
 have hu:∀{a},kv a->Un t (some u) a/\¬t.H a:=fun x=>hA.un _ (hs _ x);have ha:∀{a i},kv a->Un t (some i) a->Un t (some u) i->A i:=fun x y z=>hA.upS y (hs _ x) z;have hm:∀{c o},t.own c=some o->(∀a,kv a->¬(o=a\/Un t (some a) o))->(∃a,kv a/\(W a c\/(Un t (some c) a/\Un t (some u) c)))->A c:=fun{c o} e hn ⟨a,x,y⟩=>by
  rcases y with y|y
  ·rcases(h.sub (hu x).2 y).1 with rfl|z
   ·exact hs _ x
   ·obtain⟨o',e',z⟩:=qy z;rw[e]at e';cases e'
    exact(hn a x z).elim
  ·exact ha x y.1 y.2
 have ht:∀{a j},kv a->Un t j a->(∀c,t.own c=j->Un t (some u) c)->∃d,t.own d=j/\∃a,kv a/\(W a d\/(Un t (some d) a/\Un t (some u) d)):=fun{a j} x y z=>by
  obtain⟨c,e,q⟩:=yX y;refine⟨c,e,a,x,?_⟩
  rcases q with rfl|q
  ·exact .inl (h.self (hu x).2)
  ·exact .inr ⟨q,z c e⟩
 refine⟨fun i ⟨a,x,y⟩=>?_,fun i o ⟨a,x,y⟩ e=>?_,fun j hj hp=>?_,fun x=>x.elim⟩
 ·rcases y with y|y
  ·have:=h.sub (hu x).2 y;refine⟨?_,this.2⟩
   rcases this.1 with rfl|z
   ·exact(hu x).1
   ·exact dx z (hu x).1
  ·exact⟨y.2,(hA.un i (ha x y.1 y.2)).2⟩
 ·rcases y with y|y
  ·by_cases q:i=a
   ·subst q;exact(lj (hu x).1 e).imp id fun z=>⟨i,x,.inr ⟨.one e,z⟩⟩
   ·exact .inr ⟨a,x,.inl (h.own (hu x).2 y q e).2⟩
  ·exact(lj y.2 e).imp id fun z=>⟨a,x,.inr ⟨dx y.1 (.one e),z⟩⟩
 ·obtain⟨o,rfl⟩:∃o,j=some o:=by
   rcases hj with rfl|⟨i,rfl,_⟩<;>exact⟨_,rfl⟩
  have Ux:∀c,t.own c=some o->Un t (some u) c:=fun c e=>by
   rcases hj with z|⟨i,z,a,x,y⟩
   ·exact .one (by rw[e,z])
   ·cases z
    refine .up e ?_
    rcases y with y|y
    ·rcases(h.sub (hu x).2 y).1 with rfl|z
     ·exact(hu x).1
     ·exact dx z (hu x).1
    ·exact y.2
  by_cases q:∃a,kv a/\(o=a\/Un t (some a) o)
  ·obtain⟨a,x,q⟩:=q;have hw:W a o:=by
    rcases hj with z|⟨i,z,b,y,w⟩
    ·cases z
     have h1:=mB (hu x).1
     rcases q with q|q
     ·omega
     ·have:=mB q;omega
    ·cases z
     rcases w with w|w
     ·rcases q with rfl|q
      ·exact h.self (hu x).2
      ·rcases(h.sub (hu y).2 w).1 with rfl|z
       ·exact(Wm a _ x y q).elim
       ·rcases Dp q z with rfl|e|e
        ·exact w
        ·exact(Wm a b x y e).elim
        ·exact(Wm b a y x e).elim
     ·refine(Wm a b x y ?_).elim
      rcases q with rfl|q
      ·exact w.1
      ·exact dx w.1 q
   refine h.Ec (hu x).2 hw (fun z=>hp ⟨o,rfl,z⟩) (fun c e ⟨b,y,w⟩=>?_) fun c w _=>⟨a,x,.inl w⟩;have UM:∀{b},kv b->¬(c=b\/Un t (some c) b):=fun{b} y z=>Wm a b x y (by
    have:Un t (some a) c:=by
     rcases q with rfl|q
     ·exact .one e
     ·exact .up e q
    rcases z with rfl|z
    ·exact this
    ·exact dx z this)
   rcases w with w|w
   ·exact(h.own (hu y).2 w (fun z=>UM y (.inl z)) e).1
   ·exact(UM y (.inr w.1)).elim
  ·have hn:∀a,kv a->¬(o=a\/Un t (some a) o):=fun a x y=>q ⟨a,x,y⟩;have Ze:some o=some u\/∃i,some o=some i/\A i:=by
    rcases hj with z|⟨i,z,a,x,y⟩
    ·exact .inl z
    ·cases z
     refine .inr ⟨o,rfl,?_⟩
     rcases y with y|y
     ·exact zeh
     ·exact ha x y.1 y.2
   refine⟨fun c d e g x y=>(hA.c1 _ Ze hp).1 c d e g (hm e hn x) (hm g hn y),fun c hc=>?_⟩
   rcases hj with z|⟨i,z,a,x,y⟩
   ·cases z
    obtain⟨a,x⟩:=TU;exact ht x (hu x).1 Ux
   ·cases z
    rcases y with y|y
    ·exact zeh
    ·exact ht x y.1 Ux
def gr(t:Tr)(s:Nat->Prop)(c:Nat):Prop:=∃p,s p/\t.P p/\t.ch (some p) c/\¬s c
theorem Wi.apart(h:Wi t sel W)(g:L t False k s)(x:gr t s c)(y:W c i):¬s i/\Un t k i:=by
 obtain⟨p,x1,_,x2,x3⟩:=x;have hk:Un t k c:=.up x2.1 (g.un p x1).1
 rcases(h.sub x2.2 y).1 with rfl|z
 ·exact⟨x3,hk⟩
 ·exact⟨fun q=>x3 (g.upS z q hk),dx z hk⟩
theorem Wi.full(h:Wi t sel W)(g:L t False k s):L t True k (fun i=>s i\/∃c,gr t s c/\W c i):=by
 have hH:∀{c},gr t s c->¬t.H c:=fun⟨_,_,_,x,_⟩=>x.2;have hc:∀{c d i j:Nat},gr t s c->W c i->t.own j=some i->gr t s d->W d j->sel i j:=fun{c d i j} x y e z w=>by
  refine(h.own (hH z) w (fun q=>?_) e).1;subst q;obtain⟨p,p1,_,p2,_⟩:=z;cases e.symm.trans p2.1
  exact(h.apart g x y).1 p1
 refine⟨fun i x=>?_,fun i o x e=>?_,fun j hj hp=>?_,fun _ p c x hP hq=>?_⟩
 ·rcases x with x|⟨c,x,y⟩
  ·exact g.un i x
  ·exact⟨(h.apart g x y).2,(h.sub (hH x) y).2⟩
 ·rcases x with x|⟨c,x,y⟩
  ·exact(g.up i o x e).imp id .inl
  ·by_cases q:i=c
   ·subst q;obtain⟨p,p1,_,p2,_⟩:=x;cases e.symm.trans p2.1
    exact .inr (.inl p1)
   ·exact .inr (.inr ⟨c,x,(h.own (hH x) y q e).2⟩)
 ·by_cases q:∃c i,gr t s c/\j=some i/\W c i
  ·obtain⟨c,i,x,rfl,y⟩:=q;refine h.Ec (hH x) y (fun z=>hp ⟨i,rfl,z⟩) (fun d e z=>?_) fun d z _=>.inr ⟨c,x,z⟩
   rcases z with z|⟨c',z,w⟩
   ·rcases g.up d i z e with q|q
    ·have:=(h.apart g x y).2;rw[<- q]at this;exact(qx this).elim
    ·exact((h.apart g x y).1 q).elim
   ·exact hc x y e z w
  ·refine(g.c1 j ?_ hp).congr fun c e=>⟨.inl,fun x=>x.elim id fun⟨d,x,y⟩=>?_⟩
   ·rcases hj with rfl|⟨i,rfl,x|⟨c,x,y⟩⟩
    ·exact .inl rfl
    ·exact .inr ⟨i,rfl,x⟩
    ·exact(q ⟨c,i,x,rfl,y⟩).elim
   ·by_cases z:c=d
    ·subst z;obtain⟨p,_,p1,p2,_⟩:=x;exact(hp ⟨p,e.symm.trans p2.1,p1⟩).elim
    ·obtain⟨o,z,w⟩:=h.from (hH x) y z;exact(q ⟨d,o,x,e.symm.trans (h.ch z).1,w⟩).elim
 ·rcases x with x|⟨d,x,y⟩
  ·by_cases z:s c
   ·exact .inl z
   ·exact .inr ⟨c,⟨p,x,hP,hq,z⟩,h.self hq.2⟩
  ·exact .inr ⟨d,x,h.on (hH x) (h.par hP hq) y⟩
end Lg
end
section
open Go.RowKit Go.Proofs Go.Shelf
namespace Y
abbrev ju(X:List MS):Prop:=∀(i:Nat) (x:MS),X[i]?=some x->x.owner=-1\/∃o:Nat,x.owner=o/\o<i
theorem yR{ps:List PS}(hp:ps[i]?=some p)(ho:p.owner=-1\/∃o:Nat,p.owner=o/\o<i)(a:Nat):(aX ps i)[a]?=if a=i then some { p with wth:=gG ps i p } else if p.owner=(a:Int) then ps[a]?.map (fun q=>{ q with inside:=q.inside|||(p.inside|||2 ^ i) }) else ps[a]?:=by
 have Vm:=(Oz.1 hp).1;unfold aX;rw[hp];dsimp only
 rcases ho with ho|⟨o,ho,hoi⟩
 ·rw[OD zaD];by_cases e:a=i
  ·rw[OD e,e,OR Vm]
  ·rw[OB e,OB zaa,OU (fun h=>e h.symm)]
 ·have Wo:p.owner.toNat=o:=zaD;have hq:ps[o]?=some ps[o]:=Ou zaa;rw[OB (by rw[ho];simp),Wo,hq];dsimp only;by_cases e:a=i
  ·rw[OD e,e,OU zaa,OR Vm]
  ·rw[OB e];by_cases e2:o=a
   ·subst e2;rw[OD ho,OR zae,hq];rfl
   ·rw[OB zaa,OU e2,OU (fun h=>e h.symm)]
theorem wm{ps qs:List PS}:∀(l:List Nat) (o:Nat),(∀k∈l,bW ps k=bW qs k)->orW ps o l=orW qs o l
 |[],_,_=>rfl
 |k::l,o,h=>by
  show orW ps (o|||bW ps k) l=orW qs (o|||bW qs k) l;rw[h k (O1 ..)];exact wm l _ (fun x hx=>h x (OZ _ hx))
theorem ug{ps qs:List PS}{q:PS}(h1:p.kind=q.kind)(h2:p.parts=q.parts)(h:∀k∈els p.parts,bW ps k=bW qs k):gG ps i p=gG qs i q:=by
 unfold gG;rw[<- h1,<- h2];apply wm
 intro k hk;split at hk
 ·exact h k (Qz hk)
 ·exact h k hk
structure Fx where
 kind:Int
 owner:Int
 parts:Nat
 around:Nat
def PS.fx(p:PS):Fx:=⟨p.kind,p.owner,p.parts,p.around⟩
structure zc(A G:List PS)(m:Nat):Prop where
 fx:∀a:Nat,G[a]?.map PS.fx=A[a]?.map PS.fx
 wth:∀(i:Nat) (p:PS),m<=i->G[i]?=some p->p.wth=gG G i p
 ins:∀(i:Nat) (p:PS),G[i]?=some p->∀j,p.inside.testBit j=true↔∃(c:Nat) (q:PS),m<=c/\G[c]?=some q/\q.owner=(i:Int)/\(j=c\/q.inside.testBit j=true)
theorem zc.step{G:List PS}{m:Nat}(h:zc A G (m+1))(hm:m<G.length)(how:∀(i:Nat) (p:PS),G[i]?=some p->p.owner=-1\/∃o:Nat,p.owner=o/\o<i)(We:∀(i:Nat) (p:PS),G[i]?=some p->∀j∈els p.parts,i<j):zc A (aX G m) m:=by
 obtain⟨p,hp⟩:∃p,G[m]?=some p:=⟨_,Ou hm⟩;have hom:=how m p hp;have hg:=yR hp hom;have Zz:∀a,m<a->(aX G m)[a]?=G[a]?:=fun a ha=>by
  rw[hg a,OB zaa,OB (by rcases hom with e|⟨o,e,_⟩<;>omega)]
 have hw:∀k,m<k->bW (aX G m) k=bW G k:=fun k hk=>by unfold bW;rw[Zz k hk]
 have XB:(aX G m)[m]?=some { p with wth:=gG G m p }:=by rw[hg m,OD rfl]
 refine⟨fun a=>?_,fun i q hi hq=>?_,fun i q hq j=>?_⟩
 ·rw[<- h.fx a,hg a];split
  ·rename_i e;subst e;rw[hp];rfl
  ·split
   ·cases G[a]?<;>rfl
   ·rfl
 ·by_cases e:i=m
  ·subst e;rw[XB]at hq;cases hq
   exact ug rfl rfl (fun k hk=>(hw k (We i p hp k hk)).symm)
  ·rw[Zz i zaa]at hq;rw[h.wth i q zaa hq];exact ug rfl rfl (fun k hk=>(hw k (by have:=We i q hq k hk;omega)).symm)
 ·have Ux:∀(c:Nat) (r:PS),m<=c->(aX G m)[c]?=some r->∃r',G[c]?=some r'/\r.owner=r'.owner/\r.inside=r'.inside:=fun c r hc hr=>by
   by_cases e:c=m
   ·subst e;rw[XB]at hr;cases hr
    exact⟨p,hp,rfl,rfl⟩
   ·rw[Zz c zaa]at hr;exact⟨r,hr,rfl,rfl⟩
  have hni:∀(c:Nat) (r':PS),m<=c->G[c]?=some r'->∃r,(aX G m)[c]?=some r/\r.owner=r'.owner/\r.inside=r'.inside:=fun c r' hc hr=>by
   by_cases e:c=m
   ·subst e;rw[hp]at hr;cases hr
    exact⟨_,XB,rfl,rfl⟩
   ·exact⟨r',by rw[Zz c zaa];exact hr,rfl,rfl⟩
  have key:(∃(c:Nat) (q:PS),m<=c/\(aX G m)[c]?=some q/\q.owner=(i:Int)/\(j=c\/q.inside.testBit j=true))↔(∃(c:Nat) (q:PS),m<=c/\G[c]?=some q/\q.owner=(i:Int)/\(j=c\/q.inside.testBit j=true)):=by
   constructor
   ·rintro⟨c,r,h1,h2,h3,h4⟩;obtain⟨r',e1,e2,e3⟩:=Ux c r h1 h2;exact⟨c,r',h1,e1,by rw[<- e2];exact h3,by rw[<- e3];exact h4⟩
   ·rintro⟨c,r,h1,h2,h3,h4⟩;obtain⟨r',e1,e2,e3⟩:=hni c r h1 h2;exact⟨c,r',h1,e1,by rw[e2];exact h3,by rw[e3];exact h4⟩
  rw[key];have hsp:(∃(c:Nat) (q:PS),m<=c/\G[c]?=some q/\q.owner=(i:Int)/\(j=c\/q.inside.testBit j=true))↔(p.owner=(i:Int)/\(j=m\/p.inside.testBit j=true))\/(∃(c:Nat) (q:PS),m+1<=c/\G[c]?=some q/\q.owner=(i:Int)/\(j=c\/q.inside.testBit j=true)):=by
   constructor
   ·rintro⟨c,r,h1,h2,h3,h4⟩;by_cases e:c=m
    ·subst e;rw[hp]at h2;cases h2
     exact .inl ⟨h3,h4⟩
    ·exact .inr ⟨c,r,zaa,h2,h3,h4⟩
   ·rintro(⟨h3,h4⟩|⟨c,r,h1,h2,h3,h4⟩)
    ·exact⟨m,p,Ow _,hp,h3,h4⟩
    ·exact⟨c,r,zaa,h2,h3,h4⟩
  rw[hsp];rw[hg i]at hq;split at hq
  ·rename_i e;subst e;cases hq
   rw[show({ p with wth:=gG G i p }:PS).inside=p.inside from rfl,h.ins i p hp j];constructor
   ·exact .inr
   ·rintro(⟨h3,_⟩|h)
    ·exfalso;rcases hom with e|⟨o,e,_⟩<;>omega
    ·exact h
  ·split at hq
   ·rename_i e2;cases hr:G[i]? with
    |none=>rw[hr]at hq;cases hq
    |some r=>
     rw[hr]at hq;cases hq
     show(r.inside|||(p.inside|||2 ^ m)).testBit j=true↔_;rw[Rs,Rs,Rb,Rb,h.ins i r hr j,QG];constructor
     ·rintro(h|h|h)
      ·exact .inr h
      ·exact .inl ⟨e2,.inr h⟩
      ·exact .inl ⟨e2,.inl (by have:=QL h;omega)⟩
     ·rintro(⟨_,h|h⟩|h)
      ·exact .inr (.inr (by rw[h];exact Pe rfl))
      ·exact .inr (.inl h)
      ·exact .inl h
   ·rename_i e2;rw[h.ins i q hq j];constructor
    ·exact .inr
    ·rintro(⟨h3,_⟩|h)
     ·exact absurd h3 e2
     ·exact h
theorem Ga{X:List MS}(hO:Ord X X.length A)(hl:A.length=X.length)(Uv:ju X)(k:Nat):(∀(i:Nat) (p:PS),(cX A k)[i]?=some p->p.owner=-1\/∃o:Nat,p.owner=o/\o<i)/\∀(i:Nat) (p:PS),(cX A k)[i]?=some p->∀j∈els p.parts,i<j:=by
 have h:=qu hO k;have WG:=ku A k;refine⟨fun i p hp=>?_,fun i p hp j hj=>(h.part i p hp j hj).1⟩;have hi:i<X.length:=by have:=(Oz.1 hp).1;omega
 obtain⟨x,hx⟩:∃x,X[i]?=some x:=⟨_,Ou hi⟩;rw[(h.own i p x hi hp hx).1];exact Uv i x hx
theorem A9{X:List MS}{A:List PS}(hO:Ord X X.length A)(hl:A.length=X.length)(Uv:ju X)(hz:∀(i:Nat) (p:PS),A[i]?=some p->p.inside=0):∀k,k<=A.length->zc A (cX A k) (A.length-k)
 | 0,_=>⟨fun _=>rfl,fun i p hi hp=>by have:=(Oz.1 hp).1;have:(cX A 0).length=A.length:=rfl;omega,fun i p hp j=>by
  rw[hz i p hp];simp only[Nat.zero_testBit,Bool.false_eq_true,false_iff];rintro⟨c,q,h1,h2,_⟩;have:=(Oz.1 h2).1;have:(cX A 0).length=A.length:=rfl;omega⟩
 |k+1,hk=>by
  have ih:=A9 hO hl Uv hz k zaa;obtain⟨h1,h2⟩:=Ga hO hl Uv k;have WG:=ku A k;rw[show A.length-k=(A.length-(k+1))+1 by omega]at ih;rw[cX,show A.length-1-k=A.length-(k+1) by omega];exact ih.step zaa h1 h2
theorem r8{X:List MS}:∀(k:Nat) (i:Nat) (p:PS),(a8 X k)[i]?=some p->p.inside=0
 |0,i,p,h=>by
  have:p=zPS:=Qs (OG h);rw[this];rfl
 |k+1,i,p,h=>by
  have ih:=r8 (X:=X) k;have T4:∀(qs:List PS) (c:Nat) (y:PS),(∀(i:Nat) (p:PS),qs[i]?=some p->p.inside=0)->y.inside=0->∀(i:Nat) (p:PS),(qs.set c y)[i]?=some p->p.inside=0:=fun qs c y h1 h2 i p hp=>by
   by_cases e:c=i
   ·subst e;by_cases hl:c<qs.length
    ·rw[OR hl]at hp;cases hp
     exact h2
    ·rw[OV zae]at hp;cases hp
   ·rw[OU e]at hp;exact h1 i p hp
  rw[a8]at h;split at h
  ·unfold jI at h;split at h
   ·exact T4 _ _ _ ih rfl i p h
   ·split at h
    ·exact ih i p h
    ·rename_i q hq;refine T4 _ _ _ ?_ rfl i p h;split
     ·exact ih
     ·exact T4 _ _ _ ih (ih _ q hq)
  ·exact ih i p h
theorem rJ(X:List MS)(Uv:ju X):zc (a8 X X.length) (psF X) 0:=by
 have hl:=cV X X.length;have h:=A9 (pQ X Uv _ (Ow _)) hl Uv (r8 X.length) X.length zaa;rw[hl,Ri]at h;exact h
theorem Lk(X:List MS)(Uv:ju X)(hp:(psF X)[i]?=some p):p.wth=gG (psF X) i p:=(rJ X Uv).wth i p (OL _) hp
theorem C2(X:List MS)(Uv:ju X)(hp:(psF X)[i]?=some p)(j:Nat):p.inside.testBit j=true↔∃(c:Nat) (q:PS),(psF X)[c]?=some q/\q.owner=(i:Int)/\(j=c\/q.inside.testBit j=true):=by
 rw[(rJ X Uv).ins i p hp j];constructor
 ·rintro⟨c,q,_,h⟩;exact⟨c,q,h⟩
 ·rintro⟨c,q,h⟩;exact⟨c,q,OL _,h⟩
structure DB(X:List MS)(A:List PS)(k:Nat):Prop where
 top:∀(i:Nat) (p:PS) (x:MS),i<k->A[i]?=some p->X[i]?=some x->x.owner=-1->p.around=0
 arn:∀(i:Nat) (p:PS) (x:MS) (o:Nat),i<k->A[i]?=some p->X[i]?=some x->x.owner=(o:Int)->p.around=dc A o|||2 ^ o
 prt:∀(i:Nat) (p:PS),A[i]?=some p->∀j,p.parts.testBit j=true↔j<k/\∃y,X[j]?=some y/\y.owner=(i:Int)/\isH y.kind=false
theorem od{X:List MS}(Uv:ju X):∀k,k<=X.length->DB X (a8 X k) k
 | 0,_=>⟨fun i p x hi=>zaa,fun i p x o hi=>zaa,fun i p hp j=>by
  have:p=zPS:=Qs (OG hp);subst this;simp only[show zPS.parts=0 from rfl,Nat.zero_testBit,Bool.false_eq_true,false_iff];rintro⟨h,_⟩;omega⟩
 |k+1,hk=>by
  have ih:=od Uv k zaa;have hl:=cV X k;obtain⟨x,hx⟩:∃x,X[k]?=some x:=⟨_,Ou zaa⟩;rw[a8,hx];dsimp only;generalize a8 X k=A at *;have Yp:∀(j:Nat) (y:MS),j<k+1->X[j]?=some y->y.owner≠(k:Int):=fun j y hj hy e=>by
   rcases Uv j y hy with h|⟨o,h,ho⟩<;>omega
  rcases Uv k x hx with ho|⟨o,ho,Uw⟩
  ·have hS:jI A k x=A.set k (l7 x 0):=by unfold jI;rw[OD zaD]
   rw[hS];have V8:∀a,a≠k->(A.set k (l7 x 0))[a]?=A[a]?:=fun a ha=>OU (fun h=>ha h.symm);have UG:(A.set k (l7 x 0))[k]?=some (l7 x 0):=OR zaa;refine⟨fun i p y hi hp hy h1=>?_,fun i p y o hi hp hy h1=>?_,fun i p hp j=>?_⟩
   ·by_cases e:i=k
    ·subst e;rw[UG]at hp;cases hp
     rfl
    ·rw[V8 i e]at hp;exact ih.top i p y zaa hp hy h1
   ·by_cases e:i=k
    ·exact zfE
    ·rw[V8 i e]at hp;rw[ih.arn i p y o zaa hp hy h1];have:o≠k:=by rcases Uv i y hy with h|⟨o',h,ho'⟩<;>omega
     unfold dc;rw[V8 o this]
   ·by_cases e:i=k
    ·subst e;rw[UG]at hp;cases hp
     simp only[show(l7 x 0).parts=0 from rfl,Nat.zero_testBit,Bool.false_eq_true,false_iff];exact zfl
    ·rw[V8 i e]at hp;rw[ih.prt i p hp j];constructor
     ·rintro⟨h1,h2⟩;exact⟨zaa,h2⟩
     ·rintro⟨h1,y,h2,h3,h4⟩;have:j≠k:=fun e=>by
       subst e;rw[hx]at h2;cases h2
       omega
      exact⟨zaa,y,h2,h3,h4⟩
  ·have Wo:x.owner.toNat=o:=zaD;obtain⟨q,hq⟩:∃q,A[o]?=some q:=⟨_,Ou zaa⟩;have haq:dc A o=q.around:=by unfold dc;rw[hq]
   have hS:jI A k x=(if isH x.kind then A else A.set o { q with parts:=q.parts|||2 ^ k }).set k (l7 x (q.around|||2 ^ o)):=by
    unfold jI;rw[OB (by rw[ho];simp),Wo,hq]
   rw[hS];have UG:((if isH x.kind then A else A.set o { q with parts:=q.parts|||2 ^ k }).set k (l7 x (q.around|||2 ^ o)))[k]?=some (l7 x (q.around|||2 ^ o)):=OR (by split<;>(try rw[ON])<;>omega);have V8:∀a r,a≠k->((if isH x.kind then A else A.set o { q with parts:=q.parts|||2 ^ k }).set k (l7 x (q.around|||2 ^ o)))[a]?=some r->∃r',A[a]?=some r'/\r.around=r'.around/\r.parts=if a=o/\isH x.kind=false then r'.parts|||2 ^ k else r'.parts:=fun a r ha hr=>by
    rw[OU (fun h=>ha h.symm)]at hr;split at hr
    ·rename_i hh;exact⟨r,hr,rfl,by rw[OB (by rw[hh];simp)]⟩
    ·rename_i hh;by_cases e:o=a
     ·subst e;rw[OR zaa]at hr;cases hr
      exact⟨q,hq,rfl,by rw[OD ⟨rfl,za6⟩]⟩
     ·rw[OU e]at hr;exact⟨r,hr,rfl,by rw[OB (fun h=>e h.1.symm)]⟩
   have har:∀a,a≠k->dc ((if isH x.kind then A else A.set o { q with parts:=q.parts|||2 ^ k }).set k (l7 x (q.around|||2 ^ o))) a=dc A a:=fun a ha=>by
    unfold dc;rw[OU (fun h=>ha h.symm)];split
    ·rename_i r hr;split at hr
     ·rw[hr]
     ·by_cases e:o=a
      ·subst e;rw[OR zaa]at hr;cases hr
       rw[hq]
      ·rw[OU e]at hr;rw[hr]
    ·rename_i hr;split at hr
     ·rw[hr]
     ·rw[QF,ON]at hr;rw[OV hr]
   refine⟨fun i p y hi hp hy h1=>?_,fun i p y o' hi hp hy h1=>?_,fun i p hp j=>?_⟩
   ·by_cases e:i=k
    ·exact zfE
    ·obtain⟨r',e1,e2,_⟩:=V8 i p e hp;rw[e2];exact ih.top i r' y zaa e1 hy h1
   ·by_cases e:i=k
    ·subst e;rw[hx]at hy;cases hy
     have:o'=o:=zaa;subst this;rw[UG]at hp;cases hp
     rw[har o' zaa,haq];rfl
    ·obtain⟨r',e1,e2,_⟩:=V8 i p e hp;have:o'≠k:=by rcases Uv i y hy with h|⟨o2,h,ho'⟩<;>omega
     rw[e2,ih.arn i r' y o' zaa e1 hy h1,har o' this]
   ·by_cases e:i=k
    ·subst e;rw[UG]at hp;cases hp
     simp only[show(l7 x (q.around|||2 ^ o)).parts=0 from rfl,Nat.zero_testBit,Bool.false_eq_true,false_iff];exact zfl
    ·obtain⟨r',e1,_,e3⟩:=V8 i p e hp;rw[e3];have ihp:=ih.prt i r' e1 j;split
     ·rename_i hh;obtain⟨rfl,hh⟩:=hh;rw[Rs,Rb,ihp,QG];constructor
      ·rintro(⟨h1,h2⟩|h)
       ·exact⟨zaa,h2⟩
       ·have:=QL h;subst this;exact⟨zaa,x,hx,ho,hh⟩
      ·rintro⟨h1,y,h2,h3,h4⟩;by_cases e2:j=k
       ·exact .inr (by rw[e2];exact Pe rfl)
       ·exact .inl ⟨zaa,y,h2,h3,h4⟩
     ·rename_i hh;rw[ihp];constructor
      ·rintro⟨h1,h2⟩;exact⟨zaa,h2⟩
      ·rintro⟨h1,y,h2,h3,h4⟩;have:j≠k:=fun e=>by
        subst e;rw[hx]at h2;cases h2
        exact hh ⟨zaa,h4⟩
       exact⟨zaa,y,h2,h3,h4⟩
theorem I1(X:List MS)(Uv:ju X){i:Nat}{p:PS}(hp:(psF X)[i]?=some p):∃q,(a8 X X.length)[i]?=some q/\p.parts=q.parts/\p.around=q.around:=by
 have h:=(rJ X Uv).fx i;rw[hp]at h;cases hq:(a8 X X.length)[i]? with
 |none=>rw[hq]at h;cases h
 |some q=>
  rw[hq]at h;have h:=Pd h;exact⟨q,rfl,congrArg Fx.parts h,congrArg Fx.around h⟩
theorem tF(X:List MS)(Uv:ju X)(i:Nat):dc (psF X) i=dc (a8 X X.length) i:=by
 have h:=(rJ X Uv).fx i;unfold dc;cases hp:(psF X)[i]? with
 |none=>
  rw[hp]at h;cases hq:(a8 X X.length)[i]? with
  |none=>rfl
  |some q=>rw[hq]at h;cases h
 |some p=>
  obtain⟨q,hq,_,e⟩:=I1 X Uv hp;rw[hq];exact e
theorem Lj(X:List MS)(Uv:ju X)(hx:X[i]?=some x)(h:x.owner=-1):dc (psF X) i=0:=by
 rw[tF X Uv];have hi:=(Oz.1 hx).1;obtain⟨p,hp⟩:∃p,(a8 X X.length)[i]?=some p:=⟨_,Ou (by rw[cV];exact hi)⟩;have:=(od Uv X.length (Ow _)).top i p x hi hp hx h;unfold dc;rw[hp];exact this
theorem C1(X:List MS)(Uv:ju X)(hx:X[i]?=some x)(h:x.owner=(o:Int)):dc (psF X) i=dc (psF X) o|||2 ^ o:=by
 rw[tF X Uv,tF X Uv];have hi:=(Oz.1 hx).1;obtain⟨p,hp⟩:∃p,(a8 X X.length)[i]?=some p:=⟨_,Ou (by rw[cV];exact hi)⟩;have:=(od Uv X.length (Ow _)).arn i p x o hi hp hx h
 conv=>lhs;unfold dc
 rw[hp];exact this
theorem FR(X:List MS)(Uv:ju X)(hp:(psF X)[i]?=some p)(j:Nat):p.parts.testBit j=true↔∃y,X[j]?=some y/\y.owner=(i:Int)/\isH y.kind=false:=by
 obtain⟨q,hq,e,_⟩:=I1 X Uv hp;rw[e,(od Uv X.length (Ow _)).prt i q hq j];constructor
 ·rintro⟨_,h⟩;exact h
 ·rintro⟨y,h,k⟩;exact⟨(Oz.1 h).1,y,h,k⟩
end Y
end
section
open Go.RowKit Go.Proofs Go.Shelf Lg
namespace Y
theorem Ed{ps:List PS}{i:Nat}:∀(l:List Nat) (o:Nat),(orW ps o l).testBit i=true↔o.testBit i=true\/∃j∈l,(bW ps j).testBit i=true
 |[],o=>by simp[orW]
 |k::l,o=>by
  show(orW ps (o|||bW ps k) l).testBit i=true↔_;rw[Ed l,Rs,Rb];exact ze7
theorem yu{k:Nat}(ha:a<4294967296):(4294967295-a).testBit k=(decide (k<32)&&!a.testBit k):=by
 rw[show 4294967295-a=2 ^ 32-(a+1) by omega];exact R5 ha k
def Bt(s i:Nat):Prop:=s.testBit i=true
theorem jx:Bt (a|||b) i↔Bt a i\/Bt b i:=by unfold Bt;rw[Rs,Rb]
theorem fB:Bt (a&&&b) i↔Bt a i/\Bt b i:=by unfold Bt;rw[Ry,O2]
theorem pT:Bt (2 ^ a) i↔i=a:=by unfold Bt;rw[QG,RU];exact eq_comm
theorem L4{N s:Nat}(h:s<2 ^ N)(x:Bt s i):i<N:=Qf fun e=>by
 unfold Bt at x;rw[RQ (OS h (PX zac zaa))]at x;cases x
structure uE(X:List MS):Prop where
 own:ju X
 leaf:∀(i:Nat) (x:MS),X[i]?=some x->x.kind=0\/x.kind=1\/∀(j:Nat) (y:MS),X[j]?=some y->y.owner≠(i:Int)
 his:∀(i:Nat) (x:MS),X[i]?=some x->isH x.kind=true->x.owner≠-1
 len:X.length<=24
def js(X:List MS)(i:Nat):Option Nat:=X[i]?.bind fun x=>if x.owner=-1 then none else some x.owner.toNat
variable {X:List MS}
theorem dM(h:ju X){i o:Nat}:js X i=some o↔∃x,X[i]?=some x/\x.owner=(o:Int):=by
 unfold js;cases e:X[i]? with
 |none=>simp
 |some x=>
  simp only[Option.bind_some,Option.some.injEq,exists_eq_left']
  rcases h i x e with q|⟨a,q,_⟩
  ·rw[OD q,q];exact⟨fun z=>(by cases z),fun z=>zaa⟩
  ·rw[OB zaa,q,Ts];omega
def trX(X:List MS)(h:uE X):Tr where
 own:=js X
 H i:=∀x,X[i]?=some x->isH x.kind=true
 P i:=∃x,X[i]?=some x/\x.kind=1
 N:=X.length
 lt:=fun{i o} e=>by
  obtain⟨x,a,b⟩:=(dM h.own).1 e
  rcases h.own i x a with q|⟨c,q,r⟩<;>omega
 noh:=fun{i o} e hh=>by
  obtain⟨x,a,b⟩:=(dM h.own).1 e
  have hl:=(Oz.1 a).1
  have ho:o<X.length:=by rcases h.own i x a with q|⟨c,q,r⟩<;>omega
  have hk:=hh _ (Ou ho)
  rcases h.leaf o _ (Ou ho) with q|q|q
  ·rw[q]at hk;cases hk
  ·rw[q]at hk;cases hk
  ·exact q i x a b
 top:=fun{i} e=>Qf fun q=>e fun x hx=>by rw[OV zaa]at hx;cases hx
variable {h:uE X}
theorem LR:∀(n i k:Nat),i<=n->(Bt (dc (psF X) i) k↔Un (trX X h) (some k) i):=fun n=>by
 have key:∀i k,(∀o,js X i=some o->(Bt (dc (psF X) o) k↔Un (trX X h) (some k) o))->(Bt (dc (psF X) i) k↔Un (trX X h) (some k) i):=fun i k ih=>by
  have hz:(∀o,js X i≠some o)->dc (psF X) i=0->(Bt (dc (psF X) i) k↔Un (trX X h) (some k) i):=fun a b=>by
   rw[b];exact⟨fun x=>by simp[Bt]at x,fun x=>by obtain⟨o,e,_⟩:=qy x;exact(a o e).elim⟩
  cases e:X[i]? with
  |none=>exact hz (fun o q=>by unfold js at q;rw[e]at q;cases q) (by unfold dc;rw[OV (by rw[ig];exact QF.1 e)])
  |some x=>
   rcases h.own i x e with q|⟨o,q,_⟩
   ·exact hz (fun o r=>by obtain⟨y,a,b⟩:=(dM h.own).1 r;rw[e]at a;cases a;omega) (Lj X h.own e q)
   ·have ho:js X i=some o:=(dM h.own).2 ⟨x,e,q⟩;rw[C1 X h.own e q,jx,pT,ih o ho];exact⟨fun x=>x.elim (.up ho) fun z=>.one (z▸ho),fun x=>(lj x ho).elim (fun z=>.inr (Pd z).symm) .inl⟩
 induction n with
 |zero=>exact fun i k hi=>key i k fun o e=>by have:=(trX X h).lt e;omega
 |succ n ih=>exact fun i k hi=>key i k fun o e=>ih o k (by have:=(trX X h).lt e;omega)
theorem mI{k:Nat}:Bt (dc (psF X) i) k↔Un (trX X h) (some k) i:=LR i i k (Ow _)
theorem pf(h:uE X)(hx:X[i]?=some x):∃p,(psF X)[i]?=some p/\p.kind=x.kind/\p.owner=x.owner:=by
 have hl:=(Oz.1 hx).1;have hp:(psF X)[i]?=some ((psF X)[i]'(by rw[ig];exact hl)):=Ou _;obtain⟨y,a,b⟩:=nW X h.own hp;rw[hx]at a;cases a
 exact⟨_,hp,congrArg St.kind b,congrArg St.owner b⟩
theorem JE{k:Nat}(u:Un (trX X h) (some k) i):i<X.length:=by
 obtain⟨o,e,_⟩:=qy u;obtain⟨x,a,_⟩:=(dM h.own).1 e;exact(Oz.1 a).1
theorem KH:∀(n i j:Nat),X.length-i<=n->(Bt (fm (psF X) i) j↔Un (trX X h) (some i) j):=fun n=>by
 have Z5:∀{i j},X.length<=i->(Bt (fm (psF X) i) j↔Un (trX X h) (some i) j):=fun{i j} hi=>by
  unfold fm;rw[OV (by rw[ig];exact hi)];exact⟨fun x=>by simp[Bt]at x,fun x=>by have:=mB x;have:=JE x;omega⟩
 induction n with
 |zero=>exact fun i j hn=>Z5 zaa
 |succ n ih=>
  intro i j hn;by_cases hi:X.length<=i
  ·exact Z5 hi
  obtain⟨p,hp,_,_⟩:=pf h (Ou (show i<X.length by omega));have e:Bt (fm (psF X) i) j↔Bt p.inside j:=by unfold fm;rw[hp]
  have hc:∀{c q},(psF X)[c]?=some q->(q.owner=(i:Int)↔js X c=some i):=fun{c q} hq=>by
   obtain⟨x,a,b⟩:=nW X h.own hq;have b:q.owner=x.owner:=congrArg St.owner b;rw[dM h.own,b];exact⟨fun z=>⟨x,a,z⟩,fun⟨y,z,w⟩=>by rw[a]at z;cases z;exact w⟩
  rw[e];refine(C2 X h.own hp j).trans ⟨fun⟨c,q,a,b,d⟩=>?_,fun u=>?_⟩
  ·have hw:js X c=some i:=(hc a).1 b;have Um:=(trX X h).lt hw
   rcases d with rfl|d
   ·exact .one hw
   ·have:Bt (fm (psF X) c) j:=by unfold fm;rw[a];exact d
    exact dx ((ih c j zaa).1 this) (.one hw)
  ·obtain⟨c,a,b⟩:=yX u;have Um:=(trX X h).lt a;obtain⟨x,hx,_⟩:=(dM h.own).1 a;obtain⟨q,hq,_,_⟩:=pf h hx;refine⟨c,q,hq,(hc hq).2 a,b.imp Eq.symm fun b=>?_⟩;have:=(ih c j zaa).2 b;unfold fm at this;rw[hq]at this;exact this
theorem xU{j:Nat}:Bt (fm (psF X) i) j↔Un (trX X h) (some i) j:=KH _ i j (Ow _)
theorem AJ(hp:(psF X)[i]?=some p):Bt p.parts c↔(trX X h).ch (some i) c:=(FR X h.own hp c).trans
 ⟨fun⟨y,a,b,d⟩=>⟨(dM h.own).2 ⟨y,a,b⟩,fun z=>by rw[z y a]at d;cases d⟩,fun⟨a,b⟩=>by
  obtain⟨y,c1,c2⟩:=(dM h.own).1 a;exact⟨y,c1,c2,Q8.2 fun z=>b fun w hw=>by rw[c1]at hw;cases hw;exact z⟩⟩
theorem dq(hp:(psF X)[i]?=some p):c∈els p.parts↔(trX X h).ch (some i) c:=by
 rw[<- AJ hp,cC];exact⟨(·.2),fun x=>⟨by have:=L4 (o9 X h.own i p hp).1 x;have:=h.len;omega,x⟩⟩
def Om(X:List MS)(a c:Nat):Prop:=∃p,(psF X)[a]?=some p/\c∈(if p.kind == 0 then(els p.parts).take 1 else els p.parts)
theorem rK:Wi (trX X h) (Om X) (fun a=>Bt (bW (psF X) a)) where
 ch:=fun{p c} ⟨q,a,b⟩=>(dq a).1 (by
  split at b
  ·exact Qz b
  ·exact b)
 par:=fun{p c} ⟨x,a,b⟩ hc=>by
  obtain⟨q,hq,e,_⟩:=pf h a;exact⟨q,hq,by rw[e,b];exact(dq hq).2 hc⟩
 one:=fun{p c d} hP ⟨q,a,b⟩ ⟨q',a',b'⟩=>by
  rw[a]at a';cases a'
  obtain⟨x,hx,e⟩:=nW X h.own a;have e:q.kind=x.kind:=congrArg St.kind e;by_cases e0:q.kind == 0
  ·rw[OD e0]at b b';cases hl:els q.parts with
   |nil=>rw[hl]at b;cases b
   |cons y l=>
    rw[hl]at b b';simp only[List.take_succ_cons,List.take_zero,List.mem_singleton]at b b';rw[b,b']
  ·rw[OB e0]at b;obtain⟨y,c1,c2⟩:=(dM h.own).1 ((dq (h:=h) a).1 b).1
   rcases h.leaf p x hx with z|z|z
   ·exact(e0 (by rw[e,z];rfl)).elim
   ·exact(hP ⟨x,hx,z⟩).elim
   ·exact(z c y c1 c2).elim
 some':=fun{p c} hc=>by
  obtain⟨o,_⟩:=hc;obtain⟨y,c1,c2⟩:=(dM h.own).1 ‹_›;have Uo:p<X.length:=by have:=(trX X h).lt ‹_›;have:=(Oz.1 c1).1;omega
  obtain⟨q,hq,_,_⟩:=pf h (Ou Uo);have hm:=(dq (h:=h) hq).2 ⟨‹_›,‹_›⟩;cases hl:els q.parts with
  |nil=>rw[hl]at hm;cases hm
  |cons y l=>exact⟨y,q,hq,by rw[hl];split<;>simp⟩
 W:=fun{a i} ha=>by
  have hl:=(trX X h).top ha;obtain⟨p,hp,_,_⟩:=pf h (Ou hl);have e:bW (psF X) a=gG (psF X) a p:=by rw[<- Lk X h.own hp];unfold bW;rw[hp]
  show Bt (bW (psF X) a) i↔_;rw[e];unfold gG;refine(Ed _ _).trans ⟨fun x=>x.imp pT.1 fun⟨j,a,b⟩=>⟨j,⟨p,hp,a⟩,b⟩,fun x=>x.imp pT.2 fun⟨j,⟨q,a,b⟩,d⟩=>?_⟩;rw[hp]at a;cases a
  exact⟨j,b,d⟩
theorem Hh{s:Nat}(g:L (trX X h) False k (Bt s))(i:Nat):Bt (complete (psF X) s) i↔Bt s i\/∃c,gr (trX X h) (Bt s) c/\Bt (bW (psF X) c) i:=by
 let J (o:Nat):Prop:=(∀i,Bt s i->Bt o i)/\∀i,Bt o i->Bt s i\/∃c,gr (trX X h) (Bt s) c/\Bt (bW (psF X) c) i/\∀x,Bt (bW (psF X) c) x->Bt o x
 have hW:=rK (h:=h);have hP:∀(p:Nat),Bt s p->(trX X h).P p->∀(l:List Nat) (o:Nat),(∀c∈l,(trX X h).ch (some p) c)->J o->J (gU (psF X) o l)/\(∀i,Bt o i->Bt (gU (psF X) o l) i)/\∀c∈l,gr (trX X h) (Bt s) c->∀x,Bt (bW (psF X) c) x->Bt (gU (psF X) o l) x:=fun p hp hpp l=>by
  induction l with
  |nil=>exact fun o _ hJ=>⟨hJ,fun _ x=>x,fun c hc=>by cases hc⟩
  |cons c l ih=>
   intro o hl hJ;have hc:=hl c (O1 ..);have key:∃o',gU (psF X) o (c::l)=gU (psF X) o' l/\J o'/\(∀i,Bt o i->Bt o' i)/\(gr (trX X h) (Bt s) c->∀x,Bt (bW (psF X) c) x->Bt o' x):=by
    by_cases e:o.testBit c=true
    ·refine⟨o,by show gU (psF X) (if o.testBit c then o else _) l=_;rw[OD e],hJ,fun _ x=>x,fun hg=>?_⟩
     rcases hJ.2 c e with q|⟨d,d1,d2,d3⟩
     ·obtain⟨_,_,_,_,z⟩:=hg;exact(z q).elim
     ·by_cases q:c=d
      ·rw[q];exact d3
      ·have hH:¬(trX X h).H d:=by obtain⟨_,_,_,z,_⟩:=d1;exact z.2
       exact((hW.apart g d1 (hW.own hH d2 q hc.1).2).1 hp).elim
    ·have hs:¬Bt s c:=fun q=>e (hJ.1 c q);refine⟨o|||bW (psF X) c,by show gU (psF X) (if o.testBit c then o else _) l=_;rw[OB e],⟨fun i x=>jx.2 (.inl (hJ.1 i x)),fun i x=>?_⟩,fun i x=>jx.2 (.inl x),fun _ x y=>jx.2 (.inr y)⟩
     rcases jx.1 x with x|x
     ·exact(hJ.2 i x).imp id fun⟨d,d1,d2,d3⟩=>⟨d,d1,d2,fun y z=>jx.2 (.inl (d3 y z))⟩
     ·exact .inr ⟨c,⟨p,hp,hpp,hc,hs⟩,x,fun y z=>jx.2 (.inr z)⟩
   obtain⟨o',e,j1,j2,j3⟩:=key;obtain⟨i1,i2,i3⟩:=ih o' (fun d hd=>hl d (OZ _ hd)) j1;rw[e];refine⟨i1,fun i x=>i2 i (j2 i x),fun d hd hg x y=>?_⟩
   rcases P2.1 hd with rfl|hd
   ·exact i2 x (j3 hg x y)
   ·exact i3 d hd hg x y
 have hF:∀(l:List Nat) (o:Nat),(∀p∈l,Bt s p)->J o->J (j6 (psF X) o l)/\(∀i,Bt o i->Bt (j6 (psF X) o l) i)/\∀p∈l,(trX X h).P p->∀c,(trX X h).ch (some p) c->gr (trX X h) (Bt s) c->∀x,Bt (bW (psF X) c) x->Bt (j6 (psF X) o l) x:=fun l=>by
  induction l with
  |nil=>exact fun o _ hJ=>⟨hJ,fun _ x=>x,fun c hc=>by cases hc⟩
  |cons p l ih=>
   intro o hl hJ;have hp:=hl p (O1 ..);obtain⟨x,hx⟩:∃x,X[p]?=some x:=⟨_,Ou ((trX X h).top (g.un p hp).2)⟩;obtain⟨q,hq,e,_⟩:=pf h hx;have key:∃o',j6 (psF X) o (p::l)=j6 (psF X) o' l/\J o'/\(∀i,Bt o i->Bt o' i)/\((trX X h).P p->∀c,(trX X h).ch (some p) c->gr (trX X h) (Bt s) c->∀x,Bt (bW (psF X) c) x->Bt o' x):=by
    refine⟨if q.kind != 1 then o else gU (psF X) o (els q.parts),by show j6 (psF X) (match (psF X)[p]? with|some p=>if p.kind != 1 then o else gU (psF X) o (els p.parts)|none=>o) l=_;rw[hq],?_⟩;by_cases e1:x.kind=1
    ·rw[OB (by rw[e,e1];decide)];obtain⟨i1,i2,i3⟩:=hP p hp ⟨x,hx,e1⟩ (els q.parts) o (fun c hc=>(dq hq).1 hc) hJ;exact⟨i1,i2,fun _ c hc=>i3 c ((dq hq).2 hc)⟩
    ·rw[OD (by rw[e];simpa using e1)];exact⟨hJ,fun _ x=>x,fun⟨y,y1,y2⟩=>by rw[hx]at y1;cases y1;exact(e1 y2).elim⟩
   obtain⟨o',e,j1,j2,j3⟩:=key;obtain⟨i1,i2,i3⟩:=ih o' (fun d hd=>hl d (OZ _ hd)) j1;rw[e];refine⟨i1,fun i x=>i2 i (j2 i x),fun d hd Z6 c hc hg x y=>?_⟩
   rcases P2.1 hd with rfl|hd
   ·exact i2 x (j3 Z6 c hc hg x y)
   ·exact i3 d hd Z6 c hc hg x y
 obtain⟨⟨f1,f2⟩,_,f3⟩:=hF (els s) s (fun p hp=>(cC.1 hp).2) ⟨fun _ x=>x,fun _ x=>.inl x⟩;refine⟨fun x=>(f2 i x).imp id fun⟨c,a,b,_⟩=>⟨c,a,b⟩,fun x=>x.elim (f1 i) fun⟨c,a,b⟩=>?_⟩;obtain⟨p,p1,p2,p3,p4⟩:=id a;exact f3 p (cC.2 ⟨by have:=(trX X h).top (g.un p p1).2;have:X.length<=24:=h.len;show p<32;have:(trX X h).N=X.length:=rfl;omega,p1⟩) p2 c p3 a i b
