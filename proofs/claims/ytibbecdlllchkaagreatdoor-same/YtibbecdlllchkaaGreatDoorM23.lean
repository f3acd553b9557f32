import Derived.Test.YtibbecdlllchkaaGreatDoorM17
import Derived.Test.YtibbecdlllchkaaGreatDoorM22
import Derived.Laws.AppendOwnNone
set_option maxRecDepth 100000
set_option maxHeartbeats 8000000
namespace Go.Proofs.YtibbecdlllchkaaGreatDoor
variable {zp:Prop}
theorem zdE(h:zp:=by
 obtain⟨rfl,hb⟩:=hw;exact⟨_,r.fin,rfl,by unfold Y.sZ;rw[Pu hf],h.aq hb,.nil,Y.RfE.of hb h.lv.mt.lo',.bel hb⟩):zp:=h
theorem zeI(h:zp:=by
 rintro e w' ⟨l,k,V,rfl,h5,hb⟩;exact⟨l,k,rfl,h5.aq hb⟩):zp:=h
theorem zaP(h:zp:=by unfold qh eM;decide):zp:=h
theorem zaT(h:zp:=by rw[e];rfl):zp:=h
theorem za0(h:zp:=by have:=(Ps.1 hz).1;omega):zp:=h
theorem zbp(h:zp:=by have:=SE.1 hz;omega):zp:=h
open Tryz
variable {v:U.Sl}{k sb:Nat}{l:Value}{z:List (()×Y.RSt)×Y.RSt}{V:World}{P:Nat->Prop}{xs:List Value}
section
open Go.RowKit Go.Proofs Go.Shelf
namespace Y
theorem sE{α:Type}{p q:α->Bool}:∀{l:List α},(∀x∈l,p x=q x)->l.any p=l.any q
 |[],_=>rfl
 |x::l,h=>by rw[List.any_cons,List.any_cons,h x (PZ ..),sE (fun y hy=>h y (P3 _ hy))]
theorem i7{α β:Type}{f g:β->α->β}:∀{l:List α} {b:β},(∀b,∀x∈l,f b x=g b x)->l.foldl f b=l.foldl g b
 |[],_,_=>rfl
 |x::l,b,h=>by rw[R4,R4,h b x (PZ ..),i7 (fun b y hy=>h b y (P3 _ hy))]
section
variable {β:Type}
def IL(N:Nat)(T:()->Option (List (Option β)))(i:Nat)(x:()×β):()->Option (List (Option β)):=fun e=>if e=x.1 then
  some (let row:=(T x.1).getD (List.replicate N none);match row[i]? with|some none=>row.set i (some x.2)|_=>row)
 else T e
def IP(N:Nat)(T:()->Option (List (Option β)))(i:Nat)(V:List (()×β)):Nat->()->Option (List (Option β))
 |0=>T
 |j+1=>match V[j]? with|some m=>IL N (IP N T i V j) i m|none=>IP N T i V j
def ME(N:Nat)(V:Nat->List (()×β)):Nat->()->Option (List (Option β))
 |0=>fun _=>none
 |k+1=>IP N (ME N V k) k (V k) (V k).length
variable (ps:List PS)(F:()->Option Nat)(g:PM->β)
theorem Dw(T:()->Option (List (Option PM)))(T':()->Option (List (Option β)))(h:∀e,(T e).map (List.map (Option.map g))=T' e)(i:Nat)(m:MV)(e:()):(mO ps F T i m e).map (List.map (Option.map g))=IL ps.length T' i (m.event,g (eQ ps F i m)) e:=by
 unfold mO IL;dsimp only;by_cases he:e=m.event
 ·rw[PC he,PC he,Ud];have hr:((T m.event).getD (List.replicate ps.length none)).map (Option.map g)=(T' m.event).getD (List.replicate ps.length none):=by
   rw[<- h];cases T m.event with
   |none=>simp
   |some row=>rfl
  rw[<- hr];generalize(T m.event).getD (List.replicate ps.length none)=row;rw[Pv]
  rcases hx:row[i]? with _|(_|p)
  ·rfl
  ·simp only[Option.map_some,Option.map_none,List.map_set]
  ·rfl
 ·rw[Pu he,Pu he,h]
theorem wN(T:()->Option (List (Option PM)))(T':()->Option (List (Option β)))(h:∀e,(T e).map (List.map (Option.map g))=T' e)(i:Nat)(V:List MV):∀(j:Nat) (e:()),(aX ps F T i V j e).map (List.map (Option.map g))=IP ps.length T' i (V.map fun m=>(m.event,g (eQ ps F i m))) j e
 |0,e=>h e
 |j+1,e=>by
  have ih:=wN T T' h i V j;rw[aX,IP,Pv];cases V[j]? with
  |none=>exact ih e
  |some m=>exact Dw ps F g _ _ ih i m e
theorem xv(V:Nat->List MV):∀(k:Nat) (e:()),(ep ps F V k e).map (List.map (Option.map g))=ME ps.length (fun i=>(V i).map fun m=>(m.event,g (eQ ps F i m))) k e
 |0,e=>rfl
 |k+1,e=>by
  have:=wN ps F g (ep ps F V k) _ (xv V k) k (V k) (V k).length e;rw[ep,this,ME,PE]
end
def sh(L:List (Option PM)):Prop:=∀(i:Nat) (p:PM),L[i]?=some (some p)->p.own=i
theorem JJ(ps:List PS)(F:()->Option Nat)(i:Nat)(m:MV):(eQ ps F i m).own=i:=by
 unfold eQ;exact zfw
theorem Dx{ps:List PS}{F:()->Option Nat}{T:()->Option (List (Option PM))}(h:∀e row,T e=some row->sh row)(i:Nat)(m:MV):∀e row,mO ps F T i m e=some row->sh row:=fun e row hr=>by
 unfold mO at hr;by_cases he:e=m.event
 ·rw[PC he]at hr;have h0:sh ((T m.event).getD (List.replicate ps.length none)):=by
   cases hT:T m.event with
   |none=>
    intro j p hj;simp only[Option.getD_none]at hj;have:=PD hj;rw[List.mem_replicate]at this;cases this.2
   |some row=>exact h _ _ hT
  generalize(T m.event).getD (List.replicate ps.length none)=R at h0 hr;have hr:=Qh hr;dsimp only at hr;split at hr
  ·subst hr;intro j p hj;rw[RN]at hj;split at hj
   ·rename_i e;split at hj
    ·cases hj;rw[<- e];exact JJ ps F i m
    ·cases hj
   ·exact h0 j p hj
  ·subst hr;exact h0
 ·rw[Pu he]at hr;exact h e row hr
theorem wP{ps:List PS}{F:()->Option Nat}{T:()->Option (List (Option PM))}(h:∀e row,T e=some row->sh row)(i:Nat)(V:List MV):∀(j:Nat) e row,aX ps F T i V j e=some row->sh row
 |0=>h
 |j+1=>by
  have ih:=wP (ps:=ps) (F:=F) h i V j;rw[aX];cases V[j]? with
  |none=>exact ih
  |some m=>exact Dx ih i m
theorem xx{ps:List PS}{F:()->Option Nat}{V:Nat->List MV}:∀(k:Nat) e row,ep ps F V k e=some row->sh row
 |0=>fun e row h=>by cases h
 |k+1=>wP (xx k) k (V k) _
theorem AK(ps:List PS)(L:List (Option Nat))(f:Nat->Nat):∀k,di ps (L.map (Option.map f)) k=(di ps L k).map (Option.map f)
 |0=>rfl
 |k+1=>by
  rw[di,di,AK ps L f k];unfold mB;rw[Pv];generalize di ps L k=R
  rcases hx:R[k]? with _|(_|m)
  ·rfl
  ·simp only[Option.map_some,Option.map_none];cases ps[k]? with
   |none=>rfl
   |some p=>
    dsimp only;by_cases h:(p.owner == -1)=true
    ·rw[PC h,PC h]
    ·rw[Pu h,Pu h,RB,PH,PH,Pv];cases R[p.owner.toNat]?<;>rfl
  ·rfl
theorem jC(ps:List PS){L:List (Option Nat)}{z:Nat}:∀(k i:Nat),(di ps L k)[i]?=some (some z)->∃j:Nat,L[j]?=some (some z)
 |0,i,h=>⟨i,h⟩
 |k+1,i,h=>by
  rw[di]at h;unfold mB at h;split at h
  ·split at h
   ·exact jC ps k i h
   ·rename_i p _ _ _;by_cases e:k=i
    ·subst e;by_cases hl:k<(di ps L k).length
     ·rw[P4 hl]at h;rw[PH]at h;cases hq:(di ps L k)[p.owner.toNat]? with
      |none=>rw[hq]at h;simp at h
      |some y=>
       rw[hq]at h;simp at h;subst h;exact jC ps k _ hq
     ·rw[P6 zaf]at h;cases h
    ·rw[Qb e]at h;exact jC ps k i h
  ·exact jC ps k i h
theorem Hn(L:List (Option Nat))(f:Nat->Nat)(hf:∀(i j a b:Nat),L[i]?=some (some a)->L[j]?=some (some b)->f a=f b->a=b)(l:List Nat):dO (L.map (Option.map f)) l=(dO L l).map f/\∀m∈dO L l,∃i:Nat,L[i]?=some (some m):=by
 have key:∀(l acc:List Nat),(∀m∈acc,∃i:Nat,L[i]?=some (some m))->l.foldl (fH (L.map (Option.map f))) (acc.map f)=(l.foldl (fH L) acc).map f/\∀m∈l.foldl (fH L) acc,∃i:Nat,L[i]?=some (some m):=by
  intro l
  induction l with
  |nil=>exact fun acc h=>⟨rfl,h⟩
  |cons i l ih=>
   intro acc h;rw[R4,R4];have e:fH (L.map (Option.map f)) (acc.map f) i=(fH L acc i).map f/\∀m∈fH L acc i,∃i:Nat,L[i]?=some (some m):=by
    unfold fH;rw[Pv]
    rcases hx:L[i]? with _|(_|q)
    ·exact⟨rfl,h⟩
    ·exact⟨rfl,h⟩
    ·simp only[Option.map_some];have hc:(acc.map f).contains (f q)=acc.contains q:=by
      rw[Tw,Tg,Tg];refine⟨fun hm=>?_,fun hm=>QT hm⟩;obtain⟨a,ha,e⟩:=P0.1 hm;obtain⟨j,hj⟩:=h a ha;rw[<- hf j i a q hj hx e];exact ha
     rw[hc];by_cases hq:acc.contains q=true
     ·rw[PC hq,PC hq];exact⟨rfl,h⟩
     ·rw[Pu hq,Pu hq,Qj];refine⟨rfl,fun m hm=>?_⟩
      rcases PQ.1 hm with hm|hm
      ·exact h m hm
      ·rw[PB.1 hm];exact⟨i,hx⟩
   rw[e.1];exact ih _ e.2
 exact key l [] (fun m hm=>by cases hm)
section
variable {f:Nat->Nat}{pm pm':Nat->PM}{ac ac':Nat->List PA}
theorem Ly(f:Nat->Nat)(q q':Nat->Bool):∀(L:List Nat),(∀m∈L,q' (f m)=q m)->flt q' (L.map f)=(flt q L).map f:=by
 intro L h;unfold flt;rw[Tz]
 congr 1
 exact RY (fun m hm=>by show(!q' (f m))=!q m;rw[h m hm])
theorem FH(ps:List PS)(act:Nat)(lF oF lF' oF':Nat->Nat)(WL:List Nat)(h:∀m∈WL,lF' (f m)=lF m/\oF' (f m)=oF m):gR ps act lF' oF' (WL.map f)=(gR ps act lF oF WL).map f:=by
 have key:∀(l acc:List Nat),(∀m∈l,lF' (f m)=lF m/\oF' (f m)=oF m)->(∀m∈acc,lF' (f m)=lF m/\oF' (f m)=oF m)->(l.map f).foldl (fun acc v=>qi act lF' oF' (arA ps (oF' v)) acc v) (acc.map f)=(l.foldl (fun acc v=>qi act lF oF (arA ps (oF v)) acc v) acc).map f:=by
  intro l
  induction l with
  |nil=>exact fun acc _ _=>rfl
  |cons v l ih=>
   intro acc hl ha;obtain⟨e1,e2⟩:=hl v (PZ ..);rw[Q7,R4,R4];have e:qi act lF' oF' (arA ps (oF' (f v))) (acc.map f) (f v)=(qi act lF oF (arA ps (oF v)) acc v).map f:=by
    unfold qi;rw[e1,e2];have h1:(acc.map f).any (fun x=>gx act (lF' x) (lF v)&&!(arA ps (oF v)).testBit (oF' x))=acc.any (fun x=>gx act (lF x) (lF v)&&!(arA ps (oF v)).testBit (oF x)):=by
     rw[UN];refine sE (fun m hm=>?_);obtain⟨a,b⟩:=ha m hm;simp only[Function.comp,a,b]
    rw[h1];split
    ·rfl
    ·rw[Qj,Ly f (fun x=>gx act (lF x) (lF v)) _ acc (fun m hm=>by rw[(ha m hm).1])];rfl
   rw[e];exact ih _ (fun m hm=>hl m (P3 _ hm)) (fun m hm=>by
    rcases BX hm with rfl|hm
    ·exact⟨e1,e2⟩
    ·exact ha m hm)
 exact key WL [] h (fun m hm=>by cases hm)
theorem zX(ps:List PS)(fin:Nat)(EN LV:Nat->List PA)(H:List HV)(D:Nat->Bool)(r:RSt)(C:List Nat)(h:∀m∈C,(pm' (f m)).lv=(pm m).lv/\(pm' (f m)).en=(pm m).en/\ac' (f m)=ac m):l9 ps fin EN LV H D pm' ac' r (C.map f)=l9 ps fin EN LV H D pm ac r C:=by
 have h1:gA r.act pm' (C.map f)=gA r.act pm C:=by
  unfold gA;rw[List.foldl_map];exact i7 (fun a m hm=>by rw[(h m hm).1])
 have h2:∀z,ie ps pm' ac' z (C.map f)=ie ps pm ac z C:=fun z=>by
  unfold ie;rw[List.foldl_map];exact i7 (fun a m hm=>by unfold qu;rw[(h m hm).2.1,(h m hm).2.2])
 unfold l9;simp only[h1,h2]
end
def pmA(row:List (Option (PM×List PA)))(o:Nat):PM:=match row[o]? with|some (some x)=>x.1|_=>⟨0,0,U.Sl.nil,.nil⟩
def acA(row:List (Option (PM×List PA)))(o:Nat):List PA:=match row[o]? with|some (some x)=>x.2|_=>[]
def xX(ps:List PS)(fin:Nat)(EN LV:Nat->List PA)(H:List HV)(D:Nat->Bool)(row:Option (List (Option (PM×List PA))))(r:RSt):RSt:=match row with
 |none=>l9 ps fin EN LV H D (pmA []) (acA []) r []
 |some row=>l9 ps fin EN LV H D (pmA row) (acA row) r (gR ps r.act (fun m=>(pmA row m).lv) (fun m=>(pmA row m).own) (dO (di ps (row.map (Option.map (·.1.own))) ps.length) (els (inn ps r.act))))
def gK(AV:U.Sl->List PA)(p:PM):PM×List PA:=(⟨p.own,p.lv,U.Sl.nil,p.en⟩,AV p.ai)
theorem Cv{ps:List PS}{fin:Nat}{EN LV:Nat->List PA}{H:List HV}{D:Nat->Bool}{M:()->Option Nat}{Lr L0:Nat->List (Option Nat)}{pmF:Nat->PM}{acF:Nat->List PA}{AV:U.Sl->List PA}{T0:()->Option (List (Option PM))}(hA:∀ev (g i m:Nat),M ev=some g->(Lr g)[i]?=some (some m)->acF m=AV (pmF m).ai)(hL:∀ev g,M ev=some g->Lr g=di ps (L0 g) ps.length/\T0 ev=some ((L0 g).map (Option.map pmF)))(hN:∀ev,M ev=none->T0 ev=none)(hO:∀ev row,T0 ev=some row->sh row)(r:RSt)(ev:()):
  aZ ps fin EN LV H D M Lr pmF acF r ev=xX ps fin EN LV H D ((T0 ev).map (List.map (Option.map (gK AV)))) r:=by
 unfold aZ ia xX;cases hM:M ev with
 |none=>
  rw[hN ev hM];exact(zX (f:=id) ps fin EN LV H D r [] (fun m hm=>by cases hm)).symm
 |some g=>
  obtain⟨hLr,hT0⟩:=hL ev g hM;rw[hT0];have U2:=hO ev _ hT0;have XO:∀(i m:Nat),(L0 g)[i]?=some (some m)->(pmF m).own=i:=fun i m h=>U2 i (pmF m) (by rw[Pv,h];rfl);have hk:(((L0 g).map (Option.map pmF)).map (Option.map (gK AV))).map (Option.map (·.1.own))=(L0 g).map (Option.map fun m=>(pmF m).own):=by
   rw[QW,QW];refine SO (fun x _=>?_);cases x<;>rfl
  dsimp only[Option.map_some];rw[hk,AK,<- hLr];have hf:∀(i j a b:Nat),(Lr g)[i]?=some (some a)->(Lr g)[j]?=some (some b)->(pmF a).own=(pmF b).own->a=b:=fun i j a b ha hb e=>by
   rw[hLr]at ha hb;obtain⟨i',ha⟩:=jC ps _ _ ha;obtain⟨j',hb⟩:=jC ps _ _ hb;rw[XO i' a ha,XO j' b hb]at e;rw[e,hb]at ha;cases ha
   rfl
  obtain⟨w1,w2⟩:=Hn (Lr g) (fun m=>(pmF m).own) hf (els (inn ps r.act));rw[w1];have hm:∀m∈dO (Lr g) (els (inn ps r.act)),pmA (((L0 g).map (Option.map pmF)).map (Option.map (gK AV))) (pmF m).own=(gK AV (pmF m)).1/\acA (((L0 g).map (Option.map pmF)).map (Option.map (gK AV))) (pmF m).own=acF m:=fun m hm=>by
   obtain⟨i,hi⟩:=w2 m hm;have ha:=hA ev g i m hM hi;rw[hLr]at hi;obtain⟨j,hj⟩:=jC ps _ _ hi;have e:(((L0 g).map (Option.map pmF)).map (Option.map (gK AV)))[(pmF m).own]?=some (some (gK AV (pmF m))):=by
    rw[XO j m hj,Pv,Pv,hj];rfl
   unfold pmA acA;rw[e,ha];exact⟨rfl,rfl⟩
  rw[FH (f:=fun m=>(pmF m).own) ps r.act (fun m=>(pmF m).lv) (fun m=>(pmF m).own) _ _ _ (fun m h=>by rw[(hm m h).1];exact⟨rfl,rfl⟩)];refine(zX (f:=fun m=>(pmF m).own) ps fin EN LV H D r _ (fun m h=>?_)).symm;obtain⟨c1,_⟩:=gd ps r.act (fun m=>(pmF m).lv) (fun m=>(pmF m).own) (dO (Lr g) (els (inn ps r.act))) _ (Po _);rw[Qy]at c1;have:=hm m (c1 m h);rw[this.1,this.2];exact⟨rfl,rfl,rfl⟩
theorem Gd{ps:List PS}{left:Nat}{D D':Nat->Bool}{H H':List HV}(hH:H.map (fun h=>(h.idx,h.own))=H'.map (fun h=>(h.idx,h.own)))(hD:∀k,k<H.length->D k=D' k)(r:RSt):fE ps left D H r H.length=fE ps left D' H' r H'.length:=by
 have hl:H.length=H'.length:=by have:=congrArg List.length hH;simpa using this
 rw[<- hl];unfold fE;refine i7 (fun r k hk=>?_);have hk:=QF.1 hk;unfold nX;have e:H[k]?.map (fun h=>(h.idx,h.own))=H'[k]?.map (fun h=>(h.idx,h.own)):=by rw[<- Pv,<- Pv,hH]
 rw[hD k hk];cases h1:H[k]? with
 |none=>rw[h1]at e;cases h2:H'[k]? with
  |none=>rfl
  |some y=>rw[h2]at e;cases e
 |some x=>rw[h1]at e;cases h2:H'[k]? with
  |none=>rw[h2]at e;cases e
  |some y=>
   rw[h2]at e;simp only[Option.map_some,Option.some.injEq,Prod.mk.injEq]at e;dsimp only;rw[e.1,e.2]
theorem Iv{ps:List PS}{fin:Nat}{EN LV:Nat->List PA}{D D':Nat->Bool}{H H':List HV}{pm:Nat->PM}{ac:Nat->List PA}(hH:H.map (fun h=>(h.idx,h.own))=H'.map (fun h=>(h.idx,h.own)))(hD:∀k,k<H.length->D k=D' k)(r:RSt)(C:List Nat):l9 ps fin EN LV H D pm ac r C=l9 ps fin EN LV H' D' pm ac r C:=by
 unfold l9;simp only[Gd hH hD]
theorem Is{ps:List PS}{fin:Nat}{EN LV:Nat->List PA}{D D':Nat->Bool}{H H':List HV}(hH:H.map (fun h=>(h.idx,h.own))=H'.map (fun h=>(h.idx,h.own)))(hD:∀k,k<H.length->D k=D' k)(row:Option (List (Option (PM×List PA))))(r:RSt):xX ps fin EN LV H D row r=xX ps fin EN LV H' D' row r:=by
 unfold xX;cases row<;>exact Iv hH hD r _
def PS.e(p:PS):PS:={ p with enter:=U.Sl.nil,leave:=U.Sl.nil }
section
variable (ps:List PS)
theorem Cx:kc (ps.map PS.e)=kc ps:=by funext i;unfold kc;rw[Pv];cases ps[i]?<;>rfl
theorem uW:gn (ps.map PS.e)=gn ps:=by funext i;unfold gn;rw[Pv];cases ps[i]?<;>rfl
theorem Jm:kg (ps.map PS.e)=kg ps:=by funext i;unfold kg;rw[Pv];cases ps[i]?<;>rfl
theorem LM:mH (ps.map PS.e)=mH ps:=by funext i;unfold mH;rw[Pv];cases ps[i]?<;>rfl
theorem N8:vE (ps.map PS.e)=vE ps:=by funext i;unfold vE;rw[Pv];cases ps[i]?<;>rfl
theorem Ot:arA (ps.map PS.e)=arA ps:=by funext i;unfold arA;rw[Pv];cases ps[i]?<;>rfl
theorem Mf:bR (ps.map PS.e)=bR ps:=by funext i;unfold bR;rw[Pv];cases ps[i]?<;>rfl
theorem M0:inn (ps.map PS.e)=inn ps:=by funext s;unfold inn vi;rw[Cx]
theorem Ka:ef (ps.map PS.e)=ef ps:=by funext o s;unfold ef rI;rw[Cx,uW,Jm]
theorem MY:dom (ps.map PS.e)=dom ps:=by funext i j;unfold dom;rw[Cx,LM,Jm,PE]
theorem Nz:me (ps.map PS.e)=me ps:=by funext o l;unfold me;rw[uW]
theorem sN:complete (ps.map PS.e)=complete ps:=by
 funext s;unfold complete o9;rw[Nz]
 congr 1
 funext o i;rw[Pv];cases ps[i]?<;>rfl
theorem JA:iV (ps.map PS.e)=iV ps:=by
 funext i j;unfold iV;rw[Pv,MY,sN];cases ps[j]?<;>rfl
theorem I7:enters (ps.map PS.e)=enters ps:=by funext k e;cases e<;>simp only[enters,sN,Ka,N8]
theorem Jd(L:List (Option Nat)):∀k,di (ps.map PS.e) L k=di ps L k
 |0=>rfl
 |k+1=>by
  rw[di,di,Jd L k];unfold mB;rw[Pv]
  rcases(di ps L k)[k]? with _|(_|x)<;>cases ps[k]?<;>rfl
theorem N0:eQ (ps.map PS.e)=eQ ps:=by funext F i m;unfold eQ;rw[MY,JA]
theorem EF(fin act:Nat):∀f,atEnd (ps.map PS.e) fin act f=atEnd ps fin act f
 |0=>rfl
 |f+1=>by
  funext i;rw[atEnd,atEnd,EF fin act f,Pv];cases ps[i]?<;>rfl
theorem NK:lz (ps.map PS.e)=lz ps:=by
 funext fin s i;unfold lz;simp only[List.getElem?_map,EF,List.length_map];cases ps[i]? with
 |none=>rfl
 |some p=>
  simp only[Option.map_some];show(if p.owner == -1 then _ else match Option.map PS.e ps[p.owner.toNat]? with|none=>_|some q=>_)=_;cases ps[p.owner.toNat]? with
  |none=>rfl
  |some q=>
   simp only[Option.map_some];show(if p.owner == -1 then _ else if q.owner == -1 then _ else match Option.map PS.e ps[q.owner.toNat]? with|none=>_|some q=>_)=_;cases ps[q.owner.toNat]?<;>rfl
theorem NQ:nX (ps.map PS.e)=nX ps:=by
 funext l D H r k;unfold nX;cases H[k]? with
 |none=>rfl
 |some h=>
  dsimp only;rw[Pv];cases ps[h.own]? with
  |none=>rfl
  |some po=>
   simp only[Option.map_some];unfold oe;rw[M0];rfl
theorem NH:kH (ps.map PS.e)=kH ps:=by
 funext fin EN r i;unfold kH;rw[NK,Pv];cases ps[i]?<;>rfl
theorem sV:de (ps.map PS.e)=de ps:=by funext fin EN r l;unfold de;rw[NH]
theorem Ns:ie (ps.map PS.e)=ie ps:=by
 have h:qu (ps.map PS.e)=qu ps:=by funext a b c d;unfold qu;rw[I7]
 funext a b c d;unfold ie;rw[h]
theorem Nt:l9 (ps.map PS.e)=l9 ps:=by
 funext fin EN LV H D pm ac r C;unfold l9 fE;rw[NQ,Ns,sV]
theorem Nr:xX (ps.map PS.e)=xX ps:=by
 funext fin EN LV H D row r;unfold xX gR;rw[Nt,Ot,M0,PE];simp only[Jd]
end
def bare(x:MS):MS:=⟨x.kind,x.name,x.depth,x.owner,U.Sl.nil,U.Sl.nil,U.Sl.nil,U.Sl.nil⟩
theorem Ew(X:List MS):∀k,bL (X.map bare) k=(bL X k).map PS.e
 |0=>by unfold bL;rw[PE,List.map_replicate];rfl
 |k+1=>by
  rw[bL,bL,Ew X k,Pv];cases X[k]? with
  |none=>rfl
  |some x=>
   show nW ((bL X k).map PS.e) k (bare x)=(nW (bL X k) k x).map PS.e;generalize bL X k=ps;unfold nW;show(if x.owner == -1 then(ps.map PS.e).set k (PS.e (Gt x 0)) else match (ps.map PS.e)[x.owner.toNat]? with|none=>_|some q=>_)=_;rw[Pv];by_cases h:(x.owner == -1)=true
   ·rw[PC h,PC h,RB]
   ·rw[Pu h,Pu h];cases ps[x.owner.toNat]? with
    |none=>rfl
    |some q=>
     simp only[Option.map_some];rw[RB];by_cases h2:isH x.kind=true
     ·rw[PC h2,PC (show isH (bare x).kind=true from h2)];rfl
     ·rw[Pu h2,Pu (show ¬isH (bare x).kind=true from h2),RB];rfl
theorem Fc(ps:List PS):∀k,dY (ps.map PS.e) k=(dY ps k).map PS.e
 |0=>rfl
 |k+1=>by
  rw[dY,dY,Fc ps k,PE];generalize dY ps k=R;generalize ps.length-1-k=i;have hW:∀p:PS,lU (R.map PS.e) i p.e=lU R i p:=fun p=>by unfold lU orW;rw[uW];rfl
  unfold bT;rw[Pv];cases R[i]? with
  |none=>rfl
  |some p=>
   simp only[Option.map_some,hW];show(if p.owner == -1 then _ else match (R.map PS.e)[p.owner.toNat]? with|none=>_|some q=>_)=_;rw[Pv];by_cases h:(p.owner == -1)=true
   ·rw[PC h,PC h,RB];rfl
   ·rw[Pu h,Pu h];cases R[p.owner.toNat]? with
    |none=>rw[RB];rfl
    |some q=>rw[RB,RB];rfl
theorem J3(X:List MS):psF (X.map bare)=(psF X).map PS.e:=by unfold psF;rw[Ew,Fc,PE]
structure Par where
 lo:Lo
 mb:Nat
 pb:Nat
 b:Nat
 cap:Nat
 ps:List PS
 fin:Nat
 EN:Nat->List PA
 LV:Nat->List PA
 hvs:U.Sl
 H:List HV
 D:Nat->Bool
 mbm:Nat
 n:Nat
 T:()->Option (List (Option PM))
 M:()->Option Nat
 Lr:Nat->List (Option Nat)
 pmF:Nat->PM
 acF:Nat->List PA
def Par.an(p:Par):RSt->()->RSt:=aZ p.ps p.fin p.EN p.LV p.H p.D p.M p.Lr p.pmF p.acF
structure Ses(W:World)(n0 xb:Nat)(p:Par)(r:RSt):Prop where
 at':sj W xb p.mb
 lo:p.lo<=xb
 n0:n0<=p.lo
 lv:Live W p.lo p.mb p.pb p.b p.cap p.ps p.fin p.EN p.LV p.hvs p.H p.D p.mbm p.n p.T p.M p.Lr p.pmF p.acF r
theorem Ses.aq{W W':World}{n0 xb:Nat}{p:Par}{r:RSt}(h:Ses W n0 xb p r)(hb:Below W W W'):Ses W' n0 xb p r:=⟨(hb.block _ (Pn.1 h.at').1).trans h.at',h.lo,h.n0,h.lv.aq hb⟩
structure jy(Z:List J.DS)(S:List U.State):Prop where
 len:Z.length=S.length
 at':∀(i:Nat) (z:J.DS),Z[i]?=some z->z.s=J.fj (J.sAt S i)
theorem LZ{w wr:World}{sv:U.Sl}{X Z:List J.DS}(D:mi w wr sv X Z X.length){S:List U.State}(hX:X.map (·.s)=S):jy Z S:=by
 subst hX;refine⟨by rw[D.len,PE],fun i z hz=>?_⟩;obtain⟨hi,rfl⟩:=Ps.1 hz;have XJ:i<X.length:=by have:=D.len;omega
 rw[(D.done i hi XJ XJ).1]
 congr 1
 unfold J.sAt;rw[PH,Pv,Pp XJ];rfl
theorem LF{x:U.State}(h:J.gO x)(hk:isH (J.aj x)=true):J.iW x=true:=by
 obtain⟨k,h0,h4,hw,hd⟩:=h;rw[J.eC h0 h4 hw hd]at hk;unfold J.iW;rw[hw];have VB:k=0\/k=1\/k=2\/k=3\/k=4:=zaa
 rcases VB with rfl|rfl|rfl|rfl|rfl
 ·cases hk
 ·cases hk
 ·cases hk
 ·rw[show J.bm 3=J.dw from rfl,J.bV];decide
 ·rw[show J.bm 4=J.dw from rfl,J.bV];decide
theorem E5{S:List U.State}{i:Nat}(hi:i<S.length):J.sAt S i∈S:=by
 unfold J.sAt;rw[PH,Pp hi];exact P7 _
section
variable {Z:List J.DS}{S:List U.State}
theorem jy.ms(h:jy Z S){i:Nat}{x:MS}(hx:(Z.map aL)[i]?=some x):∃z,Z[i]?=some z/\x=aL z/\z.s=J.fj (J.sAt S i)/\i<S.length:=by
 rw[Pv]at hx;cases hz:Z[i]? with
 |none=>rw[hz]at hx;cases hx
 |some z=>
  rw[hz]at hx;have hi:=(Ps.1 hz).1;exact⟨z,rfl,by simpa using hx.symm,h.at' i z hz,by have:=h.len;omega⟩
theorem jy.ok(h:jy Z S)(hC:J.nw S)(i:Nat)(x:MS)(hx:(Z.map aL)[i]?=some x):x.owner=-1\/∃o:Nat,x.owner=o/\o<i:=by
 obtain⟨z,_,rfl,e,hi⟩:=h.ms hx;have hu:=hC.shp.wf i hi;have ho:(aL z).owner=(J.sAt S i).up:=by show z.s.up=_;rw[e];rfl
 rw[ho];by_cases h0:(J.sAt S i).up=-1
 ·exact .inl h0
 ·exact .inr ⟨(J.sAt S i).up.toNat,zaa,zaa⟩
theorem jy.his(h:jy Z S)(hC:J.nw S)(i:Nat)(x:MS)(hx:(Z.map aL)[i]?=some x)(hk:isH x.kind=true):x.owner≠-1:=by
 obtain⟨z,_,rfl,e,hi⟩:=h.ms hx;have VB:isH (J.aj (J.sAt S i))=true:=by
  have e2:J.aj z.s=J.aj (J.sAt S i):=zaT;rw[<- e2];exact hk
 have:=hC.shp.hup i hi (LF (hC.low _ (E5 hi)).2 VB);have ho:(aL z).owner=(J.sAt S i).up:=by show z.s.up=_;rw[e];rfl
 rw[ho];omega
variable {MM:Nat->List J.PV}{W:World}
theorem jy.OP(h:jy Z S)(hC:J.nw S)(hM:∀i,(∀z,Z[i]?=some z->eF W z (MM i))/\(Z[i]?=none->MM i=[]))(i:Nat):(vOf MM i).length<=30000/\∀v∈vOf MM i,v.event.size<=1000000/\v.dest.size<=1000000/\(v.dest.toList.isEmpty=false->∃d,b7 (Z.map aL) (Z.map aL).length v.dest=some d/\d<(Z.map aL).length):=by
 have hl:=h.len;cases hz:Z[i]? with
 |none=>
  unfold vOf;rw[(hM i).2 hz];exact⟨zad,fun v hv=>by cases hv⟩
 |some z=>
  have hi:i<S.length:=za0;have hw:=(hM i).1 z hz;have hm:(MM i).map (·.m)=(J.sAt S i).aa.map J.dq:=by rw[hw.mv,h.at' i z hz];rfl
  refine⟨by unfold vOf;rw[PE];have:=hw.mlen;omega,fun v hv=>?_⟩;obtain⟨y,hy,rfl⟩:=P0.1 hv;obtain⟨m,X7,e⟩:=N2 hm hy;have Xz:=(hw.actsG y hy).1;have h1:=Xz.event;have h2:=Xz.dst;refine⟨by show y.m.event.size<=1000000;omega,by show y.m.to.size<=1000000;omega,fun U9=>?_⟩;have YD:y.m.to=m.to:=by rw[e];exact(pH m).2
  have U9:y.m.to.toList.isEmpty=false:=U9;rw[YD]at U9;have hp:=hC.tos _ (E5 hi) m X7 U9;obtain⟨d,hd,hdn⟩:∃d,d<S.length/\(J.sAt S d).name=m.to:=by
   unfold U.place at hp;cases hf:(S.map U.emb).findIdx? (U.C4 m.to) with
   |none=>rw[hf]at hp;exact absurd hp zac
   |some d=>
    rw[TD]at hf;obtain⟨hd,h1,_⟩:=hf;have hd':d<S.length:=by simpa using hd
    rw[RU]at h1;refine⟨d,hd',?_⟩;have h1:(S[d].name.toList == m.to.toList)=true:=h1;have hs:J.sAt S d=S[d]:=by unfold J.sAt;rw[PH,Pp hd'];rfl
    rw[hs];exact Ra fun U9=>by
     rw[Lw.LY U9]at h1;cases h1
  obtain⟨zd,hzd⟩:∃z,Z[d]?=some z:=⟨_,Pp zaa⟩;have hx:(Z.map aL)[d]?=some (aL zd):=by rw[Pv,hzd];rfl
  have Xo:=(Ps.1 hx).1;obtain⟨a,ha⟩:=tt (n:=m.to) hx (by show m.to=zd.s.name;rw[h.at' d zd hzd,<- hdn];rfl) (Z.map aL).length Xo (Po _);refine⟨a,by show b7 _ _ y.m.to=_;rw[YD];exact ha,(AL _ (Po _) ha).1⟩
end
def X0(S:List U.State):List MS:=S.map fun x=>⟨J.aj x,x.name,x.depth,x.up,U.Sl.nil,U.Sl.nil,U.Sl.nil,U.Sl.nil⟩
def EN0(S:List U.State)(i:Nat):List PA:=match S[i]? with|some x=>(J.fj x).enter.map kT|none=>[]
def quiet(S:List U.State):Bool:=let r:=de (psF (X0 S)) (bF (X0 S) (X0 S).length) (EN0 S) r0 (els (gn (psF (X0 S)) 0));r.q.isEmpty&&r.fin == 0
theorem lA(X:List MS):∀k,bF (X.map bare) k=bF X k
 |0=>rfl
 |k+1=>by
  rw[bF,bF,lA X k,Pv];cases X[k]?<;>rfl
theorem jy.bare{Z:List J.DS}{S:List U.State}(h:jy Z S):(Z.map aL).map bare=X0 S:=by
 have hl:=h.len;apply RA
 intro i;unfold X0;rw[Pv,Pv,Pv];cases hz:Z[i]? with
 |none=>rw[P6 zbp];rfl
 |some z=>
  have hi:i<S.length:=za0;have e:=h.at' i z hz;have hs:J.sAt S i=S[i]:=by unfold J.sAt;rw[PH,Pp hi];rfl
  rw[Pp hi];show some (Y.bare (aL z))=some _;unfold aL Y.bare;dsimp only;rw[e,hs];rfl
theorem ts(X:List MS):∀k,b7 (X.map Y.bare) k=b7 X k
 |0=>rfl
 |k+1=>by
  rw[b7,b7,ts X k,Pv];cases X[k]?<;>rfl
theorem wz(X:List MS):∀k,kL (X.map Y.bare) k=kL X k
 |0=>rfl
 |k+1=>by
  rw[kL,kL,wz X k,Pv];cases X[k]?<;>rfl
theorem EO(X:List MS):∀(k:Nat) (y:Nat×Nat),y∈kL X k->y.1<k
 |0,y,h=>by cases h
 |k+1,y,h=>by
  have ih:=EO X k y;rw[kL]at h;split at h
  ·split at h
   ·rcases PQ.1 h with h|h
    ·have:=ih h;omega
    ·rw[PB.1 h];exact UI k
   ·have:=ih h;omega
  ·have:=ih h;omega
def LV0(S:List U.State)(i:Nat):List PA:=match S[i]? with|some x=>(J.fj x).leave.map kT|none=>[]
def mvB(S:List U.State)(i:Nat):List (()×(PM×List PA)):=match S[i]? with
 |some x=>(J.fj x).aa.map fun m=>(m.event,(eQ (psF (X0 S)) (b7 (X0 S) (X0 S).length) i ⟨m.event,false,0,m.to,U.Sl.nil⟩,m.ai.map kT))
 |none=>[]
def H0(S:List U.State):List HV:=(kL (X0 S) (X0 S).length).map fun x=>⟨x.1,x.2,.nilIface⟩
def D0(S:List U.State)(k:Nat):Bool:=match (H0 S)[k]? with
 |some h=>match S[h.idx]? with|some x=>decide (J.aj x=4)|none=>false
 |none=>false
def anS(S:List U.State)(r:RSt)(ev:()):RSt:=xX (psF (X0 S)) (bF (X0 S) (X0 S).length) (EN0 S) (LV0 S) (H0 S) (D0 S) (ME (psF (X0 S)).length (mvB S) (X0 S).length ev) r
def stS(S:List U.State):RSt:=fA (anS S) (de (psF (X0 S)) (bF (X0 S) (X0 S).length) (EN0 S) r0 (els (gn (psF (X0 S)) 0)))
theorem OD(AV:U.Sl->List PA)(ps:List PS)(F:()->Option Nat)(i:Nat)(m:MV):gK AV (eQ ps F i m)=(eQ ps F i ⟨m.event,false,0,m.dest,U.Sl.nil⟩,AV m.ai):=by
 unfold gK eQ;dsimp only;exact zfw
theorem Mv{w0 W:World}{pb:Nat}{Z:List J.DS}{S:List U.State}{MM:Nat->List J.PV}(h:jy Z S)(hC:J.nw S)(hM:∀i,(∀z,Z[i]?=some z->eF W z (MM i))/\(Z[i]?=none->MM i=[]))(hN:Hy w0 W pb (Z.map aL) (vOf MM))(hl:Lw W.heap.size):
  ∃EN LV b hvs H D mbm n M Lr pmF acF,ka W W pb b (Z.map aL).length (psF (Z.map aL)) (bF (Z.map aL) (Z.map aL).length) EN LV hvs H D mbm n (D7 (Z.map aL) (vOf MM)) M Lr pmF acF/\SzP (psF (Z.map aL)) EN LV/\(∀m,∀a∈acF m,a.sz)/\EN=EN0 S/\∀r ev,aZ (psF (Z.map aL)) (bF (Z.map aL) (Z.map aL).length) EN LV H D M Lr pmF acF r ev=anS S r ev:=by
 have hlen:=h.len;have Zo:=hC.shp.len;have Xf:=hC.pos;have hzs:∀(i:Nat) (x:MS),(Z.map aL)[i]?=some x->∃z,x=aL z/\eF W z (MM i):=fun i x hx=>by
  obtain⟨z,hz,e,_⟩:=h.ms hx;exact⟨z,e,(hM i).1 z hz⟩
 have Y8:∀{v:U.Sl} {A:List U.Act},W.ownsRow 0 275 1 v.v A.length (A.map bo)->J.iE A->gu W W.heap.size v (o0 W W.heap.size v)/\(∀a∈o0 W W.heap.size v,a.sz)/\o0 W W.heap.size v=A.map kT:=fun hr hG=>by
  rw[Lb (Et hr hG)];exact⟨Et hr hG,fun a ha=>by
   obtain⟨x,hx,rfl⟩:=P0.1 ha;exact(EZ (hG.small x hx)).2,rfl⟩
 obtain⟨b,hvs,H,D,mbm,n,M,Lr,pmF,acF,hR,r1,r2,r3,r4,r5,L0,r6⟩:=Kk (o0 W W) hN za6 za6 (h.ok hC) (h.his hC) hl (fun i x hx=>by
  obtain⟨z,rfl,hw⟩:=hzs i x hx;exact⟨(Y8 hw.enter hw.enterG).1,(Y8 hw.leave hw.leaveG).1⟩) (fun i hi v hv=>by
  rw[PE]at hi;have hw:=(hM i).1 Z[i] (Pp hi);obtain⟨y,hy,rfl⟩:=P0.1 hv;have:=Y8 (hw.ai y hy) (hw.actsG y hy).2;exact⟨this.1,this.2.1⟩)
 have hsA:∀{i:Nat} (hi:i<S.length),J.sAt S i=S[i]:=fun hi=>by unfold J.sAt;rw[PH,Pp hi];rfl
 have hEN:enF (Z.map aL) (o0 W W)=EN0 S:=by
  funext i;unfold enF EN0;rw[Pv];cases hz:Z[i]? with
  |none=>rw[P6 zbp];rfl
  |some z=>
   have hi:i<S.length:=za0;have hw:=(hM i).1 z hz;rw[Pp hi,<- hsA hi];show o0 W W z.ve=(J.fj (J.sAt S i)).enter.map kT;rw[<- h.at' i z hz];exact(Y8 hw.enter hw.enterG).2.2
 have hLV:lvF (Z.map aL) (o0 W W)=LV0 S:=by
  funext i;unfold lvF LV0;rw[Pv];cases hz:Z[i]? with
  |none=>rw[P6 zbp];rfl
  |some z=>
   have hi:i<S.length:=za0;have hw:=(hM i).1 z hz;rw[Pp hi,<- hsA hi];show o0 W W z.vl=(J.fj (J.sAt S i)).leave.map kT;rw[<- h.at' i z hz];exact(Y8 hw.leave hw.leaveG).2.2
 have hAN:∀r ev,aZ (psF (Z.map aL)) (bF (Z.map aL) (Z.map aL).length) (enF (Z.map aL) (o0 W W)) (lvF (Z.map aL) (o0 W W)) H D M Lr pmF acF r ev=anS S r ev:=fun r ev=>by
  have e0:=h.bare;have el:(X0 S).length=(Z.map aL).length:=by rw[<- e0,PE]
  have e1:psF (X0 S)=(psF (Z.map aL)).map PS.e:=by rw[<- e0,J3]
  have e2:bF (X0 S) (X0 S).length=bF (Z.map aL) (Z.map aL).length:=by rw[<- e0,lA,PE]
  have e3:b7 (X0 S) (X0 S).length=b7 (Z.map aL) (Z.map aL).length:=by rw[<- e0,ts,PE]
  have e4:kL (X0 S) (X0 S).length=kL (Z.map aL) (Z.map aL).length:=by rw[<- e0,wz,PE]
  have VI:=pT (Z.map aL);rw[Cv (AV:=o0 W W) (L0:=L0) (T0:=ep (psF (Z.map aL)) (b7 (Z.map aL) (Z.map aL).length) (vOf MM) (Z.map aL).length) r4 (fun ev g hg=>by rw[VI];exact r6 ev g hg) (fun ev hn=>by
   have:=r3 ev;rw[hn]at this;unfold D7 at this;cases ht:ep (psF (Z.map aL)) (b7 (Z.map aL) (Z.map aL).length) (vOf MM) (Z.map aL).length ev with
   |none=>rfl
   |some row=>rw[ht]at this;cases this) (xx _) r ev,xv,hEN,hLV]
  have hV:(fun i=>(vOf MM i).map fun m=>(m.event,gK (o0 W W) (eQ (psF (Z.map aL)) (b7 (Z.map aL) (Z.map aL).length) i m)))=mvB S:=by
   funext i;unfold mvB vOf;rw[e1,N0,e3];cases hz:Z[i]? with
   |none=>rw[(hM i).2 hz,P6 zbp];rfl
   |some z=>
    have hi:i<S.length:=za0;have hw:=(hM i).1 z hz;rw[Pp hi,<- hsA hi];dsimp only;rw[<- h.at' i z hz,<- hw.mv,QW,QW];refine SO (fun y hy=>?_);show((MF y).event,gK _ (eQ _ _ i (MF y)))=(y.m.event,(eQ _ _ i ⟨y.m.event,false,0,y.m.to,U.Sl.nil⟩,y.m.ai.map kT));rw[OD,<- (Y8 (hw.ai y hy) (hw.actsG y hy).2).2.2];rfl
  rw[hV];unfold anS;rw[e1,Nr,show((psF (Z.map aL)).map PS.e).length=(psF (Z.map aL)).length from PE ..,e2,el];have hHH:H.map (fun h=>(h.idx,h.own))=(H0 S).map (fun h=>(h.idx,h.own)):=by
   unfold H0;rw[r1,QW,e4];exact(List.map_id _).symm
  refine Is hHH (fun k hk=>?_) _ r;obtain⟨y,hy⟩:∃y,H[k]?=some y:=⟨_,Pp hk⟩;have hq:(H0 S)[k]?.map (fun h=>(h.idx,h.own))=some (y.idx,y.own):=by rw[<- Pv,<- hHH,Pv,hy];rfl
  have hyl:y.idx<Z.length:=by
   have:=EO (Z.map aL) (Z.map aL).length (y.idx,y.own) (by rw[<- r1];exact P0.2 ⟨y,PD hy,rfl⟩);rw[PE]at this;exact this
  have hx:(Z.map aL)[y.idx]?=some (aL Z[y.idx]):=by rw[Pv,Pp hyl];rfl
  rw[r2 k y _ hy hx];unfold D0;cases h0:(H0 S)[k]? with
  |none=>rw[h0]at hq;cases hq
  |some y'=>
   rw[h0]at hq;simp only[Option.map_some,Option.some.injEq,Prod.mk.injEq]at hq;dsimp only;have hi:y.idx<S.length:=zaa;rw[hq.1,Pp hi,<- hsA hi];dsimp only;have:J.aj Z[y.idx].s=J.aj (J.sAt S y.idx):=by rw[h.at' y.idx _ (Pp hyl)];rfl
   rw[<- this];rfl
 refine⟨_,_,b,hvs,H,D,mbm,n,M,Lr,pmF,acF,hR,⟨fun i a ha=>?_,fun i a ha=>?_,fun i p hp=>?_⟩,r5,hEN,hAN⟩
 ·unfold enF at ha;split at ha
  ·rename_i x hx;obtain⟨z,rfl,hw⟩:=hzs i x hx;exact(Y8 hw.enter hw.enterG).2.1 a ha
  ·cases ha
 ·unfold lvF at ha;split at ha
  ·rename_i x hx;obtain⟨z,rfl,hw⟩:=hzs i x hx;exact(Y8 hw.leave hw.leaveG).2.1 a ha
  ·cases ha
 ·obtain⟨x,hx,e⟩:=J4 _ (h.ok hC) hp;obtain⟨z,rfl,hw⟩:=hzs i x hx;have:=hw.name;have h5:(aL z).name=z.s.name:=rfl;rw[show p.done=rR++(aL z).name from congrArg St.done e,h5,P2];have:rR.size=5:=rfl;omega
def StM(W:World)(S:List U.State)(sb:Nat)(p:Par)(r:RSt):Prop:=∃sv,r=stS S/\bR p.ps=bR (psF (X0 S))/\p.an=anS S/\W.heap[sb]?=some (.cells #[.string ⟨#[]⟩,.int .u64 r.now,sv] 50 (0,0))/\Nms W p.lo sv ((els r.act).map (bR p.ps))/\p.lo<=sb
def Co(s:())(w:World)(e:Ending)(w':World):Prop:=Below w w w'/\match J.read s with
 |.fault c l=>∃b,e=.returned (.tuple #[.pointer none,.slice none 0 0,.iface 73 (.pointer (some ⟨b,0,none⟩))])/\w'.heap[b]?=some (.cells #[.int .i64 c,.int .i64 l] 77 (0,0))
 |.dX S=>∃xb sb p r,e=.returned (.tuple #[.pointer (some ⟨xb,0,none⟩),.slice (some ⟨sb,0,none⟩) 1 1,fuelV r.fin])/\Ses w' w.heap.size xb p r/\r.now=0/\(quiet S=true->r.fin=0)/\StM w' S sb p r
end Y
theorem D5(s:())(w:World)(hv:qp w)(hs:s.size<=1073741824):
  () 21 #[s] w (Y.Co s w):=by
 have HR:Hid _:=Bv s w hv.lib hs;have HV:Hid _:=hv;clear hv;go_enter func21,ntmps21;go_wp2_with fail;refine Pw HR.out ?_;rintro e w1 ⟨U3,hp⟩;cases hR:J.read s with
 |fault c l=>
  rw[hR]at hp;obtain⟨b,rfl,Wl⟩:=hp;have Zg:Hid _:=hR;clear hR;dsimp only;go_wp2;go_ret3;unfold Y.Co;rw[Zg.out];exact⟨U3,b,rfl,Wl⟩
 |dX S=>
  rw[hR]at hp;obtain⟨cb,sv,X,rfl,XK,hXS,hC,YK⟩:=hp;have hRf:=hR;rw[J.nL]at hRf;have hCK:=J.oR hRf;have Xl:X.length<=24:=by rw[<- hXS,PE]at YK;exact YK
  have HT:Hid _:=sQ cb sv X w1 XK hC zaa (fun x hx=>(hCK.low x.s (by rw[<- hXS];exact QT hx)).1);have Zg:Hid _:=hR;have HXS:Hid _:=hXS;have HCK:Hid _:=hCK;clear hR hRf hXS YK Xl hC XK hCK;dsimp only;go_wp2_with fail;refine Pw HT.out ?_;rintro e w2 ⟨U4,cb2,sv2,Z,rfl,hcb2,hD⟩;have U8:=Y.LZ hD HXS.out;obtain⟨MM,hMM⟩:=Y.N3 hD;have hZl:Z.length=S.length:=U8.len;obtain⟨cg,cc,hch⟩:=Y.Ny hD hcb2 (by have:=HCK.out.pos;omega) hMM;have YW:=(HV.out.aq U3).aq U4;have HN:Hid _:=Mh w2 cb2 cg cc (Z.map Y.aL) (Y.vOf MM) hch (by rw[PE,hZl];exact HCK.out.shp.len) (fun i x hx=>by
   obtain⟨z,hz,rfl,_⟩:=U8.ms hx;have:=((hMM i).1 z hz).name;show z.s.name.size<=1000000;omega) (U8.ok HCK.out) (U8.his HCK.out) YW.lw.g5 YW.t5 YW.k5 (fun i=>(U8.OP HCK.out hMM i).1) (fun i=>(U8.OP HCK.out hMM i).2)
  have ZU:Hid (Below w w w2):=U3.trans (U4.mono U3.size);have HV2:Hid _:=YW;have HLO:Hid _:=U8;have HMM:Hid _:=hMM;clear YW U3 U4 hD hcb2 hch U8 hMM hZl;dsimp only;go_wp2_with fail;refine Pw HN.out ?_;rintro e w3 ⟨pb,rfl,hNP⟩;have VA:Below w2 w2 w3:=by
   obtain⟨_,_,_,_,_,_,_,hb,_⟩:=hNP;exact hb
  have hv3:=HV2.out.aq VA;obtain⟨EN,LV,b,hvs,H,D,mbm,n,M,Lr,pmF,acF,hRP,hSz,Vf,hEN,hAN⟩:=Y.Mv HLO.out HCK.out (fun i=>⟨fun z hz=>((HMM.out i).1 z hz).aq VA,(HMM.out i).2⟩) hNP hv3.lw;have VI:(Y.psF (Z.map Y.aL)).length=S.length:=by rw[Y.pT,PE];exact HLO.out.len
  obtain⟨p0,hp0⟩:∃p0,(Y.psF (Z.map Y.aL))[0]?=some p0:=⟨_,Pp (by have:=HCK.out.pos;omega)⟩;have ZY:p0.wth=Y.gn (Y.psF (Z.map Y.aL)) 0:=by unfold Y.gn;rw[hp0]
  have hwl:p0.wth<2 ^ (Y.psF (Z.map Y.aL)).length:=by rw[ZY,Y.pT];exact Y.kY (Y.Bp _ (HLO.out.ok HCK.out)) 0
  have HS:Hid _:=DW w3 (Y.Lo.all w3) pb b _ _ _ _ _ hvs H D mbm n _ M Lr pmF acF p0 hRP hSz Vf hp0 hwl (Po _) (Po _) hv3.t6 hv3.t5 (fun V=>qy _ V zac);have HB3:Hid (Below w w w3):=ZU.out.trans (VA.mono ZU.out.size);have HQ:Hid (Y.quiet S=true->(Y.dW (Y.psF (Z.map Y.aL)) (Y.bF (Z.map Y.aL) (Z.map Y.aL).length) EN LV H D M Lr pmF acF p0.wth).fin=0):=fun hq=>by
   have e0:=HLO.out.bare;unfold Y.quiet at hq;dsimp only at hq;have e1:Y.psF (Y.X0 S)=(Y.psF (Z.map Y.aL)).map Y.PS.e:=by rw[<- e0,Y.J3]
   have e2:Y.bF (Y.X0 S) (Y.X0 S).length=Y.bF (Z.map Y.aL) (Z.map Y.aL).length:=by rw[<- e0,Y.lA,PE]
   rw[e1,Y.sV,Y.uW,e2,<- hEN,<- ZY,Qe,Ri,Us]at hq;unfold Y.dW Y.fA;rw[Y.nM hq.1];exact hq.2
  have HMO:Hid (Y.dW (Y.psF (Z.map Y.aL)) (Y.bF (Z.map Y.aL) (Z.map Y.aL).length) EN LV H D M Lr pmF acF p0.wth=Y.stS S/\Y.bR (Y.psF (Z.map Y.aL))=Y.bR (Y.psF (Y.X0 S))/\∀r ev,Y.aZ (Y.psF (Z.map Y.aL)) (Y.bF (Z.map Y.aL) (Z.map Y.aL).length) EN LV H D M Lr pmF acF r ev=Y.anS S r ev):=by
   have e0:=HLO.out.bare;have e1:Y.psF (Y.X0 S)=(Y.psF (Z.map Y.aL)).map Y.PS.e:=by rw[<- e0,Y.J3]
   have e2:Y.bF (Y.X0 S) (Y.X0 S).length=Y.bF (Z.map Y.aL) (Z.map Y.aL).length:=by rw[<- e0,Y.lA,PE]
   refine⟨?_,by rw[e1,Y.Mf],hAN⟩;unfold Y.dW Y.stS;rw[e1,Y.sV,Y.uW,e2,<- hEN,<- ZY]
   congr 1
   funext r ev;exact hAN r ev
  have Vw:Y.ROK (Y.psF (Z.map Y.aL)) (Y.dW (Y.psF (Z.map Y.aL)) (Y.bF (Z.map Y.aL) (Z.map Y.aL).length) EN LV H D M Lr pmF acF p0.wth)/\Y.QOK (Y.dW (Y.psF (Z.map Y.aL)) (Y.bF (Z.map Y.aL) (Z.map Y.aL).length) EN LV H D M Lr pmF acF p0.wth):=
   Y.oQ (fun r x h k=>Y.ou hRP hSz Vf h k x) (Y.ny _ _ ⟨Q3 _,fun _=>Q3 _⟩ (Y.iI hwl)) (Y.nz hSz _ _ ⟨fun e he=>(by cases he),.inl rfl,zac,fun x hx=>(by cases hx)⟩)
  have Vr:(Y.dW (Y.psF (Z.map Y.aL)) (Y.bF (Z.map Y.aL) (Z.map Y.aL).length) EN LV H D M Lr pmF acF p0.wth).now=0:=(Y.wY (fun r x=>Y.zY r x) 60 _).trans (Y.sX _ _ _ _ _);have ZI:(Y.dW (Y.psF (Z.map Y.aL)) (Y.bF (Z.map Y.aL) (Z.map Y.aL).length) EN LV H D M Lr pmF acF p0.wth).q=[]:=rfl;have XU:Hid (∀(w4:World) (mb:Nat),Y.MT w4 (Y.Lo.all w3) mb pb (Y.dW (Y.psF (Z.map Y.aL)) (Y.bF (Z.map Y.aL) (Z.map Y.aL).length) EN LV H D M Lr pmF acF p0.wth)->Y.Rf (Y.Lo.all w3) w3 w4->Y.Idl w4 mb->Below w w (w4.alloc (.cells #[.pointer (some ⟨mb,0,none⟩)] 107))/\Y.Ses (w4.alloc (.cells #[.pointer (some ⟨mb,0,none⟩)] 107)) w.heap.size w4.heap.size ⟨Y.Lo.all w3.heap.size,mb,pb,b,_,Y.psF (Z.map Y.aL),Y.bF (Z.map Y.aL) (Z.map Y.aL).length,EN,LV,hvs,H,D,mbm,n,Y.D7 (Z.map Y.aL) (Y.vOf MM),M,Lr,pmF,acF⟩ (Y.dW (Y.psF (Z.map Y.aL)) (Y.bF (Z.map Y.aL) (Z.map Y.aL).length) EN LV H D M Lr pmF acF p0.wth)):=fun w4 mb YQ hRf hid=>by
   have WH:Below w4 w4 (w4.alloc (.cells #[mb] 107)):=(Pq _ _).alloc (Po _) _;have hs34:=hRf.bel.size;exact⟨HB3.out.trans ((hRf.bel.mono HB3.out.size).trans (WH.mono (Pr HB3.out.size hs34))),PG _ _,hs34,HB3.out.size,⟨Y.ka.rf (lo:=Y.Lo.all w3.heap.size) (Y.ka.rf (lo:=Y.Lo.all w3.heap.size) hRP hRf) (Y.RfE.of WH hs34),hSz,Vf,YQ.below hv3.lw WH,Vw.1,Vw.2,ZI,hid.bel YQ.lt WH⟩⟩
  generalize Y.dW (Y.psF (Z.map Y.aL)) (Y.bF (Z.map Y.aL) (Z.map Y.aL).length) EN LV H D M Lr pmF acF p0.wth=r at *;have HNW:Hid _:=Vr;clear VA hv3 hNP hRP hSz Vf hEN hAN ZY hwl hp0 Vw Vr ZI VI;dsimp only;go_wp2_with fail;refine Pw HS.out ?_;rintro e w4 ⟨mb,sb,sv4,rfl,hst,VD,YQ,hRf,hsb,hid⟩;have HE:Hid _:=XU.out w4 mb YQ hRf hid;have HS4:Hid (w4.heap[sb]?=_/\Y.Nms w4 w3 sv4 _/\w3.heap.size<=sb):=⟨hst,VD,hsb⟩;clear hst VD YQ hRf hsb hid;dsimp only;go_wp2;go_ret3;unfold Y.Co;rw[Zg.out];obtain⟨m1,m2,m3⟩:=HMO.out;have WH:Below w4 w4 (w4.alloc (.cells #[mb] 107)):=(Pq _ _).alloc (Po _) _;exact⟨HE.out.1,_,_,_,r,rfl,HE.out.2,HNW.out,HQ.out,sv4,m1,m2,funext fun r=>funext fun ev=>m3 r ev,(WH.block _ (Pn.1 HS4.out.1).1).trans HS4.out.1,Kd.row (bB (E:=fun _=>False) WH) HS4.out.2.1 (fun h=>h),HS4.out.2.2⟩
end
section
open Go.RowKit Go.Proofs Go.Shelf
theorem pV{fn:Func}{t u v x:Tmp}(h:fn.results=#[.tmp t,.tmp u,.tmp v,.tmp x])(tmps:Array Value)(P:Program)(w:World):(results fn tmps).run P w=.ok (.tuple #[tmps.getD t undef,tmps.getD u undef,tmps.getD v undef,tmps.getD x undef]) w:=by
 simp[results,h]
namespace Y
theorem fuel_err(n:Nat)(h:n=0\/n=5\/n=6):∃k,fuelV n=oB k/\(k=if n=6 then 6 else 0):=by
 rcases h with rfl|rfl|rfl
 ·exact⟨0,rfl,rfl⟩
 ·exact⟨0,rfl,rfl⟩
 ·exact⟨6,rfl,rfl⟩
end Y
end
section
namespace F
def mk(l:List UInt8):():=⟨⟨l⟩⟩
def kt:Nat->List UInt8
 |0=>[115,116,97,116,101,32,115,104,117,116,10,32,111,110,32,111,112,101,110,32,116,111,32,111,112,101,110,10,115,116,97,116,101,32,111,112,101,110,10,32,97,102,116,101,114,32,53,32,116,111,32,115,104,117,116,10,32,111,110,32,99,108,111,115,101,32,116,111,32,115,104,117,116,10]
 |1=>kt 0
 |2=>[112,97,114,97,108,108,101,108,32,112,10,32,115,116,97,116,101,32,97,10,32,32,115,116,97,116,101,32,97,49,10,32,32,32,111,110,32,120,32,116,111,32,97,50,10,32,32,102,105,110,97,108,32,97,50,10,32,115,116,97,116,101,32,98,10,32,32,115,116,97,116,101,32,98,49,10,32,32,32,111,110,32,121,32,116,111,32,98,50,10,32,32,102,105,110,97,108,32,98,50,10,32,111,110,32,100,111,110,101,46,112,32,116,111,32,101,10,115,116,97,116,101,32,101,10]
 |3=>[115,116,97,116,101,32,109,10,32,115,116,97,116,101,32,105,10,32,32,111,110,32,110,32,116,111,32,107,10,32,115,116,97,116,101,32,107,10,32,32,115,116,97,116,101,32,107,49,10,32,32,32,111,110,32,110,32,116,111,32,107,50,10,32,32,115,116,97,116,101,32,107,50,10,32,104,105,115,116,111,114,121,32,104,10,32,104,105,115,116,111,114,121,32,103,32,100,101,101,112,10,32,111,110,32,111,117,116,32,116,111,32,111,10,115,116,97,116,101,32,111,10,32,111,110,32,104,32,116,111,32,104,10,32,111,110,32,103,32,116,111,32,103,10,32,111,110,32,109,32,116,111,32,109,10]
 |4=>kt 3
 |5=>[115,116,97,116,101,32,97,10,32,111,110,32,120,32,116,111,32,98,32,100,111,32,114,97,105,115,101,32,114,10,32,108,101,97,118,101,32,100,111,32,114,97,105,115,101,32,108,10,115,116,97,116,101,32,98,10,32,101,110,116,101,114,32,100,111,32,114,97,105,115,101,32,110,10,32,111,110,32,108,32,116,111,32,99,10,115,116,97,116,101,32,99,10,32,111,110,32,114,32,116,111,32,100,10,115,116,97,116,101,32,100,10,32,111,110,32,110,32,116,111,32,101,10,102,105,110,97,108,32,101,10]
 |6=>[115,116,97,116,101,32,97,10,32,115,116,97,116,101,32,98,10,32,32,111,110,32,120,32,116,111,32,98,10,32,32,97,102,116,101,114,32,51,32,100,111,32,115,101,110,100,32,115,32,50,10,32,101,110,116,101,114,32,100,111,32,115,101,110,100,32,116,32,52,10,32,111,110,32,115,32,116,111,32,99,10,32,111,110,32,116,10,115,116,97,116,101,32,99,10]
 |7=>[115,116,97,116,101,32,97,10,32,97,102,116,101,114,32,48,32,116,111,32,98,10,115,116,97,116,101,32,98,10,32,97,102,116,101,114,32,48,32,116,111,32,99,10,115,116,97,116,101,32,99,10]
 |8=>[115,116,97,116,101,32,97,10,32,101,110,116,101,114,32,100,111,32,115,101,110,100,32,120,32,49,32,100,111,32,115,101,110,100,32,120,32,50,32,100,111,32,115,101,110,100,32,120,32,51,32,97,115,32,107,10,32,111,110,32,120,32,100,111,32,99,97,110,99,101,108,32,107,10]
 |9=>[115,116,97,116,101,32,97,10,32,111,110,32,120,32,116,111,32,98,10,32,115,116,97,116,101,32,98,10,32,32,111,110,32,120,10,32,115,116,97,116,101,32,99,10,32,32,111,110,32,120,32,116,111,32,97,10]
 |10=>[112,97,114,97,108,108,101,108,32,112,10,32,115,116,97,116,101,32,97,10,32,32,111,110,32,120,32,116,111,32,99,10,32,115,116,97,116,101,32,98,10,32,32,111,110,32,120,32,116,111,32,100,10,115,116,97,116,101,32,99,10,115,116,97,116,101,32,100,10]
 |_=>[112,97,114,97,108,108,101,108,32,112,10,32,115,116,97,116,101,32,97,10,32,32,115,116,97,116,101,32,97,49,10,32,32,32,111,110,32,120,32,116,111,32,98,50,10,32,115,116,97,116,101,32,98,10,32,32,115,116,97,116,101,32,98,49,10,32,32,115,116,97,116,101,32,98,50,10]
def kd:Nat->List (List UInt8)
 |0=>[[111,112,101,110],[46,52],[46,53],[111,112,101,110],[99,108,111,115,101],[46,57,57]]
 |1=>[[99,108,111,115,101],[111,112,101,110],[46,51],[46,50],[46,49,48,48]]
 |2=>[[121],[120]]
 |3=>[[110],[110],[111,117,116],[104],[111,117,116],[103],[111,117,116],[109]]
 |4=>[[111,117,116],[103],[110],[110],[111,117,116],[103]]
 |5=>[[120],[121]]
 |6=>[[46,51],[46,49,48]]
 |7=>[[46,48]]
 |8=>[[46,57]]
 |9=>[[120]]
 |10=>[[120]]
 |_=>[[120]]
end F
end
section
open Go.RowKit Go.Proofs Go.Shelf
namespace F
def sp(c:UInt8):List UInt8->List UInt8->List (List UInt8)
 |[],acc=>[acc]
 |x::l,acc=>if x=c then acc::sp c l [] else sp c l (acc++[x])
theorem Kt(c:UInt8):∀(l acc:List UInt8),sp c l acc≠[]
 |[],_=>by simp[sp]
 |x::l,acc=>by
  unfold sp;split
  ·simp
  ·exact Kt c l _
theorem E8(c x:UInt8):∀(l acc:List UInt8),sp c (l++[x]) acc=if x=c then sp c l acc++[[]] else(sp c l acc).set ((sp c l acc).length-1) ((sp c l acc)[(sp c l acc).length-1]?.getD []++[x])
 |[],acc=>by
  by_cases h:x=c
  ·simp[sp,h]
  ·simp[sp,h]
 |y::l,acc=>by
  have ih:=E8 c x l;have hp:=Kt c l [];rw[Sd];by_cases hy:y=c
  ·simp only[sp,if_pos hy,ih];by_cases h:x=c
   ·simp only[if_pos h,List.cons_append]
   ·simp only[if_neg h];obtain⟨a,L,hL⟩:∃a L,sp c l []=a::L:=by
     cases hq:sp c l [] with
     |nil=>exact absurd hq hp
     |cons a L=>exact⟨a,L,rfl⟩
    rw[hL];simp
  ·simp only[sp,if_neg hy,ih]
theorem CK(s:())(c:UInt8):U.cut s (c.toNat:Int)=(sp c s.data.toList []).map mk:=by
 have key:∀k,k<=s.data.toList.length->U.dD s (c.toNat:Int) k=(sp c (s.data.toList.take k) []).map mk:=by
  intro k
  induction k with
  |zero=>intro _;rfl
  |succ k ih=>
   intro hk;have ih:=ih zaa;have VB:k<s.data.toList.length:=zaa;obtain⟨x,hx⟩:∃x,s.data.toList[k]?=some x:=⟨_,Pp VB⟩;have hb:Go.PlainAid.bt s k=(x.toNat:Int):=by
    obtain⟨h1,rfl⟩:=Ps.1 hx;have h2:k<s.size:=h1;unfold Go.PlainAid.bt;rw[dif_pos h2];rfl
   have he:s.extract k (k+1)=mk [x]:=by
    have h1:(s.extract k (k+1)).data.toList=[x]:=by
     rw[ByteArray.data_extract,Array.toList_extract,List.extract_eq_take_drop,show k+1-k=1 by omega,List.take_one,List.head?_drop,hx];rfl
    generalize s.extract k (k+1)=z at h1;obtain⟨⟨z⟩⟩:=z;have h1:z=[x]:=h1;rw[h1];rfl
   rw[QE,hx,Sf,E8,U.dD,ih,hb,he];by_cases h:x=c
   ·rw[PC (by rw[h]),PC h,Qj];rfl
   ·have U9:¬((x.toNat:Int)=(c.toNat:Int)):=fun e=>h (T6.1 zaa);rw[Pu U9,Pu h,RB,PE,Pv]
    congr 1
    cases(sp c (s.data.toList.take k) [])[(sp c (s.data.toList.take k) []).length-1]? with
    |none=>rfl
    |some l=>simp[mk];rfl
 have:=key s.data.toList.length (Po _);rw[Qy]at this;exact this
def J7(P:List ()):U.Got:=match U.syn P with
 |some i=>.fault 2 ((i:Int)+1)
 |none=>match U.aT (U.aF P (P.length-1)) (P.length-1) with
  |none=>.fault 3 (U.iq (U.aF P (P.length-1)) (P.length-1))
  |some S=>match U.dE S S.length with
   |some l=>.fault 3 l
   |none=>match J.bC S P (P.length-1) with
    |some i=>.fault 4 ((i:Int)+1)
    |none=>.dX S
theorem Mn(l:List UInt8)(h:l.length<=1500):J.read (mk l)=J7 ((sp 10 l []).map mk):=by
 have h1:U.cut (mk l) 10=(sp 10 l []).map mk:=CK (mk l) 10;unfold J.read;rw[Pu (by show ¬1500<l.length;omega),h1];rfl
def okK(l:List UInt8):Bool:=decide (l.length<=1500)&&match J7 ((sp 10 l []).map mk) with|.dX S=>Y.quiet S|.fault _ _=>false
theorem M5(hk:k<12):okK (kt k)=true:=RG.1 (show((List.range 12).all fun k=>okK (kt k))=true by kernel_rfl) k (QF.2 hk)
theorem MA(hk:k<12):(mk (kt k)).size<=1073741824:=by
 have h:=M5 hk;unfold okK at h;rw[Qe]at h;have h1:=RO h.1;show(kt k).length<=_;omega
theorem AZ{k:Nat}(hk:k<12):∃S,J.read (mk (kt k))=.dX S/\Y.quiet S=true:=by
 have h:=M5 hk;unfold okK at h;rw[Qe]at h;have hs:=RO h.1;rw[Mn _ hs];cases hr:J7 ((sp 10 (kt k) []).map mk) with
 |fault c l=>rw[hr]at h;cases h.2
 |dX S=>
  rw[hr]at h;exact⟨S,rfl,h.2⟩
end F
namespace Y
def fuelN(fe:Nat):Nat:=if fe=6 then 6 else 0
theorem He(fe:Nat)(w:World)(hg:sg w):
  () 15 #[fuelV fe] w fun ev w'=>ev=.returned (.tuple #[.int .i64 (fuelN fe),(0:Int)])/\Below w w w':=by
 unfold fuelV fuelN;by_cases h:fe=6
 ·rw[PC h,PC h];exact uH 6 w hg
 ·rw[Pu h,Pu h];exact uJ w
def Cm(s:())(w:World)(e:Ending)(w':World):Prop:=Below w w w'/\match J.read s with
 |.fault c l=>e=.returned (.tuple #[.pointer none,.slice none 0 0,.int .i64 c,.int .i64 l])
 |.dX S=>∃xb sb p r,e=.returned (.tuple #[.pointer (some ⟨xb,0,none⟩),.slice (some ⟨sb,0,none⟩) 1 1,.int .i64 (fuelN r.fin),.int .i64 0])/\Ses w' w.heap.size xb p r/\r.now=0/\(quiet S=true->r.fin=0)/\StM w' S sb p r
theorem StM.aq{W W':World}{S:List U.State}{p:Par}{r:RSt}(h:StM W S sb p r)(hb:Below W W W'):StM W' S sb p r:=by
 obtain⟨sv,a,b,c,d,e,f⟩:=h;exact⟨sv,a,b,c,(hb.block _ (Pn.1 d).1).trans d,e.str (.bel hb),f⟩
end Y
theorem J.Bu{s:()}{c l:Int}(h:J.read s=.fault c l):0<c:=by
 unfold J.read at h
 repeat' split at h
 all_goals first|(cases h;decide)|cases h
theorem l8(s:())(w:World)(hv:qp w)(hs:s.size<=1073741824):
  () 12 #[s] w (Y.Cm s w):=by
 have HL:Hid _:=D5 s w hv hs;have HV:Hid _:=hv;clear hv;go_enter func12,ntmps12;go_wp2_with fail;refine Pw HL.out ?_;rintro e w1 ⟨U3,hp⟩;cases hR:J.read s with
 |fault c l=>
  rw[hR]at hp;obtain⟨b,rfl,Wl⟩:=hp;have Zg:Hid _:=hR;have HT:Hid _:=uI b c l w1 (HV.out.aq U3).s9 Wl;clear hR Wl;dsimp only;go_wp2_with fail;refine Pw HT.out ?_;rintro e w2 ⟨rfl,U4⟩;have HB:Hid _:=U3.trans (U4.mono U3.size);clear U4 U3;dsimp only;go_wp2
  (try simp only[Exit.inBlock,Exit.then])
  refine Q5 (pV rfl _ _ _) rfl ?_;unfold Y.Cm;rw[Zg.out];exact⟨HB.out,rfl⟩
 |dX S=>
  rw[hR]at hp;obtain⟨xb,sb,p,r,rfl,h1⟩:=hp;have Zg:Hid _:=hR;have HT:Hid _:=Y.He r.fin w1 (HV.out.aq U3).s9;have H1:Hid _:=h1;clear hR h1;dsimp only;go_wp2_with fail;refine Pw HT.out ?_;rintro e w2 ⟨rfl,U4⟩;have HB:Hid _:=U3.trans (U4.mono U3.size);have ZU:Hid _:=U4;clear U4 U3;dsimp only;go_wp2
  (try simp only[Exit.inBlock,Exit.then])
  refine Q5 (pV rfl _ _ _) rfl ?_;unfold Y.Cm;rw[Zg.out];exact⟨HB.out,xb,sb,p,r,rfl,H1.out.1.aq ZU.out,H1.out.2.1,H1.out.2.2.1,H1.out.2.2.2.aq ZU.out⟩
namespace Y
def evK(an:RSt->()->RSt)(r:RSt)(ev:()):List (()×RSt)×RSt:=if r.fin=0 then([(ev,cR an r ev)],cR an r ev) else([],r)
def ckK(an:RSt->()->RSt)(r:RSt)(t:Nat):List (()×RSt)×RSt:=if r.fin=0 then fI an t 201 0 r else([],r)
def sZ(r r':RSt):Nat:=if r.fin=0 then(if r'.fin=6 then 6 else 0) else r.fin
theorem LN.one{W:World}{n0:Nat}{ps:List PS}{ev:()}{r:RSt}{sv:Value}(h:W.heap[sb]?=some (.cells #[ev,.int .u64 r.now,sv] 50 (0,0)))(hn:Nms W n0 sv ((els r.act).map (bR ps)))(hb:n0<=sb):LN W n0 n0 ps (.slice sb 1 1) [(ev,r)]:=
 ⟨[sv],rfl,⟨rfl,.inr ⟨sb,1,_,rfl,hb,h,Po _,zag,rfl,rfl⟩⟩,fun y hy=>by
  obtain rfl:=PB.1 hy;exact hn⟩
theorem LN.nil{W:World}{n0:Nat}{ps:List PS}:LN W n0 n0 ps (.slice none 0 0) []:=⟨[],rfl,QC ..,fun y hy=>by cases hy⟩
end Y
section
variable (w:World)(n0 xb:Nat)(p:Y.Par)(r:Y.RSt)
def Y.Tld(z:List (()×Y.RSt)×Y.RSt)(l:Value)(k:Nat)(V:World):Prop:=k=Y.sZ r z.2/\Y.Ses V n0 xb p z.2/\Y.LN V p.lo p.lo p.ps l z.1/\Y.Rf p.lo w V/\Y.iU w V
variable {w n0 xb p r}
theorem Y.Tld.s9(h:Y.Tld w n0 xb p r z l k V)(hE:Y.sg w)(hg:0<n0):Y.sg V:=by
 obtain⟨_,h1,_,hf,_⟩:=h;exact(hf.bel.cell (p:=⟨0,0,none⟩) (PY hg h1.n0)).trans hE
theorem Y.Tld.aq{V':World}(h:Y.Tld w n0 xb p r z l k V)(hb:Below V V V'):Y.Tld w n0 xb p r z l k V':=by
 obtain⟨h4,h5,h6,h7,h8⟩:=h;exact⟨h4,h5.aq hb,h6.no (bB hb),h7.trans (Y.RfE.of hb h5.lv.mt.lo'),h8.trans (.bel hb)⟩
theorem Lq(h:Y.Ses w n0 xb p r)(hE:Y.sg w)(hg:0<n0)(Vu:∀ev:(),ev.size<=1000000->sf ev)(ev:())(Wq:ev.size<=1000000):
  () 17 #[xb,ev] w fun e w'=>∃l,∃k:Nat,e=.returned (.tuple #[l,(k:Int)])/\Hid (Y.Tld w n0 xb p r (Y.evK p.an r ev) l k w'):=by
 refine Pw (ui w xb p.mb (Y.Tld w n0 xb p r (Y.evK p.an r ev)) h.at' (fun l k V hV=>hV.s9 hE hg) ev ((FW w _ _ _ _ _ _ _ _ _ _ _ _ _ _ _ _ _ _ _ r ev h.lv Wq (Vu ev Wq)).mono fun e w' hw=>?_)) ?_
 ·unfold Y.xK at hw;by_cases hf:r.fin=0
  ·rw[PC hf]at hw;rw[show Y.evK p.an r ev=([(ev,Y.cR p.an r ev)],Y.cR p.an r ev) from PC hf];obtain⟨sb,sv,rfl,h5,h6,h7,h8,h9,h10⟩:=hw;obtain⟨k,e1,e2⟩:=Y.fuel_err _ h7.qk.fin;exact⟨_,k,by rw[<- e1],by unfold Y.sZ;rw[PC hf];exact e2,⟨h8.kd.aq _ _ _ _ h.at' zaO |>.trans h.at',h.lo,h.n0,h7⟩,.one h5 h6 h9,h8,h10⟩
  ·rw[Pu hf]at hw;rw[show Y.evK p.an r ev=([],r) from Pu hf];exact zdE
 ·exact zeI
theorem Lf(h:Y.Ses w n0 xb p r)(hE:Y.sg w)(hg:0<n0)(Vu:∀ev:(),ev.size<=1000000->sf ev)(t:Nat)(ht:t<18446744073709551616):
  () 18 #[xb,.int .u64 t] w fun e w'=>∃l,∃k:Nat,e=.returned (.tuple #[l,(k:Int)])/\Hid (Y.Tld w n0 xb p r (Y.ckK p.an r t) l k w'):=by
 refine Pw (uh w xb p.mb (Y.Tld w n0 xb p r (Y.ckK p.an r t)) h.at' (fun l k V hV=>hV.s9 hE hg) t ((FJ w _ _ _ _ _ _ _ _ _ _ _ _ _ _ _ _ _ _ _ r t h.lv ht Vu).mono fun e w' hw=>?_)) ?_
 ·unfold Y.qo at hw;by_cases hf:r.fin=0
  ·rw[PC hf]at hw;rw[show Y.ckK p.an r t=Y.fI p.an t 201 0 r from PC hf];obtain⟨sv,rfl,_,h6,h7,h8,h9⟩:=hw;obtain⟨k,e1,e2⟩:=Y.fuel_err _ h7.qk.fin;exact⟨_,k,by rw[<- e1],by unfold Y.sZ;rw[PC hf];exact e2,⟨h8.kd.aq _ _ _ _ h.at' zaO |>.trans h.at',h.lo,h.n0,h7⟩,h6,h8,h9⟩
  ·rw[Pu hf]at hw;rw[show Y.ckK p.an r t=([],r) from Pu hf];exact zdE
 ·exact zeI
end
namespace Y
def Mc(v:Value):Prop:=(∃a,v=.pointer a)\/∃i,v=.int .u64 i
def Ni(W:World)(k:Nat):Prop:=∀v,W.cell? k=some v->Mc v
def qh(t:TypeId):Prop:=eM t\/t=50
section
variable {w w':World}{lo pb b cap:Nat}{ps:List PS}{fin:Nat}{EN LV:Nat->List PA}{hvs:U.Sl}{H:List HV}{D:Nat->Bool}{mbm n:Nat}{T:()->Option (List (Option PM))}{M:()->Option Nat}{Lr:Nat->List (Option Nat)}{pmF:Nat->PM}{acF:Nat->List PA}
theorem ka.sep(h:ka w lo pb b cap ps fin EN LV hvs H D mbm n T M Lr pmF acF)(hk:Kd qh w w')(ho:KeepsOthers w w')(hb:Below 0 w w')(hs:∀(k:Nat) (v:Value),k<lo->w.cell? k=some v->¬Mc v->w'.heap[k]?=w.heap[k]?):ka w' lo pb b cap ps fin EN LV hvs H D mbm n T M Lr pmF acF:=by
 have Vo:w'.heap[pb]?=w.heap[pb]?:=hs pb _ h.bJ.pb' h.bJ.bJ.row (by rintro(⟨_,e⟩|⟨_,e⟩)<;>cases e);have hc:∀i,w'.cell? ⟨pb,i,none⟩=w.cell? ⟨pb,i,none⟩:=fun i=>PN (a:=⟨pb,i,none⟩) Vo;have hA:∀(v:U.Sl) (L:List PA),gu w lo v L->gu w' lo v L:=fun v L a=>⟨a.n,a.cap,fun k x hx=>by
  obtain⟨ab,a1,a2,a3⟩:=a.cell k x hx;obtain⟨x0,h0⟩:∃x0,L[0]?=some x0:=⟨_,Pp (by have:=(Ps.1 hx).1;omega)⟩;obtain⟨ab',b1,_,b3⟩:=a.cell 0 x0 h0;rw[a1]at b1;cases b1
  exact⟨ab,a1,a2,(PN (a:=⟨ab,k,none⟩) (hs ab _ a2 b3 (by cases x0<;>(rintro(⟨_,e⟩|⟨_,e⟩)<;>cases e)))).trans a3⟩,a.ok,a.len⟩
 refine⟨⟨⟨(hc 0).trans h.bJ.bJ.row,fun i p hi=>?_,h.bJ.bJ.sm,h.bJ.bJ.len⟩,h.bJ.pb',h.bJ.b',(hc 2).trans h.bJ.f2,h.bJ.finl,h.bJ.own,h.bJ.pts,fun i p hp=>hA _ _ (h.bJ.en i p hp),fun i p hp=>hA _ _ (h.bJ.lv i p hp),h.bJ.lw⟩,⟨(hc 1).trans h.hist.c1,Kd.row hk h.hist.row zaP,fun k y hy=>?_,h.hist.len⟩,⟨Vo.trans h.mov.pl,h.mov.tab.kd (P:=(·≠mbm)) hk (fun t ht=>?_) zaP ⟨hb.os,hb.tape,hb.output,hb.size,fun k hk hn=>?_⟩ (fun h=>h rfl)⟩,fun ev g i m a b=>?_,h.N,h.inn⟩
 ·obtain⟨p0,h0⟩:∃p0,ps[0]?=some p0:=⟨_,Pp (by have:=(Ps.1 hi).1;omega)⟩;have hc0:=(h.bJ.bJ.at' 0 p0 h0).c0;have Wl:=hs b _ h.bJ.b' hc0 (by rintro(⟨_,e⟩|⟨_,e⟩)<;>cases e);refine(h.bJ.bJ.at' i p hi).mo (P:=(·≠b)) ⟨hb.os,hb.tape,hb.output,hb.size,fun k _ hn=>?_⟩ (PW _ _ hc0) (fun h=>h rfl);obtain rfl:k=b:=Ra hn;exact Wl
 ·obtain⟨a,b,po,c,d⟩:=h.hist.aq k y hy;exact⟨a,b,po,c,d.kd hk zaP zaP⟩
 ·rcases ht with rfl|rfl|rfl|rfl|rfl<;>(unfold qh eM;decide)
 ·obtain rfl:k=mbm:=Ra hn;obtain⟨es,cl,hm⟩:=h.mov.tab.map.kind;exact(ho.same k _ hm rfl).trans hm.symm
 ·have hm:=h.mva ev g i m a b;exact⟨hm.at'.kd hk (fun t ht=>by rcases ht with rfl|rfl|rfl|rfl|rfl<;>(unfold qh eM;decide)),hm.own,hm.lv,hA _ _ hm.ai,hm.en⟩
end
theorem AY{W W':World}(hm:Mo P W W')(hP:∀k,P k->∃c t f,W.heap[k]?=some (.cells c t f)):KeepsOthers W W':=⟨hm.size,fun k o hk ho=>(hm.block k (Pn.1 hk).1 (fun hp=>by
 obtain⟨c,t,f,h1⟩:=hP k hp;rw[hk]at h1;cases h1
 cases ho)).trans hk⟩
def Own(O:Nat->Prop)(W:World)(k:Nat):Prop:=O k/\Ni W k/\∃c t f,W.heap[k]?=some (.cells c t f)/\eM t
def Lo.own(n:Nat)(O:Nat->Prop)(W:World)(h:n<=W.heap.size):Lo:=⟨n,W.heap.size,fun k=>n<=k/\(W.heap.size<=k\/O k/\Ni W k),fun _ h=>h.1,fun _ hk=>⟨Pr h hk,.inl hk⟩⟩
def Par.own(p:Par)(O:Nat->Prop)(W:World)(h:p.lo.n<=W.heap.size):Par:={ p with lo:=Lo.own p.lo.n O W h }
section
variable {W W':World}{n0 xb:Nat}{p:Par}{r:RSt}
theorem Ses.sep(h:Ses W n0 xb p r){Q:Nat->Prop}(hm:Mo (Own Q W) W W')(O:Nat->Prop)(hO:∀k,k<W.heap.size->p.lo.ok k->O k)(hQ:∀k,Q k->O k->False)(hl:Lw n0)(hn:∀k,Q k->n0<=k):Ses W' n0 xb (p.own O W' (Pr h.lv.mt.lo' hm.size)) r:=by
 have hk:Kd qh W W':=gS hm (fun k c t f hp hc=>by
  obtain⟨_,_,c',t',f',h1,h2⟩:=hp;rw[hc]at h1;cases h1
  exact .inl h2)
 have ho:KeepsOthers W W':=AY hm (fun k ⟨_,_,c,t,f,h1,_⟩=>⟨c,t,f,h1⟩);have Y2:n0<=W.heap.size:=Pr h.n0 h.lv.mt.lo';have hb:Below n0 W W':=⟨hm.os,hm.tape,hm.output,hm.size,fun k hk=>hm.block k (PY hk Y2) (fun hp=>by have:=hn k hp.1;omega)⟩;obtain⟨qv,wh,a,R,b,c⟩:=h.lv.mt.ex;have hq:qv=.slice none 0 0:=Qh ((a.cell 26 zac:W.cell? (p.mb,26)=some qv).symm.trans h.lv.idl);have hom:=hO _ a.lt a.lo';have a':aw W' p.lo p.mb p.pb qv (r.m wh):=a.mo hm (fun hp=>hQ _ hp.1 hom) (fun g hg=>by rw[hq]at hg;cases hg);have Vi:∀q,isR q->∀(i:Nat) (x:Nd),(R q)[i]?=some x->O x.1/\W'.heap[x.1]?=W.heap[x.1]?:=fun q hq i x hi=>by
  have h1:=b.rgs.nds q hq i x hi;have Vd:=(Pn.1 h1).1;have ho:=hO _ Vd (b.rgs.low q hq x (PD hi));exact⟨ho,hm.block _ Vd (fun hp=>hQ _ hp.1 ho)⟩
 refine⟨(hk.aq _ _ _ _ h.at' zaP).trans h.at',h.lo,h.n0,⟨ka.sep h.lv.run hk ho (hb.mono (PK _)) (fun k v _ hv hc=>hm.block k (PW _ _ hv) (fun hp=>hc (hp.2.1 v hv))),h.lv.sz,h.lv.sza,⟨⟨qv,wh,⟨a'.blk,a'.que,⟨p.lo.le _ a.lo',.inr ⟨hom,fun v hv=>?_⟩⟩,fun g hg=>?_,Po _⟩,R,⟨⟨b.rgs.ring,fun q hq i x hi=>(Vi q hq i x hi).2.trans (b.rgs.nds q hq i x hi),fun q hq x hx=>?_,b.rgs.dis,b.rgs.nod⟩,b.held⟩,c⟩,Pr h.lv.mt.lo' hm.size,h.lv.mt.act,h.lv.mt.now,h.lv.mt.tml,fY hl hb h.lv.mt.tab,cC hl hb h.lv.mt.tab5⟩,h.lv.ok,h.lv.qk,h.lv.q0,a.idl a' h.lv.idl⟩⟩
 ·obtain rfl:=Qh ((a'.cell 0 zac).symm.trans hv);exact .inl ⟨_,rfl⟩
 ·rw[hq]at hg;cases hg
 ·obtain⟨i,hi⟩:=P5.1 hx;obtain⟨h1,h2⟩:=Vi q hq i x hi;refine⟨p.lo.le _ (b.rgs.low q hq x hx),.inr ⟨h1,fun v hv=>?_⟩⟩;rw[Pt _ _ _ _ _ _ (h2.trans (b.rgs.nds q hq i x hi))]at hv;cases hv
  exact .inr ⟨_,rfl⟩
theorem Ses.stp(h:Ses W n0 xb p r)(hm:Mo P W W')(hP:∀k,P k->p.lo.n<=k/\∃c,W.heap[k]?=some (.cells c 50 (0,0))):Ses W' n0 xb p r:=by
 have hl0:=h.lv.mt.lo';have hk:Kd qh W W':=gS hm (fun k c t f hp hc=>by
  obtain⟨_,c',h1⟩:=hP k hp;rw[hc]at h1;cases h1
  exact .inr rfl)
 have hb:Below p.lo.n W W':=⟨hm.os,hm.tape,hm.output,hm.size,fun k hk=>hm.block k (PY hk hl0) (fun hp=>zbY)⟩;have Yx:∀k,P k->∃c t,W.heap[k]?=some (.cells c t (0,0))/\¬dc t:=fun k hk=>by
  obtain⟨_,c,hc⟩:=hP k hk;exact⟨c,_,hc,qG⟩
 exact⟨(hk.aq _ _ _ _ h.at' zaP).trans h.at',h.lo,h.n0,⟨ka.sep h.lv.run hk (AY hm (fun k hk=>by obtain⟨c,t,h,_⟩:=Yx k hk;exact⟨c,t,_,h⟩)) (hb.mono (PK _)) (fun k v hk _ _=>hb.block k hk),h.lv.sz,h.lv.sza,h.lv.mt.moU h.lv.run.bJ.lw hm (fun k hk=>⟨(hP k hk).1,Yx k hk⟩),h.lv.ok,h.lv.qk,h.lv.q0,h.lv.idl.moU h.lv.mt hm Yx⟩⟩
end
structure Sn(W:World)(n0 xb b:Nat)(ps:List PS)(an:RSt->()->RSt)(r:RSt)(O:Nat->Prop):Prop where
 ex:∃p:Par,Ses W n0 xb p r/\p.lo.n=b/\p.ps=ps/\p.an=an/\∀k,k<W.heap.size->p.lo.ok k->O k
 own:∀k,O k->n0<=k/\k<W.heap.size
def Gr(O:Nat->Prop)(W W':World)(k:Nat):Prop:=O k\/W.heap.size<=k/\k<W'.heap.size
def An(W:World)(n0 xb b:Nat)(ps:List PS)(an:RSt->()->RSt)(r:RSt)(O:Nat->Prop)(z:List (()×RSt)×RSt)(l:Value)(k:Nat)(W':World):Prop:=k=sZ r z.2/\Sn W' n0 xb b ps an z.2 (Gr O W W')/\LN W' b b ps l z.1/\Mo (Own O W) W W'
section
variable {W W' W2:World}{n0 xb b:Nat}{ps:List PS}{an:RSt->()->RSt}{r:RSt}{O Q:Nat->Prop}
theorem Sn.le(h:Sn W n0 xb b ps an r O):n0<=b/\b<=W.heap.size:=by
 obtain⟨p,h1,rfl,_⟩:=h.ex;exact⟨h1.n0,h1.lv.mt.lo'⟩
theorem Sn.other(h:Sn W n0 xb b ps an r O)(hm:Mo (Own Q W) W W')(hQ:∀k,Q k->O k->False)(hl:Lw n0)(hn:∀k,Q k->n0<=k):Sn W' n0 xb b ps an r O:=by
 obtain⟨p,h1,h2,h3,h4,h5⟩:=h.ex;exact⟨⟨_,h1.sep hm O h5 hQ hl hn,h2,h3,h4,fun k hk ho=>ho.2.elim (fun h=>absurd h zaa) (fun h=>h.1)⟩,fun k hk=>⟨(h.own k hk).1,PY (h.own k hk).2 hm.size⟩⟩
theorem Sn.aq(h:Sn W n0 xb b ps an r O)(hb:Below W W W')(hl:Lw n0):Sn W' n0 xb b ps an r O:=h.other (Q:=fun _=>False) (az hb) (fun _ h _=>h) hl (fun _ h=>h.elim)
theorem Sn.mono(h:Sn W n0 xb b ps an r O){O':Nat->Prop}(h1:∀k,O k->O' k)(h2:∀k,O' k->n0<=k/\k<W.heap.size):Sn W n0 xb b ps an r O':=by
 obtain⟨p,a1,a2,a3,a4,a5⟩:=h.ex;exact⟨⟨p,a1,a2,a3,a4,fun k hk ho=>h1 k (a5 k hk ho)⟩,h2⟩
theorem NN(h:∀k,O k->n0<=k/\k<W.heap.size)(hn:n0<=W.heap.size)(hs:W.heap.size<=W'.heap.size)(k:Nat)(hk:Gr O W W' k):n0<=k/\k<W'.heap.size:=by
 rcases hk with hk|hk
 ·have:=h k hk;omega
 ·omega
theorem N1{p:Par}{hle:p.lo.n<=W.heap.size}(hf:Rf (p.own O W hle).lo W W')(hs:iU W W'):Mo (Own O W) W W':=⟨hf.bel.os,hf.bel.tape,hf.bel.output,hf.bel.size,fun k hk hn=>Ra fun U9=>by
 have Vw:(p.own O W hle).lo.ok k:=Ra fun h=>U9 (hf.own k hk h);have Vw:O k/\Ni W k:=Vw.2.elim (fun h=>absurd h zaa) id;obtain⟨o,ho⟩:∃o,W.heap[k]?=some o:=⟨_,SC hk⟩;cases hc:o.isCells with
 |false=>exact U9 ((hf.oth.same k o ho hc).trans ho.symm)
 |true=>
  obtain⟨c,t,f,rfl⟩:∃c t f,o=.cells c t f:=by cases o<;>first|exact⟨_,_,_,rfl⟩|cases hc
  by_cases ht:dc t
  ·rcases ht with rfl|rfl|rfl
   ·exact hn ⟨Vw.1,Vw.2,c,_,f,ho,.inl rfl⟩
   ·exact U9 ((hs k c f ho).trans ho.symm)
   ·exact hn ⟨Vw.1,Vw.2,c,_,f,ho,.inr rfl⟩
  ·exact U9 (hf.kd.aq k c t f ho ht)⟩
theorem Sn.tld(h:Sn W n0 xb b ps an r O)(hl:Lw n0){f:Nat}{av:Array Value}(hc:∀p:Par,p.an=an->Ses W n0 xb p r->() f av W fun e w'=>∃l,∃k:Nat,e=.returned (.tuple #[l,(k:Int)])/\Hid (Tld W n0 xb p r z l k w')):() f av W fun e w'=>∃l,∃k:Nat,e=.returned (.tuple #[l,(k:Int)])/\Hid (An W n0 xb b ps an r O z l k w'):=by
 obtain⟨p,h1,h2,h3,h4,h5⟩:=h.ex;refine Pw (hc (p.own O W h1.lv.mt.lo') h4 (h1.sep (Q:=fun _=>False) (Mo.refl _ _) O h5 (fun _ h _=>h) hl (fun _ h=>h.elim))) ?_;rintro e w' ⟨l,k,rfl,hT⟩;obtain⟨t1,t2,t3,t4,t5⟩:=hT.out;have hm:=N1 t4 t5;subst h2 h3;refine⟨l,k,rfl,t1,⟨⟨_,t2,rfl,rfl,h4,fun k hk ho=>?_⟩,NN h.own (Pr h.le.1 h.le.2) hm.size⟩,t3,hm⟩;exact ho.2.elim (fun h=>.inr ⟨h,hk⟩) (fun h=>.inl h.1)
end
end Y
namespace F
def xM(W:World)(v:U.Sl)(N:List ()):Prop:=v.n=N.length/\N.length<=v.c/\N.length<=32/\∀(k:Nat) (x:()),N[k]?=some x->∃g,v.a=some ⟨g,0,none⟩/\W.cell? ⟨g,k,none⟩=some ↑x
def zM(W:World)(v:U.Sl)(L:List (()×Nat×List ())):Prop:=v.n=L.length/\L.length<=v.c/\∀(k:Nat) (x:()×Nat×List ()),L[k]?=some x->∃g sl,v.a=some ⟨g,0,none⟩/\W.cell? ⟨g,k*3,none⟩=some ↑x.1/\W.cell? ⟨g,k*3+1,none⟩=some (.int .u64 x.2.1)/\W.cell? ⟨g,k*3+2,none⟩=some (.slice (U.Sl.a sl) sl.n sl.c)/\xM W sl x.2.2
theorem xM.aq{W W':World}{N:List ()}(h:xM W v N)(hb:Below W W W'):xM W' v N:=⟨h.1,h.2.1,h.2.2.1,fun k x hx=>by
 obtain⟨g,a,c⟩:=h.2.2.2 k x hx;exact⟨g,a,(hb.cell (p:=(g,k)) (PW _ _ c)).trans c⟩⟩
theorem zM.aq{W W':World}{L:List (()×Nat×List ())}(h:zM W v L)(hb:Below W W W'):zM W' v L:=⟨h.1,h.2.1,fun k x hx=>by
 obtain⟨g,sl,a,c1,c2,c3,n⟩:=h.2.2 k x hx;have hg:=PW _ _ c1;exact⟨g,sl,a,(hb.cell (p:=(g,k*3)) hg).trans c1,(hb.cell (p:=(g,k*3+1)) hg).trans c2,(hb.cell (p:=(g,k*3+2)) hg).trans c3,n.aq hb⟩⟩
def tdS(ps:List Y.PS)(x:()×Y.RSt):()×Nat×List ():=(x.1,x.2.now,(Y.els x.2.act).map (Y.bR ps))
theorem kS{W:World}{base e size n:Nat}{v:Value}(h:W.ownsRow base e size v n xs):∃sl:U.Sl,v=.slice sl.a sl.n sl.c:=by
 rcases h.2 with⟨h0,_⟩|⟨g,cap,cur,h0,_⟩
 ·exact⟨⟨none,0,0⟩,h0⟩
 ·exact⟨⟨some ⟨g,0,none⟩,n,cap⟩,h0⟩
theorem zg{W:World}{b e size n:Nat}(h:W.ownsRow b e size (.slice v.a v.n v.c) n xs):v.n=n/\n<=v.c:=by
 rcases h.2 with⟨h0,h1⟩|⟨g,cap,cur,h0,_,_,h3,_⟩
 ·simp only[Value.slice.injEq]at h0;omega
 ·simp only[Value.slice.injEq]at h0;omega
theorem Fy{w:World}{ops:Array Oper}{rest:List Oper}{o:Oper}{a:Act}{Q:Exit->Act->World->Prop}(hgd:o.guard=none)(s x:Operand)(ho:o.op=.call { callee:=.builtin .append,args:=#[s,x],argTypes:=#[26,26] })
  (base lo:Nat) (ps:List Y.PS) (v u:Value) (A B:List (()×Y.RSt)) (hs:a.eval s=v) (hx:a.eval x=u) (hA:Y.LN w base lo ps v A) (hB:Y.LN w lo lo ps u B) (hn:A.length+B.length<=4000000) (Yd:base<=w.heap.size)
  (h:∀(sl:U.Sl) w',Y.LN w' base lo ps (.slice sl.a sl.n sl.c) (A++B)->Mo (fun k=>v.ownBlock=some k) w w'->wpList prog ops Q rest (a.put o.dst (.slice sl.a sl.n sl.c)) w'):wpList prog ops Q (o::rest) a w:=by
 obtain⟨i0,hi,Vv,Vk,Vl⟩:=QV wC;obtain⟨va,a1,a2,a3⟩:=hA;obtain⟨vb,b1,b2,b3⟩:=hB
 rcases b2.2 with⟨rfl,hn0⟩|⟨g,cap,cur,rfl,c1,c2,c3,c4,c5,c6⟩
 ·obtain rfl:=RC.1 hn0;refine wpList_append_own_none hgd s x _ ho base _ i0 3 underlying26 hi v A.length _ hs a2 hx ?_;obtain⟨sl,rfl⟩:=kS a2;exact h sl w ⟨va,by rw[Rb];exact a1,by rw[Rb];exact a2,by rw[Rb];exact a3⟩ (Mo.refl _ _)
 ·have hln:((B.zip vb).flatMap Y.stC).length=B.length*3:=b2.1;refine wpList_append_own _ hgd s x _ ho base _ i0 _ 3 48 underlying26 hi Vv Vk Vl rfl zac v A.length _ hs a2 ⟨g,0,none⟩ B.length cap ((B.zip vb).flatMap Y.stC) hx hln (fun j y hj=>?_) (fun y hy=>?_) zag zaa Yd (fun v' w' d1 d2 _=>?_)
  ·rw[<- c6,Sz]at hj;split at hj
   ·rw[QJ]at hj;simp[Addr.add_lit,World.cell?,c2,hj]
   ·cases hj
  ·obtain⟨z,hz,hy⟩:=Rv.1 hy;obtain⟨na,nc,e⟩:=(b3 z hz).n;unfold Y.stC at hy;rw[e]at hy;simp at hy
   rcases hy with rfl|rfl|rfl<;>rfl
  ·obtain⟨sl,rfl⟩:=kS d1;have hm:Mo (fun k=>v.ownBlock=some k) w w':=⟨d2.os,d2.tape,d2.output,d2.size,fun k hk hn=>d2.block k hk (fun e=>hn e.symm)⟩;have hk:Kd Y.qh w w':=gS hm (fun k c t f hp hc=>by
    obtain⟨c',Ve⟩:=b8 a2 k hp;rw[hc]at Ve;cases Ve
    exact .inr rfl)
   refine h sl w' ⟨va++vb,by simp[a1,b1],?_,fun y hy=>?_⟩ hm
   ·rw[Ue a1.symm,Qc,PI];exact d1
   ·rw[Ue a1.symm]at hy
    rcases PQ.1 hy with hy|hy
    ·exact Kd.row hk (a3 y hy) (by unfold Y.qh Y.eM;decide)
    ·exact Kd.row hk (b3 y hy) (by unfold Y.qh Y.eM;decide)
theorem r8{W:World}{base lo:Nat}{ps:List Y.PS}{L:List (()×Y.RSt)}(h:Y.LN W base lo ps (.slice v.a v.n v.c) L):zM W v (L.map (tdS ps)):=by
 obtain⟨vs,hl,h,hn⟩:=h;refine⟨by rw[PE];exact(zg h).1,by rw[PE];exact(zg h).2,fun k y hy=>?_⟩;rw[Pv]at hy;obtain⟨x,hx,rfl⟩:=PU.1 hy;obtain⟨hk,rfl⟩:=Ps.1 hx;obtain⟨g,cap,e⟩:=U.dy h zaa;have h0:=aJ h (PK _);rw[e]at h0;simp only[Value.slice.injEq]at e;have hz:(L.zip vs).length=L.length:=by rw[List.length_zip];omega
 have h1:W.ownsRow 0 50 3 (.slice g (L.zip vs).length cap) (L.zip vs).length ((L.zip vs).flatMap Y.stC):=by rw[hz];exact h0
 have hg:(L.zip vs)[k]'(zaa)=(L[k],vs[k]'(zaa)):=List.getElem_zip;have VD:=hn _ (P7 (show k<(L.zip vs).length by omega));rw[hg]at VD;obtain⟨sl,hsl⟩:=kS VD;have hsl:vs[k]'(zaa)=.slice sl.a sl.n sl.c:=hsl;refine⟨g,sl,e.1,(Row.cell (f:=Y.stC) (n:=3) (fun _=>rfl) h1 (j:=0) zac zaa).trans ?_,(Row.cell (f:=Y.stC) (n:=3) (fun _=>rfl) h1 (j:=1) zac zaa).trans ?_,(Row.cell (f:=Y.stC) (n:=3) (fun _=>rfl) h1 (j:=2) zac zaa).trans ?_,?_⟩
 ·rw[hg];rfl
 ·rw[hg];rfl
 ·rw[hg];show some (vs[k]'(zaa))=_;rw[hsl]
 ·have VD:Y.Nms W lo (vs[k]'(zaa)) ((Y.els L[k].2.act).map (Y.bR ps)):=VD;rw[hsl]at VD;have h32:((Y.els L[k].2.act).map (Y.bR ps)).length<=32:=by
   rw[PE];unfold Y.els;exact Pr (QI _ _) (by rw[RZ];exact Po _)
  show xM W sl ((Y.els L[k].2.act).map (Y.bR ps));generalize(Y.els L[k].2.act).map (Y.bR ps)=N at VD h32;refine⟨(zg VD).1,(zg VD).2,h32,fun j y hy=>?_⟩;obtain⟨hj,rfl⟩:=Ps.1 hy;obtain⟨g2,cap2,e2⟩:=U.dy VD zaa;have h0:=aJ VD (PK _);rw[e2]at h0;simp only[Value.slice.injEq]at e2;have:=Row.cell (f:=Y.D6) (n:=1) (fun _=>rfl) h0 (j:=0) zac hj;rw[SK,UM]at this;exact⟨g2,e2.1,this.trans rfl⟩
end F
theorem G5(w:World)(u v:U.Sl)(N:List ())(hu:F.xM w u N)(hv:F.xM w v N):
  () 16 #[.slice u.a u.n u.c,.slice v.a v.n v.c] w fun e w'=>e=.returned true/\Below w w w':=by
 obtain⟨ua,un,uc⟩:=u;obtain⟨va,vn,vc⟩:=v;obtain⟨h1,h2,h32,_⟩:=id hu;obtain⟨h3,h4,_⟩:=id hv;dsimp only at h1 h2 h3 h4;subst h1;subst h3;have HU:Hid (∀W,Below w w W->F.xM W ⟨ua,N.length,uc⟩ N/\F.xM W ⟨va,N.length,vc⟩ N):=fun W hb=>⟨hu.aq hb,hv.aq hb⟩;clear hu hv;go_enter func16,ntmps16;go_wp2
 go_loopw[5] (fun i wr=>∃k:Nat,k<=N.length/\i=.int .i64 k/\Hid (Below w w wr)) (fun i _=>N.length-(intOf i).toNat)
 case atStart=>exact⟨0,PK _,rfl,Pq _ _⟩
 case round=>
  obtain⟨k,hk,rfl,HB⟩:=hrel;by_cases Vd:k<N.length
  ·obtain⟨x,hx⟩:∃x,N[k]?=some x:=⟨_,Pp Vd⟩;obtain⟨q1,q2⟩:=HU.out wr HB.out;obtain⟨g,ha,c1⟩:=q1.2.2.2 k x hx;obtain⟨g',ha',c2⟩:=q2.2.2.2 k x hx;dsimp only at ha ha';subst ha;subst ha';have hs:(x.toList == x.toList)=true:=zad;have hlt':((k:Int)<(N.length:Int)):=zaa;clear q1 q2 hx;go_wp2
   go_quiet(fail)
   go_wp2
   go_round
   case rel=>exact⟨k+1,zaa,zah,RM HB.out _⟩
   case measure=>simp[intOf];omega
  ·obtain rfl:k=N.length:=zaa;go_wp2;go_ret;exact⟨rfl,HB.out⟩
theorem vT(w:World)(u v:U.Sl)(L:List (()×Nat×List ()))(hu:F.zM w u L)(hv:F.zM w v L)(hL:L.length<=4000000):
  () 8 #[.slice u.a u.n u.c,.slice v.a v.n v.c] w fun e w'=>e=.returned true/\Below w w w':=by
 obtain⟨ua,un,uc⟩:=u;obtain⟨va,vn,vc⟩:=v;obtain⟨h1,h2,_⟩:=id hu;obtain⟨h3,h4,_⟩:=id hv;dsimp only at h1 h2 h3 h4;subst h1;subst h3;have HU:Hid (∀W,Below w w W->F.zM W ⟨ua,L.length,uc⟩ L/\F.zM W ⟨va,L.length,vc⟩ L):=fun W hb=>⟨hu.aq hb,hv.aq hb⟩;clear hu hv;go_enter func8,ntmps8;go_wp2
 go_loopw[5] (fun i wr=>∃k:Nat,k<=L.length/\i=.int .i64 k/\Hid (Below w w wr)) (fun i _=>L.length-(intOf i).toNat)
 case atStart=>exact⟨0,PK _,rfl,Pq _ _⟩
 case round=>
  obtain⟨k,hk,rfl,HB⟩:=hrel;by_cases Vd:k<L.length
  ·obtain⟨x,hx⟩:∃x,L[k]?=some x:=⟨_,Pp Vd⟩;obtain⟨q1,q2⟩:=HU.out wr HB.out;obtain⟨g,sl,ha,c1,c2,c3,c4⟩:=q1.2.2 k x hx;obtain⟨g',sl',ha',d1,d2,d3,d4⟩:=q2.2.2 k x hx;dsimp only at ha ha';subst ha;subst ha';have WM:Below wr wr wr.drew:=(Pq _ wr).drew;have HS:Hid (() 16 #[.slice sl.a sl.n sl.c,.slice sl'.a sl'.n sl'.c] wr.drew fun e w'=>e=.returned true/\w'.cell? (g,k*3)=some ↑x.1/\w'.cell? (g,k*3+1)=some (.int .u64 x.2.1)/\w'.cell? (g',k*3)=some ↑x.1/\w'.cell? (g',k*3+1)=some (.int .u64 x.2.1)/\Hid (Below w w w')):=(G5 wr.drew sl sl' x.2.2 (c4.aq WM) (d4.aq WM)).mono fun e w' ⟨h1,hb⟩=>⟨h1,(hb.cell (p:=(g,k*3)) (PW _ _ c1)).trans c1,(hb.cell (p:=(g,k*3+1)) (PW _ _ c2)).trans c2,(hb.cell (p:=(g',k*3)) (PW _ _ d1)).trans d1,(hb.cell (p:=(g',k*3+1)) (PW _ _ d2)).trans d2,HB.out.trans ((WM.trans hb).mono HB.out.size)⟩;have hs:(x.1.toList == x.1.toList)=true:=zad;have Zp:decide (x.1.toList=x.1.toList)=true:=zad;have hlt':((k:Int)<(L.length:Int)):=zaa;clear q1 q2 hx c4 d4 WM;go_wp2_with fail;refine eD 10 zab zab ?_;simp only[List.take_succ_cons,List.take_zero,List.drop_succ_cons,List.drop_zero]
   repeat still_step
   refine QY ?_;go_wp2_with fail;refine Pw HS.out ?_;rintro e w2 ⟨rfl,e1,e2,e3,e4,ZU⟩;dsimp only;go_wp2_with fail
   go_big_quiet(fail)
   go_wp2
   go_round
   case rel=>exact⟨k+1,zaa,zah,RM ZU.out _⟩
   case measure=>simp[intOf];omega
  ·obtain rfl:k=L.length:=zaa;go_wp2;go_ret;exact⟨rfl,HB.out⟩
theorem DJ(a:Nat)(w:World)(h2:a<=9223372036854775807):() 23 #[(a:Int),(12:Int)] w fun e w'=>e=.returned (.int .i64 ((a % 12:Nat):Int))/\w'=w:=by
 have hn:¬(a:Int)<0:=zaa;go_enter func23,ntmps23;exact zfr
theorem C7(w:World):() 22 #[] w fun e w'=>∃g,e=.returned (.slice (some ⟨g,0,none⟩) 12 12)/\Below w w w'/\∀k,k<12->w'.cell? ⟨g,k*3,none⟩=some (.string (F.mk (F.kt k))):=by
 go_enter func22,ntmps22;go_wp2;go_ret;refine⟨_,rfl,?_,fun k hk=>?_⟩
 ·repeat(first|exact Pq _ _|refine Below.alloc ?_ ?_ _)
  all_goals first|(simp;done)|(simp;omega)
 ·have hN:=fun(V:World) (o:Obj) (h:V.heap.size=w.heap.size+12)=>h▸PG V o;rw[Pt _ _ _ _ _ _ (hN _ _ zad)];have h:k=0\/k=1\/k=2\/k=3\/k=4\/k=5\/k=6\/k=7\/k=8\/k=9\/k=10\/k=11:=zaa;clear hN hk
  rcases h with rfl|rfl|rfl|rfl|rfl|rfl|rfl|rfl|rfl|rfl|rfl|rfl
  all_goals(show _=_;kernel_rfl)
theorem yG(a:Nat)(w:World)(hv:qp w)(h2:a<=1000000):() 13 #[(a:Int)] w fun e w'=>e=.returned true/\Below w w w':=by
 have HK:Hid _:=C7 w;have HV:Hid _:=hv;have Vd:a % 12<12:=U0 _ zac;obtain⟨S,hS,hq⟩:=F.AZ Vd;have HP:Hid (∀V,Below w w V->() 12 #[.string (F.mk (F.kt (a % 12)))] V fun e w'=>∃xb sb,e=.returned (.tuple #[.pointer (some ⟨xb,0,none⟩),.slice (some ⟨sb,0,none⟩) 1 1,(0:Int),(0:Int)])/\Hid (Below w w w')):=fun V hb=>by
  refine Pw (l8 _ V (hv.aq hb) (F.MA Vd)) ?_;rintro e w' ⟨hb',hp⟩;rw[hS]at hp;obtain⟨xb,sb,p,r,rfl,_,_,hf,_⟩:=hp;refine⟨xb,sb,by rw[hf hq];rfl,hb.trans (hb'.mono hb.size)⟩
 have HPK:Hid _:=fun V=>DJ a V zaa;clear hv hS hq;go_enter func13,ntmps13;go_wp2_with fail;refine Pw HK.out ?_;rintro e w1 ⟨g,rfl,U3,hc⟩;have hck:=hc (a % 12) Vd;have YS:((a % 12:Nat):Int)<12:=zaa;clear hc;dsimp only;go_wp2_with(first
  |(go_at_call 23;refine Pw (HPK.out _) ?_;rintro e w9 ⟨rfl,U1⟩;rw[U1];clear U1 w9)
  |(go_at_call 12;refine Pw (HP.out _ U3) ?_;rintro e w2 ⟨xb,sb,rfl,U4⟩))
 go_ret;exact⟨rfl,U4.out⟩
namespace F
def Fl(W:World)(a:Option Addr)(L:List ()):Prop:=∀(i:Nat) (s:()),L[i]?=some s->∃b off,a=some ⟨b,off,none⟩/\W.cell? ⟨b,off+i,none⟩=some ↑s
def Hv(W:World)(a:Option Addr)(L:List Int):Prop:=∀(i:Nat) (z:Int),L[i]?=some z->∃b off,a=some ⟨b,off,none⟩/\W.cell? ⟨b,off+i,none⟩=some ↑(z:Int)
def u64(z:Int):Nat:=(IntKind.u64.wrap z).toNat
theorem KC(z:Int):IntKind.u64.wrap z=(u64 z:Int)/\u64 z<18446744073709551616:=by
 unfold u64;rw[SQ];omega
def evP(an:Y.RSt->()->Y.RSt)(s:List (()×Y.RSt)×Y.RSt×Nat):Option ()->List (()×Y.RSt)×Y.RSt×Nat
 |none=>s
 |some ev=>(s.1++(Y.evK an s.2.1 ev).1,(Y.evK an s.2.1 ev).2,Y.sZ s.2.1 (Y.evK an s.2.1 ev).2)
def ckP(an:Y.RSt->()->Y.RSt)(s:List (()×Y.RSt)×Y.RSt×Nat):Option Int->List (()×Y.RSt)×Y.RSt×Nat
 |none=>s
 |some z=>(s.1++(Y.ckK an s.2.1 (u64 z)).1,(Y.ckK an s.2.1 (u64 z)).2,Y.sZ s.2.1 (Y.ckK an s.2.1 (u64 z)).2)
theorem EI(an:Y.RSt->()->Y.RSt)(t:Nat):∀(n k:Nat) (r:Y.RSt),(Y.fI an t n k r).1.length<=n
 |0,_,_=>by unfold Y.fI;exact Po _
 |n+1,k,r=>by
  have ih:=EI an t n (k+1);unfold Y.fI
  repeat' split
  all_goals first|exact PK _|exact Nat.succ_le_succ (PK _)|exact Nat.succ_le_succ (ih _)
theorem EK(an:Y.RSt->()->Y.RSt)(s:List (()×Y.RSt)×Y.RSt×Nat)(o:Option ()):(evP an s o).1.length<=s.1.length+1:=by
 cases o with
 |none=>exact UX _
 |some ev=>
  show(s.1++(Y.evK an s.2.1 ev).1).length<=_;unfold Y.evK;split<;>simp
theorem yg(an:Y.RSt->()->Y.RSt)(s:List (()×Y.RSt)×Y.RSt×Nat)(o:Option Int):(ckP an s o).1.length<=s.1.length+201:=by
 cases o with
 |none=>exact Sc _ _
 |some z=>
  show(s.1++(Y.ckK an s.2.1 (u64 z)).1).length<=_;unfold Y.ckK;have:=EI an (u64 z) 201 0 s.2.1;split<;>(rw[PI];first|omega|simp)
