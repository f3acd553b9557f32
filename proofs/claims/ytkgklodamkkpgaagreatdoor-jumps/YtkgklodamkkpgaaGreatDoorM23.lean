import Derived.Test.YtkgklodamkkpgaaGreatDoorM17
import Derived.Test.YtkgklodamkkpgaaGreatDoorM22
import Derived.Laws.AppendOwnNone
set_option maxRecDepth 100000
set_option maxHeartbeats 8000000
namespace Go.Proofs.YtkgklodamkkpgaaGreatDoor
variable {zp:Prop}
theorem zdU (h:zp:=by
 obtain ⟨rfl,hb⟩:=hw;exact ⟨_,r.fin,rfl,by unfold Pg.jG;rw [M4 hf],h.ao hb,.nil,Pg.RfE.of hb h.lv.mt.lo',.bel hb⟩):zp:=h
theorem zeL (h:zp:=by
 rintro e w' ⟨l,k,V,rfl,h5,hb⟩;exact ⟨l,k,rfl,h5.ao hb⟩):zp:=h
theorem zaO (h:zp:=by unfold oS dW;decide):zp:=h
theorem za0 (h:zp:=by have:=(MZ.1 hz).1;omega):zp:=h
theorem zbm (h:zp:=by have:=P5.1 hz;omega):zp:=h
open Tryz
variable {v:Ref.Sl} {k sb:Nat} {l:Value} {z:List (ByteArray×Pg.RSt)×Pg.RSt} {V:World} {P:Nat->Prop} {xs:List Value}
section
open Go.RowKit Go.Proofs Go.Shelf
namespace Pg
theorem rh {α:Type} {p q:α->Bool}:∀ {l:List α},(∀ x∈l,p x=q x)->l.any p=l.any q
 | [],_=>rfl
 | x::l,h=>by rw [List.any_cons,List.any_cons,h x (NK ..),rh (fun y hy=>h y (NL _ hy))]
theorem iw {α β:Type} {f g:β->α->β}:∀ {l:List α} {b:β},(∀ b,∀ x∈l,f b x=g b x)->l.foldl f b=l.foldl g b
 | [],_,_=>rfl
 | x::l,b,h=>by rw [PJ,PJ,h b x (NK ..),iw (fun b y hy=>h b y (NL _ hy))]
section
variable {β:Type}
def FZ (N:Nat) (T:ByteArray->Option (List (Option β))) (i:Nat) (x:ByteArray×β):ByteArray->Option (List (Option β)):=fun e=>if e=x.1 then
  some (let row:=(T x.1).getD (List.replicate N none);match row[i]? with | some none=>row.set i (some x.2) | _=>row)
 else T e
def F4 (N:Nat) (T:ByteArray->Option (List (Option β))) (i:Nat) (V:List (ByteArray×β)):Nat->ByteArray->Option (List (Option β))
 | 0=>T
 | j+1=>match V[j]? with | some m=>FZ N (F4 N T i V j) i m | none=>F4 N T i V j
def Kq (N:Nat) (V:Nat->List (ByteArray×β)):Nat->ByteArray->Option (List (Option β))
 | 0=>fun _=>none
 | k+1=>F4 N (Kq N V k) k (V k) (V k).length
variable (ps:List PS) (F:ByteArray->Option Nat) (g:PM->β)
theorem BU (T:ByteArray->Option (List (Option PM))) (T':ByteArray->Option (List (Option β))) (h:∀ e,(T e).map (List.map (Option.map g))=T' e) (i:Nat) (m:MV) (e:ByteArray):(lD ps F T i m e).map (List.map (Option.map g))=FZ ps.length T' i (m.event,g (eG ps F i m)) e:=by
 unfold lD FZ;dsimp only;by_cases he:e=m.event
 ·rw [M6 he,M6 he,Option.map_some];have hr:((T m.event).getD (List.replicate ps.length none)).map (Option.map g)=(T' m.event).getD (List.replicate ps.length none):=by
   rw [<- h];cases T m.event with
   | none=>simp
   | some row=>rfl
  rw [<- hr];generalize (T m.event).getD (List.replicate ps.length none)=row;rw [Nf]
  rcases hx:row[i]? with _ | (_ | p)
  ·rfl
  ·simp only [Option.map_some,Option.map_none,List.map_set]
  ·rfl
 ·rw [M4 he,M4 he,h]
theorem vj (T:ByteArray->Option (List (Option PM))) (T':ByteArray->Option (List (Option β))) (h:∀ e,(T e).map (List.map (Option.map g))=T' e) (i:Nat) (V:List MV):∀ (j:Nat) (e:ByteArray),(dT ps F T i V j e).map (List.map (Option.map g))=F4 ps.length T' i (V.map fun m=>(m.event,g (eG ps F i m))) j e
 | 0,e=>h e
 | j+1,e=>by
  have ih:=vj T T' h i V j;rw [dT,F4,Nf];cases V[j]? with
  | none=>exact ih e
  | some m=>exact BU ps F g _ _ ih i m e
theorem vS (V:Nat->List MV):∀ (k:Nat) (e:ByteArray),(dQ ps F V k e).map (List.map (Option.map g))=Kq ps.length (fun i=>(V i).map fun m=>(m.event,g (eG ps F i m))) k e
 | 0,e=>rfl
 | k+1,e=>by
  have:=vj ps F g (dQ ps F V k) _ (vS V k) k (V k) (V k).length e;rw [dQ,this,Kq,Ng]
end
def qS (L:List (Option PM)):Prop:=∀ (i:Nat) (p:PM),L[i]?=some (some p)->p.own=i
theorem GX (ps:List PS) (F:ByteArray->Option Nat) (i:Nat) (m:MV):(eG ps F i m).own=i:=by
 unfold eG;exact zfv
theorem BV {ps:List PS} {F:ByteArray->Option Nat} {T:ByteArray->Option (List (Option PM))} (h:∀ e row,T e=some row->qS row) (i:Nat) (m:MV):∀ e row,lD ps F T i m e=some row->qS row:=fun e row hr=>by
 unfold lD at hr;by_cases he:e=m.event
 ·rw [M6 he] at hr;have h0:qS ((T m.event).getD (List.replicate ps.length none)):=by
   cases hT:T m.event with
   | none =>
    intro j p hj;simp only [Option.getD_none] at hj;have:=Nc hj;rw [List.mem_replicate] at this;cases this.2
   | some row=>exact h _ _ hT
  generalize (T m.event).getD (List.replicate ps.length none)=R at h0 hr;have hr:=NO hr;dsimp only at hr;split at hr
  ·subst hr;intro j p hj;rw [Pb] at hj;split at hj
   ·rename_i e;split at hj
    ·cases hj;rw [<- e];exact GX ps F i m
    ·cases hj
   ·exact h0 j p hj
  ·subst hr;exact h0
 ·rw [M4 he] at hr;exact h e row hr
theorem vw {ps:List PS} {F:ByteArray->Option Nat} {T:ByteArray->Option (List (Option PM))} (h:∀ e row,T e=some row->qS row) (i:Nat) (V:List MV):∀ (j:Nat) e row,dT ps F T i V j e=some row->qS row
 | 0=>h
 | j+1=>by
  have ih:=vw (ps:=ps) (F:=F) h i V j;rw [dT];cases V[j]? with
  | none=>exact ih
  | some m=>exact BV ih i m
theorem vU {ps:List PS} {F:ByteArray->Option Nat} {V:Nat->List MV}:∀ (k:Nat) e row,dQ ps F V k e=some row->qS row
 | 0=>fun e row h=>by cases h
 | k+1=>vw (vU k) k (V k) _
theorem zj (ps:List PS) (L:List (Option Nat)) (f:Nat->Nat):∀ k,cQ ps (L.map (Option.map f)) k=(cQ ps L k).map (Option.map f)
 | 0=>rfl
 | k+1=>by
  rw [cQ,cQ,zj ps L f k];unfold lf;rw [Nf];generalize cQ ps L k=R
  rcases hx:R[k]? with _ | (_ | m)
  ·rfl
  ·simp only [Option.map_some,Option.map_none];cases ps[k]? with
   | none=>rfl
   | some p =>
    dsimp only;by_cases h:(p.owner == -1)=true
    ·rw [M6 h,M6 h]
    ·rw [M4 h,M4 h,O0,Nh,Nh,Nf];cases R[p.owner.toNat]? <;> rfl
  ·rfl
theorem iM (ps:List PS) {L:List (Option Nat)} {z:Nat}:∀ (k i:Nat),(cQ ps L k)[i]?=some (some z)->∃ j:Nat,L[j]?=some (some z)
 | 0,i,h=>⟨i,h⟩
 | k+1,i,h=>by
  rw [cQ] at h;unfold lf at h;split at h
  ·split at h
   ·exact iM ps k i h
   ·rename_i p _ _ _;by_cases e:k=i
    ·subst e;by_cases hl:k<(cQ ps L k).length
     ·rw [Nw hl] at h;rw [Nh] at h;cases hq:(cQ ps L k)[p.owner.toNat]? with
      | none=>rw [hq] at h;simp at h
      | some y =>
       rw [hq] at h;simp at h;subst h;exact iM ps k _ hq
     ·rw [Ny zae] at h;cases h
    ·rw [NG e] at h;exact iM ps k i h
  ·exact iM ps k i h
theorem Fi (L:List (Option Nat)) (f:Nat->Nat) (hf:∀ (i j a b:Nat),L[i]?=some (some a)->L[j]?=some (some b)->f a=f b->a=b) (l:List Nat):dE (L.map (Option.map f)) l=(dE L l).map f/\∀ m∈dE L l,∃ i:Nat,L[i]?=some (some m):=by
 have key:∀ (l acc:List Nat),(∀ m∈acc,∃ i:Nat,L[i]?=some (some m))->l.foldl (eS (L.map (Option.map f))) (acc.map f)=(l.foldl (eS L) acc).map f/\∀ m∈l.foldl (eS L) acc,∃ i:Nat,L[i]?=some (some m):=by
  intro l
  induction l with
  | nil=>exact fun acc h=>⟨rfl,h⟩
  | cons i l ih =>
   intro acc h;rw [PJ,PJ];have e:eS (L.map (Option.map f)) (acc.map f) i=(eS L acc i).map f/\∀ m∈eS L acc i,∃ i:Nat,L[i]?=some (some m):=by
    unfold eS;rw [Nf]
    rcases hx:L[i]? with _ | (_ | q)
    ·exact ⟨rfl,h⟩
    ·exact ⟨rfl,h⟩
    ·simp only [Option.map_some];have hc:(acc.map f).contains (f q)=acc.contains q:=by
      rw [QM,Qw,Qw];refine ⟨fun hm => ?_,fun hm=>O8 hm⟩;obtain ⟨a,ha,e⟩:=NI.1 hm;obtain ⟨j,hj⟩:=h a ha;rw [<- hf j i a q hj hx e];exact ha
     rw [hc];by_cases hq:acc.contains q=true
     ·rw [M6 hq,M6 hq];exact ⟨rfl,h⟩
     ·rw [M4 hq,M4 hq,NW];refine ⟨rfl,fun m hm => ?_⟩
      rcases Nr.1 hm with hm | hm
      ·exact h m hm
      ·rw [M8.1 hm];exact ⟨i,hx⟩
   rw [e.1];exact ih _ e.2
 exact key l [] (fun m hm=>by cases hm)
section
variable {f:Nat->Nat} {pm pm':Nat->PM} {ac ac':Nat->List PA}
theorem Js (f:Nat->Nat) (q q':Nat->Bool):∀ (L:List Nat),(∀ m∈L,q' (f m)=q m)->flt q' (L.map f)=(flt q L).map f:=by
 intro L h;unfold flt;rw [QP]
 congr 1
 exact Pm (fun m hm=>by show (!q' (f m)) = !q m;rw [h m hm])
theorem DV (ps:List PS) (act:Nat) (lF oF lF' oF':Nat->Nat) (WL:List Nat) (h:∀ m∈WL,lF' (f m)=lF m/\oF' (f m)=oF m):fW ps act lF' oF' (WL.map f)=(fW ps act lF oF WL).map f:=by
 have key:∀ (l acc:List Nat),(∀ m∈l,lF' (f m)=lF m/\oF' (f m)=oF m)->(∀ m∈acc,lF' (f m)=lF m/\oF' (f m)=oF m)->(l.map f).foldl (fun acc v=>oT act lF' oF' (arA ps (oF' v)) acc v) (acc.map f)=(l.foldl (fun acc v=>oT act lF oF (arA ps (oF v)) acc v) acc).map f:=by
  intro l
  induction l with
  | nil=>exact fun acc _ _=>rfl
  | cons v l ih =>
   intro acc hl ha;obtain ⟨e1,e2⟩:=hl v (NK ..);rw [Pj,PJ,PJ];have e:oT act lF' oF' (arA ps (oF' (f v))) (acc.map f) (f v)=(oT act lF oF (arA ps (oF v)) acc v).map f:=by
    unfold oT;rw [e1,e2];have h1:(acc.map f).any (fun x=>fC act (lF' x) (lF v) && !(arA ps (oF v)).testBit (oF' x))=acc.any (fun x=>fC act (lF x) (lF v) && !(arA ps (oF v)).testBit (oF x)):=by
     rw [List.any_map];refine rh (fun m hm => ?_);obtain ⟨a,b⟩:=ha m hm;simp only [Function.comp,a,b]
    rw [h1];split
    ·rfl
    ·rw [NW,Js f (fun x=>fC act (lF x) (lF v)) _ acc (fun m hm=>by rw [(ha m hm).1])];rfl
   rw [e];exact ih _ (fun m hm=>hl m (NL _ hm)) (fun m hm=>by
    rcases Aq hm with rfl | hm
    ·exact ⟨e1,e2⟩
    ·exact ha m hm)
 exact key WL [] h (fun m hm=>by cases hm)
theorem yu (ps:List PS) (fin:Nat) (EN LV:Nat->List PA) (H:List HV) (D:Nat->Bool) (r:RSt) (C:List Nat) (h:∀ m∈C,(pm' (f m)).lv=(pm m).lv/\(pm' (f m)).en=(pm m).en/\ac' (f m)=ac m):kP ps fin EN LV H D pm' ac' r (C.map f)=kP ps fin EN LV H D pm ac r C:=by
 have h1:fF r.act pm' (C.map f)=fF r.act pm C:=by
  unfold fF;rw [List.foldl_map];exact iw (fun a m hm=>by rw [(h m hm).1])
 have h2:∀ z,gj ps pm' ac' z (C.map f)=gj ps pm ac z C:=fun z=>by
  unfold gj;rw [List.foldl_map];exact iw (fun a m hm=>by unfold o0;rw [(h m hm).2.1,(h m hm).2.2])
 unfold kP;simp only [h1,h2]
end
def pmA (row:List (Option (PM×List PA))) (o:Nat):PM:=match row[o]? with | some (some x)=>x.1 | _=>⟨0,0,Ref.Sl.nil,.nil⟩
def acA (row:List (Option (PM×List PA))) (o:Nat):List PA:=match row[o]? with | some (some x)=>x.2 | _=>[]
def wE (ps:List PS) (fin:Nat) (EN LV:Nat->List PA) (H:List HV) (D:Nat->Bool) (row:Option (List (Option (PM×List PA)))) (r:RSt):RSt:=match row with
 | none=>kP ps fin EN LV H D (pmA []) (acA []) r []
 | some row=>kP ps fin EN LV H D (pmA row) (acA row) r (fW ps r.act (fun m=>(pmA row m).lv) (fun m=>(pmA row m).own) (dE (cQ ps (row.map (Option.map (·.1.own))) ps.length) (els (inn ps r.act))))
def gK (AV:Ref.Sl->List PA) (p:PM):PM×List PA:=(⟨p.own,p.lv,Ref.Sl.nil,p.en⟩,AV p.aw)
theorem AS {ps:List PS} {fin:Nat} {EN LV:Nat->List PA} {H:List HV} {D:Nat->Bool} {M:ByteArray->Option Nat} {Lr L0:Nat->List (Option Nat)} {pmF:Nat->PM} {acF:Nat->List PA} {AV:Ref.Sl->List PA} {T0:ByteArray->Option (List (Option PM))} (hA:∀ ev (g i m:Nat),M ev=some g->(Lr g)[i]?=some (some m)->acF m=AV (pmF m).aw) (hL:∀ ev g,M ev=some g->Lr g=cQ ps (L0 g) ps.length/\T0 ev=some ((L0 g).map (Option.map pmF))) (hN:∀ ev,M ev=none->T0 ev=none) (hO:∀ ev row,T0 ev=some row->qS row) (r:RSt) (ev:ByteArray) :
  aS ps fin EN LV H D M Lr pmF acF r ev=wE ps fin EN LV H D ((T0 ev).map (List.map (Option.map (gK AV)))) r:=by
 unfold aS gh wE;cases hM:M ev with
 | none =>
  rw [hN ev hM];exact (yu (f:=id) ps fin EN LV H D r [] (fun m hm=>by cases hm)).symm
 | some g =>
  obtain ⟨hLr,hT0⟩:=hL ev g hM;rw [hT0];have hown:=hO ev _ hT0;have hent:∀ (i m:Nat),(L0 g)[i]?=some (some m)->(pmF m).own=i:=fun i m h=>hown i (pmF m) (by rw [Nf,h];rfl);have hk:(((L0 g).map (Option.map pmF)).map (Option.map (gK AV))).map (Option.map (·.1.own))=(L0 g).map (Option.map fun m=>(pmF m).own):=by
   rw [PD,PD];refine Rs (fun x _ => ?_);cases x <;> rfl
  dsimp only [Option.map_some];rw [hk,zj,<- hLr];have hf:∀ (i j a b:Nat),(Lr g)[i]?=some (some a)->(Lr g)[j]?=some (some b)->(pmF a).own=(pmF b).own->a=b:=fun i j a b ha hb e=>by
   rw [hLr] at ha hb;obtain ⟨i',ha⟩:=iM ps _ _ ha;obtain ⟨j',hb⟩:=iM ps _ _ hb;rw [hent i' a ha,hent j' b hb] at e;rw [e,hb] at ha;cases ha
   rfl
  obtain ⟨w1,w2⟩:=Fi (Lr g) (fun m=>(pmF m).own) hf (els (inn ps r.act));rw [w1];have hm:∀ m∈dE (Lr g) (els (inn ps r.act)),pmA (((L0 g).map (Option.map pmF)).map (Option.map (gK AV))) (pmF m).own=(gK AV (pmF m)).1/\acA (((L0 g).map (Option.map pmF)).map (Option.map (gK AV))) (pmF m).own=acF m:=fun m hm=>by
   obtain ⟨i,hi⟩:=w2 m hm;have ha:=hA ev g i m hM hi;rw [hLr] at hi;obtain ⟨j,hj⟩:=iM ps _ _ hi;have e:(((L0 g).map (Option.map pmF)).map (Option.map (gK AV)))[(pmF m).own]?=some (some (gK AV (pmF m))):=by
    rw [hent j m hj,Nf,Nf,hj];rfl
   unfold pmA acA;rw [e,ha];exact ⟨rfl,rfl⟩
  rw [DV (f:=fun m=>(pmF m).own) ps r.act (fun m=>(pmF m).lv) (fun m=>(pmF m).own) _ _ _ (fun m h=>by rw [(hm m h).1];exact ⟨rfl,rfl⟩)];refine (yu (f:=fun m=>(pmF m).own) ps fin EN LV H D r _ (fun m h => ?_)).symm;obtain ⟨c1,_⟩:=fo ps r.act (fun m=>(pmF m).lv) (fun m=>(pmF m).own) (dE (Lr g) (els (inn ps r.act))) _ (MR _);rw [N6] at c1;have:=hm m (c1 m h);rw [this.1,this.2];exact ⟨rfl,rfl,rfl⟩
theorem Ep {ps:List PS} {left:Nat} {D D':Nat->Bool} {H H':List HV} (hH:H.map (fun h=>(h.idx,h.own))=H'.map (fun h=>(h.idx,h.own))) (hD:∀ k,k<H.length->D k=D' k) (r:RSt):eQ ps left D H r H.length=eQ ps left D' H' r H'.length:=by
 have hl:H.length=H'.length:=by have:=congrArg List.length hH;simpa using this
 rw [<- hl];unfold eQ;refine iw (fun r k hk => ?_);have hk:=Od.1 hk;unfold mD;have e:H[k]?.map (fun h=>(h.idx,h.own))=H'[k]?.map (fun h=>(h.idx,h.own)):=by rw [<- Nf,<- Nf,hH]
 rw [hD k hk];cases h1:H[k]? with
 | none=>rw [h1] at e;cases h2:H'[k]? with
  | none=>rfl
  | some y=>rw [h2] at e;cases e
 | some x=>rw [h1] at e;cases h2:H'[k]? with
  | none=>rw [h2] at e;cases e
  | some y =>
   rw [h2] at e;simp only [Option.map_some,Option.some.injEq,Prod.mk.injEq] at e;dsimp only;rw [e.1,e.2]
theorem FL {ps:List PS} {fin:Nat} {EN LV:Nat->List PA} {D D':Nat->Bool} {H H':List HV} {pm:Nat->PM} {ac:Nat->List PA} (hH:H.map (fun h=>(h.idx,h.own))=H'.map (fun h=>(h.idx,h.own))) (hD:∀ k,k<H.length->D k=D' k) (r:RSt) (C:List Nat):kP ps fin EN LV H D pm ac r C=kP ps fin EN LV H' D' pm ac r C:=by
 unfold kP;simp only [Ep hH hD]
theorem FJ {ps:List PS} {fin:Nat} {EN LV:Nat->List PA} {D D':Nat->Bool} {H H':List HV} (hH:H.map (fun h=>(h.idx,h.own))=H'.map (fun h=>(h.idx,h.own))) (hD:∀ k,k<H.length->D k=D' k) (row:Option (List (Option (PM×List PA)))) (r:RSt):wE ps fin EN LV H D row r=wE ps fin EN LV H' D' row r:=by
 unfold wE;cases row <;> exact FL hH hD r _
def PS.e (p:PS):PS:={ p with enter:=Ref.Sl.nil,leave:=Ref.Sl.nil }
section
variable (ps:List PS)
theorem AU:ji (ps.map PS.e)=ji ps:=by funext i;unfold ji;rw [Nf];cases ps[i]? <;> rfl
theorem tI:fy (ps.map PS.e)=fy ps:=by funext i;unfold fy;rw [Nf];cases ps[i]? <;> rfl
theorem Gx:jn (ps.map PS.e)=jn ps:=by funext i;unfold jn;rw [Nf];cases ps[i]? <;> rfl
theorem JH:lu (ps.map PS.e)=lu ps:=by funext i;unfold lu;rw [Nf];cases ps[i]? <;> rfl
theorem LF:ue (ps.map PS.e)=ue ps:=by funext i;unfold ue;rw [Nf];cases ps[i]? <;> rfl
theorem LW:arA (ps.map PS.e)=arA ps:=by funext i;unfold arA;rw [Nf];cases ps[i]? <;> rfl
theorem J2:bP (ps.map PS.e)=bP ps:=by funext i;unfold bP;rw [Nf];cases ps[i]? <;> rfl
theorem KE:inn (ps.map PS.e)=inn ps:=by funext s;unfold inn tR;rw [AU]
theorem Hw:dO (ps.map PS.e)=dO ps:=by funext o s;unfold dO qx;rw [AU,tI,Gx]
theorem KC:dom (ps.map PS.e)=dom ps:=by funext i j;unfold dom;rw [AU,JH,Gx,Ng]
theorem K7:kQ (ps.map PS.e)=kQ ps:=by funext o l;unfold kQ;rw [tI]
theorem rB:complete (ps.map PS.e)=complete ps:=by
 funext s;unfold complete nM;rw [K7]
 congr 1
 funext o i;rw [Nf];cases ps[i]? <;> rfl
theorem GM:ie (ps.map PS.e)=ie ps:=by
 funext i j;unfold ie;rw [Nf,KC,rB];cases ps[j]? <;> rfl
theorem Gj:enters (ps.map PS.e)=enters ps:=by funext k e;cases e <;> simp only [enters,rB,Hw,LF]
theorem Gp (L:List (Option Nat)):∀ k,cQ (ps.map PS.e) L k=cQ ps L k
 | 0=>rfl
 | k+1=>by
  rw [cQ,cQ,Gp L k];unfold lf;rw [Nf]
  rcases (cQ ps L k)[k]? with _ | (_ | x) <;> cases ps[k]? <;> rfl
theorem Ls:eG (ps.map PS.e)=eG ps:=by funext F i m;unfold eG;rw [KC,GM]
theorem CX (fin act:Nat):∀ f,atEnd (ps.map PS.e) fin act f=atEnd ps fin act f
 | 0=>rfl
 | f+1=>by
  funext i;rw [atEnd,atEnd,CX fin act f,Nf];cases ps[i]? <;> rfl
theorem Li:ke (ps.map PS.e)=ke ps:=by
 funext fin s i;unfold ke;simp only [List.getElem?_map,CX,List.length_map];cases ps[i]? with
 | none=>rfl
 | some p =>
  simp only [Option.map_some];show (if p.owner == -1 then _ else match Option.map PS.e ps[p.owner.toNat]? with | none=>_ | some q=>_)=_;cases ps[p.owner.toNat]? with
  | none=>rfl
  | some q =>
   simp only [Option.map_some];show (if p.owner == -1 then _ else if q.owner == -1 then _ else match Option.map PS.e ps[q.owner.toNat]? with | none=>_ | some q=>_)=_;cases ps[q.owner.toNat]? <;> rfl
theorem Ln:mD (ps.map PS.e)=mD ps:=by
 funext l D H r k;unfold mD;cases H[k]? with
 | none=>rfl
 | some h =>
  dsimp only;rw [Nf];cases ps[h.own]? with
  | none=>rfl
  | some po =>
   simp only [Option.map_some];unfold mL;rw [KE];rfl
theorem Lf:jF (ps.map PS.e)=jF ps:=by
 funext fin EN r i;unfold jF;rw [Li,Nf];cases ps[i]? <;> rfl
theorem rH:cM (ps.map PS.e)=cM ps:=by funext fin EN r l;unfold cM;rw [Lf]
theorem KY:gj (ps.map PS.e)=gj ps:=by
 have h:o0 (ps.map PS.e)=o0 ps:=by funext a b c d;unfold o0;rw [Gj]
 funext a b c d;unfold gj;rw [h]
theorem KZ:kP (ps.map PS.e)=kP ps:=by
 funext fin EN LV H D pm ac r C;unfold kP eQ;rw [Ln,KY,rH]
theorem KX:wE (ps.map PS.e)=wE ps:=by
 funext fin EN LV H D row r;unfold wE fW;rw [KZ,LW,KE,Ng];simp only [Gp]
end
def bare (x:MS):MS:=⟨x.kind,x.name,x.depth,x.owner,Ref.Sl.nil,Ref.Sl.nil,Ref.Sl.nil,Ref.Sl.nil⟩
theorem CO (X:List MS):∀ k,bE (X.map bare) k=(bE X k).map PS.e
 | 0=>by unfold bE;rw [Ng,List.map_replicate];rfl
 | k+1=>by
  rw [bE,bE,CO X k,Nf];cases X[k]? with
  | none=>rfl
  | some x =>
   show mC ((bE X k).map PS.e) k (bare x)=(mC (bE X k) k x).map PS.e;generalize bE X k=ps;unfold mC;show (if x.owner == -1 then (ps.map PS.e).set k (PS.e (EC x 0)) else match (ps.map PS.e)[x.owner.toNat]? with | none=>_ | some q=>_)=_;rw [Nf];by_cases h:(x.owner == -1)=true
   ·rw [M6 h,M6 h,O0]
   ·rw [M4 h,M4 h];cases ps[x.owner.toNat]? with
    | none=>rfl
    | some q =>
     simp only [Option.map_some];rw [O0];by_cases h2:isH x.kind=true
     ·rw [M6 h2,M6 (show isH (bare x).kind=true from h2)];rfl
     ·rw [M4 h2,M4 (show ¬ isH (bare x).kind=true from h2),O0];rfl
theorem Dt (ps:List PS):∀ k,dL (ps.map PS.e) k=(dL ps k).map PS.e
 | 0=>rfl
 | k+1=>by
  rw [dL,dL,Dt ps k,Ng];generalize dL ps k=R;generalize ps.length-1-k=i;have hW:∀ p:PS,kG (R.map PS.e) i p.e=kG R i p:=fun p=>by unfold kG orW;rw [tI];rfl
  unfold bK;rw [Nf];cases R[i]? with
  | none=>rfl
  | some p =>
   simp only [Option.map_some,hW];show (if p.owner == -1 then _ else match (R.map PS.e)[p.owner.toNat]? with | none=>_ | some q=>_)=_;rw [Nf];by_cases h:(p.owner == -1)=true
   ·rw [M6 h,M6 h,O0];rfl
   ·rw [M4 h,M4 h];cases R[p.owner.toNat]? with
    | none=>rw [O0];rfl
    | some q=>rw [O0,O0];rfl
theorem Ho (X:List MS):psF (X.map bare)=(psF X).map PS.e:=by unfold psF;rw [CO,Dt,Ng]
structure Par where
 lo:Lo
 mb:Nat
 pb:Nat
 b:Nat
 cap:Nat
 ps:List PS
 fin:Nat
 EN:Nat->List PA
 LV:Nat->List PA
 hvs:Ref.Sl
 H:List HV
 D:Nat->Bool
 mbm:Nat
 n:Nat
 T:ByteArray->Option (List (Option PM))
 M:ByteArray->Option Nat
 Lr:Nat->List (Option Nat)
 pmF:Nat->PM
 acF:Nat->List PA
def Par.an (p:Par):RSt->ByteArray->RSt:=aS p.ps p.fin p.EN p.LV p.H p.D p.M p.Lr p.pmF p.acF
structure Ses (W:World) (n0 xb:Nat) (p:Par) (r:RSt):Prop where
 at':pS W xb p.mb
 lo:p.lo<=xb
 n0:n0<=p.lo
 lv:Live W p.lo p.mb p.pb p.b p.cap p.ps p.fin p.EN p.LV p.hvs p.H p.D p.mbm p.n p.T p.M p.Lr p.pmF p.acF r
theorem Ses.ao {W W':World} {n0 xb:Nat} {p:Par} {r:RSt} (h:Ses W n0 xb p r) (hb:Below W W W'):Ses W' n0 xb p r:=⟨(hb.block _ (MQ.1 h.at').1).trans h.at',h.lo,h.n0,h.lv.ao hb⟩
structure qo (Z:List Pro.DS) (S:List Ref.State):Prop where
 len:Z.length=S.length
 at':∀ (i:Nat) (z:Pro.DS),Z[i]?=some z->z.s=Pro.sh (Pro.sAt S i)
theorem JQ {w wr:World} {sv:Ref.Sl} {X Z:List Pro.DS} (D:kS w wr sv X Z X.length) {S:List Ref.State} (hX:X.map (·.s)=S):qo Z S:=by
 subst hX;refine ⟨by rw [D.len,Ng],fun i z hz => ?_⟩;obtain ⟨hi,rfl⟩:=MZ.1 hz;have hi':i<X.length:=by have:=D.len;omega
 rw [(D.done i hi hi' hi').1]
 congr 1
 unfold Pro.sAt;rw [Nh,Nf,MU hi'];rfl
theorem JB {x:Ref.State} (h:Pro.ia x) (hk:isH (Pro.al x)=true):Pro.il x=true:=by
 obtain ⟨k,h0,h4,hw,hd⟩:=h;rw [Pro.fE h0 h4 hw hd] at hk;unfold Pro.il;rw [hw];have hk':k=0\/k=1\/k=2\/k=3\/k=4:=zaa
 rcases hk' with rfl | rfl | rfl | rfl | rfl
 ·cases hk
 ·cases hk
 ·cases hk
 ·rw [show Pro.bs 3=Pro.da from rfl,Pro.bS];decide
 ·rw [show Pro.bs 4=Pro.da from rfl,Pro.bS];decide
theorem Dk {S:List Ref.State} {i:Nat} (hi:i<S.length):Pro.sAt S i∈S:=by
 unfold Pro.sAt;rw [Nh,MU hi];exact NS _
section
variable {Z:List Pro.DS} {S:List Ref.State}
theorem qo.ms (h:qo Z S) {i:Nat} {x:MS} (hx:(Z.map aJ)[i]?=some x):∃ z,Z[i]?=some z/\x=aJ z/\z.s=Pro.sh (Pro.sAt S i)/\i<S.length:=by
 rw [Nf] at hx;cases hz:Z[i]? with
 | none=>rw [hz] at hx;cases hx
 | some z =>
  rw [hz] at hx;have hi:=(MZ.1 hz).1;exact ⟨z,rfl,by simpa using hx.symm,h.at' i z hz,by have:=h.len;omega⟩
theorem qo.ok (h:qo Z S) (hC:Pro.nE S) (i:Nat) (x:MS) (hx:(Z.map aJ)[i]?=some x):x.owner = -1\/∃ o:Nat,x.owner=o/\o<i:=by
 obtain ⟨z,_,rfl,e,hi⟩:=h.ms hx;have hu:=hC.shp.wf i hi;have ho:(aJ z).owner=(Pro.sAt S i).up:=by show z.s.up=_;rw [e];rfl
 rw [ho];by_cases h0:(Pro.sAt S i).up = -1
 ·exact .inl h0
 ·exact .inr ⟨(Pro.sAt S i).up.toNat,zaa,zaa⟩
theorem qo.his (h:qo Z S) (hC:Pro.nE S) (i:Nat) (x:MS) (hx:(Z.map aJ)[i]?=some x) (hk:isH x.kind=true):x.owner ≠ -1:=by
 obtain ⟨z,_,rfl,e,hi⟩:=h.ms hx;have hk':isH (Pro.al (Pro.sAt S i))=true:=by
  have e2:Pro.al z.s=Pro.al (Pro.sAt S i):=by rw [e];rfl
  rw [<- e2];exact hk
 have:=hC.shp.hup i hi (JB (hC.low _ (Dk hi)).2 hk');have ho:(aJ z).owner=(Pro.sAt S i).up:=by show z.s.up=_;rw [e];rfl
 rw [ho];omega
variable {MM:Nat->List Pro.PV} {W:World}
theorem qo.Mj (h:qo Z S) (hC:Pro.nE S) (hM:∀ i,(∀ z,Z[i]?=some z->fU W z (MM i))/\(Z[i]?=none->MM i=[])) (i:Nat):(vOf MM i).length<=30000/\∀ v∈vOf MM i,v.event.size<=1000000/\v.dest.size<=1000000/\(v.dest.toList.isEmpty=false->∃ d,bT (Z.map aJ) (Z.map aJ).length v.dest=some d/\d<(Z.map aJ).length):=by
 have hl:=h.len;cases hz:Z[i]? with
 | none =>
  unfold vOf;rw [(hM i).2 hz];exact ⟨zad,fun v hv=>by cases hv⟩
 | some z =>
  have hi:i<S.length:=za0;have hw:=(hM i).1 z hz;have hm:(MM i).map (·.m)=(Pro.sAt S i).aj.map Pro.dM:=by rw [hw.mv,h.at' i z hz];rfl
  refine ⟨by unfold vOf;rw [Ng];have:=hw.mlen;omega,fun v hv => ?_⟩;obtain ⟨y,hy,rfl⟩:=NI.1 hv;obtain ⟨m,hmm,e⟩:=Ly hm hy;have hsm:=(hw.actsG y hy).1;have h1:=hsm.event;have h2:=hsm.dst;refine ⟨by show y.m.event.size<=1000000;omega,by show y.m.to.size<=1000000;omega,fun hne => ?_⟩;have hto:y.m.to=m.to:=by rw [e];exact (xm m).2
  have hne:y.m.to.toList.isEmpty=false:=hne;rw [hto] at hne;have hp:=hC.tos _ (Dk hi) m hmm hne;obtain ⟨d,hd,hdn⟩:∃ d,d<S.length/\(Pro.sAt S d).name=m.to:=by
   unfold Ref.place at hp;cases hf:(S.map Ref.emb).findIdx? (Ref.Gz m.to) with
   | none=>rw [hf] at hp;exact absurd hp zac
   | some d =>
    rw [QS] at hf;obtain ⟨hd,h1,_⟩:=hf;have hd':d<S.length:=by simpa using hd
    rw [Pf] at h1;refine ⟨d,hd',?_⟩;have h1:(S[d].name.toList == m.to.toList)=true:=h1;have hs:Pro.sAt S d=S[d]:=by unfold Pro.sAt;rw [Nh,MU hd'];rfl
    rw [hs];exact Oi fun hne=>by
     rw [Lw.JP hne] at h1;cases h1
  obtain ⟨zd,hzd⟩:∃ z,Z[d]?=some z:=⟨_,MU zaa⟩;have hx:(Z.map aJ)[d]?=some (aJ zd):=by rw [Nf,hzd];rfl
  have hxl:=(MZ.1 hx).1;obtain ⟨a,ha⟩:=rT (n:=m.to) hx (by show m.to=zd.s.name;rw [h.at' d zd hzd,<- hdn];rfl) (Z.map aJ).length hxl (MR _);refine ⟨a,by show bT _ _ y.m.to=_;rw [hto];exact ha,(zk _ (MR _) ha).1⟩
end
def X0 (S:List Ref.State):List MS:=S.map fun x=>⟨Pro.al x,x.name,x.depth,x.up,Ref.Sl.nil,Ref.Sl.nil,Ref.Sl.nil,Ref.Sl.nil⟩
def EN0 (S:List Ref.State) (i:Nat):List PA:=match S[i]? with | some x=>(Pro.sh x).enter.map oy | none=>[]
def quiet (S:List Ref.State):Bool:=let r:=cM (psF (X0 S)) (bo (X0 S) (X0 S).length) (EN0 S) r0 (els (fy (psF (X0 S)) 0));r.q.isEmpty&&r.fin == 0
theorem kf (X:List MS):∀ k,bo (X.map bare) k=bo X k
 | 0=>rfl
 | k+1=>by
  rw [bo,bo,kf X k,Nf];cases X[k]? <;> rfl
theorem qo.bare {Z:List Pro.DS} {S:List Ref.State} (h:qo Z S):(Z.map aJ).map bare=X0 S:=by
 have hl:=h.len;apply Pc
 intro i;unfold X0;rw [Nf,Nf,Nf];cases hz:Z[i]? with
 | none=>rw [Ny zbm];rfl
 | some z =>
  have hi:i<S.length:=za0;have e:=h.at' i z hz;have hs:Pro.sAt S i=S[i]:=by unfold Pro.sAt;rw [Nh,MU hi];rfl
  rw [MU hi];show some (Pg.bare (aJ z))=some _;unfold aJ Pg.bare;dsimp only;rw [e,hs];rfl
theorem rS (X:List MS):∀ k,bT (X.map Pg.bare) k=bT X k
 | 0=>rfl
 | k+1=>by
  rw [bT,bT,rS X k,Nf];cases X[k]? <;> rfl
theorem uR (X:List MS):∀ k,jL (X.map Pg.bare) k=jL X k
 | 0=>rfl
 | k+1=>by
  rw [jL,jL,uR X k,Nf];cases X[k]? <;> rfl
theorem C7 (X:List MS):∀ (k:Nat) (y:Nat×Nat),y∈jL X k->y.1<k
 | 0,y,h=>by cases h
 | k+1,y,h=>by
  have ih:=C7 X k y;rw [jL] at h;split at h
  ·split at h
   ·rcases Nr.1 h with h | h
    ·have:=ih h;omega
    ·rw [M8.1 h];exact RW k
   ·have:=ih h;omega
  ·have:=ih h;omega
def LV0 (S:List Ref.State) (i:Nat):List PA:=match S[i]? with | some x=>(Pro.sh x).leave.map oy | none=>[]
def mvB (S:List Ref.State) (i:Nat):List (ByteArray×(PM×List PA)):=match S[i]? with
 | some x=>(Pro.sh x).aj.map fun m=>(m.event,(eG (psF (X0 S)) (bT (X0 S) (X0 S).length) i ⟨m.event,false,0,m.to,Ref.Sl.nil⟩,m.aw.map oy))
 | none=>[]
def H0 (S:List Ref.State):List HV:=(jL (X0 S) (X0 S).length).map fun x=>⟨x.1,x.2,.nilIface⟩
def D0 (S:List Ref.State) (k:Nat):Bool:=match (H0 S)[k]? with
 | some h=>match S[h.idx]? with | some x=>decide (Pro.al x=4) | none=>false
 | none=>false
def anS (S:List Ref.State) (r:RSt) (ev:ByteArray):RSt:=wE (psF (X0 S)) (bo (X0 S) (X0 S).length) (EN0 S) (LV0 S) (H0 S) (D0 S) (Kq (psF (X0 S)).length (mvB S) (X0 S).length ev) r
def stS (S:List Ref.State):RSt:=eO (anS S) (cM (psF (X0 S)) (bo (X0 S) (X0 S).length) (EN0 S) r0 (els (fy (psF (X0 S)) 0)))
theorem L6 (AV:Ref.Sl->List PA) (ps:List PS) (F:ByteArray->Option Nat) (i:Nat) (m:MV):gK AV (eG ps F i m)=(eG ps F i ⟨m.event,false,0,m.dest,Ref.Sl.nil⟩,AV m.aw):=by
 unfold gK eG;dsimp only;exact zfv
theorem Kg {w0 W:World} {pb:Nat} {Z:List Pro.DS} {S:List Ref.State} {MM:Nat->List Pro.PV} (h:qo Z S) (hC:Pro.nE S) (hM:∀ i,(∀ z,Z[i]?=some z->fU W z (MM i))/\(Z[i]?=none->MM i=[])) (hN:Fu w0 W pb (Z.map aJ) (vOf MM)) (hl:Lw W.heap.size) :
  ∃ EN LV b hvs H D mbm n M Lr pmF acF,jh W W pb b (Z.map aJ).length (psF (Z.map aJ)) (bo (Z.map aJ) (Z.map aJ).length) EN LV hvs H D mbm n (Cv (Z.map aJ) (vOf MM)) M Lr pmF acF/\SzP (psF (Z.map aJ)) EN LV/\(∀ m,∀ a∈acF m,a.sz)/\EN=EN0 S/\∀ r ev,aS (psF (Z.map aJ)) (bo (Z.map aJ) (Z.map aJ).length) EN LV H D M Lr pmF acF r ev=anS S r ev:=by
 have hlen:=h.len;have h24:=hC.shp.len;have hpos:=hC.pos;have hzs:∀ (i:Nat) (x:MS),(Z.map aJ)[i]?=some x->∃ z,x=aJ z/\fU W z (MM i):=fun i x hx=>by
  obtain ⟨z,hz,e,_⟩:=h.ms hx;exact ⟨z,e,(hM i).1 z hz⟩
 have hac:∀ {v:Ref.Sl} {A:List Ref.Act},W.ownsRow 0 250 1 v.v A.length (A.map bg)->Pro.mE A->fA W W.heap.size v (nI W W.heap.size v)/\(∀ a∈nI W W.heap.size v,a.sz)/\nI W W.heap.size v=A.map oy:=fun hr hG=>by
  rw [I6 (CM hr hG)];exact ⟨CM hr hG,fun a ha=>by
   obtain ⟨x,hx,rfl⟩:=NI.1 ha;exact (Dg (hG.small x hx)).2,rfl⟩
 obtain ⟨b,hvs,H,D,mbm,n,M,Lr,pmF,acF,hR,r1,r2,r3,r4,r5,L0,r6⟩:=Ig (nI W W) hN zaT zaT (h.ok hC) (h.his hC) hl (fun i x hx=>by
  obtain ⟨z,rfl,hw⟩:=hzs i x hx;exact ⟨(hac hw.enter hw.enterG).1,(hac hw.leave hw.leaveG).1⟩) (fun i hi v hv=>by
  rw [Ng] at hi;have hw:=(hM i).1 Z[i] (MU hi);obtain ⟨y,hy,rfl⟩:=NI.1 hv;have:=hac (hw.aw y hy) (hw.actsG y hy).2;exact ⟨this.1,this.2.1⟩)
 have hsA:∀ {i:Nat} (hi:i<S.length),Pro.sAt S i=S[i]:=fun hi=>by unfold Pro.sAt;rw [Nh,MU hi];rfl
 have hEN:enF (Z.map aJ) (nI W W)=EN0 S:=by
  funext i;unfold enF EN0;rw [Nf];cases hz:Z[i]? with
  | none=>rw [Ny zbm];rfl
  | some z =>
   have hi:i<S.length:=za0;have hw:=(hM i).1 z hz;rw [MU hi,<- hsA hi];show nI W W z.ve=(Pro.sh (Pro.sAt S i)).enter.map oy;rw [<- h.at' i z hz];exact (hac hw.enter hw.enterG).2.2
 have hLV:lvF (Z.map aJ) (nI W W)=LV0 S:=by
  funext i;unfold lvF LV0;rw [Nf];cases hz:Z[i]? with
  | none=>rw [Ny zbm];rfl
  | some z =>
   have hi:i<S.length:=za0;have hw:=(hM i).1 z hz;rw [MU hi,<- hsA hi];show nI W W z.vl=(Pro.sh (Pro.sAt S i)).leave.map oy;rw [<- h.at' i z hz];exact (hac hw.leave hw.leaveG).2.2
 have hAN:∀ r ev,aS (psF (Z.map aJ)) (bo (Z.map aJ) (Z.map aJ).length) (enF (Z.map aJ) (nI W W)) (lvF (Z.map aJ) (nI W W)) H D M Lr pmF acF r ev=anS S r ev:=fun r ev=>by
  have e0:=h.bare;have el:(X0 S).length=(Z.map aJ).length:=by rw [<- e0,Ng]
  have e1:psF (X0 S)=(psF (Z.map aJ)).map PS.e:=by rw [<- e0,Ho]
  have e2:bo (X0 S) (X0 S).length=bo (Z.map aJ) (Z.map aJ).length:=by rw [<- e0,kf,Ng]
  have e3:bT (X0 S) (X0 S).length=bT (Z.map aJ) (Z.map aJ).length:=by rw [<- e0,rS,Ng]
  have e4:jL (X0 S) (X0 S).length=jL (Z.map aJ) (Z.map aJ).length:=by rw [<- e0,uR,Ng]
  have hpl:=oB (Z.map aJ);rw [AS (AV:=nI W W) (L0:=L0) (T0:=dQ (psF (Z.map aJ)) (bT (Z.map aJ) (Z.map aJ).length) (vOf MM) (Z.map aJ).length) r4 (fun ev g hg=>by rw [hpl];exact r6 ev g hg) (fun ev hn=>by
   have:=r3 ev;rw [hn] at this;unfold Cv at this;cases ht:dQ (psF (Z.map aJ)) (bT (Z.map aJ) (Z.map aJ).length) (vOf MM) (Z.map aJ).length ev with
   | none=>rfl
   | some row=>rw [ht] at this;cases this) (vU _) r ev,vS,hEN,hLV]
  have hV:(fun i=>(vOf MM i).map fun m=>(m.event,gK (nI W W) (eG (psF (Z.map aJ)) (bT (Z.map aJ) (Z.map aJ).length) i m)))=mvB S:=by
   funext i;unfold mvB vOf;rw [e1,Ls,e3];cases hz:Z[i]? with
   | none=>rw [(hM i).2 hz,Ny zbm];rfl
   | some z =>
    have hi:i<S.length:=za0;have hw:=(hM i).1 z hz;rw [MU hi,<- hsA hi];dsimp only;rw [<- h.at' i z hz,<- hw.mv,PD,PD];refine Rs (fun y hy => ?_);show ((Kr y).event,gK _ (eG _ _ i (Kr y)))=(y.m.event,(eG _ _ i ⟨y.m.event,false,0,y.m.to,Ref.Sl.nil⟩,y.m.aw.map oy));rw [L6,<- (hac (hw.aw y hy) (hw.actsG y hy).2).2.2];rfl
  rw [hV];unfold anS;rw [e1,KX,show ((psF (Z.map aJ)).map PS.e).length=(psF (Z.map aJ)).length from Ng ..,e2,el];have hHH:H.map (fun h=>(h.idx,h.own))=(H0 S).map (fun h=>(h.idx,h.own)):=by
   unfold H0;rw [r1,PD,e4];exact (List.map_id _).symm
  refine FJ hHH (fun k hk => ?_) _ r;obtain ⟨y,hy⟩:∃ y,H[k]?=some y:=⟨_,MU hk⟩;have hq:(H0 S)[k]?.map (fun h=>(h.idx,h.own))=some (y.idx,y.own):=by rw [<- Nf,<- hHH,Nf,hy];rfl
  have hyl:y.idx<Z.length:=by
   have:=C7 (Z.map aJ) (Z.map aJ).length (y.idx,y.own) (by rw [<- r1];exact NI.2 ⟨y,Nc hy,rfl⟩);rw [Ng] at this;exact this
  have hx:(Z.map aJ)[y.idx]?=some (aJ Z[y.idx]):=by rw [Nf,MU hyl];rfl
  rw [r2 k y _ hy hx];unfold D0;cases h0:(H0 S)[k]? with
  | none=>rw [h0] at hq;cases hq
  | some y' =>
   rw [h0] at hq;simp only [Option.map_some,Option.some.injEq,Prod.mk.injEq] at hq;dsimp only;have hi:y.idx<S.length:=zaa;rw [hq.1,MU hi,<- hsA hi];dsimp only;have:Pro.al Z[y.idx].s=Pro.al (Pro.sAt S y.idx):=by rw [h.at' y.idx _ (MU hyl)];rfl
   rw [<- this];rfl
 refine ⟨_,_,b,hvs,H,D,mbm,n,M,Lr,pmF,acF,hR,⟨fun i a ha => ?_,fun i a ha => ?_,fun i p hp => ?_⟩,r5,hEN,hAN⟩
 ·unfold enF at ha;split at ha
  ·rename_i x hx;obtain ⟨z,rfl,hw⟩:=hzs i x hx;exact (hac hw.enter hw.enterG).2.1 a ha
  ·cases ha
 ·unfold lvF at ha;split at ha
  ·rename_i x hx;obtain ⟨z,rfl,hw⟩:=hzs i x hx;exact (hac hw.leave hw.leaveG).2.1 a ha
  ·cases ha
 ·obtain ⟨x,hx,e⟩:=Hp _ (h.ok hC) hp;obtain ⟨z,rfl,hw⟩:=hzs i x hx;have:=hw.name;have h5:(aJ z).name=z.s.name:=rfl;rw [show p.done=qG++(aJ z).name from congrArg St.done e,h5,PO];have:qG.size=5:=rfl;omega
def StM (W:World) (S:List Ref.State) (sb:Nat) (p:Par) (r:RSt):Prop:=∃ sv,r=stS S/\bP p.ps=bP (psF (X0 S))/\p.an=anS S/\W.heap[sb]?=some (.cells #[.string ⟨#[]⟩,.int .u64 r.now,sv] 46 (0,0))/\Nms W p.lo sv ((els r.act).map (bP p.ps))/\p.lo<=sb
def AK (s:ByteArray) (w:World) (e:Ending) (w':World):Prop:=Below w w w'/\match Pro.read s with
 | .fault c l=>∃ b,e = .returned (.tuple #[.pointer none,.slice none 0 0,.iface 115 (.pointer (some ⟨b,0,none⟩))])/\w'.heap[b]?=some (.cells #[.int .i64 c,.int .i64 l] 119 (0,0))
 | .eX S=>∃ xb sb p r,e = .returned (.tuple #[.pointer (some ⟨xb,0,none⟩),.slice (some ⟨sb,0,none⟩) 1 1,fuelV r.fin])/\Ses w' w.heap.size xb p r/\r.now=0/\(quiet S=true->r.fin=0)/\StM w' S sb p r
end Pg
theorem Ct (s:ByteArray) (w:World) (hv:qn w) (hs:s.size<=1073741824) :
  () 22 #[s] w (Pg.AK s w):=by
 have HR:Hid _:=Hv s w hv.lib hs;have HV:Hid _:=hv;clear hv;go_enter func22,ntmps22;go_wp2_with fail;refine M7 HR.out ?_;rintro e w1 ⟨hb1,hp⟩;cases hR:Pro.read s with
 | fault c l =>
  rw [hR] at hp;obtain ⟨b,rfl,hbk⟩:=hp;have HRR:Hid _:=hR;clear hR;dsimp only;go_wp2;go_ret3;unfold Pg.AK;rw [HRR.out];exact ⟨hb1,b,rfl,hbk⟩
 | eX S =>
  rw [hR] at hp;obtain ⟨cb,sv,X,rfl,hcb,hXS,hC,hSl⟩:=hp;have hRf:=hR;rw [Pro.EV] at hRf;have hCK:=Pro.Ci hRf;have hXl:X.length<=24:=by rw [<- hXS,Ng] at hSl;exact hSl
  have HT:Hid _:=Be cb sv X w1 hcb hC zaa (fun x hx=>(hCK.low x.s (by rw [<- hXS];exact O8 hx)).1);have HRR:Hid _:=hR;have HXS:Hid _:=hXS;have HCK:Hid _:=hCK;clear hR hRf hXS hSl hXl hC hcb hCK;dsimp only;go_wp2_with fail;refine M7 HT.out ?_;rintro e w2 ⟨hb2,cb2,sv2,Z,rfl,hcb2,hD⟩;have hlo:=Pg.JQ hD HXS.out;obtain ⟨MM,hMM⟩:=Pg.Lz hD;have hZl:Z.length=S.length:=hlo.len;obtain ⟨cg,cc,hch⟩:=Pg.K6 hD hcb2 (by have:=HCK.out.pos;omega) hMM;have hv2:=(HV.out.ao hb1).ao hb2;have HN:Hid _:=J4 w2 cb2 cg cc (Z.map Pg.aJ) (Pg.vOf MM) hch (by rw [Ng,hZl];exact HCK.out.shp.len) (fun i x hx=>by
   obtain ⟨z,hz,rfl,_⟩:=hlo.ms hx;have:=((hMM i).1 z hz).name;show z.s.name.size<=1000000;omega) (hlo.ok HCK.out) (hlo.his HCK.out) hv2.lw.g5 hv2.t5 hv2.k5 (fun i=>(hlo.Mj HCK.out hMM i).1) (fun i=>(hlo.Mj HCK.out hMM i).2)
  have HB2:Hid (Below w w w2):=hb1.trans (hb2.mono hb1.size);have HV2:Hid _:=hv2;have HLO:Hid _:=hlo;have HMM:Hid _:=hMM;clear hv2 hb1 hb2 hD hcb2 hch hlo hMM hZl;dsimp only;go_wp2_with fail;refine M7 HN.out ?_;rintro e w3 ⟨pb,rfl,hNP⟩;have hb3:Below w2 w2 w3:=by
   obtain ⟨_,_,_,_,_,_,_,hb,_⟩:=hNP;exact hb
  have hv3:=HV2.out.ao hb3;obtain ⟨EN,LV,b,hvs,H,D,mbm,n,M,Lr,pmF,acF,hRP,hSz,hsz,hEN,hAN⟩:=Pg.Kg HLO.out HCK.out (fun i=>⟨fun z hz=>((HMM.out i).1 z hz).ao hb3,(HMM.out i).2⟩) hNP hv3.lw;have hpl:(Pg.psF (Z.map Pg.aJ)).length=S.length:=by rw [Pg.oB,Ng];exact HLO.out.len
  obtain ⟨p0,hp0⟩:∃ p0,(Pg.psF (Z.map Pg.aJ))[0]?=some p0:=⟨_,MU (by have:=HCK.out.pos;omega)⟩;have hwt:p0.wth=Pg.fy (Pg.psF (Z.map Pg.aJ)) 0:=by unfold Pg.fy;rw [hp0]
  have hwl:p0.wth<2 ^ (Pg.psF (Z.map Pg.aJ)).length:=by rw [hwt,Pg.oB];exact Pg.jW (Pg.zU _ (HLO.out.ok HCK.out)) 0
  have HS:Hid _:=Cm w3 (Pg.Lo.all w3) pb b _ _ _ _ _ hvs H D mbm n _ M Lr pmF acF p0 hRP hSz hsz hp0 hwl (MR _) (MR _) hv3.t6 hv3.t5 (fun V=>pg _ V zac);have HB3:Hid (Below w w w3):=HB2.out.trans (hb3.mono HB2.out.size);have HQ:Hid (Pg.quiet S=true->(Pg.dJ (Pg.psF (Z.map Pg.aJ)) (Pg.bo (Z.map Pg.aJ) (Z.map Pg.aJ).length) EN LV H D M Lr pmF acF p0.wth).fin=0):=fun hq=>by
   have e0:=HLO.out.bare;unfold Pg.quiet at hq;dsimp only at hq;have e1:Pg.psF (Pg.X0 S)=(Pg.psF (Z.map Pg.aJ)).map Pg.PS.e:=by rw [<- e0,Pg.Ho]
   have e2:Pg.bo (Pg.X0 S) (Pg.X0 S).length=Pg.bo (Z.map Pg.aJ) (Z.map Pg.aJ).length:=by rw [<- e0,Pg.kf,Ng]
   rw [e1,Pg.rH,Pg.tI,e2,<- hEN,<- hwt,NC,PY,RG] at hq;unfold Pg.dJ Pg.eO;rw [Pg.mj hq.1];exact hq.2
  have HMO:Hid (Pg.dJ (Pg.psF (Z.map Pg.aJ)) (Pg.bo (Z.map Pg.aJ) (Z.map Pg.aJ).length) EN LV H D M Lr pmF acF p0.wth=Pg.stS S/\Pg.bP (Pg.psF (Z.map Pg.aJ))=Pg.bP (Pg.psF (Pg.X0 S))/\∀ r ev,Pg.aS (Pg.psF (Z.map Pg.aJ)) (Pg.bo (Z.map Pg.aJ) (Z.map Pg.aJ).length) EN LV H D M Lr pmF acF r ev=Pg.anS S r ev):=by
   have e0:=HLO.out.bare;have e1:Pg.psF (Pg.X0 S)=(Pg.psF (Z.map Pg.aJ)).map Pg.PS.e:=by rw [<- e0,Pg.Ho]
   have e2:Pg.bo (Pg.X0 S) (Pg.X0 S).length=Pg.bo (Z.map Pg.aJ) (Z.map Pg.aJ).length:=by rw [<- e0,Pg.kf,Ng]
   refine ⟨?_,by rw [e1,Pg.J2],hAN⟩;unfold Pg.dJ Pg.stS;rw [e1,Pg.rH,Pg.tI,e2,<- hEN,<- hwt]
   congr 1
   funext r ev;exact hAN r ev
  have hok:Pg.ROK (Pg.psF (Z.map Pg.aJ)) (Pg.dJ (Pg.psF (Z.map Pg.aJ)) (Pg.bo (Z.map Pg.aJ) (Z.map Pg.aJ).length) EN LV H D M Lr pmF acF p0.wth)/\Pg.QOK (Pg.dJ (Pg.psF (Z.map Pg.aJ)) (Pg.bo (Z.map Pg.aJ) (Z.map Pg.aJ).length) EN LV H D M Lr pmF acF p0.wth) :=
   Pg.ny (fun r x h k=>Pg.mQ hRP hSz hsz h k x) (Pg.lX _ _ ⟨OF _,fun _=>OF _⟩ (Pg.gQ hwl)) (Pg.lY hSz _ _ ⟨fun e he=>(by cases he),.inl rfl,zac,fun x hx=>zaH⟩)
  have hnow:(Pg.dJ (Pg.psF (Z.map Pg.aJ)) (Pg.bo (Z.map Pg.aJ) (Z.map Pg.aJ).length) EN LV H D M Lr pmF acF p0.wth).now=0:=(Pg.pK (fun r x=>Pg.pT r x) 60 _).trans (Pg.rI _ _ _ _ _);have hq0:(Pg.dJ (Pg.psF (Z.map Pg.aJ)) (Pg.bo (Z.map Pg.aJ) (Z.map Pg.aJ).length) EN LV H D M Lr pmF acF p0.wth).q=[]:=rfl;have HFIN:Hid (∀ (w4:World) (mb:Nat),Pg.MT w4 (Pg.Lo.all w3) mb pb (Pg.dJ (Pg.psF (Z.map Pg.aJ)) (Pg.bo (Z.map Pg.aJ) (Z.map Pg.aJ).length) EN LV H D M Lr pmF acF p0.wth)->Pg.Rf (Pg.Lo.all w3) w3 w4->Pg.Idl w4 mb->Below w w (w4.alloc (.cells #[.pointer (some ⟨mb,0,none⟩)] 50))/\Pg.Ses (w4.alloc (.cells #[.pointer (some ⟨mb,0,none⟩)] 50)) w.heap.size w4.heap.size ⟨Pg.Lo.all w3.heap.size,mb,pb,b,_,Pg.psF (Z.map Pg.aJ),Pg.bo (Z.map Pg.aJ) (Z.map Pg.aJ).length,EN,LV,hvs,H,D,mbm,n,Pg.Cv (Z.map Pg.aJ) (Pg.vOf MM),M,Lr,pmF,acF⟩ (Pg.dJ (Pg.psF (Z.map Pg.aJ)) (Pg.bo (Z.map Pg.aJ) (Z.map Pg.aJ).length) EN LV H D M Lr pmF acF p0.wth)):=fun w4 mb hMT hRf hid=>by
   have hb4:Below w4 w4 (w4.alloc (.cells #[mb] 50)):=(MY _ _).alloc (MR _) _;have hs34:=hRf.bel.size;exact ⟨HB3.out.trans ((hRf.bel.mono HB3.out.size).trans (hb4.mono (MX HB3.out.size hs34))),Na _ _,hs34,HB3.out.size,⟨Pg.jh.rf (lo:=Pg.Lo.all w3.heap.size) (Pg.jh.rf (lo:=Pg.Lo.all w3.heap.size) hRP hRf) (Pg.RfE.of hb4 hs34),hSz,hsz,hMT.below hv3.lw hb4,hok.1,hok.2,hq0,hid.bel hMT.lt hb4⟩⟩
  generalize Pg.dJ (Pg.psF (Z.map Pg.aJ)) (Pg.bo (Z.map Pg.aJ) (Z.map Pg.aJ).length) EN LV H D M Lr pmF acF p0.wth=r at *;have HNW:Hid _:=hnow;clear hb3 hv3 hNP hRP hSz hsz hEN hAN hwt hwl hp0 hok hnow hq0 hpl;dsimp only;go_wp2_with fail;refine M7 HS.out ?_;rintro e w4 ⟨mb,sb,sv4,rfl,hst,hnm,hMT,hRf,hsb,hid⟩;have HE:Hid _:=HFIN.out w4 mb hMT hRf hid;have HS4:Hid (w4.heap[sb]?=_/\Pg.Nms w4 w3 sv4 _/\w3.heap.size<=sb):=⟨hst,hnm,hsb⟩;clear hst hnm hMT hRf hsb hid;dsimp only;go_wp2;go_ret3;unfold Pg.AK;rw [HRR.out];obtain ⟨m1,m2,m3⟩:=HMO.out;have hb4:Below w4 w4 (w4.alloc (.cells #[mb] 50)):=(MY _ _).alloc (MR _) _;exact ⟨HE.out.1,_,_,_,r,rfl,HE.out.2,HNW.out,HQ.out,sv4,m1,m2,funext fun r=>funext fun ev=>m3 r ev,(hb4.block _ (MQ.1 HS4.out.1).1).trans HS4.out.1,Kd.row (bD (E:=fun _=>False) hb4) HS4.out.2.1 (fun h=>h),HS4.out.2.2⟩
end
section
open Go.RowKit Go.Proofs Go.Shelf
attribute [local go_sem] NR
theorem Ac (w:World) (xb:Nat) (lo:Pg.Lo) (mb pb:Nat) (r:Pg.RSt) (hx:Pg.pS w xb mb) (h:Pg.MT w lo mb pb r):() 10 #[xb] w fun e w'=>e = .returned (.int .u64 r.now)/\w'=w:=by
 obtain ⟨qv,wh,hM,_⟩:=h.ex;have c0:w.cell? xb=some ↑mb:=(M0 w _ _ _ _ _ hx).trans rfl;have HN:Hid _:=gB w xb mb hx;have HE:Hid _:=De w lo mb pb qv (r.m wh) hM;clear hx h hM;go_enter func10,ntmps10;go_wp2_with (first
  | (go_at_call 18;refine M7 HN.out ?_;rintro e w1 ⟨rfl,hw1⟩;rw [hw1];clear hw1 w1)
  | (go_at_call 19;refine M7 HE.out ?_;rintro e w2 ⟨rfl,hw2⟩;rw [hw2];clear hw2 w2))
 exact zfw
theorem oD {fn:Func} {t u v x:Tmp} (h:fn.results=#[.tmp t,.tmp u,.tmp v,.tmp x]) (tmps:Array Value) (P:Program) (w:World):(results fn tmps).run P w = .ok (.tuple #[tmps.getD t undef,tmps.getD u undef,tmps.getD v undef,tmps.getD x undef]) w:=by
 simp [results,h]
namespace Pg
theorem fuel_err (n:Nat) (h:n=0\/n=5\/n=6):∃ k,fuelV n=mU k/\(k=if n=6 then 6 else 0):=by
 rcases h with rfl | rfl | rfl
 ·exact ⟨0,rfl,rfl⟩
 ·exact ⟨0,rfl,rfl⟩
 ·exact ⟨6,rfl,rfl⟩
end Pg
section
variable (w:World) (n0 xb:Nat) (p:Pg.Par) (r:Pg.RSt)
theorem Hc (h:Pg.Ses w n0 xb p r):() 10 #[xb] w fun e w'=>e = .returned (.int .u64 r.now)/\w'=w :=
 Ac w xb p.lo p.mb p.pb r h.at' h.lv.mt
end
end
section
namespace Fr
def mk (l:List UInt8):ByteArray:=⟨⟨l⟩⟩
def kt:Nat->List UInt8
 | 0=>[115,116,97,116,101,32,115,104,117,116,10,32,111,110,32,111,112,101,110,32,116,111,32,111,112,101,110,10,115,116,97,116,101,32,111,112,101,110,10,32,97,102,116,101,114,32,53,32,116,111,32,115,104,117,116,10,32,111,110,32,99,108,111,115,101,32,116,111,32,115,104,117,116,10]
 | 1=>kt 0
 | 2=>[112,97,114,97,108,108,101,108,32,112,10,32,115,116,97,116,101,32,97,10,32,32,115,116,97,116,101,32,97,49,10,32,32,32,111,110,32,120,32,116,111,32,97,50,10,32,32,102,105,110,97,108,32,97,50,10,32,115,116,97,116,101,32,98,10,32,32,115,116,97,116,101,32,98,49,10,32,32,32,111,110,32,121,32,116,111,32,98,50,10,32,32,102,105,110,97,108,32,98,50,10,32,111,110,32,100,111,110,101,46,112,32,116,111,32,101,10,115,116,97,116,101,32,101,10]
 | 3=>[115,116,97,116,101,32,109,10,32,115,116,97,116,101,32,105,10,32,32,111,110,32,110,32,116,111,32,107,10,32,115,116,97,116,101,32,107,10,32,32,115,116,97,116,101,32,107,49,10,32,32,32,111,110,32,110,32,116,111,32,107,50,10,32,32,115,116,97,116,101,32,107,50,10,32,104,105,115,116,111,114,121,32,104,10,32,104,105,115,116,111,114,121,32,103,32,100,101,101,112,10,32,111,110,32,111,117,116,32,116,111,32,111,10,115,116,97,116,101,32,111,10,32,111,110,32,104,32,116,111,32,104,10,32,111,110,32,103,32,116,111,32,103,10,32,111,110,32,109,32,116,111,32,109,10]
 | 4=>kt 3
 | 5=>[115,116,97,116,101,32,97,10,32,111,110,32,120,32,116,111,32,98,32,100,111,32,114,97,105,115,101,32,114,10,32,108,101,97,118,101,32,100,111,32,114,97,105,115,101,32,108,10,115,116,97,116,101,32,98,10,32,101,110,116,101,114,32,100,111,32,114,97,105,115,101,32,110,10,32,111,110,32,108,32,116,111,32,99,10,115,116,97,116,101,32,99,10,32,111,110,32,114,32,116,111,32,100,10,115,116,97,116,101,32,100,10,32,111,110,32,110,32,116,111,32,101,10,102,105,110,97,108,32,101,10]
 | 6=>[115,116,97,116,101,32,97,10,32,115,116,97,116,101,32,98,10,32,32,111,110,32,120,32,116,111,32,98,10,32,32,97,102,116,101,114,32,51,32,100,111,32,115,101,110,100,32,115,32,50,10,32,101,110,116,101,114,32,100,111,32,115,101,110,100,32,116,32,52,10,32,111,110,32,115,32,116,111,32,99,10,32,111,110,32,116,10,115,116,97,116,101,32,99,10]
 | 7=>[115,116,97,116,101,32,97,10,32,97,102,116,101,114,32,48,32,116,111,32,98,10,115,116,97,116,101,32,98,10,32,97,102,116,101,114,32,48,32,116,111,32,99,10,115,116,97,116,101,32,99,10]
 | 8=>[115,116,97,116,101,32,97,10,32,101,110,116,101,114,32,100,111,32,115,101,110,100,32,120,32,49,32,100,111,32,115,101,110,100,32,120,32,50,32,100,111,32,115,101,110,100,32,120,32,51,32,97,115,32,107,10,32,111,110,32,120,32,100,111,32,99,97,110,99,101,108,32,107,10]
 | 9=>[115,116,97,116,101,32,97,10,32,111,110,32,120,32,116,111,32,98,10,32,115,116,97,116,101,32,98,10,32,32,111,110,32,120,10,32,115,116,97,116,101,32,99,10,32,32,111,110,32,120,32,116,111,32,97,10]
 | 10=>[112,97,114,97,108,108,101,108,32,112,10,32,115,116,97,116,101,32,97,10,32,32,111,110,32,120,32,116,111,32,99,10,32,115,116,97,116,101,32,98,10,32,32,111,110,32,120,32,116,111,32,100,10,115,116,97,116,101,32,99,10,115,116,97,116,101,32,100,10]
 | _=>[112,97,114,97,108,108,101,108,32,112,10,32,115,116,97,116,101,32,97,10,32,32,115,116,97,116,101,32,97,49,10,32,32,32,111,110,32,120,32,116,111,32,98,50,10,32,115,116,97,116,101,32,98,10,32,32,115,116,97,116,101,32,98,49,10,32,32,115,116,97,116,101,32,98,50,10]
def kd:Nat->List (List UInt8)
 | 0=>[[111,112,101,110],[46,52],[46,53],[111,112,101,110],[99,108,111,115,101],[46,57,57]]
 | 1=>[[99,108,111,115,101],[111,112,101,110],[46,51],[46,50],[46,49,48,48]]
 | 2=>[[121],[120]]
 | 3=>[[110],[110],[111,117,116],[104],[111,117,116],[103],[111,117,116],[109]]
 | 4=>[[111,117,116],[103],[110],[110],[111,117,116],[103]]
 | 5=>[[120],[121]]
 | 6=>[[46,51],[46,49,48]]
 | 7=>[[46,48]]
 | 8=>[[46,57]]
 | 9=>[[120]]
 | 10=>[[120]]
 | _=>[[120]]
end Fr
end
section
open Go.RowKit Go.Proofs Go.Shelf
namespace Fr
def sp (c:UInt8):List UInt8->List UInt8->List (List UInt8)
 | [],acc=>[acc]
 | x::l,acc=>if x=c then acc::sp c l [] else sp c l (acc++[x])
theorem Ip (c:UInt8):∀ (l acc:List UInt8),sp c l acc≠[]
 | [],_=>by simp [sp]
 | x::l,acc=>by
  unfold sp;split
  ·simp
  ·exact Ip c l _
theorem Dn (c x:UInt8):∀ (l acc:List UInt8),sp c (l++[x]) acc=if x=c then sp c l acc++[[]] else (sp c l acc).set ((sp c l acc).length-1) ((sp c l acc)[(sp c l acc).length-1]?.getD []++[x])
 | [],acc=>by
  by_cases h:x=c
  ·simp [sp,h]
  ·simp [sp,h]
 | y::l,acc=>by
  have ih:=Dn c x l;have hp:=Ip c l [];rw [RR];by_cases hy:y=c
  ·simp only [sp,if_pos hy,ih];by_cases h:x=c
   ·simp only [if_pos h,List.cons_append]
   ·simp only [if_neg h];obtain ⟨a,L,hL⟩:∃ a L,sp c l []=a::L:=by
     cases hq:sp c l [] with
     | nil=>exact absurd hq hp
     | cons a L=>exact ⟨a,L,rfl⟩
    rw [hL];simp
  ·simp only [sp,if_neg hy,ih]
theorem K9 (s:ByteArray) (c:UInt8):Ref.cut s (c.toNat:Int)=(sp c s.data.toList []).map mk:=by
 have key:∀ k,k<=s.data.toList.length->Ref.dq s (c.toNat:Int) k=(sp c (s.data.toList.take k) []).map mk:=by
  intro k
  induction k with
  | zero=>intro _;rfl
  | succ k ih =>
   intro hk;have ih:=ih zaa;have hk':k<s.data.toList.length:=zaa;obtain ⟨x,hx⟩:∃ x,s.data.toList[k]?=some x:=⟨_,MU hk'⟩;have hb:Go.PlainAid.bt s k=(x.toNat:Int):=by
    obtain ⟨h1,rfl⟩:=MZ.1 hx;have h2:k<s.size:=h1;unfold Go.PlainAid.bt;rw [dif_pos h2];rfl
   have he:s.extract k (k+1)=mk [x]:=by
    have h1:(s.extract k (k+1)).data.toList=[x]:=by
     rw [ByteArray.data_extract,Array.toList_extract,List.extract_eq_take_drop,show k+1-k=1 by omega,List.take_one,List.head?_drop,hx];rfl
    generalize s.extract k (k+1)=z at h1;obtain ⟨⟨z⟩⟩:=z;have h1:z=[x]:=h1;rw [h1];rfl
   rw [OH,hx,Option.toList_some,Dn,Ref.dq,ih,hb,he];by_cases h:x=c
   ·rw [M6 (by rw [h]),M6 h,NW];rfl
   ·have hne:¬ ((x.toNat:Int)=(c.toNat:Int)):=fun e=>h (Rh.1 zaa);rw [M4 hne,M4 h,O0,Ng,Nf]
    congr 1
    cases (sp c (s.data.toList.take k) [])[(sp c (s.data.toList.take k) []).length-1]? with
    | none=>rfl
    | some l=>simp [mk];rfl
 have:=key s.data.toList.length (MR _);rw [N6] at this;exact this
def Hs (P:List ByteArray):Ref.Got:=match Ref.syn P with
 | some i => .fault 2 ((i:Int)+1)
 | none=>match Ref.a8 (Ref.aN P (P.length-1)) (P.length-1) with
  | none => .fault 3 (Ref.gz (Ref.aN P (P.length-1)) (P.length-1))
  | some S=>match Ref.dK S S.length with
   | some l => .fault 3 l
   | none=>match Pro.bl S P (P.length-1) with
    | some i => .fault 4 ((i:Int)+1)
    | none => .eX S
theorem J8 (l:List UInt8) (h:l.length<=1500):Pro.read (mk l)=Hs ((sp 10 l []).map mk):=by
 have h1:Ref.cut (mk l) 10=(sp 10 l []).map mk:=K9 (mk l) 10;unfold Pro.read;rw [M4 (by show ¬ 1500<l.length;omega),h1];rfl
def okK (l:List UInt8):Bool:=decide (l.length<=1500)&&match Hs ((sp 10 l []).map mk) with | .eX S=>Pg.quiet S | .fault _ _=>false
theorem KI (hk:k<12):okK (kt k)=true:=PX.1 (show ((List.range 12).all fun k=>okK (kt k))=true by kernel_rfl) k (Od.2 hk)
theorem Kl (hk:k<12):(mk (kt k)).size<=1073741824:=by
 have h:=KI hk;unfold okK at h;rw [NC] at h;have h1:=PI h.1;show (kt k).length<=_;omega
theorem zB {k:Nat} (hk:k<12):∃ S,Pro.read (mk (kt k)) = .eX S/\Pg.quiet S=true:=by
 have h:=KI hk;unfold okK at h;rw [NC] at h;have hs:=PI h.1;rw [J8 _ hs];cases hr:Hs ((sp 10 (kt k) []).map mk) with
 | fault c l=>rw [hr] at h;cases h.2
 | eX S =>
  rw [hr] at h;exact ⟨S,rfl,h.2⟩
end Fr
namespace Pg
def fuelN (fe:Nat):Nat:=if fe=6 then 6 else 0
theorem Fb (fe:Nat) (w:World) (hg:qR w) :
  () 23 #[fuelV fe] w fun ev w'=>ev = .returned (.tuple #[.int .i64 (fuelN fe),(0:Int)])/\Below w w w':=by
 unfold fuelV fuelN;by_cases h:fe=6
 ·rw [M6 h,M6 h];exact tj 6 w hg
 ·rw [M4 h,M4 h];exact As w
def AI (s:ByteArray) (w:World) (e:Ending) (w':World):Prop:=Below w w w'/\match Pro.read s with
 | .fault c l=>e = .returned (.tuple #[.pointer none,.slice none 0 0,.int .i64 c,.int .i64 l])
 | .eX S=>∃ xb sb p r,e = .returned (.tuple #[.pointer (some ⟨xb,0,none⟩),.slice (some ⟨sb,0,none⟩) 1 1,.int .i64 (fuelN r.fin),.int .i64 0])/\Ses w' w.heap.size xb p r/\r.now=0/\(quiet S=true->r.fin=0)/\StM w' S sb p r
theorem StM.ao {W W':World} {S:List Ref.State} {p:Par} {r:RSt} (h:StM W S sb p r) (hb:Below W W W'):StM W' S sb p r:=by
 obtain ⟨sv,a,b,c,d,e,f⟩:=h;exact ⟨sv,a,b,c,(hb.block _ (MQ.1 d).1).trans d,e.str (.bel hb),f⟩
end Pg
theorem Pro.Hu {s:ByteArray} {c l:Int} (h:Pro.read s = .fault c l):0<c:=by
 unfold Pro.read at h
 repeat' split at h
 all_goals first | (cases h;decide) | cases h
theorem kO (s:ByteArray) (w:World) (hv:qn w) (hs:s.size<=1073741824) :
  () 13 #[s] w (Pg.AI s w):=by
 have HL:Hid _:=Ct s w hv hs;have HV:Hid _:=hv;clear hv;go_enter func13,ntmps13;go_wp2_with fail;refine M7 HL.out ?_;rintro e w1 ⟨hb1,hp⟩;cases hR:Pro.read s with
 | fault c l =>
  rw [hR] at hp;obtain ⟨b,rfl,hbk⟩:=hp;have HRR:Hid _:=hR;have HT:Hid _:=Cx b c l w1 (HV.out.ao hb1).tP hbk;clear hR hbk;dsimp only;go_wp2_with fail;refine M7 HT.out ?_;rintro e w2 ⟨rfl,hb2⟩;have HB:Hid _:=hb1.trans (hb2.mono hb1.size);clear hb2 hb1;dsimp only;go_wp2
  (try simp only [Exit.inBlock,Exit.then])
  refine OI (oD rfl _ _ _) rfl ?_;unfold Pg.AI;rw [HRR.out];exact ⟨HB.out,rfl⟩
 | eX S =>
  rw [hR] at hp;obtain ⟨xb,sb,p,r,rfl,h1⟩:=hp;have HRR:Hid _:=hR;have HT:Hid _:=Pg.Fb r.fin w1 (HV.out.ao hb1).tP;have H1:Hid _:=h1;clear hR h1;dsimp only;go_wp2_with fail;refine M7 HT.out ?_;rintro e w2 ⟨rfl,hb2⟩;have HB:Hid _:=hb1.trans (hb2.mono hb1.size);have HB2:Hid _:=hb2;clear hb2 hb1;dsimp only;go_wp2
  (try simp only [Exit.inBlock,Exit.then])
  refine OI (oD rfl _ _ _) rfl ?_;unfold Pg.AI;rw [HRR.out];exact ⟨HB.out,xb,sb,p,r,rfl,H1.out.1.ao HB2.out,H1.out.2.1,H1.out.2.2.1,H1.out.2.2.2.ao HB2.out⟩
namespace Pg
def evK (an:RSt->ByteArray->RSt) (r:RSt) (ev:ByteArray):List (ByteArray×RSt)×RSt:=if r.fin=0 then ([(ev,bG an r ev)],bG an r ev) else ([],r)
def ckK (an:RSt->ByteArray->RSt) (r:RSt) (t:Nat):List (ByteArray×RSt)×RSt:=if r.fin=0 then eL an t 201 0 r else ([],r)
def jG (r r':RSt):Nat:=if r.fin=0 then (if r'.fin=6 then 6 else 0) else r.fin
theorem LN.one {W:World} {n0:Nat} {ps:List PS} {ev:ByteArray} {r:RSt} {sv:Value} (h:W.heap[sb]?=some (.cells #[ev,.int .u64 r.now,sv] 46 (0,0))) (hn:Nms W n0 sv ((els r.act).map (bP ps))) (hb:n0<=sb):LN W n0 n0 ps (.slice sb 1 1) [(ev,r)] :=
 ⟨[sv],rfl,⟨rfl,.inr ⟨sb,1,_,rfl,hb,h,MR _,zag,rfl,rfl⟩⟩,fun y hy=>by
  obtain rfl:=M8.1 hy;exact hn⟩
theorem LN.nil {W:World} {n0:Nat} {ps:List PS}:LN W n0 n0 ps (.slice none 0 0) []:=⟨[],rfl,N4 ..,fun y hy=>by cases hy⟩
end Pg
section
variable (w:World) (n0 xb:Nat) (p:Pg.Par) (r:Pg.RSt)
def Pg.Tld (z:List (ByteArray×Pg.RSt)×Pg.RSt) (l:Value) (k:Nat) (V:World):Prop:=k=Pg.jG r z.2/\Pg.Ses V n0 xb p z.2/\Pg.LN V p.lo p.lo p.ps l z.1/\Pg.Rf p.lo w V/\Pg.gZ w V
variable {w n0 xb p r}
theorem Pg.Tld.tP (h:Pg.Tld w n0 xb p r z l k V) (hE:Pg.qR w) (hg:0<n0):Pg.qR V:=by
 obtain ⟨_,h1,_,hf,_⟩:=h;exact (hf.bel.cell (p:=⟨0,0,none⟩) (Nq hg h1.n0)).trans hE
theorem Pg.Tld.ao {V':World} (h:Pg.Tld w n0 xb p r z l k V) (hb:Below V V V'):Pg.Tld w n0 xb p r z l k V':=by
 obtain ⟨h4,h5,h6,h7,h8⟩:=h;exact ⟨h4,h5.ao hb,h6.no (bD hb),h7.trans (Pg.RfE.of hb h5.lv.mt.lo'),h8.trans (.bel hb)⟩
theorem Jm (h:Pg.Ses w n0 xb p r) (hE:Pg.qR w) (hg:0<n0) (hcl:∀ ev:ByteArray,ev.size<=1000000->qQ ev) (ev:ByteArray) (hev:ev.size<=1000000) :
  () 15 #[xb,ev] w fun e w'=>∃ l,∃ k:Nat,e = .returned (.tuple #[l,(k:Int)])/\Hid (Pg.Tld w n0 xb p r (Pg.evK p.an r ev) l k w'):=by
 refine M7 (sL w xb p.mb (Pg.Tld w n0 xb p r (Pg.evK p.an r ev)) h.at' (fun l k V hV=>hV.tP hE hg) ev ((Ea w _ _ _ _ _ _ _ _ _ _ _ _ _ _ _ _ _ _ _ r ev h.lv hev (hcl ev hev)).mono fun e w' hw => ?_)) ?_
 ·unfold Pg.wk at hw;by_cases hf:r.fin=0
  ·rw [M6 hf] at hw;rw [show Pg.evK p.an r ev=([(ev,Pg.bG p.an r ev)],Pg.bG p.an r ev) from M6 hf];obtain ⟨sb,sv,rfl,h5,h6,h7,h8,h9,h10⟩:=hw;obtain ⟨k,e1,e2⟩:=Pg.fuel_err _ h7.qk.fin;exact ⟨_,k,by rw [<- e1],by unfold Pg.jG;rw [M6 hf];exact e2,⟨h8.kd.ao _ _ _ _ h.at' zaN |>.trans h.at',h.lo,h.n0,h7⟩,.one h5 h6 h9,h8,h10⟩
  ·rw [M4 hf] at hw;rw [show Pg.evK p.an r ev=([],r) from M4 hf];exact zdU
 ·exact zeL
theorem Jb (h:Pg.Ses w n0 xb p r) (hE:Pg.qR w) (hg:0<n0) (hcl:∀ ev:ByteArray,ev.size<=1000000->qQ ev) (t:Nat) (ht:t<18446744073709551616) :
  () 16 #[xb,.int .u64 t] w fun e w'=>∃ l,∃ k:Nat,e = .returned (.tuple #[l,(k:Int)])/\Hid (Pg.Tld w n0 xb p r (Pg.ckK p.an r t) l k w'):=by
 refine M7 (sK w xb p.mb (Pg.Tld w n0 xb p r (Pg.ckK p.an r t)) h.at' (fun l k V hV=>hV.tP hE hg) t ((DW w _ _ _ _ _ _ _ _ _ _ _ _ _ _ _ _ _ _ _ r t h.lv ht hcl).mono fun e w' hw => ?_)) ?_
 ·unfold Pg.oW at hw;by_cases hf:r.fin=0
  ·rw [M6 hf] at hw;rw [show Pg.ckK p.an r t=Pg.eL p.an t 201 0 r from M6 hf];obtain ⟨sv,rfl,_,h6,h7,h8,h9⟩:=hw;obtain ⟨k,e1,e2⟩:=Pg.fuel_err _ h7.qk.fin;exact ⟨_,k,by rw [<- e1],by unfold Pg.jG;rw [M6 hf];exact e2,⟨h8.kd.ao _ _ _ _ h.at' zaN |>.trans h.at',h.lo,h.n0,h7⟩,h6,h8,h9⟩
  ·rw [M4 hf] at hw;rw [show Pg.ckK p.an r t=([],r) from M4 hf];exact zdU
 ·exact zeL
end
namespace Pg
def Mc (v:Value):Prop:=(∃ a,v = .pointer a)\/∃ i,v = .int .u64 i
def KR (W:World) (k:Nat):Prop:=∀ v,W.cell? k=some v->Mc v
def oS (t:TypeId):Prop:=dW t\/t=46
section
variable {w w':World} {lo pb b cap:Nat} {ps:List PS} {fin:Nat} {EN LV:Nat->List PA} {hvs:Ref.Sl} {H:List HV} {D:Nat->Bool} {mbm n:Nat} {T:ByteArray->Option (List (Option PM))} {M:ByteArray->Option Nat} {Lr:Nat->List (Option Nat)} {pmF:Nat->PM} {acF:Nat->List PA}
theorem jh.sep (h:jh w lo pb b cap ps fin EN LV hvs H D mbm n T M Lr pmF acF) (hk:Kd oS w w') (ho:KeepsOthers w w') (hb:Below 0 w w') (hs:∀ (k:Nat) (v:Value),k<lo->w.cell? k=some v->¬ Mc v->w'.heap[k]?=w.heap[k]?):jh w' lo pb b cap ps fin EN LV hvs H D mbm n T M Lr pmF acF:=by
 have hpb:w'.heap[pb]?=w.heap[pb]?:=hs pb _ h.bC.pb' h.bC.bC.row (by rintro (⟨_,e⟩ | ⟨_,e⟩) <;> cases e);have hc:∀ i,w'.cell? ⟨pb,i,none⟩=w.cell? ⟨pb,i,none⟩:=fun i=>Nk (a:=⟨pb,i,none⟩) hpb;have hA:∀ (v:Ref.Sl) (L:List PA),fA w lo v L->fA w' lo v L:=fun v L a=>⟨a.n,a.cap,fun k x hx=>by
  obtain ⟨ab,a1,a2,a3⟩:=a.cell k x hx;obtain ⟨x0,h0⟩:∃ x0,L[0]?=some x0:=⟨_,MU (by have:=(MZ.1 hx).1;omega)⟩;obtain ⟨ab',b1,_,b3⟩:=a.cell 0 x0 h0;rw [a1] at b1;cases b1
  exact ⟨ab,a1,a2,(Nk (a:=⟨ab,k,none⟩) (hs ab _ a2 b3 (by cases x0 <;> (rintro (⟨_,e⟩ | ⟨_,e⟩) <;> cases e)))).trans a3⟩,a.ok,a.len⟩
 refine ⟨⟨⟨(hc 0).trans h.bC.bC.row,fun i p hi => ?_,h.bC.bC.sm,h.bC.bC.len⟩,h.bC.pb',h.bC.b',(hc 2).trans h.bC.f2,h.bC.finl,h.bC.own,h.bC.pts,fun i p hp=>hA _ _ (h.bC.en i p hp),fun i p hp=>hA _ _ (h.bC.lv i p hp),h.bC.lw⟩,⟨(hc 1).trans h.hist.c1,Kd.row hk h.hist.row zaO,fun k y hy => ?_,h.hist.len⟩,⟨hpb.trans h.mov.pl,h.mov.tab.kd (P:=(· ≠ mbm)) hk (fun t ht => ?_) zaO ⟨hb.os,hb.tape,hb.output,hb.size,fun k hk hn => ?_⟩ (fun h=>h rfl)⟩,fun ev g i m a b => ?_,h.N,h.inn⟩
 ·obtain ⟨p0,h0⟩:∃ p0,ps[0]?=some p0:=⟨_,MU (by have:=(MZ.1 hi).1;omega)⟩;have hc0:=(h.bC.bC.at' 0 p0 h0).c0;have hbk:=hs b _ h.bC.b' hc0 (by rintro (⟨_,e⟩ | ⟨_,e⟩) <;> cases e);refine (h.bC.bC.at' i p hi).mo (P:=(· ≠ b)) ⟨hb.os,hb.tape,hb.output,hb.size,fun k _ hn => ?_⟩ (Np _ _ hc0) (fun h=>h rfl);obtain rfl:k=b:=Oi hn;exact hbk
 ·obtain ⟨a,b,po,c,d⟩:=h.hist.ao k y hy;exact ⟨a,b,po,c,d.kd hk zaO zaO⟩
 ·rcases ht with rfl | rfl | rfl | rfl | rfl <;> (unfold oS dW;decide)
 ·obtain rfl:k=mbm:=Oi hn;obtain ⟨es,cl,hm⟩:=h.mov.tab.map.kind;exact (ho.same k _ hm rfl).trans hm.symm
 ·have hm:=h.mva ev g i m a b;exact ⟨hm.at'.kd hk (fun t ht=>by rcases ht with rfl | rfl | rfl | rfl | rfl <;> (unfold oS dW;decide)),hm.own,hm.lv,hA _ _ hm.aw,hm.en⟩
end
theorem zz {W W':World} (hm:Mo P W W') (hP:∀ k,P k->∃ c t f,W.heap[k]?=some (.cells c t f)):KeepsOthers W W':=⟨hm.size,fun k o hk ho=>(hm.block k (MQ.1 hk).1 (fun hp=>by
 obtain ⟨c,t,f,h1⟩:=hP k hp;rw [hk] at h1;cases h1
 cases ho)).trans hk⟩
def Own (O:Nat->Prop) (W:World) (k:Nat):Prop:=O k/\KR W k/\∃ c t f,W.heap[k]?=some (.cells c t f)/\dW t
def Lo.own (n:Nat) (O:Nat->Prop) (W:World) (h:n<=W.heap.size):Lo:=⟨n,W.heap.size,fun k=>n<=k/\(W.heap.size<=k\/O k/\KR W k),fun _ h=>h.1,fun _ hk=>⟨MX h hk,.inl hk⟩⟩
def Par.own (p:Par) (O:Nat->Prop) (W:World) (h:p.lo.n<=W.heap.size):Par:={ p with lo:=Lo.own p.lo.n O W h }
section
variable {W W':World} {n0 xb:Nat} {p:Par} {r:RSt}
theorem Ses.sep (h:Ses W n0 xb p r) {Q:Nat->Prop} (hm:Mo (Own Q W) W W') (O:Nat->Prop) (hO:∀ k,k<W.heap.size->p.lo.ok k->O k) (hQ:∀ k,Q k->O k->False) (hl:Lw n0) (hn:∀ k,Q k->n0<=k):Ses W' n0 xb (p.own O W' (MX h.lv.mt.lo' hm.size)) r:=by
 have hk:Kd oS W W':=fX hm (fun k c t f hp hc=>by
  obtain ⟨_,_,c',t',f',h1,h2⟩:=hp;rw [hc] at h1;cases h1
  exact .inl h2)
 have ho:KeepsOthers W W':=zz hm (fun k ⟨_,_,c,t,f,h1,_⟩=>⟨c,t,f,h1⟩);have hs0:n0<=W.heap.size:=MX h.n0 h.lv.mt.lo';have hb:Below n0 W W':=⟨hm.os,hm.tape,hm.output,hm.size,fun k hk=>hm.block k (Nq hk hs0) (fun hp=>by have:=hn k hp.1;omega)⟩;obtain ⟨qv,wh,a,R,b,c⟩:=h.lv.mt.ex;have hq:qv = .slice none 0 0:=NO ((a.cell 26 zac:W.cell? ⟨p.mb,26,none⟩=some qv).symm.trans h.lv.idl);have hom:=hO _ a.lt a.lo';have a':au W' p.lo p.mb p.pb qv (r.m wh):=a.mo hm (fun hp=>hQ _ hp.1 hom) (fun g hg=>by rw [hq] at hg;cases hg);have hnd:∀ q,isR q->∀ (i:Nat) (x:Nd),(R q)[i]?=some x->O x.1/\W'.heap[x.1]?=W.heap[x.1]?:=fun q hq i x hi=>by
  have h1:=b.rgs.nds q hq i x hi;have hlt:=(MQ.1 h1).1;have ho:=hO _ hlt (b.rgs.low q hq x (Nc hi));exact ⟨ho,hm.block _ hlt (fun hp=>hQ _ hp.1 ho)⟩
 refine ⟨(hk.ao _ _ _ _ h.at' zaO).trans h.at',h.lo,h.n0,⟨jh.sep h.lv.run hk ho (hb.mono (Ni _)) (fun k v _ hv hc=>hm.block k (Np _ _ hv) (fun hp=>hc (hp.2.1 v hv))),h.lv.sz,h.lv.sza,⟨⟨qv,wh,⟨a'.blk,a'.que,⟨p.lo.le _ a.lo',.inr ⟨hom,fun v hv => ?_⟩⟩,fun g hg => ?_,MR _⟩,R,⟨⟨b.rgs.ring,fun q hq i x hi=>(hnd q hq i x hi).2.trans (b.rgs.nds q hq i x hi),fun q hq x hx => ?_,b.rgs.dis,b.rgs.nod⟩,b.held⟩,c⟩,MX h.lv.mt.lo' hm.size,h.lv.mt.act,h.lv.mt.now,h.lv.mt.tml,fk hl hb h.lv.mt.tab,bU hl hb h.lv.mt.tab5⟩,h.lv.ok,h.lv.qk,h.lv.q0,a.idl a' h.lv.idl⟩⟩
 ·obtain rfl:=NO ((a'.cell 0 zac).symm.trans hv);exact .inl ⟨_,rfl⟩
 ·rw [hq] at hg;cases hg
 ·obtain ⟨i,hi⟩:=Nu.1 hx;obtain ⟨h1,h2⟩:=hnd q hq i x hi;refine ⟨p.lo.le _ (b.rgs.low q hq x hx),.inr ⟨h1,fun v hv => ?_⟩⟩;rw [M0 _ _ _ _ _ _ (h2.trans (b.rgs.nds q hq i x hi))] at hv;cases hv
  exact .inr ⟨_,rfl⟩
theorem Ses.stp (h:Ses W n0 xb p r) (hm:Mo P W W') (hP:∀ k,P k->p.lo.n<=k/\∃ c,W.heap[k]?=some (.cells c 46 (0,0))):Ses W' n0 xb p r:=by
 have hl0:=h.lv.mt.lo';have hk:Kd oS W W':=fX hm (fun k c t f hp hc=>by
  obtain ⟨_,c',h1⟩:=hP k hp;rw [hc] at h1;cases h1
  exact .inr rfl)
 have hb:Below p.lo.n W W':=⟨hm.os,hm.tape,hm.output,hm.size,fun k hk=>hm.block k (Nq hk hl0) (fun hp=>zbT)⟩;have hP':∀ k,P k->∃ c t,W.heap[k]?=some (.cells c t (0,0))/\¬ cJ t:=fun k hk=>by
  obtain ⟨_,c,hc⟩:=hP k hk;exact ⟨c,_,hc,pE⟩
 exact ⟨(hk.ao _ _ _ _ h.at' zaO).trans h.at',h.lo,h.n0,⟨jh.sep h.lv.run hk (zz hm (fun k hk=>by obtain ⟨c,t,h,_⟩:=hP' k hk;exact ⟨c,t,_,h⟩)) (hb.mono (Ni _)) (fun k v hk _ _=>hb.block k hk),h.lv.sz,h.lv.sza,h.lv.mt.moU h.lv.run.bC.lw hm (fun k hk=>⟨(hP k hk).1,hP' k hk⟩),h.lv.ok,h.lv.qk,h.lv.q0,h.lv.idl.moU h.lv.mt hm hP'⟩⟩
end
structure Sn (W:World) (n0 xb b:Nat) (ps:List PS) (an:RSt->ByteArray->RSt) (r:RSt) (O:Nat->Prop):Prop where
 ex:∃ p:Par,Ses W n0 xb p r/\p.lo.n=b/\p.ps=ps/\p.an=an/\∀ k,k<W.heap.size->p.lo.ok k->O k
 own:∀ k,O k->n0<=k/\k<W.heap.size
def Gr (O:Nat->Prop) (W W':World) (k:Nat):Prop:=O k\/W.heap.size<=k/\k<W'.heap.size
def An (W:World) (n0 xb b:Nat) (ps:List PS) (an:RSt->ByteArray->RSt) (r:RSt) (O:Nat->Prop) (z:List (ByteArray×RSt)×RSt) (l:Value) (k:Nat) (W':World):Prop:=k=jG r z.2/\Sn W' n0 xb b ps an z.2 (Gr O W W')/\LN W' b b ps l z.1/\Mo (Own O W) W W'
section
variable {W W' W2:World} {n0 xb b:Nat} {ps:List PS} {an:RSt->ByteArray->RSt} {r:RSt} {O Q:Nat->Prop}
theorem Sn.le (h:Sn W n0 xb b ps an r O):n0<=b/\b<=W.heap.size:=by
 obtain ⟨p,h1,rfl,_⟩:=h.ex;exact ⟨h1.n0,h1.lv.mt.lo'⟩
theorem Sn.other (h:Sn W n0 xb b ps an r O) (hm:Mo (Own Q W) W W') (hQ:∀ k,Q k->O k->False) (hl:Lw n0) (hn:∀ k,Q k->n0<=k):Sn W' n0 xb b ps an r O:=by
 obtain ⟨p,h1,h2,h3,h4,h5⟩:=h.ex;exact ⟨⟨_,h1.sep hm O h5 hQ hl hn,h2,h3,h4,fun k hk ho=>ho.2.elim (fun h=>absurd h zaa) (fun h=>h.1)⟩,fun k hk=>⟨(h.own k hk).1,Nq (h.own k hk).2 hm.size⟩⟩
theorem Sn.ao (h:Sn W n0 xb b ps an r O) (hb:Below W W W') (hl:Lw n0):Sn W' n0 xb b ps an r O:=h.other (Q:=fun _=>False) (ay hb) (fun _ h _=>h) hl (fun _ h=>h.elim)
theorem Sn.mono (h:Sn W n0 xb b ps an r O) {O':Nat->Prop} (h1:∀ k,O k->O' k) (h2:∀ k,O' k->n0<=k/\k<W.heap.size):Sn W n0 xb b ps an r O':=by
 obtain ⟨p,a1,a2,a3,a4,a5⟩:=h.ex;exact ⟨⟨p,a1,a2,a3,a4,fun k hk ho=>h1 k (a5 k hk ho)⟩,h2⟩
theorem Ll (h:∀ k,O k->n0<=k/\k<W.heap.size) (hn:n0<=W.heap.size) (hs:W.heap.size<=W'.heap.size) (k:Nat) (hk:Gr O W W' k):n0<=k/\k<W'.heap.size:=by
 rcases hk with hk | hk
 ·have:=h k hk;omega
 ·omega
theorem Lt {p:Par} {hle:p.lo.n<=W.heap.size} (hf:Rf (p.own O W hle).lo W W') (hs:gZ W W'):Mo (Own O W) W W':=⟨hf.bel.os,hf.bel.tape,hf.bel.output,hf.bel.size,fun k hk hn=>Oi fun hne=>by
 have hok:(p.own O W hle).lo.ok k:=Oi fun h=>hne (hf.own k hk h);have hok:O k/\KR W k:=hok.2.elim (fun h=>absurd h zaa) id;obtain ⟨o,ho⟩:∃ o,W.heap[k]?=some o:=⟨_,P3 hk⟩;cases hc:o.isCells with
 | false=>exact hne ((hf.oth.same k o ho hc).trans ho.symm)
 | true =>
  obtain ⟨c,t,f,rfl⟩:∃ c t f,o = .cells c t f:=by cases o <;> first | exact ⟨_,_,_,rfl⟩ | cases hc
  by_cases ht:cJ t
  ·rcases ht with rfl | rfl | rfl
   ·exact hn ⟨hok.1,hok.2,c,_,f,ho,.inl rfl⟩
   ·exact hne ((hs k c f ho).trans ho.symm)
   ·exact hn ⟨hok.1,hok.2,c,_,f,ho,.inr rfl⟩
  ·exact hne (hf.kd.ao k c t f ho ht)⟩
theorem Sn.tld (h:Sn W n0 xb b ps an r O) (hl:Lw n0) {f:Nat} {av:Array Value} (hc:∀ p:Par,p.an=an->Ses W n0 xb p r->() f av W fun e w'=>∃ l,∃ k:Nat,e = .returned (.tuple #[l,(k:Int)])/\Hid (Tld W n0 xb p r z l k w')):() f av W fun e w'=>∃ l,∃ k:Nat,e = .returned (.tuple #[l,(k:Int)])/\Hid (An W n0 xb b ps an r O z l k w'):=by
 obtain ⟨p,h1,h2,h3,h4,h5⟩:=h.ex;refine M7 (hc (p.own O W h1.lv.mt.lo') h4 (h1.sep (Q:=fun _=>False) (Mo.refl _ _) O h5 (fun _ h _=>h) hl (fun _ h=>h.elim))) ?_;rintro e w' ⟨l,k,rfl,hT⟩;obtain ⟨t1,t2,t3,t4,t5⟩:=hT.out;have hm:=Lt t4 t5;subst h2 h3;refine ⟨l,k,rfl,t1,⟨⟨_,t2,rfl,rfl,h4,fun k hk ho => ?_⟩,Ll h.own (MX h.le.1 h.le.2) hm.size⟩,t3,hm⟩;exact ho.2.elim (fun h => .inr ⟨h,hk⟩) (fun h => .inl h.1)
end
end Pg
namespace Fr
def wo (W:World) (v:Ref.Sl) (N:List ByteArray):Prop:=v.n=N.length/\N.length<=v.c/\N.length<=32/\∀ (k:Nat) (x:ByteArray),N[k]?=some x->∃ g,v.a=some ⟨g,0,none⟩/\W.cell? ⟨g,k,none⟩=some ↑x
def qU (W:World) (v:Ref.Sl) (L:List (ByteArray×Nat×List ByteArray)):Prop:=v.n=L.length/\L.length<=v.c/\∀ (k:Nat) (x:ByteArray×Nat×List ByteArray),L[k]?=some x->∃ g sl,v.a=some ⟨g,0,none⟩/\W.cell? ⟨g,k*3,none⟩=some ↑x.1/\W.cell? ⟨g,k*3+1,none⟩=some (.int .u64 x.2.1)/\W.cell? ⟨g,k*3+2,none⟩=some (.slice (Ref.Sl.a sl) sl.n sl.c)/\wo W sl x.2.2
theorem wo.ao {W W':World} {N:List ByteArray} (h:wo W v N) (hb:Below W W W'):wo W' v N:=⟨h.1,h.2.1,h.2.2.1,fun k x hx=>by
 obtain ⟨g,a,c⟩:=h.2.2.2 k x hx;exact ⟨g,a,(hb.cell (p:=⟨g,k,none⟩) (Np _ _ c)).trans c⟩⟩
theorem qU.ao {W W':World} {L:List (ByteArray×Nat×List ByteArray)} (h:qU W v L) (hb:Below W W W'):qU W' v L:=⟨h.1,h.2.1,fun k x hx=>by
 obtain ⟨g,sl,a,c1,c2,c3,n⟩:=h.2.2 k x hx;have hg:=Np _ _ c1;exact ⟨g,sl,a,(hb.cell (p:=⟨g,k*3,none⟩) hg).trans c1,(hb.cell (p:=⟨g,k*3+1,none⟩) hg).trans c2,(hb.cell (p:=⟨g,k*3+2,none⟩) hg).trans c3,n.ao hb⟩⟩
def tdS (ps:List Pg.PS) (x:ByteArray×Pg.RSt):ByteArray×Nat×List ByteArray:=(x.1,x.2.now,(Pg.els x.2.act).map (Pg.bP ps))
theorem jS {W:World} {base e size n:Nat} {v:Value} (h:W.ownsRow base e size v n xs):∃ sl:Ref.Sl,v = .slice sl.a sl.n sl.c:=by
 rcases h.2 with ⟨h0,_⟩ | ⟨g,cap,cur,h0,_⟩
 ·exact ⟨⟨none,0,0⟩,h0⟩
 ·exact ⟨⟨some ⟨g,0,none⟩,n,cap⟩,h0⟩
theorem xD {W:World} {b e size n:Nat} (h:W.ownsRow b e size (.slice v.a v.n v.c) n xs):v.n=n/\n<=v.c:=by
 rcases h.2 with ⟨h0,h1⟩ | ⟨g,cap,cur,h0,_,_,h3,_⟩
 ·simp only [Value.slice.injEq] at h0;omega
 ·simp only [Value.slice.injEq] at h0;omega
theorem DL {w:World} {ops:Array Oper} {rest:List Oper} {o:Oper} {a:Act} {Q:Exit->Act->World->Prop} (hgd:o.guard=none) (s x:Operand) (ho:o.op = .call { callee := .builtin .append,args:=#[s,x],argTypes:=#[26,26] })
  (base lo:Nat) (ps:List Pg.PS) (v u:Value) (A B:List (ByteArray×Pg.RSt)) (hs:a.eval s=v) (hx:a.eval x=u) (hA:Pg.LN w base lo ps v A) (hB:Pg.LN w lo lo ps u B) (hn:A.length+B.length<=4000000) (hbase:base<=w.heap.size)
  (h:∀ (sl:Ref.Sl) w',Pg.LN w' base lo ps (.slice sl.a sl.n sl.c) (A++B)->Mo (fun k=>v.ownBlock=some k) w w'->wpList prog ops Q rest (a.put o.dst (.slice sl.a sl.n sl.c)) w'):wpList prog ops Q (o::rest) a w:=by
 obtain ⟨i0,hi,hz0,hz1,hz2⟩:=OB uT;obtain ⟨va,a1,a2,a3⟩:=hA;obtain ⟨vb,b1,b2,b3⟩:=hB
 rcases b2.2 with ⟨rfl,hn0⟩ | ⟨g,cap,cur,rfl,c1,c2,c3,c4,c5,c6⟩
 ·obtain rfl:=O1.1 hn0;refine wpList_append_own_none hgd s x _ ho base _ i0 3 underlying26 hi v A.length _ hs a2 hx ?_;obtain ⟨sl,rfl⟩:=jS a2;exact h sl w ⟨va,by rw [OP];exact a1,by rw [OP];exact a2,by rw [OP];exact a3⟩ (Mo.refl _ _)
 ·have hln:((B.zip vb).flatMap Pg.stC).length=B.length*3:=b2.1;refine wpList_append_own _ hgd s x _ ho base _ i0 _ 3 48 underlying26 hi hz0 hz1 hz2 rfl zac v A.length _ hs a2 ⟨g,0,none⟩ B.length cap ((B.zip vb).flatMap Pg.stC) hx hln (fun j y hj => ?_) (fun y hy => ?_) zag zaa hbase (fun v' w' d1 d2 _ => ?_)
  ·rw [<- c6,P1] at hj;split at hj
   ·rw [Ok] at hj;simp [Addr.add_lit,World.cell?,c2,hj]
   ·cases hj
  ·obtain ⟨z,hz,hy⟩:=Pv.1 hy;obtain ⟨na,nc,e⟩:=(b3 z hz).n;unfold Pg.stC at hy;rw [e] at hy;simp at hy
   rcases hy with rfl | rfl | rfl <;> rfl
  ·obtain ⟨sl,rfl⟩:=jS d1;have hm:Mo (fun k=>v.ownBlock=some k) w w':=⟨d2.os,d2.tape,d2.output,d2.size,fun k hk hn=>d2.block k hk (fun e=>hn e.symm)⟩;have hk:Kd Pg.oS w w':=fX hm (fun k c t f hp hc=>by
    obtain ⟨c',hc'⟩:=bQ a2 k hp;rw [hc] at hc';cases hc'
    exact .inr rfl)
   refine h sl w' ⟨va++vb,by simp [a1,b1],?_,fun y hy => ?_⟩ hm
   ·rw [Ro a1.symm,NQ,Nj];exact d1
   ·rw [Ro a1.symm] at hy
    rcases Nr.1 hy with hy | hy
    ·exact Kd.row hk (a3 y hy) (by unfold Pg.oS Pg.dW;decide)
    ·exact Kd.row hk (b3 y hy) (by unfold Pg.oS Pg.dW;decide)
theorem Dv {W:World} {base lo:Nat} {ps:List Pg.PS} {L:List (ByteArray×Pg.RSt)} (h:Pg.LN W base lo ps (.slice v.a v.n v.c) L):qU W v (L.map (tdS ps)):=by
 obtain ⟨vs,hl,h,hn⟩:=h;refine ⟨by rw [Ng];exact (xD h).1,by rw [Ng];exact (xD h).2,fun k y hy => ?_⟩;rw [Nf] at hy;obtain ⟨x,hx,rfl⟩:=Nv.1 hy;obtain ⟨hk,rfl⟩:=MZ.1 hx;obtain ⟨g,cap,e⟩:=Ref.eZ h zaa;have h0:=aD h (Ni _);rw [e] at h0;simp only [Value.slice.injEq] at e;have hz:(L.zip vs).length=L.length:=by rw [List.length_zip];omega
 have h1:W.ownsRow 0 46 3 (.slice g (L.zip vs).length cap) (L.zip vs).length ((L.zip vs).flatMap Pg.stC):=by rw [hz];exact h0
 have hg:(L.zip vs)[k]'(zaa)=(L[k],vs[k]'(zaa)):=List.getElem_zip;have hnm:=hn _ (NS (show k<(L.zip vs).length by omega));rw [hg] at hnm;obtain ⟨sl,hsl⟩:=jS hnm;have hsl:vs[k]'(zaa) = .slice sl.a sl.n sl.c:=hsl;refine ⟨g,sl,e.1,(Row.cell (f:=Pg.stC) (n:=3) (fun _=>rfl) h1 (j:=0) zac zaa).trans ?_,(Row.cell (f:=Pg.stC) (n:=3) (fun _=>rfl) h1 (j:=1) zac zaa).trans ?_,(Row.cell (f:=Pg.stC) (n:=3) (fun _=>rfl) h1 (j:=2) zac zaa).trans ?_,?_⟩
 ·rw [hg];rfl
 ·rw [hg];rfl
 ·rw [hg];show some (vs[k]'(zaa))=_;rw [hsl]
 ·have hnm:Pg.Nms W lo (vs[k]'(zaa)) ((Pg.els L[k].2.act).map (Pg.bP ps)):=hnm;rw [hsl] at hnm;have h32:((Pg.els L[k].2.act).map (Pg.bP ps)).length<=32:=by
   rw [Ng];unfold Pg.els;exact MX (Ob _ _) (by rw [Pn];exact MR _)
  show wo W sl ((Pg.els L[k].2.act).map (Pg.bP ps));generalize (Pg.els L[k].2.act).map (Pg.bP ps)=N at hnm h32;refine ⟨(xD hnm).1,(xD hnm).2,h32,fun j y hy => ?_⟩;obtain ⟨hj,rfl⟩:=MZ.1 hy;obtain ⟨g2,cap2,e2⟩:=Ref.eZ hnm zaa;have h0:=aD hnm (Ni _);rw [e2] at h0;simp only [Value.slice.injEq] at e2;have:=Row.cell (f:=Pg.Cu) (n:=1) (fun _=>rfl) h0 (j:=0) zac hj;rw [P9,Rz] at this;exact ⟨g2,e2.1,this.trans rfl⟩
end Fr
theorem E7 (w:World) (u v:Ref.Sl) (N:List ByteArray) (hu:Fr.wo w u N) (hv:Fr.wo w v N) :
  () 17 #[.slice u.a u.n u.c,.slice v.a v.n v.c] w fun e w'=>e = .returned true/\Below w w w':=by
 obtain ⟨ua,un,uc⟩:=u;obtain ⟨va,vn,vc⟩:=v;obtain ⟨h1,h2,h32,_⟩:=id hu;obtain ⟨h3,h4,_⟩:=id hv;dsimp only at h1 h2 h3 h4;subst h1;subst h3;have HU:Hid (∀ W,Below w w W->Fr.wo W ⟨ua,N.length,uc⟩ N/\Fr.wo W ⟨va,N.length,vc⟩ N):=fun W hb=>⟨hu.ao hb,hv.ao hb⟩;clear hu hv;go_enter func17,ntmps17;go_wp2
 go_loopw [5] (fun i wr=>∃ k:Nat,k<=N.length/\i = .int .i64 k/\Hid (Below w w wr)) (fun i _=>N.length-(intOf i).toNat)
 case atStart=>exact ⟨0,Ni _,rfl,MY _ _⟩
 case round =>
  obtain ⟨k,hk,rfl,HB⟩:=hrel;by_cases hlt:k<N.length
  ·obtain ⟨x,hx⟩:∃ x,N[k]?=some x:=⟨_,MU hlt⟩;obtain ⟨q1,q2⟩:=HU.out wr HB.out;obtain ⟨g,ha,c1⟩:=q1.2.2.2 k x hx;obtain ⟨g',ha',c2⟩:=q2.2.2.2 k x hx;dsimp only at ha ha';subst ha;subst ha';have hs:(x.toList == x.toList)=true:=zad;have hlt':((k:Int)<(N.length:Int)):=zaa;clear q1 q2 hx;go_wp2
   go_quiet (fail)
   go_wp2
   go_round
   case rel=>exact ⟨k+1,zaa,zah,Pa HB.out _⟩
   case measure=>simp [intOf];omega
  ·obtain rfl:k=N.length:=zaa;go_wp2;go_ret;exact ⟨rfl,HB.out⟩
theorem oZ (w:World) (u v:Ref.Sl) (L:List (ByteArray×Nat×List ByteArray)) (hu:Fr.qU w u L) (hv:Fr.qU w v L) (hL:L.length<=4000000) :
  () 9 #[.slice u.a u.n u.c,.slice v.a v.n v.c] w fun e w'=>e = .returned true/\Below w w w':=by
 obtain ⟨ua,un,uc⟩:=u;obtain ⟨va,vn,vc⟩:=v;obtain ⟨h1,h2,_⟩:=id hu;obtain ⟨h3,h4,_⟩:=id hv;dsimp only at h1 h2 h3 h4;subst h1;subst h3;have HU:Hid (∀ W,Below w w W->Fr.qU W ⟨ua,L.length,uc⟩ L/\Fr.qU W ⟨va,L.length,vc⟩ L):=fun W hb=>⟨hu.ao hb,hv.ao hb⟩;clear hu hv;go_enter func9,ntmps9;go_wp2
 go_loopw [5] (fun i wr=>∃ k:Nat,k<=L.length/\i = .int .i64 k/\Hid (Below w w wr)) (fun i _=>L.length-(intOf i).toNat)
 case atStart=>exact ⟨0,Ni _,rfl,MY _ _⟩
 case round =>
  obtain ⟨k,hk,rfl,HB⟩:=hrel;by_cases hlt:k<L.length
  ·obtain ⟨x,hx⟩:∃ x,L[k]?=some x:=⟨_,MU hlt⟩;obtain ⟨q1,q2⟩:=HU.out wr HB.out;obtain ⟨g,sl,ha,c1,c2,c3,c4⟩:=q1.2.2 k x hx;obtain ⟨g',sl',ha',d1,d2,d3,d4⟩:=q2.2.2 k x hx;dsimp only at ha ha';subst ha;subst ha';have hbd:Below wr wr wr.drew:=(MY _ wr).drew;have HS:Hid (() 17 #[.slice sl.a sl.n sl.c,.slice sl'.a sl'.n sl'.c] wr.drew fun e w'=>e = .returned true/\w'.cell? ⟨g,k*3,none⟩=some ↑x.1/\w'.cell? ⟨g,k*3+1,none⟩=some (.int .u64 x.2.1)/\w'.cell? ⟨g',k*3,none⟩=some ↑x.1/\w'.cell? ⟨g',k*3+1,none⟩=some (.int .u64 x.2.1)/\Hid (Below w w w')):=(E7 wr.drew sl sl' x.2.2 (c4.ao hbd) (d4.ao hbd)).mono fun e w' ⟨h1,hb⟩=>⟨h1,(hb.cell (p:=⟨g,k*3,none⟩) (Np _ _ c1)).trans c1,(hb.cell (p:=⟨g,k*3+1,none⟩) (Np _ _ c2)).trans c2,(hb.cell (p:=⟨g',k*3,none⟩) (Np _ _ d1)).trans d1,(hb.cell (p:=⟨g',k*3+1,none⟩) (Np _ _ d2)).trans d2,HB.out.trans ((hbd.trans hb).mono HB.out.size)⟩;have hs:(x.1.toList == x.1.toList)=true:=zad;have hs2:decide (x.1.toList=x.1.toList)=true:=zad;have hlt':((k:Int)<(L.length:Int)):=zaa;clear q1 q2 hx c4 d4 hbd;go_wp2_with fail;refine dU 10 zab zab ?_;simp only [List.take_succ_cons,List.take_zero,List.drop_succ_cons,List.drop_zero]
   repeat still_step
   refine Ov ?_;go_wp2_with fail;refine M7 HS.out ?_;rintro e w2 ⟨rfl,e1,e2,e3,e4,HB2⟩;dsimp only;go_wp2_with fail
   go_big_quiet (fail)
   go_wp2
   go_round
   case rel=>exact ⟨k+1,zaa,zah,Pa HB2.out _⟩
   case measure=>simp [intOf];omega
  ·obtain rfl:k=L.length:=zaa;go_wp2;go_ret;exact ⟨rfl,HB.out⟩
theorem Cb (a:Nat) (w:World) (h2:a<=9223372036854775807):() 25 #[(a:Int),(12:Int)] w fun e w'=>e = .returned (.int .i64 ((a % 12:Nat):Int))/\w'=w:=by
 have hn:¬ (a:Int)<0:=zaa;go_enter func25,ntmps25;exact zfp
theorem BD (w:World):() 24 #[] w fun e w'=>∃ g,e = .returned (.slice (some ⟨g,0,none⟩) 12 12)/\Below w w w'/\∀ k,k<12->w'.cell? ⟨g,k*3,none⟩=some (.string (Fr.mk (Fr.kt k))):=by
 go_enter func24,ntmps24;go_wp2;go_ret;refine ⟨_,rfl,?_,fun k hk => ?_⟩
 ·repeat (first | exact MY _ _ | refine Below.alloc ?_ ?_ _)
  all_goals first | (simp;done) | (simp;omega)
 ·have hN:=fun (V:World) (o:Obj) (h:V.heap.size=w.heap.size+12)=>h ▸ Na V o;rw [M0 _ _ _ _ _ _ (hN _ _ zad)];have h:k=0\/k=1\/k=2\/k=3\/k=4\/k=5\/k=6\/k=7\/k=8\/k=9\/k=10\/k=11:=zaa;clear hN hk
  rcases h with rfl | rfl | rfl | rfl | rfl | rfl | rfl | rfl | rfl | rfl | rfl | rfl
  all_goals (show _=_;kernel_rfl)
theorem xg (a:Nat) (w:World) (hv:qn w) (h2:a<=1000000):() 14 #[(a:Int)] w fun e w'=>e = .returned true/\Below w w w':=by
 have HK:Hid _:=BD w;have HV:Hid _:=hv;have hlt:a % 12<12:=Nat.mod_lt _ zac;obtain ⟨S,hS,hq⟩:=Fr.zB hlt;have HP:Hid (∀ V,Below w w V->() 13 #[.string (Fr.mk (Fr.kt (a % 12)))] V fun e w'=>∃ xb sb,e = .returned (.tuple #[.pointer (some ⟨xb,0,none⟩),.slice (some ⟨sb,0,none⟩) 1 1,(0:Int),(0:Int)])/\Hid (Below w w w')):=fun V hb=>by
  refine M7 (kO _ V (hv.ao hb) (Fr.Kl hlt)) ?_;rintro e w' ⟨hb',hp⟩;rw [hS] at hp;obtain ⟨xb,sb,p,r,rfl,_,_,hf,_⟩:=hp;refine ⟨xb,sb,by rw [hf hq];rfl,hb.trans (hb'.mono hb.size)⟩
 have HPK:Hid _:=fun V=>Cb a V zaa;clear hv hS hq;go_enter func14,ntmps14;go_wp2_with fail;refine M7 HK.out ?_;rintro e w1 ⟨g,rfl,hb1,hc⟩;have hck:=hc (a % 12) hlt;have hl':((a % 12:Nat):Int)<12:=zaa;clear hc;dsimp only;go_wp2_with (first
  | (go_at_call 25;refine M7 (HPK.out _) ?_;rintro e w9 ⟨rfl,hw9⟩;rw [hw9];clear hw9 w9)
  | (go_at_call 13;refine M7 (HP.out _ hb1) ?_;rintro e w2 ⟨xb,sb,rfl,hb2⟩))
 go_ret;exact ⟨rfl,hb2.out⟩
