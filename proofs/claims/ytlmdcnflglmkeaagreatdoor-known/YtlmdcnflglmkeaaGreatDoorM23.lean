import Derived.Test.YtlmdcnflglmkeaaGreatDoorM17
import Derived.Test.YtlmdcnflglmkeaaGreatDoorM22
import Derived.Laws.AppendOwnNone
set_option maxRecDepth 100000
set_option maxHeartbeats 8000000
namespace Go.Proofs.YtlmdcnflglmkeaaGreatDoor
variable {zp:Prop}
theorem zdL (h:zp:=by
 rcases h with rfl | rfl | rfl | rfl | rfl | rfl | rfl | rfl | rfl | rfl | rfl | rfl | rfl | rfl
 all_goals exact ⟨zab,zab,zab⟩):zp:=h
theorem zed (h:zp:=by
 obtain ⟨_,_,hf,_⟩:=hV;exact (hf.bel.cell (p:=⟨0,0,none⟩) (LU hg h.n0)).trans hE):zp:=h
theorem zel (h:zp:=by
 go_enter func7,ntmps7;go_wp2;go_ret;exact ⟨by rw [<- HE.out];rfl,rfl⟩):zp:=h
theorem ze9 (h:zp:=by
 simp only [Value.slice.injEq] at h0;omega):zp:=h
theorem zaY (h:zp:=by have:=(Ku.1 hz).1;omega):zp:=h
theorem za0 (h:zp:=by unfold qg;decide):zp:=h
theorem zbl (h:zp:=by have:=Ov.1 hz;omega):zp:=h
open Tryz
variable {T:ByteArray->Option (List (Option Pg.PM))} {fin pb sb:Nat} {EN LV:Nat->List Pg.PA} {D D':Nat->Bool} {H H':List Pg.HV} {W':World} {v:Ref.Sl}
section
open Go.RowKit Go.Proofs Go.Shelf
namespace Pg
theorem qN {α:Type} {p q:α->Bool}:∀ {l:List α},(∀ x∈l,p x=q x)->l.any p=l.any q
 | [],_=>rfl
 | x::l,h=>by rw [List.any_cons,List.any_cons,h x (Mf ..),qN (fun y hy=>h y (Mg _ hy))]
theorem im {α β:Type} {f g:β->α->β}:∀ {l:List α} {b:β},(∀ b,∀ x∈l,f b x=g b x)->l.foldl f b=l.foldl g b
 | [],_,_=>rfl
 | x::l,b,h=>by rw [Oe,Oe,h b x (Mf ..),im (fun b y hy=>h b y (Mg _ hy))]
section
variable {β:Type}
def Fi (N:Nat) (T:ByteArray->Option (List (Option β))) (i:Nat) (x:ByteArray×β):ByteArray->Option (List (Option β)):=fun e=>if e=x.1 then
  some (let row:=(T x.1).getD (List.replicate N none);match row[i]? with | some none=>row.set i (some x.2) | _=>row)
 else T e
def Fl (N:Nat) (T:ByteArray->Option (List (Option β))) (i:Nat) (V:List (ByteArray×β)):Nat->ByteArray->Option (List (Option β))
 | 0=>T
 | j+1=>match V[j]? with | some m=>Fi N (Fl N T i V j) i m | none=>Fl N T i V j
def Jv (N:Nat) (V:Nat->List (ByteArray×β)):Nat->ByteArray->Option (List (Option β))
 | 0=>fun _=>none
 | k+1=>Fl N (Jv N V k) k (V k) (V k).length
variable (ps:List PS) (F:ByteArray->Option Nat) (g:PM->β)
theorem Bg (T:ByteArray->Option (List (Option PM))) (T':ByteArray->Option (List (Option β))) (h:∀ e,(T e).map (List.map (Option.map g))=T' e) (i:Nat) (m:MV) (e:ByteArray):(lu ps F T i m e).map (List.map (Option.map g))=Fi ps.length T' i (m.event,g (eZ ps F i m)) e:=by
 unfold lu Fi;dsimp only;by_cases he:e=m.event
 ·rw [LA he,LA he,Option.map_some];have hr:((T m.event).getD (List.replicate ps.length none)).map (Option.map g)=(T' m.event).getD (List.replicate ps.length none):=by
   rw [<- h];cases T m.event with
   | none=>simp
   | some row=>rfl
  rw [<- hr];generalize (T m.event).getD (List.replicate ps.length none)=row;rw [LJ]
  rcases hx:row[i]? with _ | (_ | p)
  ·rfl
  ·simp only [Option.map_some,Option.map_none,List.map_set]
  ·rfl
 ·rw [KQ he,KQ he,h]
theorem uA (T:ByteArray->Option (List (Option PM))) (T':ByteArray->Option (List (Option β))) (h:∀ e,(T e).map (List.map (Option.map g))=T' e) (i:Nat) (V:List MV):∀ (j:Nat) (e:ByteArray),(dU ps F T i V j e).map (List.map (Option.map g))=Fl ps.length T' i (V.map fun m=>(m.event,g (eZ ps F i m))) j e
 | 0,e=>h e
 | j+1,e=>by
  have ih:=uA T T' h i V j;rw [dU,Fl,LJ];cases V[j]? with
  | none=>exact ih e
  | some m=>exact Bg ps F g _ _ ih i m e
theorem uZ (V:Nat->List MV):∀ (k:Nat) (e:ByteArray),(dR ps F V k e).map (List.map (Option.map g))=Jv ps.length (fun i=>(V i).map fun m=>(m.event,g (eZ ps F i m))) k e
 | 0,e=>rfl
 | k+1,e=>by
  have:=uA ps F g (dR ps F V k) _ (uZ V k) k (V k) (V k).length e;rw [dR,this,Jv,LI]
end
def qE (L:List (Option PM)):Prop:=∀ (i:Nat) (p:PM),L[i]?=some (some p)->p.own=i
theorem F6 (ps:List PS) (F:ByteArray->Option Nat) (i:Nat) (m:MV):(eZ ps F i m).own=i:=by
 unfold eZ;exact zfo
theorem Bh {ps:List PS} {F:ByteArray->Option Nat} (h:∀ e row,T e=some row->qE row) (i:Nat) (m:MV):∀ e row,lu ps F T i m e=some row->qE row:=fun e row hr=>by
 unfold lu at hr;by_cases he:e=m.event
 ·rw [LA he] at hr;have h0:qE ((T m.event).getD (List.replicate ps.length none)):=by
   cases hT:T m.event with
   | none =>
    intro j p hj;simp only [Option.getD_none] at hj;have:=LG hj;rw [List.mem_replicate] at this;cases this.2
   | some row=>exact h _ _ hT
  generalize (T m.event).getD (List.replicate ps.length none)=R at h0 hr;have hr:=Mr hr;dsimp only at hr;split at hr
  ·subst hr;intro j p hj;rw [NK] at hj;split at hj
   ·rename_i e;split at hj
    ·cases hj;rw [<- e];exact F6 ps F i m
    ·cases hj
   ·exact h0 j p hj
  ·subst hr;exact h0
 ·rw [KQ he] at hr;exact h e row hr
theorem uC {ps:List PS} {F:ByteArray->Option Nat} {T:ByteArray->Option (List (Option PM))} (h:∀ e row,T e=some row->qE row) (i:Nat) (V:List MV):∀ (j:Nat) e row,dU ps F T i V j e=some row->qE row
 | 0=>h
 | j+1=>by
  have ih:=uC (ps:=ps) (F:=F) h i V j;rw [dU];cases V[j]? with
  | none=>exact ih
  | some m=>exact Bh ih i m
theorem vg {ps:List PS} {F:ByteArray->Option Nat} {V:Nat->List MV}:∀ (k:Nat) e row,dR ps F V k e=some row->qE row
 | 0=>fun e row h=>by cases h
 | k+1=>uC (vg k) k (V k) _
theorem yy (ps:List PS) (L:List (Option Nat)) (f:Nat->Nat):∀ k,dh ps (L.map (Option.map f)) k=(dh ps L k).map (Option.map f)
 | 0=>rfl
 | k+1=>by
  rw [dh,dh,yy ps L f k];unfold mR;rw [LJ];generalize dh ps L k=R
  rcases hx:R[k]? with _ | (_ | m)
  ·rfl
  ·simp only [Option.map_some,Option.map_none];cases ps[k]? with
   | none=>rfl
   | some p =>
    dsimp only;by_cases h:(p.owner == -1)=true
    ·rw [LA h,LA h]
    ·rw [KQ h,KQ h,ON,LH,LH,LJ];cases R[p.owner.toNat]? <;> rfl
  ·rfl
theorem iI (ps:List PS) {L:List (Option Nat)} {z:Nat}:∀ (k i:Nat),(dh ps L k)[i]?=some (some z)->∃ j:Nat,L[j]?=some (some z)
 | 0,i,h=>⟨i,h⟩
 | k+1,i,h=>by
  rw [dh] at h;unfold mR at h;split at h
  ·split at h
   ·exact iI ps k i h
   ·rename_i p _ _ _;by_cases e:k=i
    ·subst e;by_cases hl:k<(dh ps L k).length
     ·rw [L3 hl] at h;rw [LH] at h;cases hq:(dh ps L k)[p.owner.toNat]? with
      | none=>rw [hq] at h;simp at h
      | some y =>
       rw [hq] at h;simp at h;subst h;exact iI ps k _ hq
     ·rw [L8 zaf] at h;cases h
    ·rw [Mb e] at h;exact iI ps k i h
  ·exact iI ps k i h
theorem Ew (L:List (Option Nat)) (f:Nat->Nat) (hf:∀ (i j a b:Nat),L[i]?=some (some a)->L[j]?=some (some b)->f a=f b->a=b) (l:List Nat):dH (L.map (Option.map f)) l=(dH L l).map f/\∀ m∈dH L l,∃ i:Nat,L[i]?=some (some m):=by
 have key:∀ (l acc:List Nat),(∀ m∈acc,∃ i:Nat,L[i]?=some (some m))->l.foldl (eR (L.map (Option.map f))) (acc.map f)=(l.foldl (eR L) acc).map f/\∀ m∈l.foldl (eR L) acc,∃ i:Nat,L[i]?=some (some m):=by
  intro l
  induction l with
  | nil=>exact fun acc h=>⟨rfl,h⟩
  | cons i l ih =>
   intro acc h;rw [Oe,Oe];have e:eR (L.map (Option.map f)) (acc.map f) i=(eR L acc i).map f/\∀ m∈eR L acc i,∃ i:Nat,L[i]?=some (some m):=by
    unfold eR;rw [LJ]
    rcases hx:L[i]? with _ | (_ | q)
    ·exact ⟨rfl,h⟩
    ·exact ⟨rfl,h⟩
    ·simp only [Option.map_some];have hc:(acc.map f).contains (f q)=acc.contains q:=by
      rw [Ph,OY,OY];refine ⟨fun hm => ?_,fun hm=>NI hm⟩;obtain ⟨a,ha,e⟩:=Mc.1 hm;obtain ⟨j,hj⟩:=h a ha;rw [<- hf j i a q hj hx e];exact ha
     rw [hc];by_cases hq:acc.contains q=true
     ·rw [LA hq,LA hq];exact ⟨rfl,h⟩
     ·rw [KQ hq,KQ hq,Mu];refine ⟨rfl,fun m hm => ?_⟩
      rcases LR.1 hm with hm | hm
      ·exact h m hm
      ·rw [LD.1 hm];exact ⟨i,hx⟩
   rw [e.1];exact ih _ e.2
 exact key l [] (fun m hm=>by cases hm)
section
variable {f:Nat->Nat} {pm pm':Nat->PM} {ac ac':Nat->List PA}
theorem Iy (f:Nat->Nat) (q q':Nat->Bool):∀ (L:List Nat),(∀ m∈L,q' (f m)=q m)->flt q' (L.map f)=(flt q L).map f:=by
 intro L h;unfold flt;rw [Pm]
 congr 1
 exact NU (fun m hm=>by show (!q' (f m)) = !q m;rw [h m hm])
theorem C7 (ps:List PS) (act:Nat) (lF oF lF' oF':Nat->Nat) (WL:List Nat) (h:∀ m∈WL,lF' (f m)=lF m/\oF' (f m)=oF m):gn ps act lF' oF' (WL.map f)=(gn ps act lF oF WL).map f:=by
 have key:∀ (l acc:List Nat),(∀ m∈l,lF' (f m)=lF m/\oF' (f m)=oF m)->(∀ m∈acc,lF' (f m)=lF m/\oF' (f m)=oF m)->(l.map f).foldl (fun acc v=>oN act lF' oF' (arA ps (oF' v)) acc v) (acc.map f)=(l.foldl (fun acc v=>oN act lF oF (arA ps (oF v)) acc v) acc).map f:=by
  intro l
  induction l with
  | nil=>exact fun acc _ _=>rfl
  | cons v l ih =>
   intro acc hl ha;obtain ⟨e1,e2⟩:=hl v (Mf ..);rw [NR,Oe,Oe];have e:oN act lF' oF' (arA ps (oF' (f v))) (acc.map f) (f v)=(oN act lF oF (arA ps (oF v)) acc v).map f:=by
    unfold oN;rw [e1,e2];have h1:(acc.map f).any (fun x=>fy act (lF' x) (lF v) && !(arA ps (oF v)).testBit (oF' x))=acc.any (fun x=>fy act (lF x) (lF v) && !(arA ps (oF v)).testBit (oF x)):=by
     rw [List.any_map];refine qN (fun m hm => ?_);obtain ⟨a,b⟩:=ha m hm;simp only [Function.comp,a,b]
    rw [h1];split
    ·rfl
    ·rw [Mu,Iy f (fun x=>fy act (lF x) (lF v)) _ acc (fun m hm=>by rw [(ha m hm).1])];rfl
   rw [e];exact ih _ (fun m hm=>hl m (Mg _ hm)) (fun m hm=>by
    rcases zL hm with rfl | hm
    ·exact ⟨e1,e2⟩
    ·exact ha m hm)
 exact key WL [] h (fun m hm=>by cases hm)
theorem xH (ps:List PS) (fin:Nat) (EN LV:Nat->List PA) (H:List HV) (D:Nat->Bool) (r:RSt) (C:List Nat) (h:∀ m∈C,(pm' (f m)).lv=(pm m).lv/\(pm' (f m)).en=(pm m).en/\ac' (f m)=ac m):mI ps fin EN LV H D pm' ac' r (C.map f)=mI ps fin EN LV H D pm ac r C:=by
 have h1:fC r.act pm' (C.map f)=fC r.act pm C:=by
  unfold fC;rw [List.foldl_map];exact im (fun a m hm=>by rw [(h m hm).1])
 have h2:∀ z,gX ps pm' ac' z (C.map f)=gX ps pm ac z C:=fun z=>by
  unfold gX;rw [List.foldl_map];exact im (fun a m hm=>by unfold tf;rw [(h m hm).2.1,(h m hm).2.2])
 unfold mI;simp only [h1,h2]
end
def pmA (row:List (Option (PM×List PA))) (o:Nat):PM:=match row[o]? with | some (some x)=>x.1 | _=>⟨0,0,Ref.Sl.nil,.nil⟩
def acA (row:List (Option (PM×List PA))) (o:Nat):List PA:=match row[o]? with | some (some x)=>x.2 | _=>[]
def CV (ps:List PS) (fin:Nat) (EN LV:Nat->List PA) (H:List HV) (D:Nat->Bool) (row:Option (List (Option (PM×List PA)))) (r:RSt):RSt:=match row with
 | none=>mI ps fin EN LV H D (pmA []) (acA []) r []
 | some row=>mI ps fin EN LV H D (pmA row) (acA row) r (gn ps r.act (fun m=>(pmA row m).lv) (fun m=>(pmA row m).own) (dH (dh ps (row.map (Option.map (·.1.own))) ps.length) (els (inn ps r.act))))
def gK (AV:Ref.Sl->List PA) (p:PM):PM×List PA:=(⟨p.own,p.lv,Ref.Sl.nil,p.en⟩,AV p.au)
theorem Aj {ps:List PS} {fin:Nat} {EN LV:Nat->List PA} {H:List HV} {D:Nat->Bool} {M:ByteArray->Option Nat} {Lr L0:Nat->List (Option Nat)} {pmF:Nat->PM} {acF:Nat->List PA} {AV:Ref.Sl->List PA} {T0:ByteArray->Option (List (Option PM))} (hA:∀ ev (g i m:Nat),M ev=some g->(Lr g)[i]?=some (some m)->acF m=AV (pmF m).au) (hL:∀ ev g,M ev=some g->Lr g=dh ps (L0 g) ps.length/\T0 ev=some ((L0 g).map (Option.map pmF))) (hN:∀ ev,M ev=none->T0 ev=none) (hO:∀ ev row,T0 ev=some row->qE row) (r:RSt) (ev:ByteArray) :
  aR ps fin EN LV H D M Lr pmF acF r ev=CV ps fin EN LV H D ((T0 ev).map (List.map (Option.map (gK AV)))) r:=by
 unfold aR fZ CV;cases hM:M ev with
 | none =>
  rw [hN ev hM];exact (xH (f:=id) ps fin EN LV H D r [] (fun m hm=>by cases hm)).symm
 | some g =>
  obtain ⟨hLr,hT0⟩:=hL ev g hM;rw [hT0];have hown:=hO ev _ hT0;have hent:∀ (i m:Nat),(L0 g)[i]?=some (some m)->(pmF m).own=i:=fun i m h=>hown i (pmF m) (by rw [LJ,h];rfl);have hk:(((L0 g).map (Option.map pmF)).map (Option.map (gK AV))).map (Option.map (·.1.own))=(L0 g).map (Option.map fun m=>(pmF m).own):=by
   rw [N9,N9];refine P3 (fun x _ => ?_);cases x <;> rfl
  dsimp only [Option.map_some];rw [hk,yy,<- hLr];have hf:∀ (i j a b:Nat),(Lr g)[i]?=some (some a)->(Lr g)[j]?=some (some b)->(pmF a).own=(pmF b).own->a=b:=fun i j a b ha hb e=>by
   rw [hLr] at ha hb;obtain ⟨i',ha⟩:=iI ps _ _ ha;obtain ⟨j',hb⟩:=iI ps _ _ hb;rw [hent i' a ha,hent j' b hb] at e;rw [e,hb] at ha;cases ha
   rfl
  obtain ⟨w1,w2⟩:=Ew (Lr g) (fun m=>(pmF m).own) hf (els (inn ps r.act));rw [w1];have hm:∀ m∈dH (Lr g) (els (inn ps r.act)),pmA (((L0 g).map (Option.map pmF)).map (Option.map (gK AV))) (pmF m).own=(gK AV (pmF m)).1/\acA (((L0 g).map (Option.map pmF)).map (Option.map (gK AV))) (pmF m).own=acF m:=fun m hm=>by
   obtain ⟨i,hi⟩:=w2 m hm;have ha:=hA ev g i m hM hi;rw [hLr] at hi;obtain ⟨j,hj⟩:=iI ps _ _ hi;have e:(((L0 g).map (Option.map pmF)).map (Option.map (gK AV)))[(pmF m).own]?=some (some (gK AV (pmF m))):=by
    rw [hent j m hj,LJ,LJ,hj];rfl
   unfold pmA acA;rw [e,ha];exact ⟨rfl,rfl⟩
  rw [C7 (f:=fun m=>(pmF m).own) ps r.act (fun m=>(pmF m).lv) (fun m=>(pmF m).own) _ _ _ (fun m h=>by rw [(hm m h).1];exact ⟨rfl,rfl⟩)];refine (xH (f:=fun m=>(pmF m).own) ps fin EN LV H D r _ (fun m h => ?_)).symm;obtain ⟨c1,_⟩:=fm ps r.act (fun m=>(pmF m).lv) (fun m=>(pmF m).own) (dH (Lr g) (els (inn ps r.act))) _ (u0 _);rw [MH] at c1;have:=hm m (c1 m h);rw [this.1,this.2];exact ⟨rfl,rfl,rfl⟩
theorem DD {ps:List PS} {left:Nat} {D D':Nat->Bool} {H H':List HV} (hH:H.map (fun h=>(h.idx,h.own))=H'.map (fun h=>(h.idx,h.own))) (hD:∀ k,k<H.length->D k=D' k) (r:RSt):eY ps left D H r H.length=eY ps left D' H' r H'.length:=by
 have hl:H.length=H'.length:=by have:=congrArg List.length hH;simpa using this
 rw [<- hl];unfold eY;refine im (fun r k hk => ?_);have hk:=MD.1 hk;unfold pg;have e:H[k]?.map (fun h=>(h.idx,h.own))=H'[k]?.map (fun h=>(h.idx,h.own)):=by rw [<- LJ,<- LJ,hH]
 rw [hD k hk];cases h1:H[k]? with
 | none=>rw [h1] at e;cases h2:H'[k]? with
  | none=>rfl
  | some y=>rw [h2] at e;cases e
 | some x=>rw [h1] at e;cases h2:H'[k]? with
  | none=>rw [h2] at e;cases e
  | some y =>
   rw [h2] at e;simp only [Option.map_some,Option.some.injEq,Prod.mk.injEq] at e;dsimp only;rw [e.1,e.2]
theorem E2 {ps:List PS} {pm:Nat->PM} {ac:Nat->List PA} (hH:H.map (fun h=>(h.idx,h.own))=H'.map (fun h=>(h.idx,h.own))) (hD:∀ k,k<H.length->D k=D' k) (r:RSt) (C:List Nat):mI ps fin EN LV H D pm ac r C=mI ps fin EN LV H' D' pm ac r C:=by
 unfold mI;simp only [DD hH hD]
theorem EZ {ps:List PS} (hH:H.map (fun h=>(h.idx,h.own))=H'.map (fun h=>(h.idx,h.own))) (hD:∀ k,k<H.length->D k=D' k) (row:Option (List (Option (PM×List PA)))) (r:RSt):CV ps fin EN LV H D row r=CV ps fin EN LV H' D' row r:=by
 unfold CV;cases row <;> exact E2 hH hD r _
structure Par where
 lo:Nat
 mb:Nat
 pb:Nat
 b:Nat
 cap:Nat
 ps:List PS
 fin:Nat
 EN:Nat->List PA
 LV:Nat->List PA
 hvs:Ref.Sl
 H:List HV
 D:Nat->Bool
 mbm:Nat
 n:Nat
 T:ByteArray->Option (List (Option PM))
 M:ByteArray->Option Nat
 Lr:Nat->List (Option Nat)
 pmF:Nat->PM
 acF:Nat->List PA
def Par.an (p:Par):RSt->ByteArray->RSt:=aR p.ps p.fin p.EN p.LV p.H p.D p.M p.Lr p.pmF p.acF
structure Ses (W:World) (n0 xb:Nat) (p:Par) (r:RSt):Prop where
 at':qF W xb p.mb
 lo:p.lo<=xb
 n0:n0<=p.lo
 lv:Live W (Lo.all p.lo) p.mb p.pb p.b p.cap p.ps p.fin p.EN p.LV p.hvs p.H p.D p.mbm p.n p.T p.M p.Lr p.pmF p.acF r
theorem Ses.aw {W:World} {n0 xb:Nat} {p:Par} {r:RSt} (h:Ses W n0 xb p r) (hb:Below W W W'):Ses W' n0 xb p r:=⟨(hb.block _ (ph.1 h.at').1).trans h.at',h.lo,h.n0,h.lv.aw hb⟩
structure p6 (Z:List Pro.DS) (S:List Ref.State):Prop where
 len:Z.length=S.length
 at':∀ (i:Nat) (z:Pro.DS),Z[i]?=some z->z.s=Pro.rM (Pro.sAt S i)
theorem IU {w wr:World} {sv:Ref.Sl} {X Z:List Pro.DS} (D:kM w wr sv X Z X.length) {S:List Ref.State} (hX:X.map (·.s)=S):p6 Z S:=by
 subst hX;refine ⟨by rw [D.len,LI],fun i z hz => ?_⟩;obtain ⟨hi,rfl⟩:=Ku.1 hz;have hi':i<X.length:=by have:=D.len;omega
 rw [(D.done i hi hi' hi').1]
 congr 1
 unfold Pro.sAt;rw [LH,LJ,ym hi'];rfl
theorem IE {x:Ref.State} (h:Pro.gW x) (hk:isH (Pro.al x)=true):Pro.gZ x=true:=by
 obtain ⟨k,h0,h4,hw,hd⟩:=h;rw [Pro.fB h0 h4 hw hd] at hk;unfold Pro.gZ;rw [hw];have hk':k=0\/k=1\/k=2\/k=3\/k=4:=zaa
 rcases hk' with rfl | rfl | rfl | rfl | rfl
 ·cases hk
 ·cases hk
 ·cases hk
 ·rw [show Pro.bu 3=Pro.cZ from rfl,Pro.bQ];decide
 ·rw [show Pro.bu 4=Pro.cZ from rfl,Pro.bQ];decide
theorem CB {S:List Ref.State} {i:Nat} (hi:i<S.length):Pro.sAt S i∈S:=by
 unfold Pro.sAt;rw [LH,ym hi];exact Ml _
section
variable {Z:List Pro.DS} {S:List Ref.State}
theorem p6.ms (h:p6 Z S) {i:Nat} {x:MS} (hx:(Z.map aJ)[i]?=some x):∃ z,Z[i]?=some z/\x=aJ z/\z.s=Pro.rM (Pro.sAt S i)/\i<S.length:=by
 rw [LJ] at hx;cases hz:Z[i]? with
 | none=>rw [hz] at hx;cases hx
 | some z =>
  rw [hz] at hx;have hi:=(Ku.1 hz).1;exact ⟨z,rfl,by simpa using hx.symm,h.at' i z hz,by have:=h.len;omega⟩
theorem p6.ok (h:p6 Z S) (hC:Pro.ny S) (i:Nat) (x:MS) (hx:(Z.map aJ)[i]?=some x):x.owner = -1\/∃ o:Nat,x.owner=o/\o<i:=by
 obtain ⟨z,_,rfl,e,hi⟩:=h.ms hx;have hu:=hC.shp.wf i hi;have ho:(aJ z).owner=(Pro.sAt S i).up:=by show z.s.up=_;rw [e];rfl
 rw [ho];by_cases h0:(Pro.sAt S i).up = -1
 ·exact .inl h0
 ·exact .inr ⟨(Pro.sAt S i).up.toNat,zaa,zaa⟩
theorem p6.his (h:p6 Z S) (hC:Pro.ny S) (i:Nat) (x:MS) (hx:(Z.map aJ)[i]?=some x) (hk:isH x.kind=true):x.owner ≠ -1:=by
 obtain ⟨z,_,rfl,e,hi⟩:=h.ms hx;have hk':isH (Pro.al (Pro.sAt S i))=true:=by
  have e2:Pro.al z.s=Pro.al (Pro.sAt S i):=by rw [e];rfl
  rw [<- e2];exact hk
 have:=hC.shp.hup i hi (IE (hC.low _ (CB hi)).2 hk');have ho:(aJ z).owner=(Pro.sAt S i).up:=by show z.s.up=_;rw [e];rfl
 rw [ho];omega
variable {MM:Nat->List Pro.PV} {W:World}
theorem p6.K3 (h:p6 Z S) (hC:Pro.ny S) (hM:∀ i,(∀ z,Z[i]?=some z->fQ W z (MM i))/\(Z[i]?=none->MM i=[])) (i:Nat):(vOf MM i).length<=30000/\∀ v∈vOf MM i,v.event.size<=1000000/\v.dest.size<=1000000/\(v.dest.toList.isEmpty=false->∃ d,bR (Z.map aJ) (Z.map aJ).length v.dest=some d/\d<(Z.map aJ).length):=by
 have hl:=h.len;cases hz:Z[i]? with
 | none =>
  unfold vOf;rw [(hM i).2 hz];exact ⟨zad,fun v hv=>by cases hv⟩
 | some z =>
  have hi:i<S.length:=zaY;have hw:=(hM i).1 z hz;have hm:(MM i).map (·.m)=(Pro.sAt S i).aj.map Pro.dO:=by rw [hw.mv,h.at' i z hz];rfl
  refine ⟨by unfold vOf;rw [LI];have:=hw.mlen;omega,fun v hv => ?_⟩;obtain ⟨y,hy,rfl⟩:=Mc.1 hv;obtain ⟨m,hmm,e⟩:=Kl hm hy;have hsm:=(hw.actsG y hy).1;have h1:=hsm.event;have h2:=hsm.dst;refine ⟨by show y.m.event.size<=1000000;omega,by show y.m.to.size<=1000000;omega,fun hne => ?_⟩;have hto:y.m.to=m.to:=by rw [e];exact (wD m).2
  have hne:y.m.to.toList.isEmpty=false:=hne;rw [hto] at hne;have hp:=hC.tos _ (CB hi) m hmm hne;obtain ⟨d,hd,hdn⟩:∃ d,d<S.length/\(Pro.sAt S d).name=m.to:=by
   unfold Ref.place at hp;cases hf:(S.map Ref.emb).findIdx? (Ref.FL m.to) with
   | none=>rw [hf] at hp;exact absurd hp zac
   | some d =>
    rw [Pp] at hf;obtain ⟨hd,h1,_⟩:=hf;have hd':d<S.length:=by simpa using hd
    rw [NP] at h1;refine ⟨d,hd',?_⟩;have h1:(S[d].name.toList == m.to.toList)=true:=h1;have hs:Pro.sAt S d=S[d]:=by unfold Pro.sAt;rw [LH,ym hd'];rfl
    rw [hs];exact Ou fun hne=>by
     rw [Lw.IT hne] at h1;cases h1
  obtain ⟨zd,hzd⟩:∃ z,Z[d]?=some z:=⟨_,ym zaa⟩;have hx:(Z.map aJ)[d]?=some (aJ zd):=by rw [LJ,hzd];rfl
  have hxl:=(Ku.1 hx).1;obtain ⟨a,ha⟩:=rA (n:=m.to) hx (by show m.to=zd.s.name;rw [h.at' d zd hzd,<- hdn];rfl) (Z.map aJ).length hxl (u0 _);refine ⟨a,by show bR _ _ y.m.to=_;rw [hto];exact ha,(yz _ (u0 _) ha).1⟩
end
def X0 (S:List Ref.State) (u v:Nat->Ref.Sl):List MS:=S.mapIdx fun i x=>⟨Pro.al x,x.name,x.depth,x.up,Ref.Sl.nil,u i,v i,Ref.Sl.nil⟩
def EN0 (S:List Ref.State) (i:Nat):List PA:=match S[i]? with | some x=>(Pro.rM x).enter.map oh | none=>[]
def quiet (S:List Ref.State) (u v:Nat->Ref.Sl):Bool:=let r:=dv (psF (X0 S u v)) (bo (X0 S u v) (X0 S u v).length) (EN0 S) r0 (els (gi (psF (X0 S u v)) 0));r.q.isEmpty&&r.fin == 0
def bare (x:MS):MS:=⟨x.kind,x.name,x.depth,x.owner,Ref.Sl.nil,x.ve,x.vl,Ref.Sl.nil⟩
theorem jU (X:List MS):∀ k,bF (X.map bare) k=bF X k
 | 0=>by unfold bF;rw [LI]
 | k+1=>by
  rw [bF,bF,jU X k,LJ];cases X[k]? with
  | none=>rfl
  | some x =>
   show ml (bF X k) k (bare x)=ml (bF X k) k x;unfold ml DR bare;rfl
theorem j4 (X:List MS):∀ k,bo (X.map bare) k=bo X k
 | 0=>rfl
 | k+1=>by
  rw [bo,bo,j4 X k,LJ];cases X[k]? <;> rfl
theorem p6.bare {Z:List Pro.DS} {S:List Ref.State} (h:p6 Z S):∃ u v,(Z.map aJ).map bare=X0 S u v:=by
 have hl:=h.len;refine ⟨fun i=>(Z[i]?.map (·.ve)).getD Ref.Sl.nil,fun i=>(Z[i]?.map (·.vl)).getD Ref.Sl.nil,?_⟩;apply NL
 intro i;unfold X0;rw [LJ,LJ,List.getElem?_mapIdx];cases hz:Z[i]? with
 | none=>rw [L8 zbl];rfl
 | some z =>
  have hi:i<S.length:=zaY;have e:=h.at' i z hz;have hs:Pro.sAt S i=S[i]:=by unfold Pro.sAt;rw [LH,ym hi];rfl
  rw [ym hi];show some (Pg.bare (aJ z))=some _;unfold aJ Pg.bare;dsimp only;rw [e,hs,hz];rfl
theorem ry (X:List MS):∀ k,bR (X.map Pg.bare) k=bR X k
 | 0=>rfl
 | k+1=>by
  rw [bR,bR,ry X k,LJ];cases X[k]? <;> rfl
theorem uj (X:List MS):∀ k,jD (X.map Pg.bare) k=jD X k
 | 0=>rfl
 | k+1=>by
  rw [jD,jD,uj X k,LJ];cases X[k]? <;> rfl
theorem Cq (X:List MS):∀ (k:Nat) (y:Nat×Nat),y∈jD X k->y.1<k
 | 0,y,h=>by cases h
 | k+1,y,h=>by
  have ih:=Cq X k y;rw [jD] at h;split at h
  ·split at h
   ·rcases LR.1 h with h | h
    ·have:=ih h;omega
    ·rw [LD.1 h];exact PD k
   ·have:=ih h;omega
  ·have:=ih h;omega
def LV0 (S:List Ref.State) (i:Nat):List PA:=match S[i]? with | some x=>(Pro.rM x).leave.map oh | none=>[]
def mvB (S:List Ref.State) (u v:Nat->Ref.Sl) (i:Nat):List (ByteArray×(PM×List PA)):=match S[i]? with
 | some x=>(Pro.rM x).aj.map fun m=>(m.event,(eZ (psF (X0 S u v)) (bR (X0 S u v) (X0 S u v).length) i ⟨m.event,false,0,m.to,Ref.Sl.nil⟩,m.au.map oh))
 | none=>[]
def H0 (S:List Ref.State) (u v:Nat->Ref.Sl):List HV:=(jD (X0 S u v) (X0 S u v).length).map fun x=>⟨x.1,x.2,.nilIface⟩
def D0 (S:List Ref.State) (u v:Nat->Ref.Sl) (k:Nat):Bool:=match (H0 S u v)[k]? with
 | some h=>match S[h.idx]? with | some x=>decide (Pro.al x=4) | none=>false
 | none=>false
def anS (S:List Ref.State) (u v:Nat->Ref.Sl) (r:RSt) (ev:ByteArray):RSt:=CV (psF (X0 S u v)) (bo (X0 S u v) (X0 S u v).length) (EN0 S) (LV0 S) (H0 S u v) (D0 S u v) (Jv (psF (X0 S u v)).length (mvB S u v) (X0 S u v).length ev) r
def stS (S:List Ref.State) (u v:Nat->Ref.Sl):RSt:=eO (anS S u v) (dv (psF (X0 S u v)) (bo (X0 S u v) (X0 S u v).length) (EN0 S) r0 (els (gi (psF (X0 S u v)) 0)))
theorem KR (AV:Ref.Sl->List PA) (ps:List PS) (F:ByteArray->Option Nat) (i:Nat) (m:MV):gK AV (eZ ps F i m)=(eZ ps F i ⟨m.event,false,0,m.dest,Ref.Sl.nil⟩,AV m.au):=by
 unfold gK eZ;dsimp only;exact zfo
theorem Jk {w0 W:World} {Z:List Pro.DS} {S:List Ref.State} {MM:Nat->List Pro.PV} (h:p6 Z S) (hC:Pro.ny S) (hM:∀ i,(∀ z,Z[i]?=some z->fQ W z (MM i))/\(Z[i]?=none->MM i=[])) (hN:EH w0 W pb (Z.map aJ) (vOf MM)) (hl:Lw W.heap.size) :
  ∃ EN LV b hvs H D mbm n M Lr pmF acF,jt W W pb b (Z.map aJ).length (psF (Z.map aJ)) (bo (Z.map aJ) (Z.map aJ).length) EN LV hvs H D mbm n (BQ (Z.map aJ) (vOf MM)) M Lr pmF acF/\SzP (psF (Z.map aJ)) EN LV/\(∀ m,∀ a∈acF m,a.sz)/\EN=EN0 S/\∀ u v,(Z.map aJ).map Pg.bare=X0 S u v->∀ r ev,aR (psF (Z.map aJ)) (bo (Z.map aJ) (Z.map aJ).length) EN LV H D M Lr pmF acF r ev=anS S u v r ev:=by
 have hlen:=h.len;have h24:=hC.shp.len;have hpos:=hC.pos;have hzs:∀ (i:Nat) (x:MS),(Z.map aJ)[i]?=some x->∃ z,x=aJ z/\fQ W z (MM i):=fun i x hx=>by
  obtain ⟨z,hz,e,_⟩:=h.ms hx;exact ⟨z,e,(hM i).1 z hz⟩
 have hac:∀ {v:Ref.Sl} {A:List Ref.Act},W.ownsRow 0 235 1 v.v A.length (A.map bg)->Pro.mw A->gj W W.heap.size v (nC W W.heap.size v)/\(∀ a∈nC W W.heap.size v,a.sz)/\nC W W.heap.size v=A.map oh:=fun hr hG=>by
  rw [H6 (Cc hr hG)];exact ⟨Cc hr hG,fun a ha=>by
   obtain ⟨x,hx,rfl⟩:=Mc.1 ha;exact (Cx (hG.small x hx)).2,rfl⟩
 obtain ⟨b,hvs,H,D,mbm,n,M,Lr,pmF,acF,hR,r1,r2,r3,r4,r5,L0,r6⟩:=GD (nC W W) hN zaR zaR (h.ok hC) (h.his hC) hl (fun i x hx=>by
  obtain ⟨z,rfl,hw⟩:=hzs i x hx;exact ⟨(hac hw.enter hw.enterG).1,(hac hw.leave hw.leaveG).1⟩) (fun i hi v hv=>by
  rw [LI] at hi;have hw:=(hM i).1 Z[i] (ym hi);obtain ⟨y,hy,rfl⟩:=Mc.1 hv;have:=hac (hw.au y hy) (hw.actsG y hy).2;exact ⟨this.1,this.2.1⟩)
 have hsA:∀ {i:Nat} (hi:i<S.length),Pro.sAt S i=S[i]:=fun hi=>by unfold Pro.sAt;rw [LH,ym hi];rfl
 have hEN:enF (Z.map aJ) (nC W W)=EN0 S:=by
  funext i;unfold enF EN0;rw [LJ];cases hz:Z[i]? with
  | none=>rw [L8 zbl];rfl
  | some z =>
   have hi:i<S.length:=zaY;have hw:=(hM i).1 z hz;rw [ym hi,<- hsA hi];show nC W W z.ve=(Pro.rM (Pro.sAt S i)).enter.map oh;rw [<- h.at' i z hz];exact (hac hw.enter hw.enterG).2.2
 have hLV:lvF (Z.map aJ) (nC W W)=LV0 S:=by
  funext i;unfold lvF LV0;rw [LJ];cases hz:Z[i]? with
  | none=>rw [L8 zbl];rfl
  | some z =>
   have hi:i<S.length:=zaY;have hw:=(hM i).1 z hz;rw [ym hi,<- hsA hi];show nC W W z.vl=(Pro.rM (Pro.sAt S i)).leave.map oh;rw [<- h.at' i z hz];exact (hac hw.leave hw.leaveG).2.2
 have hAN:∀ u v,(Z.map aJ).map Pg.bare=X0 S u v->∀ r ev,aR (psF (Z.map aJ)) (bo (Z.map aJ) (Z.map aJ).length) (enF (Z.map aJ) (nC W W)) (lvF (Z.map aJ) (nC W W)) H D M Lr pmF acF r ev=anS S u v r ev:=fun u v e0 r ev=>by
  have el:(X0 S u v).length=(Z.map aJ).length:=by rw [<- e0,LI]
  have e1:psF (X0 S u v)=psF (Z.map aJ):=by rw [<- e0];unfold psF;rw [jU,LI]
  have e2:bo (X0 S u v) (X0 S u v).length=bo (Z.map aJ) (Z.map aJ).length:=by rw [<- e0,j4,LI]
  have e3:bR (X0 S u v) (X0 S u v).length=bR (Z.map aJ) (Z.map aJ).length:=by rw [<- e0,ry,LI]
  have e4:jD (X0 S u v) (X0 S u v).length=jD (Z.map aJ) (Z.map aJ).length:=by rw [<- e0,uj,LI]
  have hpl:=ou (Z.map aJ);rw [Aj (AV:=nC W W) (L0:=L0) (T0:=dR (psF (Z.map aJ)) (bR (Z.map aJ) (Z.map aJ).length) (vOf MM) (Z.map aJ).length) r4 (fun ev g hg=>by rw [hpl];exact r6 ev g hg) (fun ev hn=>by
   have:=r3 ev;rw [hn] at this;unfold BQ at this;cases ht:dR (psF (Z.map aJ)) (bR (Z.map aJ) (Z.map aJ).length) (vOf MM) (Z.map aJ).length ev with
   | none=>rfl
   | some row=>rw [ht] at this;cases this) (vg _) r ev,uZ,hEN,hLV]
  have hV:(fun i=>(vOf MM i).map fun m=>(m.event,gK (nC W W) (eZ (psF (Z.map aJ)) (bR (Z.map aJ) (Z.map aJ).length) i m)))=mvB S u v:=by
   funext i;unfold mvB vOf;rw [e1,e3];cases hz:Z[i]? with
   | none=>rw [(hM i).2 hz,L8 zbl];rfl
   | some z =>
    have hi:i<S.length:=zaY;have hw:=(hM i).1 z hz;rw [ym hi,<- hsA hi];dsimp only;rw [<- h.at' i z hz,<- hw.mv,N9,N9];refine P3 (fun y hy => ?_);show ((Jy y).event,gK _ (eZ _ _ i (Jy y)))=(y.m.event,(eZ _ _ i ⟨y.m.event,false,0,y.m.to,Ref.Sl.nil⟩,y.m.au.map oh));rw [KR,<- (hac (hw.au y hy) (hw.actsG y hy).2).2.2];rfl
  rw [hV];unfold anS;rw [e1,e2,el];have hHH:H.map (fun h=>(h.idx,h.own))=(H0 S u v).map (fun h=>(h.idx,h.own)):=by
   unfold H0;rw [r1,N9,e4];exact (List.map_id _).symm
  refine EZ hHH (fun k hk => ?_) _ r;obtain ⟨y,hy⟩:∃ y,H[k]?=some y:=⟨_,ym hk⟩;have hq:(H0 S u v)[k]?.map (fun h=>(h.idx,h.own))=some (y.idx,y.own):=by rw [<- LJ,<- hHH,LJ,hy];rfl
  have hyl:y.idx<Z.length:=by
   have:=Cq (Z.map aJ) (Z.map aJ).length (y.idx,y.own) (by rw [<- r1];exact Mc.2 ⟨y,LG hy,rfl⟩);rw [LI] at this;exact this
  have hx:(Z.map aJ)[y.idx]?=some (aJ Z[y.idx]):=by rw [LJ,ym hyl];rfl
  rw [r2 k y _ hy hx];unfold D0;cases h0:(H0 S u v)[k]? with
  | none=>rw [h0] at hq;cases hq
  | some y' =>
   rw [h0] at hq;simp only [Option.map_some,Option.some.injEq,Prod.mk.injEq] at hq;dsimp only;have hi:y.idx<S.length:=zaa;rw [hq.1,ym hi,<- hsA hi];dsimp only;have:Pro.al Z[y.idx].s=Pro.al (Pro.sAt S y.idx):=by rw [h.at' y.idx _ (ym hyl)];rfl
   rw [<- this];rfl
 refine ⟨_,_,b,hvs,H,D,mbm,n,M,Lr,pmF,acF,hR,⟨fun i a ha => ?_,fun i a ha => ?_,fun i p hp => ?_⟩,r5,hEN,hAN⟩
 ·unfold enF at ha;split at ha
  ·rename_i x hx;obtain ⟨z,rfl,hw⟩:=hzs i x hx;exact (hac hw.enter hw.enterG).2.1 a ha
  ·cases ha
 ·unfold lvF at ha;split at ha
  ·rename_i x hx;obtain ⟨z,rfl,hw⟩:=hzs i x hx;exact (hac hw.leave hw.leaveG).2.1 a ha
  ·cases ha
 ·obtain ⟨x,hx,e⟩:=Gq _ (h.ok hC) hp;obtain ⟨z,rfl,hw⟩:=hzs i x hx;have:=hw.name;have h5:(aJ z).name=z.s.name:=rfl;rw [show p.done=qt++(aJ z).name from congrArg St.done e,h5,Oh];have:qt.size=5:=rfl;omega
def StM (W:World) (S:List Ref.State) (sb:Nat) (p:Par) (r:RSt):Prop:=∃ u v sv,r=stS S u v/\p.ps=psF (X0 S u v)/\(∀ r ev,p.an r ev=anS S u v r ev)/\W.heap[sb]?=some (.cells #[.string ⟨#[]⟩,.int .u64 r.now,sv] 62 (0,0))/\Nms W p.lo sv ((els r.act).map (dD p.ps))/\p.lo<=sb
def Ac (s:ByteArray) (w:World) (e:Ending) (w':World):Prop:=Below w w w'/\match Pro.read s with
 | .fault c l=>∃ b,e = .returned (.tuple #[.pointer none,.slice none 0 0,.iface 83 (.pointer (some ⟨b,0,none⟩))])/\w'.heap[b]?=some (.cells #[.int .i64 c,.int .i64 l] 87 (0,0))
 | .eW S=>∃ xb sb p r,e = .returned (.tuple #[.pointer (some ⟨xb,0,none⟩),.slice (some ⟨sb,0,none⟩) 1 1,fuelV r.fin])/\Ses w' w.heap.size xb p r/\r.now=0/\((∀ u v,quiet S u v=true)->r.fin=0)/\StM w' S sb p r
end Pg
theorem BO (s:ByteArray) (w:World) (hv:vF w) (hs:s.size<=1073741824) :
  () 16 #[s] w (Pg.Ac s w):=by
 have HR:Hid _:=zl s w hv.lib hs;have HV:Hid _:=hv;clear hv;go_enter func16,ntmps16;go_wp2_with fail;refine LF HR.out ?_;rintro e w1 ⟨hb1,hp⟩;cases hR:Pro.read s with
 | fault c l =>
  rw [hR] at hp;obtain ⟨b,rfl,hbk⟩:=hp;have HRR:Hid _:=hR;clear hR;dsimp only;go_wp2;go_ret3;unfold Pg.Ac;rw [HRR.out];exact ⟨hb1,b,rfl,hbk⟩
 | eW S =>
  rw [hR] at hp;obtain ⟨cb,sv,X,rfl,hcb,hXS,hC,hSl⟩:=hp;have hRf:=hR;rw [Pro.Ec] at hRf;have hCK:=Pro.BD hRf;have hXl:X.length<=24:=by rw [<- hXS,LI] at hSl;exact hSl
  have HT:Hid _:=Az cb sv X w1 hcb hC zaa (fun x hx=>(hCK.low x.s (by rw [<- hXS];exact NI hx)).1);have HRR:Hid _:=hR;have HXS:Hid _:=hXS;have HCK:Hid _:=hCK;clear hR hRf hXS hSl hXl hC hcb hCK;dsimp only;go_wp2_with fail;refine LF HT.out ?_;rintro e w2 ⟨hb2,cb2,sv2,Z,rfl,hcb2,hD⟩;have hlo:=Pg.IU hD HXS.out;obtain ⟨MM,hMM⟩:=Pg.Km hD;have hZl:Z.length=S.length:=hlo.len;obtain ⟨cg,cc,hch⟩:=Pg.J1 hD hcb2 (by have:=HCK.out.pos;omega) hMM;have hv2:=(HV.out.aw hb1).aw hb2;have HN:Hid _:=I7 w2 cb2 cg cc (Z.map Pg.aJ) (Pg.vOf MM) hch (by rw [LI,hZl];exact HCK.out.shp.len) (fun i x hx=>by
   obtain ⟨z,hz,rfl,_⟩:=hlo.ms hx;have:=((hMM i).1 z hz).name;show z.s.name.size<=1000000;omega) (hlo.ok HCK.out) (hlo.his HCK.out) hv2.lw.g5 hv2.t5 hv2.k5 (fun i=>(hlo.K3 HCK.out hMM i).1) (fun i=>(hlo.K3 HCK.out hMM i).2)
  have HB2:Hid (Below w w w2):=hb1.trans (hb2.mono hb1.size);have HV2:Hid _:=hv2;have HLO:Hid _:=hlo;have HMM:Hid _:=hMM;clear hv2 hb1 hb2 hD hcb2 hch hlo hMM hZl;dsimp only;go_wp2_with fail;refine LF HN.out ?_;rintro e w3 ⟨pb,rfl,hNP⟩;have hb3:Below w2 w2 w3:=by
   obtain ⟨_,_,_,_,_,_,_,hb,_⟩:=hNP;exact hb
  have hv3:=HV2.out.aw hb3;obtain ⟨EN,LV,b,hvs,H,D,mbm,n,M,Lr,pmF,acF,hRP,hSz,hsz,hEN,hAN⟩:=Pg.Jk HLO.out HCK.out (fun i=>⟨fun z hz=>((HMM.out i).1 z hz).aw hb3,(HMM.out i).2⟩) hNP hv3.lw;have hpl:(Pg.psF (Z.map Pg.aJ)).length=S.length:=by rw [Pg.ou,LI];exact HLO.out.len
  obtain ⟨p0,hp0⟩:∃ p0,(Pg.psF (Z.map Pg.aJ))[0]?=some p0:=⟨_,ym (by have:=HCK.out.pos;omega)⟩;have hwt:p0.wth=Pg.gi (Pg.psF (Z.map Pg.aJ)) 0:=by unfold Pg.gi;rw [hp0]
  have hwl:p0.wth<2 ^ (Pg.psF (Z.map Pg.aJ)).length:=by rw [hwt,Pg.ou];exact Pg.jP (Pg.zj _ (HLO.out.ok HCK.out)) 0
  have HS:Hid _:=BH w3 (Pg.Lo.all w3) pb b _ _ _ _ _ hvs H D mbm n _ M Lr pmF acF p0 hRP hSz hsz hp0 hwl (u0 _) (u0 _) hv3.t6 hv3.t5 (fun V=>oX _ V zac);have HB3:Hid (Below w w w3):=HB2.out.trans (hb3.mono HB2.out.size);have HQ:Hid ((∀ u v,Pg.quiet S u v=true)->(Pg.dM (Pg.psF (Z.map Pg.aJ)) (Pg.bo (Z.map Pg.aJ) (Z.map Pg.aJ).length) EN LV H D M Lr pmF acF p0.wth).fin=0):=fun hq=>by
   obtain ⟨u,v,e0⟩:=HLO.out.bare;have hq:=hq u v;unfold Pg.quiet at hq;dsimp only at hq;have e1:Pg.psF (Pg.X0 S u v)=Pg.psF (Z.map Pg.aJ):=by rw [<- e0];unfold Pg.psF;rw [Pg.jU,LI]
   have e2:Pg.bo (Pg.X0 S u v) (Pg.X0 S u v).length=Pg.bo (Z.map Pg.aJ) (Z.map Pg.aJ).length:=by rw [<- e0,Pg.j4,LI]
   rw [e1,e2,<- hEN,<- hwt,L1,Om,Qf] at hq;unfold Pg.dM Pg.eO;rw [Pg.l7 hq.1];exact hq.2
  have HMO:Hid (∃ u v,Pg.dM (Pg.psF (Z.map Pg.aJ)) (Pg.bo (Z.map Pg.aJ) (Z.map Pg.aJ).length) EN LV H D M Lr pmF acF p0.wth=Pg.stS S u v/\Pg.psF (Z.map Pg.aJ)=Pg.psF (Pg.X0 S u v)/\∀ r ev,Pg.aR (Pg.psF (Z.map Pg.aJ)) (Pg.bo (Z.map Pg.aJ) (Z.map Pg.aJ).length) EN LV H D M Lr pmF acF r ev=Pg.anS S u v r ev):=by
   obtain ⟨u,v,e0⟩:=HLO.out.bare;have e1:Pg.psF (Pg.X0 S u v)=Pg.psF (Z.map Pg.aJ):=by rw [<- e0];unfold Pg.psF;rw [Pg.jU,LI]
   have e2:Pg.bo (Pg.X0 S u v) (Pg.X0 S u v).length=Pg.bo (Z.map Pg.aJ) (Z.map Pg.aJ).length:=by rw [<- e0,Pg.j4,LI]
   refine ⟨u,v,?_,e1.symm,hAN u v e0⟩;unfold Pg.dM Pg.stS;rw [e1,e2,<- hEN,<- hwt]
   congr 1
   funext r ev;exact hAN u v e0 r ev
  have hok:Pg.ROK (Pg.psF (Z.map Pg.aJ)) (Pg.dM (Pg.psF (Z.map Pg.aJ)) (Pg.bo (Z.map Pg.aJ) (Z.map Pg.aJ).length) EN LV H D M Lr pmF acF p0.wth)/\Pg.QOK (Pg.dM (Pg.psF (Z.map Pg.aJ)) (Pg.bo (Z.map Pg.aJ) (Z.map Pg.aJ).length) EN LV H D M Lr pmF acF p0.wth) :=
   Pg.nq (fun r x h k=>Pg.mJ hRP hSz hsz h k x) (Pg.lQ _ _ ⟨Nf _,fun _=>Nf _⟩ (Pg.gN hwl)) (Pg.lR hSz _ _ ⟨fun e he=>(by cases he),.inl rfl,zac,fun x hx=>(by cases hx)⟩)
  have hnow:(Pg.dM (Pg.psF (Z.map Pg.aJ)) (Pg.bo (Z.map Pg.aJ) (Z.map Pg.aJ).length) EN LV H D M Lr pmF acF p0.wth).now=0:=(Pg.uL (fun r x=>Pg.xI r x) 60 _).trans (Pg.qY _ _ _ _ _);have hq0:(Pg.dM (Pg.psF (Z.map Pg.aJ)) (Pg.bo (Z.map Pg.aJ) (Z.map Pg.aJ).length) EN LV H D M Lr pmF acF p0.wth).q=[]:=rfl;have HFIN:Hid (∀ (w4:World) (mb:Nat),Pg.MT w4 (Pg.Lo.all w3) mb pb (Pg.dM (Pg.psF (Z.map Pg.aJ)) (Pg.bo (Z.map Pg.aJ) (Z.map Pg.aJ).length) EN LV H D M Lr pmF acF p0.wth)->Pg.Rf (Pg.Lo.all w3) w3 w4->Pg.Idl w4 mb->Below w w (w4.alloc (.cells #[.pointer (some ⟨mb,0,none⟩)] 82))/\Pg.Ses (w4.alloc (.cells #[.pointer (some ⟨mb,0,none⟩)] 82)) w.heap.size w4.heap.size ⟨w3.heap.size,mb,pb,b,_,Pg.psF (Z.map Pg.aJ),Pg.bo (Z.map Pg.aJ) (Z.map Pg.aJ).length,EN,LV,hvs,H,D,mbm,n,Pg.BQ (Z.map Pg.aJ) (Pg.vOf MM),M,Lr,pmF,acF⟩ (Pg.dM (Pg.psF (Z.map Pg.aJ)) (Pg.bo (Z.map Pg.aJ) (Z.map Pg.aJ).length) EN LV H D M Lr pmF acF p0.wth)):=fun w4 mb hMT hRf hid=>by
   have hb4:Below w4 w4 (w4.alloc (.cells #[mb] 82)):=(FP _ _).alloc (u0 _) _;have hs34:=hRf.bel.size;exact ⟨HB3.out.trans ((hRf.bel.mono HB3.out.size).trans (hb4.mono (Fq HB3.out.size hs34))),LC _ _,hs34,HB3.out.size,⟨Pg.jt.rf (lo:=Pg.Lo.all w3.heap.size) (Pg.jt.rf (lo:=Pg.Lo.all w3.heap.size) hRP hRf) (Pg.RfE.of hb4 hs34),hSz,hsz,hMT.below hv3.lw hb4,hok.1,hok.2,hq0,hid.bel hMT.lt hb4⟩⟩
  generalize Pg.dM (Pg.psF (Z.map Pg.aJ)) (Pg.bo (Z.map Pg.aJ) (Z.map Pg.aJ).length) EN LV H D M Lr pmF acF p0.wth=r at *;have HNW:Hid _:=hnow;clear hb3 hv3 hNP hRP hSz hsz hEN hAN hwt hwl hp0 hok hnow hq0 hpl;dsimp only;go_wp2_with fail;refine LF HS.out ?_;rintro e w4 ⟨mb,sb,sv4,rfl,hst,hnm,hMT,hRf,hsb,hid⟩;have HE:Hid _:=HFIN.out w4 mb hMT hRf hid;have HS4:Hid (w4.heap[sb]?=_/\Pg.Nms w4 w3 sv4 _/\w3.heap.size<=sb):=⟨hst,hnm,hsb⟩;clear hst hnm hMT hRf hsb hid;dsimp only;go_wp2;go_ret3;unfold Pg.Ac;rw [HRR.out];obtain ⟨u,v,m1,m2,m3⟩:=HMO.out;have hb4:Below w4 w4 (w4.alloc (.cells #[mb] 82)):=(FP _ _).alloc (u0 _) _;exact ⟨HE.out.1,_,_,_,r,rfl,HE.out.2,HNW.out,HQ.out,u,v,sv4,m1,m2,m3,(hb4.block _ (ph.1 HS4.out.1).1).trans HS4.out.1,Kd.row (bD (E:=fun _=>False) hb4) HS4.out.2.1 (fun h=>h),HS4.out.2.2⟩
end
section
open Go.RowKit Go.Proofs Go.Shelf
theorem oy {fn:Func} {t u v x:Tmp} (h:fn.results=#[.tmp t,.tmp u,.tmp v,.tmp x]) (tmps:Array Value) (P:Program) (w:World):(results fn tmps).run P w = .ok (.tuple #[tmps.getD t undef,tmps.getD u undef,tmps.getD v undef,tmps.getD x undef]) w:=by
 simp [results,h]
namespace Pg
theorem fuel_err (n:Nat) (h:n=0\/n=5\/n=6):∃ k,fuelV n=mO k/\(k=if n=6 then 6 else 0):=by
 rcases h with rfl | rfl | rfl
 ·exact ⟨0,rfl,rfl⟩
 ·exact ⟨0,rfl,rfl⟩
 ·exact ⟨6,rfl,rfl⟩
end Pg
end
section
namespace Fr
def mk (l:List UInt8):ByteArray:=⟨⟨l⟩⟩
def kt:Nat->List UInt8
 | 0=>[115,116,97,116,101,32,115,104,117,116,10,32,111,110,32,111,112,101,110,32,116,111,32,111,112,101,110,10,115,116,97,116,101,32,111,112,101,110,10,32,97,102,116,101,114,32,53,32,116,111,32,115,104,117,116,10,32,111,110,32,99,108,111,115,101,32,116,111,32,115,104,117,116,10]
 | 1=>kt 0
 | 2=>[112,97,114,97,108,108,101,108,32,112,10,32,115,116,97,116,101,32,97,10,32,32,115,116,97,116,101,32,97,49,10,32,32,32,111,110,32,120,32,116,111,32,97,50,10,32,32,102,105,110,97,108,32,97,50,10,32,115,116,97,116,101,32,98,10,32,32,115,116,97,116,101,32,98,49,10,32,32,32,111,110,32,121,32,116,111,32,98,50,10,32,32,102,105,110,97,108,32,98,50,10,32,111,110,32,100,111,110,101,46,112,32,116,111,32,101,10,115,116,97,116,101,32,101,10]
 | 3=>[115,116,97,116,101,32,109,10,32,115,116,97,116,101,32,105,10,32,32,111,110,32,110,32,116,111,32,107,10,32,115,116,97,116,101,32,107,10,32,32,115,116,97,116,101,32,107,49,10,32,32,32,111,110,32,110,32,116,111,32,107,50,10,32,32,115,116,97,116,101,32,107,50,10,32,104,105,115,116,111,114,121,32,104,10,32,104,105,115,116,111,114,121,32,103,32,100,101,101,112,10,32,111,110,32,111,117,116,32,116,111,32,111,10,115,116,97,116,101,32,111,10,32,111,110,32,104,32,116,111,32,104,10,32,111,110,32,103,32,116,111,32,103,10,32,111,110,32,109,32,116,111,32,109,10]
 | 4=>kt 3
 | 5=>[115,116,97,116,101,32,97,10,32,111,110,32,120,32,116,111,32,98,32,100,111,32,114,97,105,115,101,32,114,10,32,108,101,97,118,101,32,100,111,32,114,97,105,115,101,32,108,10,115,116,97,116,101,32,98,10,32,101,110,116,101,114,32,100,111,32,114,97,105,115,101,32,110,10,32,111,110,32,108,32,116,111,32,99,10,115,116,97,116,101,32,99,10,32,111,110,32,114,32,116,111,32,100,10,115,116,97,116,101,32,100,10,32,111,110,32,110,32,116,111,32,101,10,102,105,110,97,108,32,101,10]
 | 6=>[115,116,97,116,101,32,97,10,32,115,116,97,116,101,32,98,10,32,32,111,110,32,120,32,116,111,32,98,10,32,32,97,102,116,101,114,32,51,32,100,111,32,115,101,110,100,32,115,32,50,10,32,101,110,116,101,114,32,100,111,32,115,101,110,100,32,116,32,52,10,32,111,110,32,115,32,116,111,32,99,10,32,111,110,32,116,10,115,116,97,116,101,32,99,10]
 | 7=>[115,116,97,116,101,32,97,10,32,97,102,116,101,114,32,48,32,116,111,32,98,10,115,116,97,116,101,32,98,10,32,97,102,116,101,114,32,48,32,116,111,32,99,10,115,116,97,116,101,32,99,10]
 | 8=>[115,116,97,116,101,32,97,10,32,101,110,116,101,114,32,100,111,32,115,101,110,100,32,120,32,49,32,100,111,32,115,101,110,100,32,120,32,50,32,100,111,32,115,101,110,100,32,120,32,51,32,97,115,32,107,10,32,111,110,32,120,32,100,111,32,99,97,110,99,101,108,32,107,10]
 | 9=>[115,116,97,116,101,32,97,10,32,111,110,32,120,32,116,111,32,98,10,32,115,116,97,116,101,32,98,10,32,32,111,110,32,120,10,32,115,116,97,116,101,32,99,10,32,32,111,110,32,120,32,116,111,32,97,10]
 | 10=>[112,97,114,97,108,108,101,108,32,112,10,32,115,116,97,116,101,32,97,10,32,32,111,110,32,120,32,116,111,32,99,10,32,115,116,97,116,101,32,98,10,32,32,111,110,32,120,32,116,111,32,100,10,115,116,97,116,101,32,99,10,115,116,97,116,101,32,100,10]
 | _=>[112,97,114,97,108,108,101,108,32,112,10,32,115,116,97,116,101,32,97,10,32,32,115,116,97,116,101,32,97,49,10,32,32,32,111,110,32,120,32,116,111,32,98,50,10,32,115,116,97,116,101,32,98,10,32,32,115,116,97,116,101,32,98,49,10,32,32,115,116,97,116,101,32,98,50,10]
def kd:Nat->List (List UInt8)
 | 0=>[[111,112,101,110],[46,52],[46,53],[111,112,101,110],[99,108,111,115,101],[46,57,57]]
 | 1=>[[99,108,111,115,101],[111,112,101,110],[46,51],[46,50],[46,49,48,48]]
 | 2=>[[121],[120]]
 | 3=>[[110],[110],[111,117,116],[104],[111,117,116],[103],[111,117,116],[109]]
 | 4=>[[111,117,116],[103],[110],[110],[111,117,116],[103]]
 | 5=>[[120],[121]]
 | 6=>[[46,51],[46,49,48]]
 | 7=>[[46,48]]
 | 8=>[[46,57]]
 | 9=>[[120]]
 | 10=>[[120]]
 | _=>[[120]]
def kw:Nat->List UInt8
 | 0=>[32,48,32,115,104,117,116,124,111,112,101,110,32,48,32,111,112,101,110,124,97,102,116,101,114,46,52,32,53,32,115,104,117,116,124,111,112,101,110,32,53,32,111,112,101,110,124,99,108,111,115,101,32,53,32,115,104,117,116]
 | 1=>[32,48,32,115,104,117,116,124,99,108,111,115,101,32,48,32,115,104,117,116,124,111,112,101,110,32,48,32,111,112,101,110,124,97,102,116,101,114,46,52,32,53,32,115,104,117,116]
 | 2=>[32,48,32,112,32,97,32,97,49,32,98,32,98,49,124,121,32,48,32,112,32,97,32,97,49,32,98,32,98,50,124,120,32,48,32,101]
 | 3=>[32,48,32,109,32,105,124,110,32,48,32,109,32,107,32,107,49,124,110,32,48,32,109,32,107,32,107,50,124,111,117,116,32,48,32,111,124,104,32,48,32,109,32,107,32,107,49,124,111,117,116,32,48,32,111,124,103,32,48,32,109,32,107,32,107,49,124,111,117,116,32,48,32,111,124,109,32,48,32,109,32,105]
 | 4=>[32,48,32,109,32,105,124,111,117,116,32,48,32,111,124,103,32,48,32,109,32,105,124,110,32,48,32,109,32,107,32,107,49,124,110,32,48,32,109,32,107,32,107,50,124,111,117,116,32,48,32,111,124,103,32,48,32,109,32,107,32,107,50]
 | 5=>[32,48,32,97,124,120,32,48,32,101]
 | 6=>[32,48,32,97,32,98,124,97,102,116,101,114,46,52,32,51,32,97,32,98,124,116,32,52,32,97,32,98,124,115,32,53,32,99]
 | 7=>[32,48,32,97,124,97,102,116,101,114,46,50,32,48,32,98,124,97,102,116,101,114,46,52,32,48,32,99]
 | 8=>[32,48,32,97,124,120,32,49,32,97,124,120,32,50,32,97]
 | 9=>[32,48,32,97,32,98,124,120,32,48,32,97,32,98]
 | 10=>[32,48,32,112,32,97,32,98,124,120,32,48,32,99]
 | _=>[32,48,32,112,32,97,32,97,49,32,98,32,98,49,124,120,32,48,32,112,32,97,32,97,49,32,98,32,98,50]
def wt:Nat->List UInt8×Nat×Nat
 | 0=>([],2,1)
 | 1=>([115,116,97,116,101,32,97],2,1)
 | 2=>([115,116,97,116,101,32,97,10,10],2,2)
 | 3=>([115,116,97,116,101,10],2,1)
 | 4=>([115,116,97,116,101,32,65,10],2,1)
 | 5=>([115,116,97,116,101,32,97,98,99,100,101,102,103,104,105,10],2,1)
 | 6=>([115,116,97,116,101,32,97,10,32,111,110,32,120,32,116,111,10],2,2)
 | 7=>([115,116,97,116,101,32,97,10,32,111,110,32,120,32,100,111,10],2,2)
 | 8=>([115,116,97,116,101,32,97,10,32,101,110,116,101,114,10],2,2)
 | 9=>([115,116,97,116,101,32,97,10,32,97,102,116,101,114,32,48,49,10],2,2)
 | 10=>([115,116,97,116,101,32,97,10,32,97,102,116,101,114,32,49,56,52,52,54,55,52,52,48,55,51,55,48,57,53,53,49,54,49,54,10],2,2)
 | 11=>([115,116,97,116,101,32,97,10,32,101,110,116,101,114,32,100,111,32,114,97,105,115,101,32,100,111,110,101,46,97,10],2,2)
 | 12=>([115,116,97,116,101,32,97,10,32,111,110,32,97,102,116,101,114,46,48,10],2,2)
 | 13=>([115,116,97,116,101,32,97,32,100,101,101,112,10],2,1)
 | 14=>([32,115,116,97,116,101,32,97,10],3,1)
 | 15=>([111,110,32,120,10],3,1)
 | 16=>([115,116,97,116,101,32,97,10,32,32,115,116,97,116,101,32,98,10],3,2)
 | 17=>([104,105,115,116,111,114,121,32,104,10],3,1)
 | 18=>([115,116,97,116,101,32,97,10,32,104,105,115,116,111,114,121,32,104,10],3,2)
 | 19=>([102,105,110,97,108,32,97,10,32,115,116,97,116,101,32,98,10],3,2)
 | 20=>([102,105,110,97,108,32,97,10,32,111,110,32,120,10],3,2)
 | 21=>([112,97,114,97,108,108,101,108,32,112,10,32,102,105,110,97,108,32,97,10],3,2)
 | 22=>([115,116,97,116,101,32,97,10,112,97,114,97,108,108,101,108,32,112,10,32,104,105,115,116,111,114,121,32,104,10],3,2)
 | 23=>([115,116,97,116,101,32,97,10,32,101,110,116,101,114,32,100,111,32,114,97,105,115,101,32,120,10,32,101,110,116,101,114,32,100,111,32,114,97,105,115,101,32,121,10],3,3)
 | 24=>([115,116,97,116,101,32,97,10,115,116,97,116,101,32,97,10],4,2)
 | 25=>([115,116,97,116,101,32,97,10,32,111,110,32,120,32,116,111,32,98,10],4,2)
 | 26=>([115,116,97,116,101,32,97,10,32,111,110,32,97,102,116,101,114,46,51,10,32,97,102,116,101,114,32,51,10],4,2)
 | _=>([115,116,97,116,101,32,97,10,32,97,102,116,101,114,32,51,10,32,101,110,116,101,114,32,100,111,32,99,97,110,99,101,108,32,97,102,116,101,114,46,50,10],4,3)
def dot (l:List UInt8):Bool:=l.head? == some 46
def kJ (l:List UInt8):Nat:=l.foldl (fun v c=>10*v+(c.toNat-48)) 0
def nmL (N:List ByteArray):Nat->List UInt8
 | 0=>[]
 | k+1=>nmL N k++32::(N.getD k ⟨#[]⟩).data.toList
def onL (x:ByteArray×Nat×List ByteArray):List UInt8:=x.1.data.toList++[32]++[(48+x.2.1).toUInt8]
def toL (L:List (ByteArray×Nat×List ByteArray)):Nat->List UInt8
 | 0=>[]
 | i+1=>match L[i]? with
  | some x=>toL L i++(if i=0 then [] else [124])++onL x++nmL x.2.2 x.2.2.length
  | none=>toL L i
end Fr
end
section
open Go.RowKit Go.Proofs Go.Shelf
namespace Fr
def sp (c:UInt8):List UInt8->List UInt8->List (List UInt8)
 | [],acc=>[acc]
 | x::l,acc=>if x=c then acc::sp c l [] else sp c l (acc++[x])
theorem GN (c:UInt8):∀ (l acc:List UInt8),sp c l acc≠[]
 | [],_=>by simp [sp]
 | x::l,acc=>by
  unfold sp;split
  ·simp
  ·exact GN c l _
theorem CE (c x:UInt8):∀ (l acc:List UInt8),sp c (l++[x]) acc=if x=c then sp c l acc++[[]] else (sp c l acc).set ((sp c l acc).length-1) ((sp c l acc)[(sp c l acc).length-1]?.getD []++[x])
 | [],acc=>by
  by_cases h:x=c
  ·simp [sp,h]
  ·simp [sp,h]
 | y::l,acc=>by
  have ih:=CE c x l;have hp:=GN c l [];rw [Qr];by_cases hy:y=c
  ·simp only [sp,if_pos hy,ih];by_cases h:x=c
   ·simp only [if_pos h,List.cons_append]
   ·simp only [if_neg h];obtain ⟨a,L,hL⟩:∃ a L,sp c l []=a::L:=by
     cases hq:sp c l [] with
     | nil=>exact absurd hq hp
     | cons a L=>exact ⟨a,L,rfl⟩
    rw [hL];simp
  ·simp only [sp,if_neg hy,ih]
theorem J3 (s:ByteArray) (c:UInt8):Ref.cut s (c.toNat:Int)=(sp c s.data.toList []).map mk:=by
 have key:∀ k,k<=s.data.toList.length->Ref.dq s (c.toNat:Int) k=(sp c (s.data.toList.take k) []).map mk:=by
  intro k
  induction k with
  | zero=>intro _;rfl
  | succ k ih =>
   intro hk;have ih:=ih zaa;have hk':k<s.data.toList.length:=zaa;obtain ⟨x,hx⟩:∃ x,s.data.toList[k]?=some x:=⟨_,ym hk'⟩;have hb:Go.PlainAid.bt s k=(x.toNat:Int):=by
    obtain ⟨h1,rfl⟩:=Ku.1 hx;have h2:k<s.size:=h1;unfold Go.PlainAid.bt;rw [dif_pos h2];rfl
   have he:s.extract k (k+1)=mk [x]:=by
    have h1:(s.extract k (k+1)).data.toList=[x]:=by
     rw [ByteArray.data_extract,Array.toList_extract,List.extract_eq_take_drop,show k+1-k=1 by omega,List.take_one,List.head?_drop,hx];rfl
    generalize s.extract k (k+1)=z at h1;obtain ⟨⟨z⟩⟩:=z;have h1:z=[x]:=h1;rw [h1];rfl
   rw [MZ,hx,Qg,CE,Ref.dq,ih,hb,he];by_cases h:x=c
   ·rw [LA (by rw [h]),LA h,Mu];rfl
   ·have hne:¬ ((x.toNat:Int)=(c.toNat:Int)):=fun e=>h (Pj.1 zaa);rw [KQ hne,KQ h,ON,LI,LJ]
    congr 1
    cases (sp c (s.data.toList.take k) [])[(sp c (s.data.toList.take k) []).length-1]? with
    | none=>rfl
    | some l=>simp [mk];rfl
 have:=key s.data.toList.length (u0 _);rw [MH] at this;exact this
def uJ (P:List ByteArray):Ref.Got:=match Ref.syn P with
 | some i => .fault 2 ((i:Int)+1)
 | none=>match Ref.a8 (Ref.aN P (P.length-1)) (P.length-1) with
  | none => .fault 3 (Ref.gy (Ref.aN P (P.length-1)) (P.length-1))
  | some S=>match Ref.dN S S.length with
   | some l => .fault 3 l
   | none=>match Pro.bl S P (P.length-1) with
    | some i => .fault 4 ((i:Int)+1)
    | none => .eW S
theorem Cy (l:List UInt8) (h:l.length<=1500):Pro.read (mk l)=uJ ((sp 10 l []).map mk):=by
 have h1:Ref.cut (mk l) 10=(sp 10 l []).map mk:=J3 (mk l) 10;unfold Pro.read;rw [KQ (by show ¬ 1500<l.length;omega),h1];rfl
def okK (l:List UInt8) (u v:Nat->Ref.Sl):Bool:=decide (l.length<=1500)&&match uJ ((sp 10 l []).map mk) with | .eW S=>Pg.quiet S u v | .fault _ _=>false
theorem JL (u v:Nat->Ref.Sl):∀ k,k<12->okK (kt k) u v=true
 | 0,_=>by kernel_rfl
 | 1,_=>by kernel_rfl
 | 2,_=>by kernel_rfl
 | 3,_=>by kernel_rfl
 | 4,_=>by kernel_rfl
 | 5,_=>by kernel_rfl
 | 6,_=>by kernel_rfl
 | 7,_=>by kernel_rfl
 | 8,_=>by kernel_rfl
 | 9,_=>by kernel_rfl
 | 10,_=>by kernel_rfl
 | 11,_=>by kernel_rfl
 | k+12,h=>absurd h zaa
theorem Jp {k:Nat} (hk:k<12):(mk (kt k)).size<=1073741824:=by
 have h:=JL (fun _=>Ref.Sl.nil) (fun _=>Ref.Sl.nil) k hk;unfold okK at h;rw [L1] at h;have h1:=Nh h.1;show (kt k).length<=_;omega
end Fr
namespace Pg
def fuelN (fe:Nat):Nat:=if fe=6 then 6 else 0
theorem Ep (fe:Nat) (w:World) (hg:xx w) :
  () 17 #[fuelV fe] w fun ev w'=>ev = .returned (.tuple #[.int .i64 (fuelN fe),(0:Int)])/\Below w w w':=by
 unfold fuelV fuelN;by_cases h:fe=6
 ·rw [LA h,LA h];exact sO 6 w hg
 ·rw [KQ h,KQ h];exact zO w
def Aa (s:ByteArray) (w:World) (e:Ending) (w':World):Prop:=Below w w w'/\match Pro.read s with
 | .fault c l=>e = .returned (.tuple #[.pointer none,.slice none 0 0,.int .i64 c,.int .i64 l])
 | .eW S=>∃ xb sb p r,e = .returned (.tuple #[.pointer (some ⟨xb,0,none⟩),.slice (some ⟨sb,0,none⟩) 1 1,.int .i64 (fuelN r.fin),.int .i64 0])/\Ses w' w.heap.size xb p r/\r.now=0/\((∀ u v,quiet S u v=true)->r.fin=0)/\StM w' S sb p r
theorem StM.aw {W:World} {S:List Ref.State} {p:Par} {r:RSt} (h:StM W S sb p r) (hb:Below W W W'):StM W' S sb p r:=by
 obtain ⟨u,v,sv,a,b,c,d,e,f⟩:=h;exact ⟨u,v,sv,a,b,c,(hb.block _ (ph.1 d).1).trans d,e.str (.bel hb),f⟩
end Pg
theorem kG (s:ByteArray) (w:World) (hv:vF w) (hs:s.size<=1073741824) :
  () 8 #[s] w (Pg.Aa s w):=by
 have HL:Hid _:=BO s w hv hs;have HV:Hid _:=hv;clear hv;go_enter func8,ntmps8;go_wp2_with fail;refine LF HL.out ?_;rintro e w1 ⟨hb1,hp⟩;cases hR:Pro.read s with
 | fault c l =>
  rw [hR] at hp;obtain ⟨b,rfl,hbk⟩:=hp;have HRR:Hid _:=hR;have HT:Hid _:=sP b c l w1 (HV.out.aw hb1).errT hbk;clear hR hbk;dsimp only;go_wp2_with fail;refine LF HT.out ?_;rintro e w2 ⟨rfl,hb2⟩;have HB:Hid _:=hb1.trans (hb2.mono hb1.size);clear hb2 hb1;dsimp only;go_wp2
  (try simp only [Exit.inBlock,Exit.then])
  refine Ni (oy rfl _ _ _) rfl ?_;unfold Pg.Aa;rw [HRR.out];exact ⟨HB.out,rfl⟩
 | eW S =>
  rw [hR] at hp;obtain ⟨xb,sb,p,r,rfl,h1⟩:=hp;have HRR:Hid _:=hR;have HT:Hid _:=Pg.Ep r.fin w1 (HV.out.aw hb1).errT;have H1:Hid _:=h1;clear hR h1;dsimp only;go_wp2_with fail;refine LF HT.out ?_;rintro e w2 ⟨rfl,hb2⟩;have HB:Hid _:=hb1.trans (hb2.mono hb1.size);have HB2:Hid _:=hb2;clear hb2 hb1;dsimp only;go_wp2
  (try simp only [Exit.inBlock,Exit.then])
  refine Ni (oy rfl _ _ _) rfl ?_;unfold Pg.Aa;rw [HRR.out];exact ⟨HB.out,xb,sb,p,r,rfl,H1.out.1.aw HB2.out,H1.out.2.1,H1.out.2.2.1,H1.out.2.2.2.aw HB2.out⟩
namespace Pg
def evK (an:RSt->ByteArray->RSt) (r:RSt) (ev:ByteArray):List (ByteArray×RSt)×RSt:=if r.fin=0 then ([(ev,cH an r ev)],cH an r ev) else ([],r)
def ckK (an:RSt->ByteArray->RSt) (r:RSt) (t:Nat):List (ByteArray×RSt)×RSt:=if r.fin=0 then fJ an t 201 0 r else ([],r)
theorem LN.one {W:World} {n0:Nat} {ps:List PS} {ev:ByteArray} {r:RSt} {sv:Value} (h:W.heap[sb]?=some (.cells #[ev,.int .u64 r.now,sv] 62 (0,0))) (hn:Nms W n0 sv ((els r.act).map (dD ps))) (hb:n0<=sb):LN W n0 n0 ps (.slice sb 1 1) [(ev,r)] :=
 ⟨[sv],rfl,⟨rfl,.inr ⟨sb,1,_,rfl,hb,h,u0 _,zag,rfl,rfl⟩⟩,fun y hy=>by
  obtain rfl:=LD.1 hy;exact hn⟩
theorem LN.nil {W:World} {n0:Nat} {ps:List PS}:LN W n0 n0 ps (.slice none 0 0) []:=⟨[],rfl,Mz ..,fun y hy=>by cases hy⟩
end Pg
section
variable (w:World) (n0 xb:Nat) (p:Pg.Par) (r:Pg.RSt)
theorem Ir (h:Pg.Ses w n0 xb p r) (hE:Pg.xx w) (hg:0<n0) (hcl:∀ ev:ByteArray,ev.size<=1000000->xv ev) (ev:ByteArray) (hev:ev.size<=1000000) :
  () 12 #[xb,ev] w fun e w'=>∃ l,∃ k:Nat,e = .returned (.tuple #[l,(k:Int)])/\Hid (Pg.Ses w' n0 xb p (Pg.evK p.an r ev).2/\Pg.LN w' p.lo p.lo p.ps l (Pg.evK p.an r ev).1/\Pg.Rf (Pg.Lo.all p.lo) w w'/\Pg.gb w w'):=by
 have hl0:=h.lv.mt.lo';refine LF (sg w xb p.mb (fun l k V=>Pg.Ses V n0 xb p (Pg.evK p.an r ev).2/\Pg.LN V p.lo p.lo p.ps l (Pg.evK p.an r ev).1/\Pg.Rf (Pg.Lo.all p.lo) w V/\Pg.gb w V) h.at' (fun l k V hV => ?_) ev ((Dm w _ _ _ _ _ _ _ _ _ _ _ _ _ _ _ _ _ _ _ r ev h.lv hev (hcl ev hev)).mono fun e w' hw => ?_)) ?_
 ·exact zed
 ·unfold Pg.vG at hw;unfold Pg.evK;by_cases hf:r.fin=0
  ·rw [LA hf] at hw ⊢;obtain ⟨sb,sv,rfl,h5,h6,h7,h8,h9,h10⟩:=hw;obtain ⟨k,e1,e2⟩:=Pg.fuel_err _ h7.qk.fin;exact ⟨_,k,by rw [<- e1],⟨h8.kd.aw _ _ _ _ h.at' zaM |>.trans h.at',h.lo,h.n0,h7⟩,.one h5 h6 h9,h8,h10⟩
  ·rw [KQ hf] at hw ⊢;obtain ⟨rfl,hb⟩:=hw;exact ⟨_,r.fin,rfl,h.aw hb,.nil,Pg.RfE.of hb hl0,.bel hb⟩
 ·rintro e w' ⟨l,k,V,rfl,⟨h5,h6,h7,h8⟩,hb⟩;exact ⟨l,k,rfl,h5.aw hb,h6.no (bD hb),h7.trans (Pg.RfE.of hb h5.lv.mt.lo'),h8.trans (.bel hb)⟩
theorem Ig (h:Pg.Ses w n0 xb p r) (hE:Pg.xx w) (hg:0<n0) (hcl:∀ ev:ByteArray,ev.size<=1000000->xv ev) (t:Nat) (ht:t<18446744073709551616) :
  () 11 #[xb,.int .u64 t] w fun e w'=>∃ l,∃ k:Nat,e = .returned (.tuple #[l,(k:Int)])/\Hid (Pg.Ses w' n0 xb p (Pg.ckK p.an r t).2/\((Pg.ckK p.an r t).2.fin≠6->Pg.LN w' p.lo p.lo p.ps l (Pg.ckK p.an r t).1)/\Pg.Rf (Pg.Lo.all p.lo) w w'/\Pg.gb w w'):=by
 have hl0:=h.lv.mt.lo';refine LF (sf w xb p.mb (fun l k V=>Pg.Ses V n0 xb p (Pg.ckK p.an r t).2/\((Pg.ckK p.an r t).2.fin≠6->Pg.LN V p.lo p.lo p.ps l (Pg.ckK p.an r t).1)/\Pg.Rf (Pg.Lo.all p.lo) w V/\Pg.gb w V) h.at' (fun l k V hV => ?_) t ((Da w _ _ _ _ _ _ _ _ _ _ _ _ _ _ _ _ _ _ _ r t h.lv ht hcl).mono fun e w' hw => ?_)) ?_
 ·exact zed
 ·unfold Pg.oQ at hw;unfold Pg.ckK;by_cases hf:r.fin=0
  ·rw [LA hf] at hw ⊢;obtain ⟨sv,rfl,_,h6,h7,h8,h9⟩:=hw;obtain ⟨k,e1,e2⟩:=Pg.fuel_err _ h7.qk.fin;exact ⟨_,k,by rw [<- e1],⟨h8.kd.aw _ _ _ _ h.at' zaM |>.trans h.at',h.lo,h.n0,h7⟩,h6,h8,h9⟩
  ·rw [KQ hf] at hw ⊢;obtain ⟨rfl,hb⟩:=hw;exact ⟨_,r.fin,rfl,h.aw hb,fun _ => .nil,Pg.RfE.of hb hl0,.bel hb⟩
 ·rintro e w' ⟨l,k,V,rfl,⟨h5,h6,h7,h8⟩,hb⟩;exact ⟨l,k,rfl,h5.aw hb,fun hn=>(h6 hn).no (bD hb),h7.trans (Pg.RfE.of hb h5.lv.mt.lo'),h8.trans (.bel hb)⟩
end
theorem Bf (s:ByteArray) (w:World) (hv:vF w) (hs:s.size<=1073741824) (c l:Int) (hR:Pro.read s = .fault c l) :
  () 9 #[s] w fun e w'=>e = .returned (.tuple #[.string ⟨#[]⟩,(c:Int),(l:Int)])/\Below w w w':=by
 have HV:Hid _:=hv;have HL:Hid (() 18 #[s] w fun e w'=>∃ b,e = .returned (.tuple #[.string ⟨#[]⟩,.iface 83 (.pointer (some ⟨b,0,none⟩))])/\Hid (w'.heap[b]?=some (.cells #[(c:Int),(l:Int)] 87 (0,0))/\Below w w w')):=by
  unfold Hid;have HR:Hid _:=zl s w hv.lib hs;have HRR:Hid _:=hR;clear hv hR HV;go_enter func18,ntmps18;go_wp2_with fail;refine LF HR.out ?_;rintro e w1 ⟨hb1,hp⟩;rw [HRR.out] at hp;obtain ⟨b,rfl,hbk⟩:=hp;have HB:Hid _:=And.intro hbk hb1;clear hbk hb1;dsimp only;go_wp2;go_ret2;exact ⟨b,rfl,HB.out⟩
 clear hv hR;go_enter func9,ntmps9;go_wp2_with fail;refine LF HL.out ?_;rintro e w1 ⟨b,rfl,h1⟩;have HT:Hid _:=sP b c l w1 (HV.out.aw h1.out.2).errT h1.out.1;dsimp only;go_wp2_with fail;refine LF HT.out ?_;rintro e w2 ⟨rfl,hb2⟩;have HB:Hid _:=h1.out.2.trans (hb2.mono h1.out.2.size);clear hb2;dsimp only;go_wp2;go_ret3;exact ⟨rfl,HB.out⟩
namespace Fr
def stK (an:Pg.RSt->ByteArray->Pg.RSt) (r:Pg.RSt) (d:List UInt8):List (ByteArray×Pg.RSt)×Pg.RSt:=if dot d then Pg.ckK an r (kJ (d.drop 1)) else Pg.evK an r (mk d)
def goK (an:Pg.RSt->ByteArray->Pg.RSt):List (List UInt8)->Pg.RSt->List (ByteArray×Pg.RSt)×Pg.RSt
 | [],r=>([],r)
 | d::l,r=>((stK an r d).1++(goK an l (stK an r d).2).1,(goK an l (stK an r d).2).2)
theorem Jq {an:Pg.RSt->ByteArray->Pg.RSt} {r:Pg.RSt} {d:List UInt8} (h:r.fin≠0):stK an r d=([],r):=by
 simp only [stK,Pg.ckK,Pg.evK,if_neg h,ite_self]
theorem Cp {an:Pg.RSt->ByteArray->Pg.RSt}:∀ (l:List (List UInt8)) (r:Pg.RSt),r.fin=6->(goK an l r).2.fin=6
 | [],_,h=>h
 | d::l,r,h=>by
  show (goK an l (stK an r d).2).2.fin=6;rw [Jq zaa];exact Cp l r h
def tdS (ps:List Pg.PS) (x:ByteArray×Pg.RSt):ByteArray×Nat×List ByteArray:=(x.1,x.2.now,(Pg.els x.2.act).map (Pg.dD ps))
def Hn (S:List Ref.State) (u v:Nat->Ref.Sl) (k:Nat):List (ByteArray×Pg.RSt):=(⟨#[]⟩,Pg.stS S u v)::(goK (Pg.anS S u v) (kd k) (Pg.stS S u v)).1
def smK (L:List (ByteArray×Pg.RSt)):Bool:=decide (L.length<=20)&&L.all fun x=>decide (x.2.now<10)
def okS (S:List Ref.State) (u v:Nat->Ref.Sl) (k:Nat):Bool:=(Pg.stS S u v).fin == 0&&(goK (Pg.anS S u v) (kd k) (Pg.stS S u v)).2.fin != 6&&smK (Hn S u v k)&&toL ((Hn S u v k).map (tdS (Pg.psF (Pg.X0 S u v)))) (Hn S u v k).length == kw k
def okD (l:List UInt8) (u v:Nat->Ref.Sl) (k:Nat):Bool:=match uJ ((sp 10 l []).map mk) with | .eW S=>okS S u v k | .fault _ _=>false
theorem K4 (u v:Nat->Ref.Sl):∀ k,k<12->okD (kt k) u v k=true
 | 0,_=>by kernel_rfl
 | 1,_=>by kernel_rfl
 | 2,_=>by kernel_rfl
 | 3,_=>by kernel_rfl
 | 4,_=>by kernel_rfl
 | 5,_=>by kernel_rfl
 | 6,_=>by kernel_rfl
 | 7,_=>by kernel_rfl
 | 8,_=>by kernel_rfl
 | 9,_=>by kernel_rfl
 | 10,_=>by kernel_rfl
 | 11,_=>by kernel_rfl
 | k+12,h=>absurd h zaa
theorem DE {k:Nat} (hk:k<12):∃ S,Pro.read (mk (kt k)) = .eW S/\∀ u v,okS S u v k=true:=by
 have h:∀ u v,_:=fun u v=>K4 u v k hk;unfold okD at h;have hl:=h (fun _=>Ref.Sl.nil) (fun _=>Ref.Sl.nil);have hs:=JL (fun _=>Ref.Sl.nil) (fun _=>Ref.Sl.nil) k hk;unfold okK at hs;rw [L1] at hs;rw [Cy _ (Nh hs.1)];cases hr:uJ ((sp 10 (kt k) []).map mk) with
 | fault c l=>rw [hr] at hl;cases hl
 | eW S =>
  refine ⟨S,rfl,fun u v => ?_⟩;have:=h u v;rw [hr] at this;exact this
def isF (g:Ref.Got) (c l:Nat):Bool:=match g with | .fault c' l'=>c' == (c:Int)&&l' == (l:Int) | .eW _=>false
theorem K5:∀ k,k<28->(decide ((wt k).1.length<=1500)&&isF (uJ ((sp 10 (wt k).1 []).map mk)) (wt k).2.1 (wt k).2.2)=true
 | 0,_=>by kernel_rfl
 | 1,_=>by kernel_rfl
 | 2,_=>by kernel_rfl
 | 3,_=>by kernel_rfl
 | 4,_=>by kernel_rfl
 | 5,_=>by kernel_rfl
 | 6,_=>by kernel_rfl
 | 7,_=>by kernel_rfl
 | 8,_=>by kernel_rfl
 | 9,_=>by kernel_rfl
 | 10,_=>by kernel_rfl
 | 11,_=>by kernel_rfl
 | 12,_=>by kernel_rfl
 | 13,_=>by kernel_rfl
 | 14,_=>by kernel_rfl
 | 15,_=>by kernel_rfl
 | 16,_=>by kernel_rfl
 | 17,_=>by kernel_rfl
 | 18,_=>by kernel_rfl
 | 19,_=>by kernel_rfl
 | 20,_=>by kernel_rfl
 | 21,_=>by kernel_rfl
 | 22,_=>by kernel_rfl
 | 23,_=>by kernel_rfl
 | 24,_=>by kernel_rfl
 | 25,_=>by kernel_rfl
 | 26,_=>by kernel_rfl
 | 27,_=>by kernel_rfl
 | k+28,h=>absurd h zaa
theorem EA {k:Nat} (hk:k<28):Pro.read (mk (wt k).1) = .fault (wt k).2.1 (wt k).2.2/\(wt k).1.length<=1500:=by
 have h:=K5 k hk;rw [L1] at h;have hs:=Nh h.1;refine ⟨?_,hs⟩;rw [Cy _ hs];have h2:=h.2;unfold isF at h2;cases hr:uJ ((sp 10 (wt k).1 []).map mk) with
 | eW S=>rw [hr] at h2;cases h2
 | fault c l =>
  rw [hr] at h2;simp only [Bool.and_eq_true,beq_iff_eq] at h2;rw [h2.1,h2.2]
end Fr
end
section
open Go.RowKit Go.Proofs
namespace Fr
theorem uF (l:List UInt8) (c:UInt8):kJ (l++[c])=10*kJ l+(c.toNat-48):=by unfold kJ;rw [MO];rfl
theorem wM (l:List UInt8) (h:∀ c∈l,48<=c.toNat/\c.toNat<=57):∀ k,kJ (l.take k)<10 ^ k
 | 0=>by simp [kJ]
 | k+1=>by
  have ih:=wM l h k;rw [MZ,Pr];cases hx:l[k]? with
  | none=>simp only [Option.toList_none,List.append_nil];omega
  | some c =>
   have:=h c (LG hx);simp only [Option.toList_some];rw [uF];omega
end Fr
theorem zc (l:List UInt8) (w:World) (hl:l.length<=10) (hd:∀ c∈l.drop 1,48<=c.toNat/\c.toNat<=57):() 10 #[.string (Fr.mk l)] w fun e w'=>e = .returned (.int .u64 (Fr.kJ (l.drop 1)))/\w'=w:=by
 have hsz:(Fr.mk l).size=l.length:=rfl;go_enter func10,ntmps10;go_wp2
 go_loop [3,4] (fun v i=>∃ k:Nat,1<=k/\(k<=l.length\/k=1)/\i = .int .i64 k/\v = .int .u64 (Fr.kJ ((l.drop 1).take (k-1)))) (fun _ i=>l.length-(intOf i).toNat)
 case atStart=>exact ⟨1,u0 _,.inr rfl,rfl,rfl⟩
 case round =>
  obtain ⟨k,h1,h2,rfl,rfl⟩:=hrel;by_cases hlt:k<l.length
  ·have hk':((k:Int)<((Fr.mk l).size:Int)):=zaa;have hc:=hd l[k] (List.mem_drop_iff_getElem.2 ⟨k-1,zaa,by congr 1;omega⟩);have hlt2:=Fr.wM (l.drop 1) hd (k-1);have h9:(10:Nat) ^ (k-1)<=10 ^ 9:=MU zac zaa;have hs:Fr.kJ ((l.drop 1).take k)=10*Fr.kJ ((l.drop 1).take (k-1))+(l[k].toNat-48):=by
    obtain ⟨j,rfl⟩:∃ j,k=j+1:=⟨k-1,zaa⟩;rw [MZ,List.getElem?_drop,show 1+j=j+1 by omega,ym hlt,Qg,Fr.uF];rfl
   have HV:Hid (IntKind.u64.wrap (IntKind.u64.wrap (10*(Fr.kJ (List.take (k-1) l.tail):Int))+(((Fr.mk l)[k].toNat:Int)-48) % 256)=(Fr.kJ ((l.drop 1).take k):Int)):=by
    unfold Hid;have e:(Fr.mk l)[k].toNat=l[k].toNat:=rfl;rw [e,hs,<- List.drop_one,On,On];omega
   clear hs hc hlt2 h9;go_wp2
   go_round
   case rel=>exact ⟨k+1,zaa,.inl zaa,zah,congrArg (Value.int .u64) HV.out⟩
   case measure=>simp [intOf];omega
  ·have hk':¬ ((k:Int)<((Fr.mk l).size:Int)):=zaa;have HV:Hid (Fr.kJ (List.take (k-1) l.tail)=Fr.kJ l.tail):=by
    unfold Hid;rw [Pt (by rw [List.length_tail];omega)]
   go_wp2;go_ret;exact ⟨congrArg (fun x:Nat=>Ending.returned (.int .u64 (x:Int))) HV.out,rfl⟩
namespace Fr
theorem mW (a b:List UInt8):mk a++mk b=mk (a++b):=by
 apply ByteArray.ext
 rw [ByteArray.data_append];simp [mk]
theorem Kh (x:ByteArray):mk x.data.toList=x:=rfl
theorem vQ (a:List UInt8) (x:ByteArray):mk a++x=mk (a++x.data.toList):=by rw [<- mW,Kh]
def EI (W:World) (v:Ref.Sl) (N:List ByteArray):Prop:=v.n=N.length/\N.length<=v.c/\∀ (k:Nat) (x:ByteArray),N[k]?=some x->∃ g,v.a=some ⟨g,0,none⟩/\W.cell? ⟨g,k,none⟩=some ↑x
def CQ (W:World) (v:Ref.Sl) (L:List (ByteArray×Nat×List ByteArray)):Prop:=v.n=L.length/\L.length<=v.c/\∀ (k:Nat) (x:ByteArray×Nat×List ByteArray),L[k]?=some x->∃ g sl,v.a=some ⟨g,0,none⟩/\W.cell? ⟨g,k*3,none⟩=some ↑x.1/\W.cell? ⟨g,k*3+1,none⟩=some (.int .u64 x.2.1)/\W.cell? ⟨g,k*3+2,none⟩=some (.slice sl.a sl.n sl.c)/\EI W sl x.2.2
theorem EI.aw {W:World} {N:List ByteArray} (h:EI W v N) (hb:Below W W W'):EI W' v N:=⟨h.1,h.2.1,fun k x hx=>by
 obtain ⟨g,a,c⟩:=h.2.2 k x hx;exact ⟨g,a,(hb.cell (p:=⟨g,k,none⟩) (LY _ _ c)).trans c⟩⟩
theorem CQ.aw {W:World} {L:List (ByteArray×Nat×List ByteArray)} (h:CQ W v L) (hb:Below W W W'):CQ W' v L:=⟨h.1,h.2.1,fun k x hx=>by
 obtain ⟨g,sl,a,c1,c2,c3,n⟩:=h.2.2 k x hx;have hg:=LY _ _ c1;exact ⟨g,sl,a,(hb.cell (p:=⟨g,k*3,none⟩) hg).trans c1,(hb.cell (p:=⟨g,k*3+1,none⟩) hg).trans c2,(hb.cell (p:=⟨g,k*3+2,none⟩) hg).trans c3,n.aw hb⟩⟩
theorem yY (N:List ByteArray):∀ (j k:Nat),(nmL N j).length<=(nmL N (j+k)).length
 | _,0=>u0 _
 | j,k+1=>Fq (yY N j k) (by show _<=(nmL N (j+k)++_).length;rw [LO];omega)
theorem Gd (N:List ByteArray):∀ k,k<=(nmL N k).length
 | 0=>LL _
 | k+1=>by
  have:=Gd N k;rw [nmL,LO,MF];omega
theorem zP (L:List (ByteArray×Nat×List ByteArray)):∀ (j k:Nat),(toL L j).length<=(toL L (j+k)).length
 | _,0=>u0 _
 | j,k+1=>Fq (zP L j k) (by
  show _<=(toL L (j+k+1)).length;rw [toL];split
  ·simp only [List.length_append];omega
  ·exact u0 _)
end Fr
theorem DN (n:Nat) (h:n<10) (w:World):() 21 #[.int .u64 n] w fun e w'=>e = .returned (.string (Fr.mk [(48+n).toUInt8]))/\w'=w:=by
 have h:n=0\/n=1\/n=2\/n=3\/n=4\/n=5\/n=6\/n=7\/n=8\/n=9:=zaa
 rcases h with rfl | rfl | rfl | rfl | rfl | rfl | rfl | rfl | rfl | rfl
 all_goals
  go_enter func21,ntmps21;go_wp2;go_ret;exact ⟨zab,rfl⟩
theorem GW (w:World) (v:Ref.Sl) (L:List (ByteArray×Nat×List ByteArray)) (h:Fr.CQ w v L) (ht:∀ x∈L,x.2.1<10) (hl:(Fr.toL L L.length).length<=4096) (hL:L.length<=4096) :
  () 13 #[.slice v.a v.n v.c] w fun e w'=>e = .returned (.string (Fr.mk (Fr.toL L L.length)))/\Below w w w':=by
 have HT:Hid (∀ W,Below w w W->Fr.CQ W v L):=fun W hb=>h.aw hb;have hvn:=h.1;have hvc:=h.2.1;clear h;obtain ⟨va,vn,vc⟩:=v;dsimp only at hvn hvc;subst hvn;go_enter func13,ntmps13;go_wp2
 go_loopw [3,4] (fun t i wr=>∃ k:Nat,k<=L.length/\i = .int .i64 k/\t = .string (Fr.mk (Fr.toL L k))/\Below w w wr) (fun _ i _=>L.length-(intOf i).toNat)
 case atStart=>exact ⟨0,LL _,rfl,rfl,FP _ _⟩
 case round =>
  obtain ⟨k,hk,rfl,rfl,hb⟩:=hrel;by_cases hlt:k<L.length
  ·obtain ⟨x,hx⟩:∃ x,L[k]?=some x:=⟨_,ym hlt⟩;obtain ⟨g,sl,hva,c1,c2,c3,hN⟩:=(HT.out wr hb).2.2 k x hx;dsimp only at hva;subst hva;have hlt':((k:Int)<(L.length:Int)):=zaa;have HLG:Hid _:=fun W=>DN x.2.1 (ht x (LG hx)) W;have HP:Hid (Fr.toL L (k+1)=Fr.toL L k++(if k=0 then [] else [124])++Fr.onL x++Fr.nmL x.2.2 x.2.2.length):=by
    unfold Hid;rw [Fr.toL,hx]
   have hsz:(Fr.toL L (k+1)).length<=4096:=Fq (by have:=Fr.zP L (k+1) (L.length-(k+1));rwa [show k+1+(L.length-(k+1))=L.length by omega] at this) hl;have hsz2:(Fr.toL L k).length+x.1.data.toList.length<=4096:=by
    rw [HP.out] at hsz;unfold Fr.onL at hsz;simp only [List.length_append] at hsz;omega
   have hse:x.1.size=x.1.data.toList.length:=rfl;obtain ⟨A,hA⟩:∃ A,Fr.mk (Fr.toL L k)=A:=⟨_,rfl⟩;have hAs:A.size=(Fr.toL L k).length:=by rw [<- hA];rfl
   rw [hA];obtain ⟨dg,hdg⟩:∃ dg,Fr.mk [(48+x.2.1).toUInt8]=dg:=⟨_,rfl⟩;have hds:dg.size=1:=by rw [<- hdg];rfl
   rw [hdg] at HLG;have HA:Hid _:=hA;have HDG:Hid _:=hdg;clear hA hdg;have HQ:Hid (∀ B,B=(if k=0 then A else A++⟨#[124]⟩)->B++x.1++⟨#[32]⟩++dg=Fr.mk (Fr.toL L k++(if k=0 then [] else [124])++Fr.onL x)):=fun B hB=>by
    subst hB;rw [<- HA.out,<- HDG.out];unfold Fr.onL;split
    ·rw [Fr.vQ,show (⟨#[32]⟩:ByteArray)=Fr.mk [32] from rfl,Fr.mW,Fr.mW];simp
    ·rw [show (⟨#[124]⟩:ByteArray)=Fr.mk [124] from rfl,Fr.mW,Fr.vQ,show (⟨#[32]⟩:ByteArray)=Fr.mk [32] from rfl,Fr.mW,Fr.mW];simp
   have b1:¬ 9223372036854775807<A.size+x.1.size:=zaa;have b2:¬ 9223372036854775807<A.size+x.1.size+1:=zaa;have b3:¬ 9223372036854775807<A.size+x.1.size+1+dg.size:=zaa;have d1:¬ 9223372036854775807<A.size+1:=by omega
   have d2:¬ 9223372036854775807<A.size+1+x.1.size:=zaa;have d3:¬ 9223372036854775807<A.size+1+x.1.size+1:=zaa;have d4:¬ 9223372036854775807<A.size+1+x.1.size+1+dg.size:=zaa;clear hsz2 hse hAs hds;by_cases h0:k=0
   case' pos =>
    have h0':¬ ((k:Int)>0):=zaa;have HQ2:Hid _:=HQ.out _ (LA h0).symm;clear h0;go_wp2_with (go_at_call 21;refine LF (HLG.out _) ?_;rintro e w9 ⟨rfl,hw9⟩;rw [hw9];clear hw9 w9)
   case' neg =>
    have h0':((k:Int)>0):=zaa;have HQ2:Hid _:=HQ.out _ (KQ h0).symm;clear h0;go_wp2_with (go_at_call 21;refine LF (HLG.out _) ?_;rintro e w9 ⟨rfl,hw9⟩;rw [hw9];clear hw9 w9)
   all_goals
    obtain ⟨na,nn,nc⟩:=sl;have hn1:=hN.1;have hn2:=hN.2.1;dsimp only at hn1 hn2 c3;subst hn1
    go_loopw [3,6] (fun t i wr2=>∃ j:Nat,j<=x.2.2.length/\i = .int .i64 j/\t = .string (Fr.mk (Fr.toL L k++(if k=0 then [] else [124])++Fr.onL x++Fr.nmL x.2.2 j))/\Below w w wr2) (fun _ i _=>x.2.2.length-(intOf i).toNat)
    case atStart=>exact ⟨0,LL _,rfl,by rw [HQ2.out];simp [Fr.nmL],hb⟩
    case round =>
     obtain ⟨j,hj,rfl,rfl,hb2⟩:=hrel;obtain ⟨g2,⟨sa,sn,sc⟩,hva2,_,_,c3',hN2⟩:=(HT.out wr hb2).2.2 k x hx;cases hva2
     have hn3:=hN2.1;have hn4:=hN2.2.1;dsimp only at hn3 hn4 c3';subst hn3;clear c1 c2 c3 hN hn2;by_cases hjl:j<x.2.2.length
     ·obtain ⟨y,hy⟩:∃ y,x.2.2[j]?=some y:=⟨_,ym hjl⟩;obtain ⟨g3,hna,cy⟩:=hN2.2.2 j y hy;dsimp only at hna;subst hna;have hjl':((j:Int)<(x.2.2.length:Int)):=zaa;have HJ:Hid (j+1<=x.2.2.length):=hjl;have hnm:Fr.nmL x.2.2 (j+1)=Fr.nmL x.2.2 j++32::y.data.toList:=by
       rw [Fr.nmL,LH,hy];rfl
      have hsj:(Fr.toL L k++(if k=0 then [] else [124])++Fr.onL x++Fr.nmL x.2.2 j).length+1+y.size<=4096:=by
       have h1:=Fr.yY x.2.2 (j+1) (x.2.2.length-(j+1));rw [show j+1+(x.2.2.length-(j+1))=x.2.2.length by omega,hnm] at h1;rw [HP.out] at hsz;have hy0:y.size=y.data.toList.length:=rfl;simp only [List.length_append,List.length_cons] at h1 hsz ⊢;omega
      obtain ⟨B,hB⟩:∃ B,Fr.mk (Fr.toL L k++(if k=0 then [] else [124])++Fr.onL x++Fr.nmL x.2.2 j)=B:=⟨_,rfl⟩;have hBs:B.size=(Fr.toL L k++(if k=0 then [] else [124])++Fr.onL x++Fr.nmL x.2.2 j).length:=by rw [<- hB];rfl
      have HB2:Hid (B++⟨#[32]⟩++y=Fr.mk (Fr.toL L k++(if k=0 then [] else [124])++Fr.onL x++Fr.nmL x.2.2 (j+1))):=by
       unfold Hid;rw [<- hB,show (⟨#[32]⟩:ByteArray)=Fr.mk [32] from rfl,Fr.mW,Fr.vQ,hnm];simp
      have hjb:j<=4096:=by
       have:=Fr.Gd x.2.2 j;simp only [List.length_append] at hsj;omega
      have k1:¬ 9223372036854775807<B.size+1:=zaa;have k2:¬ 9223372036854775807<B.size+1+y.size:=zaa;rw [hB];clear hsj hBs hnm hB hN2 hy b1 b2 b3 d1 d2 d3 d4;go_wp2
      go_roundw
      case rel=>exact ⟨j+1,HJ.out,zah,by rw [HB2.out],hb2⟩
      case measure=>have:=HJ.out;simp [intOf];omega
     ·obtain rfl:j=x.2.2.length:=zaa;have HPP:Hid _:=HP.out.symm;clear hN2;go_wp2
      go_roundw
      case rel=>exact ⟨k+1,zaa,zah,by rw [HPP.out],hb2⟩
      case measure=>simp [intOf];omega
  ·obtain rfl:k=L.length:=zaa;go_wp2;go_ret;exact ⟨rfl,hb⟩
namespace Fr
def iM (a:Int):Nat:=((if a<0 then -(a+1) else a) % 40).toNat
theorem D4 (a:Int):iM a<40:=by
 unfold iM;omega
def KG (W:World) (g:Nat):Prop:=∀ k,k<12->∃ b,W.cell? ⟨g,k*3,none⟩=some (.string (mk (kt k)))/\W.cell? ⟨g,k*3+1,none⟩=some (.slice (some ⟨b,0,none⟩) (kd k).length (kd k).length)/\W.cell? ⟨g,k*3+2,none⟩=some (.string (mk (kw k)))/\W.heap[b]?=some (.cells ((kd k).map fun d => .string (mk d)).toArray 9 (0,0))
def KH (W:World) (g:Nat):Prop:=∀ k,k<28->W.cell? ⟨g,k*3,none⟩=some (.string (mk (wt k).1))/\W.cell? ⟨g,k*3+1,none⟩=some (.int .i64 (wt k).2.1)/\W.cell? ⟨g,k*3+2,none⟩=some (.int .i64 (wt k).2.2)
end Fr
theorem D5 (a:Int) (w:World) (h1 : -9223372036854775808<=a) (h2:a<=9223372036854775807):() 7 #[(a:Int),(40:Int)] w fun e w'=>e = .returned (.int .i64 (Fr.iM a))/\w'=w:=by
 by_cases h:a<0
 ·have HE:Hid (-((a+1).tmod 40)=(Fr.iM a:Int)):=by
   unfold Hid Fr.iM;rw [<- Int.neg_tmod,Qb zaa,LA h];omega
  exact zel
 ·have HE:Hid (a % 40=(Fr.iM a:Int)):=by
   unfold Hid Fr.iM;rw [KQ h];omega
  exact zel
theorem yM (w:World):() 5 #[] w fun e w'=>∃ g,e = .returned (.slice (some ⟨g,0,none⟩) 12 12)/\Below w w w'/\(∃ c,w'.heap[g]?=some (.cells c 38 (0,0)))/\Fr.KG w' g:=by
 go_enter func5,ntmps5;go_wp2;go_ret;have hN:=fun (V:World) (o:Obj) (h:V.heap.size=w.heap.size+12)=>h ▸ LC V o;refine ⟨_,rfl,?_,⟨_,hN _ _ zad⟩,fun k hk => ?_⟩
 ·repeat (first | exact FP _ _ | refine Below.alloc ?_ ?_ _)
  all_goals first | (simp;done) | (simp;omega)
 ·refine ⟨w.heap.size+k,?_⟩;rw [JJ _ _ _ _ _ _ (hN _ _ zad),JJ _ _ _ _ _ _ (hN _ _ zad),JJ _ _ _ _ _ _ (hN _ _ zad)];have h:k=0\/k=1\/k=2\/k=3\/k=4\/k=5\/k=6\/k=7\/k=8\/k=9\/k=10\/k=11:=zaa;clear hN hk;have hP:∀ (V:World) (o:Obj) (i:Nat) (x:Obj),V.heap[i]?=some x->(V.alloc o).heap[i]?=some x:=fun V o i x h=>(MB V o i (ph.1 h).1).trans h;have hQ:∀ (V:World) (o:Obj) (i:Nat),V.heap.size=i->(V.alloc o).heap[i]?=some o:=fun V o i h=>h ▸ LC V o
  rcases h with rfl | rfl | rfl | rfl | rfl | rfl | rfl | rfl | rfl | rfl | rfl | rfl
  all_goals
   refine ⟨by (show _=_;kernel_rfl),?_,by (show _=_;kernel_rfl),?_⟩
   ·simp [Fr.kd]
   ·repeat (first | exact hQ _ _ _ (by first | (simp;done) | fail) | refine hP _ _ _ _ ?_)
theorem zZ (w:World):() 6 #[] w fun e w'=>∃ g,e = .returned (.slice (some ⟨g,0,none⟩) 28 28)/\Below w w w'/\Fr.KH w' g:=by
 go_enter func6,ntmps6;go_wp2;go_ret;refine ⟨_,rfl,?_,fun k hk => ?_⟩
 ·repeat (first | exact FP _ _ | refine Below.alloc ?_ ?_ _)
  all_goals first | (simp;done) | (simp;omega)
 ·have hN:=fun (V:World) (o:Obj) (h:V.heap.size=w.heap.size)=>h ▸ LC V o;rw [JJ _ _ _ _ _ _ (hN _ _ zad),JJ _ _ _ _ _ _ (hN _ _ zad),JJ _ _ _ _ _ _ (hN _ _ zad)];clear hN
  rcases NA k 14 with h | h
  ·have h:k=0\/k=1\/k=2\/k=3\/k=4\/k=5\/k=6\/k=7\/k=8\/k=9\/k=10\/k=11\/k=12\/k=13:=zaa;exact zdL
  ·have h:k=14\/k=15\/k=16\/k=17\/k=18\/k=19\/k=20\/k=21\/k=22\/k=23\/k=24\/k=25\/k=26\/k=27:=zaa;exact zdL
end
section
open Go.RowKit Go.Proofs Go.Shelf
namespace Pg
def qg (t:TypeId):Prop:=t=62
theorem jt.stp {w w':World} {lo:Pg.Lo} {b cap:Nat} {ps:List PS} {hvs:Ref.Sl} {mbm n:Nat} {M:ByteArray->Option Nat} {Lr:Nat->List (Option Nat)} {pmF:Nat->PM} {acF:Nat->List PA} (h:jt w lo pb b cap ps fin EN LV hvs H D mbm n T M Lr pmF acF) (hR:RfE qg lo w w'):jt w' lo pb b cap ps fin EN LV hvs H D mbm n T M Lr pmF acF:=by
 have hpb:=h.cJ.pb';refine ⟨h.cJ.below hR.bel,⟨(hR.bel.cell (p:=⟨pb,1,none⟩) hpb).trans h.hist.c1,Kd.row hR.kd h.hist.row za0,fun k y hy => ?_,h.hist.len⟩,⟨(hR.bel.block pb hpb).trans h.mov.pl,h.mov.tab.kd (P:=(· ≠ mbm)) hR.kd (fun t ht => ?_) za0 ⟨hR.bel.os,hR.bel.tape,hR.bel.output,hR.bel.size,fun k hk hn => ?_⟩ (fun h=>h rfl)⟩,fun ev g i m a b => ?_,h.N,h.inn⟩
 ·obtain ⟨a,b,po,c,d⟩:=h.hist.aw k y hy;exact ⟨a,b,po,c,d.kd hR.kd za0 za0⟩
 ·rcases ht with rfl | rfl | rfl | rfl | rfl <;> (unfold qg;decide)
 ·have:k=mbm:=Ou hn;subst this;obtain ⟨es,cl,hm⟩:=h.mov.tab.map.kind;exact (hR.oth.same k _ hm rfl).trans hm.symm
 ·have hm:=h.mva ev g i m a b;exact ⟨hm.at'.kd hR.kd (fun t ht=>by rcases ht with rfl | rfl | rfl | rfl | rfl <;> (unfold qg;decide)),hm.own,hm.lv,hm.au.below hR.bel,hm.en⟩
theorem Ses.stp {W:World} {n0 xb:Nat} {p:Par} {r:RSt} (h:Ses W n0 xb p r) {P:Nat->Prop} (hm:Mo P W W') (hP:∀ k,P k->p.lo<=k/\∃ c,W.heap[k]?=some (.cells c 62 (0,0))):Ses W' n0 xb p r/\Below p.lo W W':=by
 have hl0:=h.lv.mt.lo';have hR:RfE qg (Lo.all p.lo) W W':=RfE.mo hm (fun k hk=>by
  obtain ⟨a,c,hc⟩:=hP k hk;exact ⟨a,c,_,_,hc,rfl⟩) hl0
 have hP':∀ k,P k->∃ c t,W.heap[k]?=some (.cells c t (0,0))/\¬ cR t:=fun k hk=>by
  obtain ⟨_,c,hc⟩:=hP k hk;exact ⟨c,_,hc,pk⟩
 exact ⟨⟨(hR.kd.aw _ _ _ _ h.at' za0).trans h.at',h.lo,h.n0,⟨jt.stp (lo:=Lo.all p.lo) h.lv.run hR,h.lv.sz,h.lv.sza,h.lv.mt.moU h.lv.run.cJ.lw hm (fun k hk=>⟨(hP k hk).1,hP' k hk⟩),h.lv.ok,h.lv.qk,h.lv.q0,h.lv.idl.moU h.lv.mt hm hP'⟩⟩,hR.bel⟩
end Pg
namespace Fr
theorem jL {W:World} {base e size n:Nat} {v:Value} {xs:List Value} (h:W.ownsRow base e size v n xs):∃ sl:Ref.Sl,v = .slice sl.a sl.n sl.c:=by
 rcases h.2 with ⟨h0,_⟩ | ⟨g,cap,cur,h0,_⟩
 ·exact ⟨⟨none,0,0⟩,h0⟩
 ·exact ⟨⟨some ⟨g,0,none⟩,n,cap⟩,h0⟩
theorem CY {w:World} {ops:Array Oper} {rest:List Oper} {o:Oper} {a:Act} {Q:Exit->Act->World->Prop} (hgd:o.guard=none) (s x:Operand) (ho:o.op = .call { callee := .builtin .append,args:=#[s,x],argTypes:=#[31,31] })
  (lo:Nat) (ps:List Pg.PS) (v u:Value) (A B:List (ByteArray×Pg.RSt)) (hs:a.eval s=v) (hx:a.eval x=u) (hA:Pg.LN w lo lo ps v A) (hB:Pg.LN w lo lo ps u B) (hn:A.length+B.length<=100000) (hbase:lo<=w.heap.size)
  (h:∀ (sl:Ref.Sl) w',Pg.LN w' lo lo ps (.slice sl.a sl.n sl.c) (A++B)->Mo (fun k=>v.ownBlock=some k) w w'->wpList prog ops Q rest (a.put o.dst (.slice sl.a sl.n sl.c)) w'):wpList prog ops Q (o::rest) a w:=by
 obtain ⟨i0,hi,hz0,hz1,hz2⟩:=M6 um;obtain ⟨va,a1,a2,a3⟩:=hA;obtain ⟨vb,b1,b2,b3⟩:=hB
 rcases b2.2 with ⟨rfl,hn0⟩ | ⟨g,cap,cur,rfl,c1,c2,c3,c4,c5,c6⟩
 ·obtain rfl:=NB.1 hn0;refine wpList_append_own_none hgd s x _ ho lo _ i0 3 underlying31 hi v A.length _ hs a2 hx ?_;obtain ⟨sl,rfl⟩:=jL a2;exact h sl w ⟨va,by rw [NX];exact a1,by rw [NX];exact a2,by rw [NX];exact a3⟩ (Mo.refl _ _)
 ·have hln:((B.zip vb).flatMap Pg.stC).length=B.length*3:=b2.1;refine wpList_append_own _ hgd s x _ ho lo _ i0 _ 3 48 underlying31 hi hz0 hz1 hz2 rfl zac v A.length _ hs a2 ⟨g,0,none⟩ B.length cap ((B.zip vb).flatMap Pg.stC) hx hln (fun j y hj => ?_) (fun y hy => ?_) zag zaa hbase (fun v' w' d1 d2 _ => ?_)
  ·rw [<- c6,OO] at hj;split at hj
   ·rw [MN] at hj;simp [Addr.add_lit,World.cell?,c2,hj]
   ·cases hj
  ·obtain ⟨z,hz,hy⟩:=N5.1 hy;obtain ⟨na,nc,e⟩:=(b3 z hz).n;unfold Pg.stC at hy;rw [e] at hy;simp at hy
   rcases hy with rfl | rfl | rfl <;> rfl
  ·obtain ⟨sl,rfl⟩:=jL d1;have hm:Mo (fun k=>v.ownBlock=some k) w w':=⟨d2.os,d2.tape,d2.output,d2.size,fun k hk hn=>d2.block k hk (fun e=>hn e.symm)⟩;have hk:Kd Pg.qg w w':=ia hm (fun k c t f hp hc=>by
    obtain ⟨c',hc'⟩:=bM a2 k hp;rw [hc] at hc';cases hc'
    rfl)
   refine h sl w' ⟨va++vb,by simp [a1,b1],?_,fun y hy => ?_⟩ hm
   ·rw [P0 a1.symm,Mj,LO];exact d1
   ·rw [P0 a1.symm] at hy
    rcases LR.1 hy with hy | hy
    ·exact Kd.row hk (a3 y hy) (by unfold Pg.qg;decide)
    ·exact Kd.row hk (b3 y hy) (by unfold Pg.qg;decide)
theorem Jw {W:World} {lo:Nat} {ps:List Pg.PS} {L:List (ByteArray×Pg.RSt)} (h:Pg.LN W lo lo ps (.slice v.a v.n v.c) L):CQ W v (L.map (tdS ps)):=by
 obtain ⟨vs,hl,h,hn⟩:=h;have hnc:v.n=L.length/\L.length<=v.c:=by
  rcases h.2 with ⟨h0,h1⟩ | ⟨g,cap,cur,h0,_,_,h3,_⟩
  ·exact ze9
  ·exact ze9
 refine ⟨by rw [LI];exact hnc.1,by rw [LI];exact hnc.2,fun k y hy => ?_⟩;rw [LJ] at hy;obtain ⟨x,hx,rfl⟩:=LZ.1 hy;obtain ⟨hk,rfl⟩:=Ku.1 hx;obtain ⟨g,cap,e⟩:=Ref.fa h zaa;have h0:=aD h (LL _);rw [e] at h0;simp only [Value.slice.injEq] at e;have hz:(L.zip vs).length=L.length:=by rw [List.length_zip];omega
 have h1:W.ownsRow 0 62 3 (.slice g (L.zip vs).length cap) (L.zip vs).length ((L.zip vs).flatMap Pg.stC):=by rw [hz];exact h0
 have hg:(L.zip vs)[k]'(zaa)=(L[k],vs[k]'(zaa)):=List.getElem_zip;have hnm:=hn _ (Ml (show k<(L.zip vs).length by omega));rw [hg] at hnm;obtain ⟨sl,hsl⟩:=jL hnm;have hsl:vs[k]'(zaa) = .slice sl.a sl.n sl.c:=hsl;refine ⟨g,sl,e.1,(Row.cell (f:=Pg.stC) (n:=3) (fun _=>rfl) h1 (j:=0) zac zaa).trans ?_,(Row.cell (f:=Pg.stC) (n:=3) (fun _=>rfl) h1 (j:=1) zac zaa).trans ?_,(Row.cell (f:=Pg.stC) (n:=3) (fun _=>rfl) h1 (j:=2) zac zaa).trans ?_,?_⟩
 ·rw [hg];rfl
 ·rw [hg];rfl
 ·rw [hg];show some (vs[k]'(zaa))=_;rw [hsl]
 ·have hnm:Pg.Nms W lo (vs[k]'(zaa)) ((Pg.els L[k].2.act).map (Pg.dD ps)):=hnm;rw [hsl] at hnm;show EI W sl ((Pg.els L[k].2.act).map (Pg.dD ps));generalize (Pg.els L[k].2.act).map (Pg.dD ps)=N at hnm;have hnc:sl.n=N.length/\N.length<=sl.c:=by
   rcases hnm.2 with ⟨h0,h1⟩ | ⟨g,cap,cur,h0,_,_,h3,_⟩
   ·exact ze9
   ·exact ze9
  refine ⟨hnc.1,hnc.2,fun j y hy => ?_⟩;obtain ⟨hj,rfl⟩:=Ku.1 hy;obtain ⟨g2,cap2,e2⟩:=Ref.fa hnm zaa;have h0:=aD hnm (LL _);rw [e2] at h0;simp only [Value.slice.injEq] at e2;have:=Row.cell (f:=Pg.BP) (n:=1) (fun _=>rfl) h0 (j:=0) zac hj;rw [Oz,Qy] at this;exact ⟨g2,e2.1,this.trans rfl⟩
