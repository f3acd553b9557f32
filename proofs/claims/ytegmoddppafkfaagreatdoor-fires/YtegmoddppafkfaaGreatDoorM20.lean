import Derived.Test.YtegmoddppafkfaaGreatDoorM19
set_option maxRecDepth 100000
set_option maxHeartbeats 8000000
namespace Go.Proofs.YtegmoddppafkfaaGreatDoor
section
open Go.RowKit Go.Proofs Go.Shelf
namespace Pg
theorem ig {α β:Type} (g:β->Nat) (f:β->α->β) (h:∀ r x,g (f r x)=g r):∀ (l:List α) (r:β),g (l.foldl f r)=g r
 | [],_=>rfl
 | x::l,r=>(ig g f h l (f r x)).trans (h r x)
theorem nw (r:RSt) (L:List PA):(doL r L).now=r.now:=ig RSt.now gA (fun r a=>by cases a <;> simp only [gA,i1] <;> (try split) <;> rfl) L r
theorem E7 (ps:List PS) (fin:Nat) (r:RSt) (i:Nat):(l7 ps fin r i).now=r.now:=by
 unfold l7
 repeat' split
 all_goals rfl
theorem qM (ps:List PS) (fin:Nat) (EN:Nat->List PA) (l:List Nat) (r:RSt):(dE ps fin EN r l).now=r.now:=ig RSt.now _ (fun r i=>by
 unfold kM;dsimp only;split
 ·split
  ·rw [E7,nw]
  ·rw [nw]
 ·rw [nw]) l r
section
variable {ps:List PS} {fin:Nat} {EN LV:Nat->List PA} {H:List HV} {D:Nat->Bool} {M:ByteArray->Option Nat} {Lr:Nat->List (Option Nat)} {pmF:Nat->PM} {acF:Nat->List PA}
theorem kF (r:RSt) (ev:ByteArray):(ba ps fin EN LV H D M Lr pmF acF r ev).now=r.now:=by
 unfold ba zR;dsimp only;rw [qM];refine (ig (fun z:RSt×Nat=>z.1.now) _ (fun z m=>nw _ _) _ _).trans ?_;refine (ig RSt.now (sX LV) (fun r i=>nw r (LV i)) _ _).trans ?_;exact ig RSt.now (pR ps _ D H) (fun r k=>(ub ps _ D H r k).2.2.2.1) _ _
end
theorem oZ {an:RSt->ByteArray->RSt} (hs:∀ r x,(an r x).now=r.now):∀ (n:Nat) (r:RSt),(dZ an n r).now=r.now
 | 0,r=>by
  unfold dZ;split
  ·rfl
  ·split <;> rfl
 | n+1,r=>by
  unfold dZ;split
  ·rfl
  ·split
   ·exact (oZ hs n _).trans (hs _ _)
   ·rfl
theorem uM {an:RSt->ByteArray->RSt} (hs:∀ r x,(an r x).now=r.now) (r:RSt) (ev:ByteArray):(cU an r ev).now=r.now:=oZ hs 60 _
def Asc:Nat->List Nat->Prop
 | _,[]=>True
 | a,x::l=>a<=x/\Asc x l
theorem E5 {now t:Nat} {T:List Tn} (h:bA now t T=false):∀ x∈T,max t now<x.t:=fun x hx=>by
 unfold bA at h;cases hh:(srt (fun x:Tn=>x.t) T).head? with
 | none =>
  rw [List.head?_eq_none_iff] at hh;rw [I1 hh] at hx;cases hx
 | some f =>
  rw [hh] at h;have h1:=(eP hh).2.1 x hx;have h2:¬ f.t<=max t now:=of_decide_eq_false h;omega
structure Jq (t:Nat) (r:RSt) (L:List (ByteArray×RSt)) (r2:RSt):Prop where
 asc:Asc r.now (L.map (·.2.now))
 le:∀ x∈L,x.2.now<=t
 fst:∀ x,L.head?=some x->∃ f,(srt (fun x:Tn=>x.t) r.tm).head?=some f/\x.1=f.ev/\x.2.now=f.t
 fin:r2.fin=0->r2.now=t/\∀ x∈r2.tm,t<x.t
 nil:L=[]->r2.fin=0
theorem ER {an:RSt->ByteArray->RSt} {t:Nat} (hs:∀ r x,(an r x).now=r.now) (Iv:RSt->Prop) (h1:∀ r,Iv r->TOK r.now r.tm) (h2:∀ r f,Iv r->(srt (fun x:Tn=>x.t) r.tm).head?=some f->f.t<=t->Iv (cU an (iO r f) f.ev)):∀ (n k:Nat) (r:RSt),n+k=200->(k=200->bA r.now t r.tm=false)->Iv r->r.fin=0->r.now<=t->Jq t r (dM an t (n+1) k r).1 (dM an t (n+1) k r).2:=fun n=>by
 induction n with
 | zero =>
  intro k r hk hd hI hf hn;rw [lC (hd zaa)];exact ⟨trivial,fun x hx=>zaw,fun x hx=>zaw,fun _=>⟨by show max t r.now=t;omega,fun x hx=>by have:=E5 (hd zaa) x hx;omega⟩,fun _=>hf⟩
 | succ n ih =>
  intro k r hk hd hI hf hn;cases hb:bA r.now t r.tm with
  | false =>
   rw [lC hb];exact ⟨trivial,fun x hx=>zaw,fun x hx=>zaw,fun _=>⟨by show max t r.now=t;omega,fun x hx=>by have:=E5 hb x hx;omega⟩,fun _=>hf⟩
  | true =>
   obtain ⟨f,hh,hft⟩:∃ f,(srt (fun x:Tn=>x.t) r.tm).head?=some f/\f.t<=t:=by
    unfold bA at hb;cases hh:(srt (fun x:Tn=>x.t) r.tm).head? with
    | none=>rw [hh] at hb;cases hb
    | some f =>
     rw [hh] at hb;have:f.t<=max t r.now:=Nz hb;exact ⟨f,rfl,zaa⟩
   have hge:=((h1 r hI).2 f (eP hh).1).1;have hI2:=h2 r f hI hh hft;rw [B4 hb hh rfl];obtain ⟨r2,hr2⟩:∃ r2,cU an (iO r f) f.ev=r2:=⟨_,rfl⟩;have hn2:r2.now=f.t:=by rw [<- hr2,uM hs];rfl
   rw [hr2] at hI2 ⊢;have hone:∀ r3:RSt,r3.fin≠0->Jq t r [(f.ev,r2)] r3:=fun r3 h3=>⟨⟨by show r.now<=r2.now;omega,trivial⟩,fun x hx=>by rw [Li.1 hx];show r2.now<=t;omega,fun x hx=>by cases hx;exact ⟨f,hh,rfl,hn2⟩,fun h=>absurd h h3,fun h=>zap⟩
   by_cases h0:r2.fin=0
   ·rw [Lg h0];by_cases hc:k+1=200/\bA r2.now t r2.tm=true
    ·rw [Lg hc];exact hone _ (by show (6:Nat)≠0;decide)
    ·rw [Ld hc];obtain ⟨a,b,_,d,_⟩:=ih (k+1) r2 zaa (fun e=>by
      cases hd2:bA r2.now t r2.tm with
      | false=>rfl
      | true=>exact absurd ⟨e,hd2⟩ hc) hI2 h0 zaa
     refine ⟨⟨by show r.now<=r2.now;omega,a⟩,fun x hx => ?_,fun x hx=>by cases hx;exact ⟨f,hh,rfl,hn2⟩,d,fun h=>zap⟩
     rcases Na.1 hx with rfl | hx
     ·show r2.now<=t;omega
     ·exact b x hx
   ·rw [Ld h0];exact hone _ h0
