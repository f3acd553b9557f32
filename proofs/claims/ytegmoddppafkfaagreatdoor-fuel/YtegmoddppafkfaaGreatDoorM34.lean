import Derived.Test.YtegmoddppafkfaaGreatDoorM00
import Derived.Test.YtegmoddppafkfaaGreatDoorM15
import Derived.Test.YtegmoddppafkfaaGreatDoorM33
set_option maxRecDepth 100000
set_option maxHeartbeats 8000000
namespace Go.Proofs.YtegmoddppafkfaaGreatDoor
section
open Go.RowKit Go.Proofs Go.Shelf
namespace Pg
def FH (T:Option (List (Option PM))) (i:Nat):Option PM:=match T with
 | none=>none
 | some row=>match row[i]? with | some (some p)=>some p | _=>none
def zR (ps:List PS) (fin:Nat) (EN LV:Nat→List PA) (p:PM) (A:List PA) (r:RSt):RSt :=
 bY ps fin EN (doL (cW LV r (els (0|||(p.lv&&&r.act))).reverse) A) (els (0|||enters ps (doL (cW LV r (els (0|||(p.lv&&&r.act))).reverse) A).kept p.en))
theorem Db {ps:List PS} {fin:Nat} {EN LV:Nat→List PA} {D:Nat→Bool} {M:ByteArray→Option Nat} {Lr:Nat→List (Option Nat)} {pmF:Nat→PM} {acF:Nat→List PA} {T:ByteArray→Option (List (Option PM))} {AV:Ref.Sl→List PA} (hT:∀ ev,(M ev).map (fun g=>(Lr g).map (Option.map pmF))=T ev) (hA:∀ ev (g i m:Nat),M ev=some g→(Lr g)[i]?=some (some m)→acF m=AV (pmF m).ak)
  {r:RSt} {i:Nat} (hi:els (inn ps r.act)=[i]) (ev:ByteArray):aQ ps fin EN LV [] D M Lr pmF acF r ev=match FH (T ev) i with | none=>r | some p=>zR ps fin EN LV p (AV p.ak) r:=by
 have hnil:tR ps fin EN LV [] D pmF acF r []=r:=by
  unfold tR
  simp [eZ,fB,gu,cW,bY,gy]
 unfold aQ eV FH
 rw [← hT ev,hi]
 cases hM:M ev with
 | none=>exact hnil
 | some g =>
  simp only [Option.map_some,List.getElem?_map]
  cases hL:(Lr g)[i]? with
  | none =>
   have:dj (Lr g) [i]=[]:=by
    show et (Lr g) [] i=[]
    unfold et
    rw [hL]
   rw [this]
   exact hnil
  | some y =>
   cases y with
   | none =>
    have:dj (Lr g) [i]=[]:=by
     show et (Lr g) [] i=[]
     unfold et
     rw [hL]
    rw [this]
    exact hnil
   | some q =>
    have:dj (Lr g) [i]=[q]:=by
     show et (Lr g) [] i=[q]
     unfold et
     rw [hL]
     rfl
    rw [this]
    simp only [Option.map_some]
    rw [← hA ev g i q hM hL]
    rfl
end Pg
namespace Fu
open Pg
def bx:ByteArray:=⟨#[120]⟩
def bt:ByteArray:=⟨#[116]⟩
def bf:ByteArray:=⟨#[102,117,108,108]⟩
def bs:ByteArray:=⟨#[115]⟩
def bz:ByteArray:=⟨#[122]⟩
def ba:ByteArray:=⟨#[97]⟩
def bb:ByteArray:=⟨#[98]⟩
def fX (s:Nat→Ref.Sl):List MS:=[⟨0,ba,0,-1,s 0,s 1,s 2,s 3⟩,⟨0,bb,0,-1,s 4,s 5,s 6,s 7⟩]
def fV (t:Nat→Ref.Sl):Nat→List MV
 | 0=>[⟨bx,false,0,⟨#[]⟩,t 0⟩,⟨bt,false,0,⟨#[]⟩,t 1⟩,⟨bf,false,0,bb,t 2⟩,⟨bs,false,0,⟨#[]⟩,t 3⟩]
 | 1=>[⟨bx,false,0,⟨#[]⟩,t 4⟩]
 | _=>[]
def cst (n:Nat) (r:RSt) (ev:ByteArray):RSt :=
 if ev=bx then { r with q:=r.q++[bx] } else if r.act=1 then
  if ev=bt then ig r bt ⟨#[]⟩ 0 else if ev=bf then { r with act:=2 } else if ev=bs then doL r (List.replicate n (.send bz 1)) else r
 else r
structure Acs (n:Nat) (s t:Nat→Ref.Sl) (AV:Ref.Sl→List PA):Prop where
 e0:AV (s 1)=[]
 l0:AV (s 2)=[]
 e1:AV (s 5)=[]
 l1:AV (s 6)=[]
 x0:AV (t 0)=[.raise bx]
 t0:AV (t 1)=[.send bt 0]
 f0:AV (t 2)=[]
 s0:AV (t 3)=List.replicate n (.send bz 1)
 x1:AV (t 4)=[.raise bx]
section
variable {n:Nat} {s t:Nat→Ref.Sl} {AV:Ref.Sl→List PA} {D:Nat→Bool} {M:ByteArray→Option Nat} {Lr:Nat→List (Option Nat)} {pmF:Nat→PM} {acF:Nat→List PA} (hT:∀ ev,(M ev).map (fun g=>(Lr g).map (Option.map pmF))=nC (fX s) (fV t) ev) (hA:∀ ev (g i m:Nat),M ev=some g→(Lr g)[i]?=some (some m)→acF m=AV (pmF m).ak) (hC:Acs n s t AV)
theorem EP (s t:Nat→Ref.Sl):nC (fX s) (fV t) bx=some [some ⟨0,0,t 0,.nil⟩,some ⟨1,0,t 4,.nil⟩]:=by kernel_rfl
theorem EO (s t:Nat→Ref.Sl):nC (fX s) (fV t) bt=some [some ⟨0,0,t 1,.nil⟩,none]:=by kernel_rfl
theorem EK (s t:Nat→Ref.Sl):nC (fX s) (fV t) bf=some [some ⟨0,3,t 2,.all 2⟩,none]:=by kernel_rfl
theorem EM (s t:Nat→Ref.Sl):nC (fX s) (fV t) bs=some [some ⟨0,0,t 3,.nil⟩,none]:=by kernel_rfl
theorem EL (s t:Nat→Ref.Sl) {ev:ByteArray} (h1:ev≠bx) (h2:ev≠bt) (h3:ev≠bf) (h4:ev≠bs):nC (fX s) (fV t) ev=none:=by
 unfold nC
 have:dY (psF (fX s)) (dh (fX s) (fX s).length) (fV t) (fX s).length ev=none:=by
  show dA _ _ (dA _ _ (fun _=>none) 0 (fV t 0) 4) 1 (fV t 1) 1 ev=none
  simp [dA,oU,fV,h1,h2,h3,h4]
 rw [this]
 rfl
theorem Da (hT:∀ ev,(M ev).map (fun g=>(Lr g).map (Option.map pmF))=nC (fX s) (fV t) ev) (hA:∀ ev (g i m:Nat),M ev=some g→(Lr g)[i]?=some (some m)→acF m=AV (pmF m).ak) (hC:Acs n s t AV) {r:RSt} (hr:r.act=1∨r.act=2) (ev:ByteArray):aQ (psF (fX s)) (cB (fX s) (fX s).length) (enF (fX s) AV) (lvF (fX s) AV) [] D M Lr pmF acF r ev=cst n r ev:=by
 have key:∀ i,els (inn (psF (fX s)) r.act)=[i]→∀ p,aQ (psF (fX s)) (cB (fX s) (fX s).length) (enF (fX s) AV) (lvF (fX s) AV) [] D M Lr pmF acF r ev=p↔(match FH (nC (fX s) (fV t) ev) i with | none=>r | some p=>zR (psF (fX s)) (cB (fX s) (fX s).length) (enF (fX s) AV) (lvF (fX s) AV) p (AV p.ak) r)=p:=fun i hi p=>by rw [Db hT hA hi ev]
 have h0:∀ (m:Ref.Sl) (A:List PA) (o:Nat),AV m=A→zR (psF (fX s)) (cB (fX s) (fX s).length) (enF (fX s) AV) (lvF (fX s) AV) ⟨o,0,m,.nil⟩ (AV m) r=doL r A:=fun m A o e=>by
  rw [e]
  unfold zR
  simp only [Nat.zero_and,Nat.zero_or,enters,gy]
  rfl
 unfold cst
 rcases hr with hr | hr
 ·have hi:els (inn (psF (fX s)) r.act)=[0]:=by rw [hr];kernel_rfl
  rw [key 0 hi]
  by_cases e1:ev=bx
  ·rw [if_pos e1,e1,EP]
   exact h0 _ _ _ hC.x0
  rw [if_neg e1,if_pos hr]
  by_cases e2:ev=bt
  ·rw [if_pos e2,e2,EO]
   exact h0 _ _ _ hC.t0
  rw [if_neg e2]
  by_cases e3:ev=bf
  ·rw [if_pos e3,e3,EK]
   show zR _ _ _ _ ⟨0,3,t 2,.all 2⟩ (AV (t 2)) r=_
   unfold zR
   rw [hC.f0,hr,show els (0|||(3&&&1))=[0] from rfl]
   simp only [enters]
   rw [show els (0|||2)=[1] from rfl]
   simp only [bY,cW,doL,List.reverse_cons,List.reverse_nil,List.nil_append,List.foldl_cons,List.foldl_nil]
   unfold iX pY
   rw [show lvF (fX s) AV 0=AV (s 2) from rfl,show enF (fX s) AV 1=AV (s 5) from rfl,hC.l0,hC.e1]
   simp only [doL,List.foldl_nil,hr]
   rfl
  rw [if_neg e3]
  by_cases e4:ev=bs
  ·rw [if_pos e4,e4,EM]
   exact h0 _ _ _ hC.s0
  rw [if_neg e4,EL s t e1 e2 e3 e4]
  rfl
 ·have hi:els (inn (psF (fX s)) r.act)=[1]:=by rw [hr];kernel_rfl
  rw [key 1 hi]
  have hne:¬ r.act=1:=by omega
  by_cases e1:ev=bx
  ·rw [if_pos e1,e1,EP]
   exact h0 _ _ _ hC.x1
  rw [if_neg e1,if_neg hne]
  by_cases e2:ev=bt
  ·rw [e2,EO];rfl
  by_cases e3:ev=bf
  ·rw [e3,EK];rfl
  by_cases e4:ev=bs
  ·rw [e4,EM];rfl
  rw [EL s t e1 e2 e3 e4]
  rfl
end
end Fu
namespace Fu
open Pg
def Ok (r:RSt):Prop:=r.act=1∨r.act=2
theorem yf (A:List PA) {r:RSt} (h:Ok r):Ok (doL r A):=by
 unfold Ok
 rw [nK]
 exact h
theorem Fb {n:Nat} {r:RSt} (h:Ok r) (ev:ByteArray):Ok (cst n r ev):=by
 unfold cst
 split
 ·exact h
 ·split
  ·split
   ·exact yf [.send bt 0] h
   ·split
    ·exact .inr rfl
    ·split
     ·exact yf _ h
     ·exact h
  ·exact h
section
variable {n:Nat} {f:RSt→ByteArray→RSt} (hf:∀ r,Ok r→∀ ev,f r ev=cst n r ev)
theorem Ci (hf:∀ r,Ok r→∀ ev,f r ev=cst n r ev):∀ (k:Nat) (r:RSt),Ok r→di f k r=di (cst n) k r∧Ok (di (cst n) k r)
 | 0,r,h=>by
  refine ⟨rfl,?_⟩
  unfold di
  split
  ·exact h
  ·split <;> exact h
 | k+1,r,h=>by
  unfold di
  split
  ·exact ⟨rfl,h⟩
  ·split
   ·rename_i ev q' _ _
    have h1:Ok { r with q:=q' }:=h
    rw [hf _ h1 ev]
    exact Ci hf k _ (Fb h1 ev)
   ·exact ⟨rfl,h⟩
theorem CL (hf:∀ r,Ok r→∀ ev,f r ev=cst n r ev) {r:RSt} (h:Ok r) (ev:ByteArray):bm f r ev=bm (cst n) r ev∧Ok (bm (cst n) r ev):=by
 obtain ⟨a,b⟩:=Ci hf 60 { r with q:=r.q++[ev] } h
 unfold bm dV
 rw [a]
 exact ⟨rfl,b⟩
theorem EE (hf:∀ r,Ok r→∀ ev,f r ev=cst n r ev) (t:Nat):∀ (m j:Nat) (r:RSt),Ok r→dr f t m j r=dr (cst n) t m j r
 | 0,_,_,_=>rfl
 | m+1,j,r,h=>by
  unfold dr
  split
  ·split
   ·rfl
   ·rename_i g _
    obtain ⟨a,b⟩:=CL hf (r:=gQ r g) h g.ev
    rw [a,EE hf t m (j+1) _ b]
  ·rfl
end
theorem yb {an:RSt→ByteArray→RSt} {t:Nat} {r:RSt} {g:Tn} (h1:bD r.now t r.tm=true) (h2:(srt (fun x:Tn=>x.t) r.tm).head?=some g) (h3:bm an (gQ r g) g.ev=r) (h4:r.fin=0):∀ d m j,j+(d+1)=200→d+1≤m→(dr an t m j r).1.length=d+1∧(dr an t m j r).2.fin=6
 | 0,m+1,j,hj,_=>by
  rw [r9 h1 h2 h3,if_pos h4,if_pos ⟨by omega,h1⟩]
  exact ⟨rfl,rfl⟩
 | d+1,m+1,j,hj,hm=>by
  rw [r9 h1 h2 h3,if_pos h4,if_neg (by omega)]
  obtain ⟨a,b⟩:=yb h1 h2 h3 h4 d m (j+1) (by omega) (by omega)
  exact ⟨by rw [List.length_cons,a],b⟩
 | d,0,_,_,hm=>by omega
def rs (a:Nat) (T:List Tn):RSt:=⟨a,Pg.r0.kept,[],0,T,0⟩
def z1:Tn:=⟨1,bz,⟨#[]⟩⟩
def tq:Tn:=⟨0,bt,⟨#[]⟩⟩
theorem s1:∀ n,n<20→bm (cst n) (rs 1 []) bs=if 12<n then rs 2 (List.replicate 12 z1) else rs 1 (List.replicate n z1)
 | 0,_=>by kernel_rfl
 | 1,_=>by kernel_rfl
 | 2,_=>by kernel_rfl
 | 3,_=>by kernel_rfl
 | 4,_=>by kernel_rfl
 | 5,_=>by kernel_rfl
 | 6,_=>by kernel_rfl
 | 7,_=>by kernel_rfl
 | 8,_=>by kernel_rfl
 | 9,_=>by kernel_rfl
 | 10,_=>by kernel_rfl
 | 11,_=>by kernel_rfl
 | 12,_=>by kernel_rfl
 | 13,_=>by kernel_rfl
 | 14,_=>by kernel_rfl
 | 15,_=>by kernel_rfl
 | 16,_=>by kernel_rfl
 | 17,_=>by kernel_rfl
 | 18,_=>by kernel_rfl
 | 19,_=>by kernel_rfl
 | n+20,h=>absurd h (by omega)
theorem x2 (n:Nat) (T:List Tn):(bm (cst n) (rs 2 T) bx).fin=6:=by kernel_rfl
theorem t3:∀ n,n<12→bm (cst n) (rs 1 (List.replicate n z1)) bt=rs 1 (List.replicate n z1++[tq])
 | 0,_=>by kernel_rfl
 | 1,_=>by kernel_rfl
 | 2,_=>by kernel_rfl
 | 3,_=>by kernel_rfl
 | 4,_=>by kernel_rfl
 | 5,_=>by kernel_rfl
 | 6,_=>by kernel_rfl
 | 7,_=>by kernel_rfl
 | 8,_=>by kernel_rfl
 | 9,_=>by kernel_rfl
 | 10,_=>by kernel_rfl
 | 11,_=>by kernel_rfl
 | n+12,h=>absurd h (by omega)
theorem fx:∀ n,n<12→bD 0 0 (List.replicate n z1++[tq])=true∧(srt (fun x:Tn=>x.t) (List.replicate n z1++[tq])).head?=some tq∧bm (cst n) (gQ (rs 1 (List.replicate n z1++[tq])) tq) tq.ev=rs 1 (List.replicate n z1++[tq])
 | 0,_=>⟨by kernel_rfl,by kernel_rfl,by kernel_rfl⟩
 | 1,_=>⟨by kernel_rfl,by kernel_rfl,by kernel_rfl⟩
 | 2,_=>⟨by kernel_rfl,by kernel_rfl,by kernel_rfl⟩
 | 3,_=>⟨by kernel_rfl,by kernel_rfl,by kernel_rfl⟩
 | 4,_=>⟨by kernel_rfl,by kernel_rfl,by kernel_rfl⟩
 | 5,_=>⟨by kernel_rfl,by kernel_rfl,by kernel_rfl⟩
 | 6,_=>⟨by kernel_rfl,by kernel_rfl,by kernel_rfl⟩
 | 7,_=>⟨by kernel_rfl,by kernel_rfl,by kernel_rfl⟩
 | 8,_=>⟨by kernel_rfl,by kernel_rfl,by kernel_rfl⟩
 | 9,_=>⟨by kernel_rfl,by kernel_rfl,by kernel_rfl⟩
 | 10,_=>⟨by kernel_rfl,by kernel_rfl,by kernel_rfl⟩
 | 11,_=>⟨by kernel_rfl,by kernel_rfl,by kernel_rfl⟩
 | n+12,h=>absurd h (by omega)
theorem c4 {n:Nat} (hn:n<12):(dr (cst n) 0 201 0 (rs 1 (List.replicate n z1++[tq]))).1.length=200∧(dr (cst n) 0 201 0 (rs 1 (List.replicate n z1++[tq]))).2.fin=6 :=
 yb (fx n hn).1 (fx n hn).2.1 (fx n hn).2.2 rfl 199 201 0 (by omega) (by omega)
end Fu
end
end Go.Proofs.YtegmoddppafkfaaGreatDoor
