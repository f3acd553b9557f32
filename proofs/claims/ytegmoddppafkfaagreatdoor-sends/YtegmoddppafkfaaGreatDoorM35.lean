import Derived.Test.YtegmoddppafkfaaGreatDoorM00
import Derived.Test.YtegmoddppafkfaaGreatDoorM16
import Derived.Test.YtegmoddppafkfaaGreatDoorM34
set_option maxRecDepth 100000
set_option maxHeartbeats 8000000
namespace Go.Proofs.YtegmoddppafkfaaGreatDoor
section
open Go.RowKit Go.Proofs Go.Shelf
namespace Pg
def FO (T:Option (List (Option PM))) (i:Nat):Option PM:=match T with
 | none=>none
 | some row=>match row[i]? with | some (some p)=>some p | _=>none
def qj (ps:List PS) (fin:Nat) (EN LV:Nat→List PA) (p:PM) (A:List PA) (r:RSt):RSt :=
 bX ps fin EN (doL (cI LV r (els (0|||(p.lv&&&r.act))).reverse) A) (els (0|||enters ps (doL (cI LV r (els (0|||(p.lv&&&r.act))).reverse) A).kept p.en))
theorem nQ {ps:List PS} {fin:Nat} {EN LV:Nat→List PA} {D:Nat→Bool} {M:ByteArray→Option Nat} {Lr:Nat→List (Option Nat)} {pmF:Nat→PM} {acF:Nat→List PA} {T:ByteArray→Option (List (Option PM))} {AV:Ref.Sl→List PA} (hT:∀ ev,(M ev).map (fun g=>(Lr g).map (Option.map pmF))=T ev) (hA:∀ ev (g i m:Nat),M ev=some g→(Lr g)[i]?=some (some m)→acF m=AV (pmF m).aj)
  {r:RSt} {i:Nat} (hi:els (inn ps r.act)=[i]) (ev:ByteArray):aP ps fin EN LV [] D M Lr pmF acF r ev=match FO (T ev) i with | none=>r | some p=>qj ps fin EN LV p (AV p.aj) r:=by
 have hnil:ue ps fin EN LV [] D pmF acF r []=r:=by
  unfold ue
  simp [fj,fH,gy,cI,bX,fG]
 unfold aP ff FO
 rw [← hT ev,hi]
 cases hM:M ev with
 | none=>exact hnil
 | some g =>
  simp only [Option.map_some,List.getElem?_map]
  cases hL:(Lr g)[i]? with
  | none =>
   have:dw (Lr g) [i]=[]:=by
    show eF (Lr g) [] i=[]
    unfold eF
    rw [hL]
   rw [this]
   exact hnil
  | some y =>
   cases y with
   | none =>
    have:dw (Lr g) [i]=[]:=by
     show eF (Lr g) [] i=[]
     unfold eF
     rw [hL]
    rw [this]
    exact hnil
   | some q =>
    have:dw (Lr g) [i]=[q]:=by
     show eF (Lr g) [] i=[q]
     unfold eF
     rw [hL]
     rfl
    rw [this]
    simp only [Option.map_some]
    rw [← hA ev g i q hM hL]
    rfl
end Pg
namespace Fu
open Pg
def bx:ByteArray:=⟨#[120]⟩
def bt:ByteArray:=⟨#[116]⟩
def bf:ByteArray:=⟨#[102,117,108,108]⟩
def bs:ByteArray:=⟨#[115]⟩
def bz:ByteArray:=⟨#[122]⟩
def ba:ByteArray:=⟨#[97]⟩
def bb:ByteArray:=⟨#[98]⟩
def fX (s:Nat→Ref.Sl):List MS:=[⟨0,ba,0,-1,s 0,s 1,s 2,s 3⟩,⟨0,bb,0,-1,s 4,s 5,s 6,s 7⟩]
def fV (t:Nat→Ref.Sl):Nat→List MV
 | 0=>[⟨bx,false,0,⟨#[]⟩,t 0⟩,⟨bt,false,0,⟨#[]⟩,t 1⟩,⟨bf,false,0,bb,t 2⟩,⟨bs,false,0,⟨#[]⟩,t 3⟩]
 | 1=>[⟨bx,false,0,⟨#[]⟩,t 4⟩]
 | _=>[]
def cst (n:Nat) (r:RSt) (ev:ByteArray):RSt :=
 if ev=bx then { r with q:=r.q++[bx] } else if r.act=1 then
  if ev=bt then iq r bt ⟨#[]⟩ 0 else if ev=bf then { r with act:=2 } else if ev=bs then doL r (List.replicate n (.send bz 1)) else r
 else r
structure Acs (n:Nat) (s t:Nat→Ref.Sl) (AV:Ref.Sl→List PA):Prop where
 e0:AV (s 1)=[]
 l0:AV (s 2)=[]
 e1:AV (s 5)=[]
 l1:AV (s 6)=[]
 x0:AV (t 0)=[.raise bx]
 t0:AV (t 1)=[.send bt 0]
 f0:AV (t 2)=[]
 s0:AV (t 3)=List.replicate n (.send bz 1)
 x1:AV (t 4)=[.raise bx]
section
variable {n:Nat} {s t:Nat→Ref.Sl} {AV:Ref.Sl→List PA} {D:Nat→Bool} {M:ByteArray→Option Nat} {Lr:Nat→List (Option Nat)} {pmF:Nat→PM} {acF:Nat→List PA} (hT:∀ ev,(M ev).map (fun g=>(Lr g).map (Option.map pmF))=jo (fX s) (fV t) ev) (hA:∀ ev (g i m:Nat),M ev=some g→(Lr g)[i]?=some (some m)→acF m=AV (pmF m).aj) (hC:Acs n s t AV)
theorem rM (s t:Nat→Ref.Sl):jo (fX s) (fV t) bx=some [some ⟨0,0,t 0,.nil⟩,some ⟨1,0,t 4,.nil⟩]:=by kernel_rfl
theorem EU (s t:Nat→Ref.Sl):jo (fX s) (fV t) bt=some [some ⟨0,0,t 1,.nil⟩,none]:=by kernel_rfl
theorem ES (s t:Nat→Ref.Sl):jo (fX s) (fV t) bf=some [some ⟨0,3,t 2,.all 2⟩,none]:=by kernel_rfl
theorem ET (s t:Nat→Ref.Sl):jo (fX s) (fV t) bs=some [some ⟨0,0,t 3,.nil⟩,none]:=by kernel_rfl
theorem rL (s t:Nat→Ref.Sl) {ev:ByteArray} (h1:ev≠bx) (h2:ev≠bt) (h3:ev≠bf) (h4:ev≠bs):jo (fX s) (fV t) ev=none:=by
 unfold jo
 have:dW (psF (fX s)) (dr (fX s) (fX s).length) (fV t) (fX s).length ev=none:=by
  show cU _ _ (cU _ _ (fun _=>none) 0 (fV t 0) 4) 1 (fV t 1) 1 ev=none
  simp [cU,mR,fV,h1,h2,h3,h4]
 rw [this]
 rfl
theorem yw (hT:∀ ev,(M ev).map (fun g=>(Lr g).map (Option.map pmF))=jo (fX s) (fV t) ev) (hA:∀ ev (g i m:Nat),M ev=some g→(Lr g)[i]?=some (some m)→acF m=AV (pmF m).aj) (hC:Acs n s t AV) {r:RSt} (hr:r.act=1∨r.act=2) (ev:ByteArray):aP (psF (fX s)) (bQ (fX s) (fX s).length) (enF (fX s) AV) (lvF (fX s) AV) [] D M Lr pmF acF r ev=cst n r ev:=by
 have key:∀ i,els (inn (psF (fX s)) r.act)=[i]→∀ p,aP (psF (fX s)) (bQ (fX s) (fX s).length) (enF (fX s) AV) (lvF (fX s) AV) [] D M Lr pmF acF r ev=p↔(match FO (jo (fX s) (fV t) ev) i with | none=>r | some p=>qj (psF (fX s)) (bQ (fX s) (fX s).length) (enF (fX s) AV) (lvF (fX s) AV) p (AV p.aj) r)=p:=fun i hi p=>by rw [nQ hT hA hi ev]
 have h0:∀ (m:Ref.Sl) (A:List PA) (o:Nat),AV m=A→qj (psF (fX s)) (bQ (fX s) (fX s).length) (enF (fX s) AV) (lvF (fX s) AV) ⟨o,0,m,.nil⟩ (AV m) r=doL r A:=fun m A o e=>by
  rw [e]
  unfold qj
  simp only [Nat.zero_and,Nat.zero_or,enters,fG]
  rfl
 unfold cst
 rcases hr with hr | hr
 ·have hi:els (inn (psF (fX s)) r.act)=[0]:=by rw [hr];kernel_rfl
  rw [key 0 hi]
  by_cases e1:ev=bx
  ·rw [if_pos e1,e1,rM]
   exact h0 _ _ _ hC.x0
  rw [if_neg e1,if_pos hr]
  by_cases e2:ev=bt
  ·rw [if_pos e2,e2,EU]
   exact h0 _ _ _ hC.t0
  rw [if_neg e2]
  by_cases e3:ev=bf
  ·rw [if_pos e3,e3,ES]
   show qj _ _ _ _ ⟨0,3,t 2,.all 2⟩ (AV (t 2)) r=_
   unfold qj
   rw [hC.f0,hr,show els (0|||(3&&&1))=[0] from rfl]
   simp only [enters]
   rw [show els (0|||2)=[1] from rfl]
   simp only [bX,cI,doL,List.reverse_cons,List.reverse_nil,List.nil_append,List.foldl_cons,List.foldl_nil]
   unfold iM oY
   rw [show lvF (fX s) AV 0=AV (s 2) from rfl,show enF (fX s) AV 1=AV (s 5) from rfl,hC.l0,hC.e1]
   simp only [doL,List.foldl_nil,hr]
   rfl
  rw [if_neg e3]
  by_cases e4:ev=bs
  ·rw [if_pos e4,e4,ET]
   exact h0 _ _ _ hC.s0
  rw [if_neg e4,rL s t e1 e2 e3 e4]
  rfl
 ·have hi:els (inn (psF (fX s)) r.act)=[1]:=by rw [hr];kernel_rfl
  rw [key 1 hi]
  have hne:¬ r.act=1:=by omega
  by_cases e1:ev=bx
  ·rw [if_pos e1,e1,rM]
   exact h0 _ _ _ hC.x1
  rw [if_neg e1,if_neg hne]
  by_cases e2:ev=bt
  ·rw [e2,EU];rfl
  by_cases e3:ev=bf
  ·rw [e3,ES];rfl
  by_cases e4:ev=bs
  ·rw [e4,ET];rfl
  rw [rL s t e1 e2 e3 e4]
  rfl
end
end Fu
namespace Sd
open Pg
def be:ByteArray:=⟨#[101]⟩
def bc:ByteArray:=⟨#[99]⟩
def bx:ByteArray:=⟨#[120]⟩
def bY:ByteArray:=⟨#[121]⟩
def ba:ByteArray:=⟨#[97]⟩
def bb:ByteArray:=⟨#[98]⟩
def bd:ByteArray:=⟨#[100]⟩
def bi:ByteArray:=⟨#[105]⟩
def b0:ByteArray:=⟨#[]⟩
def fX (s:Nat→Ref.Sl):List MS:=[⟨0,ba,0,-1,s 0,s 1,s 2,s 3⟩,⟨0,bb,0,-1,s 4,s 5,s 6,s 7⟩,⟨2,bd,0,-1,s 8,s 9,s 10,s 11⟩]
def fV (t:Nat→Ref.Sl):Nat→List MV
 | 0=>[⟨be,false,0,b0,t 0⟩,⟨bc,false,0,b0,t 1⟩,⟨bx,false,0,bb,t 2⟩,⟨bY,false,0,b0,t 3⟩]
 | 1=>[⟨bY,false,0,bd,t 4⟩]
 | _=>[]
def acE (d:Nat):List PA:=[.sendAs bx d bi,.send bY d]
def cst (d:Nat) (r:RSt) (ev:ByteArray):RSt :=
 if r.act=1 then
  if ev=be then doL r (acE d) else if ev=bc then doL r [.cancel bi] else if ev=bx then { r with act:=2 } else r
 else if r.act=2 then
  if ev=bY then { r with act:=4,fin:=5 } else r
 else r
structure Acs (d:Nat) (s t:Nat→Ref.Sl) (AV:Ref.Sl→List PA):Prop where
 n:∀ i,i<12→(i % 4=1∨i % 4=2)→AV (s i)=[]
 e:AV (t 0)=acE d
 c:AV (t 1)=[.cancel bi]
 z:∀ i,i=2∨i=3∨i=4→AV (t i)=[]
def Ok (r:RSt):Prop:=r.act=1∨r.act=2∨r.act=4
section
variable {d:Nat} {s t:Nat→Ref.Sl} {AV:Ref.Sl→List PA} {D:Nat→Bool} {M:ByteArray→Option Nat} {Lr:Nat→List (Option Nat)} {pmF:Nat→PM} {acF:Nat→List PA} (hT:∀ ev,(M ev).map (fun g=>(Lr g).map (Option.map pmF))=jo (fX s) (fV t) ev) (hA:∀ ev (g i m:Nat),M ev=some g→(Lr g)[i]?=some (some m)→acF m=AV (pmF m).aj) (hC:Acs d s t AV)
theorem CU (s t:Nat→Ref.Sl):jo (fX s) (fV t) be=some [some ⟨0,0,t 0,.nil⟩,none,none]:=by kernel_rfl
theorem CT (s t:Nat→Ref.Sl):jo (fX s) (fV t) bc=some [some ⟨0,0,t 1,.nil⟩,none,none]:=by kernel_rfl
theorem rM (s t:Nat→Ref.Sl):jo (fX s) (fV t) bx=some [some ⟨0,7,t 2,.all 2⟩,none,none]:=by kernel_rfl
theorem CV (s t:Nat→Ref.Sl):jo (fX s) (fV t) bY=some [some ⟨0,0,t 3,.nil⟩,some ⟨1,7,t 4,.all 4⟩,none]:=by kernel_rfl
theorem rL (s t:Nat→Ref.Sl) {ev:ByteArray} (h1:ev≠be) (h2:ev≠bc) (h3:ev≠bx) (h4:ev≠bY):jo (fX s) (fV t) ev=none:=by
 unfold jo
 have:dW (psF (fX s)) (dr (fX s) (fX s).length) (fV t) (fX s).length ev=none:=by
  show cU _ _ (cU _ _ (cU _ _ (fun _=>none) 0 (fV t 0) 4) 1 (fV t 1) 1) 2 (fV t 2) 0 ev=none
  simp [cU,mR,fV,h1,h2,h3,h4]
 rw [this]
 rfl
theorem Gm {r:RSt} {i j o:Nat} {m:Ref.Sl} {e1 e2:Nat} (hm:AV m=[]) (hi:els (0|||(7&&&r.act))=[i]) (hj:els (0|||e1)=[j]) (li:lvF (fX s) AV i=[]) (ej:enF (fX s) AV j=[]) (h2:r.act&&&(4294967295-2 ^ i)|||2 ^ j=e2) {p:PS} (hp:(psF (fX s))[j]?=some p):qj (psF (fX s)) (bQ (fX s) (fX s).length) (enF (fX s) AV) (lvF (fX s) AV) ⟨o,7,m,.all e1⟩ (AV m) r=if p.kind == 2 then kG (psF (fX s)) (bQ (fX s) (fX s).length) { r with act:=e2 } j else { r with act:=e2 }:=by
 unfold qj
 rw [hm,hi]
 simp only [enters]
 rw [hj]
 simp only [bX,cI,doL,List.reverse_cons,List.reverse_nil,List.nil_append,List.foldl_cons,List.foldl_nil]
 unfold iM oY
 rw [li,ej]
 simp only [doL,List.foldl_nil,h2,hp]
theorem yw (hT:∀ ev,(M ev).map (fun g=>(Lr g).map (Option.map pmF))=jo (fX s) (fV t) ev) (hA:∀ ev (g i m:Nat),M ev=some g→(Lr g)[i]?=some (some m)→acF m=AV (pmF m).aj) (hC:Acs d s t AV) {r:RSt} (hr:Ok r) (ev:ByteArray):aP (psF (fX s)) (bQ (fX s) (fX s).length) (enF (fX s) AV) (lvF (fX s) AV) [] D M Lr pmF acF r ev=cst d r ev:=by
 have h0:∀ (m:Ref.Sl) (A:List PA) (o:Nat),AV m=A→qj (psF (fX s)) (bQ (fX s) (fX s).length) (enF (fX s) AV) (lvF (fX s) AV) ⟨o,0,m,.nil⟩ (AV m) r=doL r A:=fun m A o e=>by
  rw [e]
  unfold qj
  simp only [Nat.zero_and,Nat.zero_or,enters,fG]
  rfl
 unfold cst
 rcases hr with hr | hr | hr
 ·have hi:els (inn (psF (fX s)) r.act)=[0]:=by rw [hr];kernel_rfl
  rw [nQ hT hA hi ev,if_pos hr]
  by_cases e1:ev=be
  ·rw [if_pos e1,e1,CU]
   exact h0 _ _ _ hC.e
  rw [if_neg e1]
  by_cases e2:ev=bc
  ·rw [if_pos e2,e2,CT]
   exact h0 _ _ _ hC.c
  rw [if_neg e2]
  by_cases e3:ev=bx
  ·rw [if_pos e3,e3,rM]
   exact Gm (i:=0) (j:=1) (hC.z 2 (.inl rfl)) (by rw [hr];rfl) rfl (hC.n 2 (by decide) (.inr rfl)) (hC.n 5 (by decide) (.inl rfl)) (by rw [hr];rfl) rfl
  rw [if_neg e3]
  by_cases e4:ev=bY
  ·rw [e4,CV]
   exact h0 _ _ _ (hC.z 3 (.inr (.inl rfl)))
  rw [rL s t e1 e2 e3 e4]
  rfl
 ·have hi:els (inn (psF (fX s)) r.act)=[1]:=by rw [hr];kernel_rfl
  rw [nQ hT hA hi ev,if_neg (by rw [hr];decide),if_pos hr]
  by_cases e4:ev=bY
  ·rw [if_pos e4,e4,CV]
   exact Gm (i:=1) (j:=2) (hC.z 4 (.inr (.inr rfl))) (by rw [hr];rfl) rfl (hC.n 6 (by decide) (.inr rfl)) (hC.n 9 (by decide) (.inl rfl)) (by rw [hr];rfl) rfl
  rw [if_neg e4]
  by_cases e1:ev=be
  ·rw [e1,CU];rfl
  by_cases e2:ev=bc
  ·rw [e2,CT];rfl
  by_cases e3:ev=bx
  ·rw [e3,rM];rfl
  rw [rL s t e1 e2 e3 e4]
  rfl
 ·have hi:els (inn (psF (fX s)) r.act)=[2]:=by rw [hr];kernel_rfl
  rw [nQ hT hA hi ev,if_neg (by rw [hr];decide),if_neg (by rw [hr];decide)]
  by_cases e1:ev=be
  ·rw [e1,CU];rfl
  by_cases e2:ev=bc
  ·rw [e2,CT];rfl
  by_cases e3:ev=bx
  ·rw [e3,rM];rfl
  by_cases e4:ev=bY
  ·rw [e4,CV];rfl
  rw [rL s t e1 e2 e3 e4]
  rfl
end
theorem yD (A:List PA) {r:RSt} (h:Ok r):Ok (doL r A):=by
 unfold Ok
 rw [nV]
 exact h
theorem Fg {d:Nat} {r:RSt} (h:Ok r) (ev:ByteArray):Ok (cst d r ev):=by
 unfold cst
 split
 ·split
  ·exact yD _ h
  ·split
   ·exact yD _ h
   ·split
    ·exact .inr (.inl rfl)
    ·exact h
 ·split
  ·split
   ·exact .inr (.inr rfl)
   ·exact h
  ·exact h
section
variable {d:Nat} {f:RSt→ByteArray→RSt} (hf:∀ r,Ok r→∀ ev,f r ev=cst d r ev)
theorem Cv (hf:∀ r,Ok r→∀ ev,f r ev=cst d r ev):∀ (k:Nat) (r:RSt),Ok r→dv f k r=dv (cst d) k r∧Ok (dv (cst d) k r)
 | 0,r,h=>by
  refine ⟨rfl,?_⟩
  unfold dv
  split
  ·exact h
  ·split <;> exact h
 | k+1,r,h=>by
  unfold dv
  split
  ·exact ⟨rfl,h⟩
  ·split
   ·rename_i ev q' _ _
    have h1:Ok { r with q:=q' }:=h
    rw [hf _ h1 ev]
    exact Cv hf k _ (Fg h1 ev)
   ·exact ⟨rfl,h⟩
theorem C1 (hf:∀ r,Ok r→∀ ev,f r ev=cst d r ev) {r:RSt} (h:Ok r) (ev:ByteArray):br f r ev=br (cst d) r ev∧Ok (br (cst d) r ev):=by
 obtain ⟨a,b⟩:=Cv hf 60 { r with q:=r.q++[ev] } h
 unfold br dZ
 rw [a]
 exact ⟨rfl,b⟩
theorem EI (hf:∀ r,Ok r→∀ ev,f r ev=cst d r ev) (t:Nat):∀ (m j:Nat) (r:RSt),Ok r→dx f t m j r=dx (cst d) t m j r
 | 0,_,_,_=>rfl
 | m+1,j,r,h=>by
  unfold dx
  split
  ·split
   ·rfl
   ·rename_i g _
    obtain ⟨a,b⟩:=C1 hf (r:=gh r g) h g.ev
    rw [a,EI hf t m (j+1) _ b]
  ·rfl
end
def rs (a:Nat) (T:List Tn) (n fin:Nat):RSt:=⟨a,Pg.r0.kept,[],n,T,fin⟩
def xT (t d:Nat):Tn:=⟨atF t d,bx,bi⟩
def yT (t d:Nat):Tn:=⟨atF t d,bY,b0⟩
theorem GL (t d:Nat):br (cst d) (rs 1 [] t 0) be=rs 1 [xT t d,yT t d] t 0:=by kernel_rfl
theorem GK (t d n:Nat):br (cst d) (rs 1 [xT t d,yT t d] n 0) bc=rs 1 [yT t d] n 0:=by kernel_rfl
theorem GM (d n:Nat) (T:List Tn):br (cst d) (rs 1 T n 0) bx=rs 2 T n 0:=by kernel_rfl
theorem F8 (d n:Nat) (T:List Tn):br (cst d) (rs 1 T n 0) bY=rs 1 T n 0:=by kernel_rfl
theorem F9 (d n:Nat) (T:List Tn):br (cst d) (rs 2 T n 0) bY=rs 4 T n 5:=by kernel_rfl
theorem Gf (t d:Nat):(srt (fun x:Tn=>x.t) [xT t d,yT t d]).head?=some (xT t d):=by simp [srt,lB,xT,yT]
theorem Fv (t d:Nat):(srt (fun x:Tn=>x.t) [yT t d]).head?=some (yT t d):=rfl
theorem Hb (a n f t d:Nat):gh (rs a [xT t d,yT t d] n f) (xT t d)=rs a [yT t d] (atF t d) f:=by simp [gh,rs,xT,yT]
theorem Gx (a n f t d:Nat):gh (rs a [yT t d] n f) (yT t d)=rs a [] (atF t d) f:=by simp [gh,rs,yT]
theorem EJ (u n t d:Nat):bj n u [xT t d,yT t d]=decide (atF t d≤max u n):=by unfold bj;rw [Gf];rfl
theorem BA (u n t d:Nat):bj n u [yT t d]=decide (atF t d≤max u n):=by unfold bj;rw [Fv];rfl
theorem GH (t d:Nat):dx (cst d) t 201 0 (rs 1 [] 0 0)=([],rs 1 [] t 0):=by
 rw [iK (by rfl)]
 simp [rs]
theorem GI {t d n u:Nat} (h:n≤u) (hu:u<atF t d):dx (cst d) u 201 0 (rs 1 [xT t d,yT t d] n 0)=([],rs 1 [xT t d,yT t d] u 0)∧dx (cst d) u 201 0 (rs 1 [yT t d] n 0)=([],rs 1 [yT t d] u 0):=by
 have hm:max u n=u:=Nat.max_eq_left h
 have hd:decide (atF t d≤max u n)=false:=by rw [hm];exact decide_eq_false (by omega)
 constructor
 ·rw [iK (by rw [show (rs 1 [xT t d,yT t d] n 0).now=n from rfl,show (rs 1 [xT t d,yT t d] n 0).tm=[xT t d,yT t d] from rfl,EJ,hd])]
  simp [rs,hm]
 ·rw [iK (by rw [show (rs 1 [yT t d] n 0).now=n from rfl,show (rs 1 [yT t d] n 0).tm=[yT t d] from rfl,BA,hd])]
  simp [rs,hm]
theorem GJ {t d n:Nat}:dx (cst d) (atF t d) 201 0 (rs 1 [yT t d] n 0)=([(bY,rs 1 [] (atF t d) 0)],rs 1 [] (atF t d) 0):=by
 have hd:bj n (atF t d) [yT t d]=true:=by rw [BA];exact decide_eq_true (Nat.le_max_left _ _)
 rw [nS (f:=yT t d) (r2:=rs 1 [] (atF t d) 0) hd (Fv t d) (by rw [Gx];exact F8 ..),if_pos (show (rs 1 [] (atF t d) 0).fin=0 from rfl),if_neg (by omega),iK (by rfl)]
 simp [rs,yT]
theorem F6 {t d n:Nat}:dx (cst d) (atF t d) 201 0 (rs 1 [xT t d,yT t d] n 0)=([(bx,rs 2 [yT t d] (atF t d) 0),(bY,rs 4 [] (atF t d) 5)],rs 4 [] (atF t d) 5):=by
 have hd:bj n (atF t d) [xT t d,yT t d]=true:=by rw [EJ];exact decide_eq_true (Nat.le_max_left _ _)
 have hd2:bj (atF t d) (atF t d) [yT t d]=true:=by rw [BA];exact decide_eq_true (Nat.le_max_left _ _)
 rw [nS (f:=xT t d) (r2:=rs 2 [yT t d] (atF t d) 0) hd (Gf t d) (by rw [Hb];exact GM ..),if_pos (show (rs 2 [yT t d] (atF t d) 0).fin=0 from rfl),if_neg (by omega),nS (f:=yT t d) (r2:=rs 4 [] (atF t d) 5) hd2 (Fv t d) (by rw [Gx];exact F9 ..),if_neg (by show ¬ (5:Nat)=0;decide)]
 rfl
end Sd
end
end Go.Proofs.YtegmoddppafkfaaGreatDoor
