import Derived.Test.YtegmoddppafkfaaGreatDoorM00
import Derived.Test.YtegmoddppafkfaaGreatDoorM18
import Derived.Test.YtegmoddppafkfaaGreatDoorM19
import Derived.Deep.AppendLies
import Derived.Lib.Split
import Derived.Lib.SplitLaws
import Derived.Lib.TrimByte
import Derived.Deep.LoopGhost
set_option maxRecDepth 100000
set_option maxHeartbeats 8000000
namespace Go.Proofs.YtegmoddppafkfaaGreatDoor
section
open Go.RowKit
open Go.PlainAid (bt get_bt bt_nonneg bt_le bt_end)
namespace Ref
structure tV (a:Act):Prop where
 how:a.how.size≤4096
 event:a.event.size≤4096
 id:a.id.size≤4096
 delay:∃ n:Nat,a.delay=n∧n≤18446744073709551615
structure od (m:Move):Prop where
 event:m.event.size≤4096
 dst:m.to.size≤4096
 aj:∀ a∈m.aj,tV a
 len:m.aj.length≤4096
 delay:∃ n:Nat,m.delay=n∧n≤18446744073709551615
end Ref
namespace Ref
def gY (t:ByteArray):Nat→Nat→Nat
 | 0,d=>d
 | f+1,d=>if bt t d=32 then gY t f (d+1) else d
def a8 (t:ByteArray):Nat:=gY t t.size 0
theorem oB (t:ByteArray):∀ f d,gY t f d≤d+f
 | 0,d=>Nat.le_refl _
 | f+1,d=>by
  have:=oB t f (d+1)
  unfold gY
  split <;> omega
theorem qF (t:ByteArray):a8 t≤t.size:=by have:=oB t t.size 0;unfold a8;omega
def rest (t:ByteArray):ByteArray:=t.extract (a8 t) t.size
def el (t:ByteArray) (i:Nat):nH:=said (cut (rest t) 32) (i+1)
def pc (P:List ByteArray) (i:Nat):ByteArray:=P.getD i ByteArray.empty
def jW (P:List ByteArray):Nat→Option Nat
 | 0=>none
 | k+1=>match jW P k with
  | some i=>some i
  | none=>if (el (pc P k) k).kind=0 then some k else none
def syn (P:List ByteArray):Option Nat:=match jW P (P.length-1) with
 | some i=>some i
 | none=>if decide (0<P.length-1)&&(pc P (P.length-1)).toList.isEmpty then none else some (P.length-1)
def bo (P:List ByteArray) (k:Nat):List (nH×Int):=(List.range k).map fun i=>(el (pc P i) i,(a8 (pc P i):Int))
def iw (A:List (nH×Int)):Nat→Nat
 | 0=>0
 | i+1=>if (bP A i).isSome&&(bP A (i+1)).isNone then i+1 else iw A i
inductive Got where
 | fault (e line:Int)
 | jE (S:List State)
def read (s:ByteArray):Got :=
 if 1500<s.size then .fault 1 0
 else match syn (cut s 10) with
  | some i => .fault 2 ((i:Int)+1)
  | none=>match bP (bo (cut s 10) ((cut s 10).length-1)) ((cut s 10).length-1) with
   | none => .fault 3 (iw (bo (cut s 10) ((cut s 10).length-1)) ((cut s 10).length-1))
   | some S=>if 0<(eB S S.length).getD 0 then .fault 3 ((eB S S.length).getD 0)
    else if 0<named (S.map emb) then .fault 4 (named (S.map emb))
    else .jE S
theorem yZ {P:List ByteArray}:∀ {k i:Nat},jW P k=some i→∀ j,k≤j→jW P j=some i
 | k,i,h,0,hj=>by rw [Nat.le_zero.1 hj] at h;exact h
 | k,i,h,j+1,hj=>by
  by_cases e:k=j+1
  ·rw [← e];exact h
  ·rw [jW,yZ h j (by omega)]
theorem Et {P:List ByteArray} {k:Nat} (hk:k<P.length-1) (h:jW P k=none) (hb:(el (pc P k) k).kind=0):syn P=some k:=by
 have:jW P (P.length-1)=some k:=yZ (k:=k+1) (by rw [jW,h];simp only;rw [if_pos hb]) _ (by omega)
 unfold syn
 rw [this]
theorem vU {P:List ByteArray} (h:jW P (P.length-1)=none) (hb:¬ (0<P.length-1∧(pc P (P.length-1)).toList.isEmpty=true)):syn P=some (P.length-1):=by
 unfold syn
 rw [h]
 simp only
 rw [if_neg]
 simpa using hb
theorem CR {P:List ByteArray} (h:jW P (P.length-1)=none) (h0:0<P.length-1) (he:(pc P (P.length-1)).toList.isEmpty=true):syn P=none:=by
 unfold syn
 rw [h]
 simp [h0,he]
theorem AH {P:List ByteArray} {k:Nat} (h:jW P k=none) (hb:¬ (el (pc P k) k).kind=0):jW P (k+1)=none:=by
 rw [jW,h];simp only;rw [if_neg hb]
theorem mL {A:List (nH×Int)} {i:Nat} (h1:(bP A i).isSome=true) (h2:bP A (i+1)=none):∀ k,i<k→iw A k=i+1
 | 0,h=>by omega
 | k+1,h=>by
  by_cases e:k=i
  ·rw [iw,e,h1,h2];rfl
  ·have:bP A k=none:=iu h2 k (by omega)
   rw [iw,this]
   exact mL h1 h2 k (by omega)
end Ref
end
section
open Go.RowKit
namespace Pro
theorem Ev:ug.toList=Ref.cTo:=by rw [ByteArray.toList_eq];rfl
theorem zw:my.toList=Ref.yz:=by rw [ByteArray.toList_eq];rfl
def jB:ByteArray:=⟨#[115,116,97,116,101]⟩
def eP:ByteArray:=⟨#[112,97,114,97,108,108,101,108]⟩
def jA:ByteArray:=⟨#[102,105,110,97,108]⟩
def dj:ByteArray:=⟨#[104,105,115,116,111,114,121]⟩
theorem gL:jB.toList=Ref.bW:=by rw [ByteArray.toList_eq];rfl
theorem eC:eP.toList=Ref.aM:=by rw [ByteArray.toList_eq];rfl
theorem gB:jA.toList=Ref.bV:=by rw [ByteArray.toList_eq];rfl
theorem bZ:dj.toList=Ref.aX:=by rw [ByteArray.toList_eq];rfl
def a7 (k:Int):ByteArray:=if k=0 then jB else if k=1 then eP else if k=2 then jA else dj
def aA (num:Nat):PL→Ref.nH
 | .state k n=>⟨115,a7 k,n,decide (k=4),num,Ref.kP,[]⟩
 | .move ev af d t A=>⟨109,ByteArray.empty,ByteArray.empty,false,0,⟨ev,t,af,d,A,num⟩,[]⟩
 | .enter A=>⟨101,ByteArray.empty,ByteArray.empty,false,0,Ref.kP,A⟩
 | .leave A=>⟨108,ByteArray.empty,ByteArray.empty,false,0,Ref.kP,A⟩
def bg (num:Nat) (l:List ByteArray):Option PL:=match aT num l with
 | some (L,[])=>some L
 | _=>none
theorem qU (l:List ByteArray):Ref.yO l=match eS l with | some (q,[])=>some q | _=>none:=by
 unfold Ref.yO eS
 cases l with
 | nil=>simp [pTo,lf];rfl
 | cons y r =>
  rw [show Ref.at' (y::r) 0=y from rfl,pTo,Ev]
  cases hy:(y.toList == Ref.cTo)
  ·rw [if_neg (by simp),if_neg (by simp),lf]
   simp only
   cases aN (y::r) with
   | none=>rfl
   | some q=>obtain ⟨A,t⟩:=q;cases t <;> rfl
  ·rw [if_pos (by simp),if_pos rfl]
   cases r with
   | nil=>rfl
   | cons z t =>
    rw [if_neg (by simp),show Ref.at' (y::z::t) 1=z from rfl,cX]
    cases Ref.plain z
    ·rfl
    ·simp only [if_true,List.drop_succ_cons,List.drop_zero]
     rw [lf]
     cases aN t with
     | none=>rfl
     | some q=>obtain ⟨A,u⟩:=q;cases u <;> rfl
theorem tk {y:ByteArray} {r:List ByteArray}:aN (y::r)≠some ([],[]):=by
 cases h:(y.toList == bDo.toList)
 ·rw [iF h];simp
 ·cases h2:aW r with
  | none=>rw [iE h h2];simp
  | some q =>
   obtain ⟨a,r'⟩:=q
   rw [eA h h2]
   cases aN r' <;> simp
theorem oH (y:ByteArray) (r:List ByteArray):Ref.aj (y::r)=match bR (y::r) with | some (A,[])=>some A | _=>none:=by
 rw [lf]
 unfold bR
 cases h:aN (y::r) with
 | none=>rfl
 | some q =>
  obtain ⟨A,t⟩:=q
  cases A with
  | nil=>cases t with
   | nil=>exact absurd h tk
   | cons _ _=>rfl
  | cons a A=>cases t <;> rfl
theorem CE (num:Nat) (l:List ByteArray):Ref.said l num=((bg num l).map (aA num)).getD Ref.gG:=by
 cases l with
 | nil=>rfl
 | cons x r =>
  cases r with
  | nil =>
   rw [Ref.said,if_pos (by simp)]
   unfold bg aT
   repeat' (first | rfl | split)
   all_goals first | rfl | (simp_all [pOf,cn,fx,bR,aN,fk])
  | cons y r =>
   have h2:¬ (x::y::r).length<2:=by simp
   rw [Ref.said,if_neg h2]
   unfold bg aT
   simp only [Ref.is,show Ref.at' (x::y::r) 0=x from rfl,show Ref.at' (x::y::r) 1=y from rfl,List.drop_succ_cons,List.drop_zero]
   cases hS:(x.toList == Ref.bW)
   ·cases hP:(x.toList == Ref.aM)
    ·cases hF:(x.toList == Ref.bV)
     ·cases hH:(x.toList == Ref.aX)
      ·cases hO:(x.toList == Ref.cOn)
       ·cases hA:(x.toList == Ref.gz)
        ·cases hE:(x.toList == Ref.jD)
         ·cases hL:(x.toList == Ref.mC)
          ·simp
          ·have ex:Go.PlainAid.bt x 0=108:=by
            rw [iX (b:=⟨#[108,101,97,118,101]⟩) hL (by rw [ByteArray.toList_eq];rfl)];rfl
           simp only [Bool.or_true,Bool.false_or,Bool.false_eq_true,if_false,if_true]
           rw [oH]
           cases bR (y::r) with
           | none=>rfl
           | some q =>
            obtain ⟨A,t⟩:=q
            cases t with
            | nil=>simp [aA,ex]
            | cons _ _=>rfl
         ·have ex:Go.PlainAid.bt x 0=101:=by
           rw [iX (b:=⟨#[101,110,116,101,114]⟩) hE (by rw [ByteArray.toList_eq];rfl)];rfl
          simp only [Bool.true_or,Bool.or_self,Bool.false_eq_true,if_false,if_true]
          rw [oH]
          cases bR (y::r) with
          | none=>rfl
          | some q =>
           obtain ⟨A,t⟩:=q
           cases t with
           | nil=>simp [aA,ex]
           | cons _ _=>rfl
        ·simp only [Bool.or_self,Bool.false_eq_true,if_false,if_true]
         rw [qU,fM]
         cases Ref.bF y
         ·cases eS r with
          | none=>rfl
          | some q=>obtain ⟨q,t⟩:=q;cases t <;> rfl
         ·simp only [if_true]
          cases eS r with
          | none=>rfl
          | some q=>obtain ⟨⟨_,_⟩,t⟩:=q;cases t <;> rfl
       ·simp only [Bool.or_self,Bool.false_eq_true,if_false,if_true]
        rw [qU,cX]
        cases Ref.bG y
        ·cases eS r with
         | none=>rfl
         | some q=>obtain ⟨q,t⟩:=q;cases t <;> rfl
        ·simp only [if_true]
         cases eS r with
         | none=>rfl
         | some q=>obtain ⟨⟨_,_⟩,t⟩:=q;cases t <;> rfl
      ·have ex:x=dj:=iX hH bZ
       simp only [Bool.or_self,Bool.false_eq_true,if_false,if_true]
       unfold cn
       rw [cX]
       cases hp:Ref.plain y
       ·simp
       ·simp only [if_true,Bool.true_and]
        cases r with
        | nil=>simp [Ref.qK,aA,a7,ex]
        | cons z t =>
         simp only [zw]
         cases hz:(z.toList == Ref.yz)
         ·simp [Ref.qK,Ref.is,show Ref.at' (x::y::z::t) 2=z from rfl,hz]
         ·cases t with
          | nil =>
           have ez:z.toList=Ref.yz:=eq_of_beq hz
           simp [Ref.qK,Ref.is,show Ref.at' [dj,y,z] 2=z from rfl,ez,aA,a7,ex]
          | cons _ _=>simp [Ref.qK]
     ·have ex:x=jA:=iX hF gB
      simp only [Bool.or_true,Bool.false_eq_true,if_false,if_true]
      rw [cX]
      cases hp:Ref.plain y
      ·simp
      ·cases r with
       | nil=>simp [aA,a7,ex]
       | cons _ _=>simp
    ·have ex:x=eP:=iX hP eC
     simp only [Bool.true_or,Bool.or_true,Bool.false_eq_true,if_false,if_true]
     rw [cX]
     cases hp:Ref.plain y
     ·simp
     ·cases r with
      | nil=>simp [aA,a7,ex]
      | cons _ _=>simp
   ·have ex:x=jB:=iX hS gL
    simp only [Bool.true_or,if_true]
    rw [cX]
    cases hp:Ref.plain y
    ·simp
    ·cases r with
     | nil=>simp [aA,a7,ex]
     | cons _ _=>simp
theorem vX (num:Nat) (L:PL):¬ (aA num L).kind=0:=by cases L <;> simp [aA]
end Pro
end
section
open Go.RowKit
open Go.PlainAid (bt get_bt bt_nonneg bt_le bt_end)
namespace Pro
def gR (c:UInt8):List UInt8→List (List UInt8)
 | []=>[[]]
 | x::l=>if x == c then []::gR c l else match gR c l with
  | []=>[[x]]
  | h::t=>(x::h)::t
theorem Bm (c:UInt8) (l:List UInt8):gR c l≠[]:=by
 cases l with
 | nil=>simp [gR]
 | cons x l =>
  rw [gR]
  split
  ·simp
  ·split <;> simp
theorem mG (c:UInt8):∀ l:List UInt8,Lib.indexByte l c = -1→gR c l=[l]
 | [],_=>rfl
 | x::l,h=>by
  rw [Lib.indexByte] at h
  rw [gR]
  by_cases hx:(x == c)=true
  ·rw [if_pos hx] at h;cases h
  ·rw [if_neg hx] at h ⊢
   by_cases hl:(Lib.indexByte l c == -1)=true
   ·rw [mG c l (by simpa using hl)]
   ·rw [if_neg hl] at h
    have:=Lib.indexByte_ge l c
    omega
theorem uq (c:UInt8):∀ (l:List UInt8) (i:Nat),Lib.indexByte l c=i→gR c l=l.take i::gR c (l.drop (i+1))
 | [],i,h=>by
  have h:(-1:Int)=i:=h
  omega
 | x::l,i,h=>by
  rw [Lib.indexByte] at h
  rw [gR]
  by_cases hx:(x == c)=true
  ·rw [if_pos hx] at h ⊢
   have:i=0:=by omega
   subst this;simp
  ·rw [if_neg hx] at h ⊢
   by_cases hl:(Lib.indexByte l c == -1)=true
   ·rw [if_pos hl] at h;omega
   ·rw [if_neg hl] at h
    have:=Lib.indexByte_ge l c
    have hl':¬ Lib.indexByte l c = -1:=by simpa using hl
    obtain ⟨j,rfl⟩:∃ j,i=j+1:=⟨i-1,by omega⟩
    rw [uq c l j (by omega)]
    simp
theorem qJ (c x:UInt8):∀ l:List UInt8,gR c (l++[x])=if x == c then gR c l++[[]] else (gR c l).set ((gR c l).length-1) ((gR c l)[(gR c l).length-1]?.getD []++[x])
 | []=>by
  rw [List.nil_append,gR]
  split <;> rename_i h <;> simp [gR] <;> simpa using h
 | y::l=>by
  rw [List.cons_append,gR,qJ c x l,gR]
  have hp:=Bm c l
  by_cases hy:(y == c)=true
  ·rw [if_pos hy,if_pos hy]
   split
   ·rfl
   ·obtain ⟨h,t,e⟩:=List.exists_cons_of_ne_nil hp
    rw [e];simp
  ·rw [if_neg hy,if_neg hy]
   obtain ⟨h,t,e⟩:=List.exists_cons_of_ne_nil hp
   rw [e]
   by_cases hx:(x == c)=true
   ·rw [if_pos hx,if_pos hx];rfl
   ·rw [if_neg hx,if_neg hx]
    cases t with
    | nil=>simp
    | cons u t=>simp
theorem vP (c:UInt8):∀ (n:Nat) (s:ByteArray),s.size≤n→(Lib.splitB ⟨#[c]⟩ 0 (Lib.countB s ⟨#[c]⟩) s).map (·.data.toList)=gR c s.data.toList:=by
 have hone:∀ s:ByteArray,Lib.indexB s ⟨#[c]⟩=Lib.indexByte s.data.toList c:=by
  intro s
  have:=Lib.one s ⟨#[c]⟩ rfl
  rw [this]
  congr 1
  show ((c.toNat:Int).toNat).toUInt8=c
  simp
 intro n
 induction n with
 | zero =>
  intro s hs
  have h0:s.data.toList=[]:=by
   have:=Lib.size_eq s
   exact List.length_eq_zero_iff.1 (by omega)
  have hm:Lib.indexB s ⟨#[c]⟩ = -1:=by rw [hone,h0];rfl
  rw [Lib.splitB_miss _ _ _ _ hm,mG c _ (by rw [← hone];exact hm)]
  rfl
 | succ n ih =>
  intro s hs
  rcases Lib.indexB_cases s ⟨#[c]⟩ with hm | ⟨i,hi,hle⟩
  ·rw [Lib.splitB_miss _ _ _ _ hm,mG c _ (by rw [← hone];exact hm)]
   rfl
  ·have h1:(⟨#[c]⟩:ByteArray).size=1:=rfl
   rw [Lib.countB_hit s _ i (by rw [h1];exact Nat.le_refl _) hi,Nat.add_comm 1,Lib.splitB_hit _ _ _ _ i hi,List.map_cons,Lib.extract_from_zero,h1,Nat.add_zero]
   rw [ih (s.extract (i+1) s.size) (by simp;omega),Lib.extract_to_end,uq c s.data.toList i (by rw [← hone];exact hi)]
theorem uC {s:ByteArray} {k:Nat} (h:k<s.size):(s.extract k (k+1)).data.toList=[s.data.toList[k]'(by rw [← Lib.size_eq];exact h)]:=by
 rw [Lib.extract_data,Nat.add_sub_cancel_left]
 rw [List.take_one,List.head?_drop,List.getElem?_eq_getElem (by rw [← Lib.size_eq];exact h)];rfl
theorem nR {s:ByteArray} {k:Nat} (h:k<s.size):bt s k=((s.data.toList[k]'(by rw [← Lib.size_eq];exact h)).toNat:Int):=by
 rw [← get_bt s k h];rfl
theorem uf (a b:ByteArray):(a++b).data.toList=a.data.toList++b.data.toList:=by simp
theorem oE (s:ByteArray) (c:UInt8):∀ k,k≤s.size→(Ref.cD s (c.toNat:Int) k).map (·.data.toList)=gR c (s.data.toList.take k)
 | 0,_=>by rw [Ref.cD,List.take_zero];rfl
 | k+1,hk=>by
  have hk':k<s.size:=by omega
  have hl:k<s.data.toList.length:=by rw [← Lib.size_eq];exact hk'
  have ih:=oE s c k (by omega)
  rw [List.take_add_one,List.getElem?_eq_getElem hl,Option.toList_some,qJ,← ih]
  by_cases h:(s.data.toList[k] == c)=true
  ·rw [if_pos h,Ref.Dx (by rw [nR hk',eq_of_beq h]),List.map_append];rfl
  ·rw [if_neg h,Ref.Fh (by
    rw [nR hk'];intro e
    apply h
    have:s.data.toList[k].toNat=c.toNat:=by omega
    rw [UInt8.toNat_inj.1 this];simp),List.map_set,uf,uC hk',List.length_map,List.getElem?_map]
   have hp:=Ref.j1 s (c.toNat:Int) k
   rw [List.getElem?_eq_getElem (by omega)];rfl
theorem lI:∀ {a b:List ByteArray},a.map (·.data.toList)=b.map (·.data.toList)→a=b
 | [],[],_=>rfl
 | [],_::_,h=>by simp at h
 | _::_,[],h=>by simp at h
 | x::a,y::b,h=>by
  simp only [List.map_cons,List.cons.injEq] at h
  rw [lI h.2]
  have:x=y:=by rw [← Lib.mk_data x,h.1,Lib.mk_data]
  rw [this]
theorem rF (s:ByteArray) (c:UInt8):Lib.splitB ⟨#[c]⟩ 0 (Lib.countB s ⟨#[c]⟩) s=Ref.cut s (c.toNat:Int):=by
 apply lI
 rw [vP c s.size s (Nat.le_refl _)]
 unfold Ref.cut
 rw [oE s c s.size (Nat.le_refl _),List.take_of_length_le (by rw [← Lib.size_eq];exact Nat.le_refl _)]
theorem zv (s:ByteArray) (c:UInt8):Lib.countB s ⟨#[c]⟩+1=(Ref.cut s (c.toNat:Int)).length:=by
 rw [← rF,Lib.splitB_all _ (show 1≤(⟨#[c]⟩:ByteArray).size from Nat.le_refl 1) 0 _ s rfl]
theorem lj (t:ByteArray):∀ (f d:Nat),d+f=t.size→t.data.toList.drop (Ref.gY t f d)=(t.data.toList.drop d).dropWhile (· == 32)∧d≤Ref.gY t f d
 | 0,d,h=>by
  rw [Ref.gY,List.drop_eq_nil_of_le (by rw [← Lib.size_eq];omega)]
  exact ⟨rfl,Nat.le_refl _⟩
 | f+1,d,h=>by
  have hd:d<t.size:=by omega
  have hl:d<t.data.toList.length:=by rw [← Lib.size_eq];exact hd
  rw [Ref.gY,List.drop_eq_getElem_cons hl,List.dropWhile_cons]
  by_cases hb:bt t d=32
  ·have hx:(t.data.toList[d] == 32)=true:=by
    rw [nR hd] at hb
    have:t.data.toList[d].toNat=(32:UInt8).toNat:=by
     have e:(32:UInt8).toNat=32:=rfl
     omega
    rw [UInt8.toNat_inj.1 this];rfl
   have ih:=lj t f (d+1) (by omega)
   rw [if_pos hb,if_pos hx]
   exact ⟨ih.1,by have:=ih.2;omega⟩
  ·have hx:¬ (t.data.toList[d] == 32)=true:=by
    intro e
    apply hb
    rw [nR hd,eq_of_beq e];rfl
   rw [if_neg hb,if_neg hx,List.drop_eq_getElem_cons hl]
   exact ⟨rfl,Nat.le_refl _⟩
theorem AL (t:ByteArray):(⟨(Lib.trimLeftB t.data.toList 32).toArray⟩:ByteArray)=Ref.rest t:=by
 have h:=(lj t t.size 0 (by omega)).1
 rw [List.drop_zero] at h
 have e:(Ref.rest t).data.toList=Lib.trimLeftB t.data.toList 32:=by
  unfold Ref.rest Lib.trimLeftB
  rw [Lib.extract_to_end];exact h
 rw [← e,Lib.mk_data]
theorem rn (t:ByteArray):(Ref.rest t).size+Ref.a8 t=t.size:=by
 have:=Ref.qF t
 unfold Ref.rest
 simp;omega
end Pro
end
section
open Go.RowKit
structure rY (w:World):Prop where
 env:Env w
 maxL:∃ m,w.cell? ⟨3,0,none⟩=some (.int .i64 m)
theorem rY.ay {w w':World} (h:rY w) (hb:Below w.heap.size w w'):rY w' :=
 ⟨h.env.ay hb,let ⟨m,hm⟩:=h.maxL;⟨m,(World.cell?_of_block (hb.block _ (World.block_lt_of_cell? _ _ hm))).trans hm⟩⟩
theorem rE (s:ByteArray) (c:UInt8) (w:World) (hv:rY w) (hs:s.size<4294967281):Calls Tryz.prog 140 #[.string s,.string ⟨#[c]⟩] w fun e w' =>
  e = .returned (.slice (some ⟨w.heap.size,0,none⟩) (Ref.cut s (c.toNat:Int)).length (Ref.cut s (c.toNat:Int)).length)∧w'=w.alloc (.cells ((Ref.cut s (c.toNat:Int)).map Value.string).toArray 9):=by
 obtain ⟨m,hm⟩:=hv.maxL
 refine (Tryz.strings_Split s ⟨#[c]⟩ m w hs hm (Nat.le_refl 1)).mono ?_
 rintro e w' ⟨rfl,rfl⟩
 rw [Pro.rF,Pro.zv]
 exact ⟨rfl,rfl⟩
theorem pK {w:World} {b:Nat} {l:List ByteArray} {t:TypeId} {fz:Nat×Nat} (h:w.heap[b]?=some (.cells (l.map Value.string).toArray t fz)):oe w b 0 l:=by
 intro i hi
 rw [Nat.zero_add,cell_of_row w b i _ _ _ h]
 simp [Ref.at',List.getElem?_eq_getElem hi,List.getD_eq_getElem?_getD]
theorem oG {s:ByteArray} {c:Int}:∀ x∈Ref.cut s c,x.size≤s.size:=Ref.nq s c s.size (Nat.le_refl _)
theorem nU {s:ByteArray} {c:Int}:(Ref.cut s c).length≤s.size+1:=Ref.ur s c s.size
def fW (num:Nat) (t:ByteArray) (w:World) (e:Ending) (w':World):Prop:=match Pro.bg num (Ref.cut (Ref.rest t) 32) with
 | none=>aY 2 num w e w'
 | some L=>Below w.heap.size w w'∧∃ v,e = .returned v∧et w' w.heap.size num (Ref.a8 t) L v
theorem tu {p:Nat} {er line:Int} {w0 w w':World} {e:Ending} (hb:Below w0.heap.size w0 w) (hp:w0.heap.size≤p) (h:bT p er line w e w'):aY er line w0 e w':=by
 obtain ⟨ht,b,h2,h3,h4⟩:=h
 exact ⟨ht.below hb hp hb.size,b,Nat.le_trans hb.size h2,h3,h4⟩
theorem et.mono {w:World} {base base':Nat} {num dep:Int} {L:Pro.PL} {v:Value} (h:et w base num dep L v) (hb:base'≤base):et w base' num dep L v:=by
 cases L with
 | state k n=>exact h
 | move ev af d t A=>obtain ⟨a,n,c,h1,h2⟩:=h;exact ⟨a,n,c,h1,aI h2 hb⟩
 | enter A=>obtain ⟨a,n,c,h1,h2⟩:=h;exact ⟨a,n,c,h1,aI h2 hb⟩
 | leave A=>obtain ⟨a,n,c,h1,h2⟩:=h;exact ⟨a,n,c,h1,aI h2 hb⟩
theorem ts (num:Nat) (t:ByteArray) (w:World) (hv:rY w) (ht:t.size≤1000000) (hnum:num≤1073741824) :
  Calls Tryz.prog 142 #[.int .i64 num,.string t] w (fW num t w):=by
 have hr:=Pro.rn t
 have hct:=Pro.AL t
 go_enter Tryz.func142,Tryz.ntmps142
 go_wp2_with fail
 refine (Tryz.strings_TrimLeft_one t 32 (by decide) _).mono ?_
 rintro e w9 ⟨rfl,hw9⟩
 rw [hw9,hct]
 clear hw9 w9 hct
 dsimp only
 go_wp2_with fail
 refine (rE (Ref.rest t) 32 _ hv (by omega)).mono ?_
 rintro e w9 ⟨rfl,hw9⟩
 rw [hw9]
 clear hw9 w9
 obtain ⟨l,hl⟩:∃ l,l=Ref.cut (Ref.rest t) ((32:UInt8).toNat:Int):=⟨_,rfl⟩
 rw [← hl]
 have hlen:l.length≤t.size+1:=by rw [hl];exact Nat.le_trans nU (by omega)
 have hsz:∀ x∈l,x.size≤t.size:=by rw [hl];exact fun x hx=>Nat.le_trans (oG x hx) (by omega)
 have HL:Hid _:=hl
 clear hl
 dsimp only
 go_wp2_with fail
 have hdep:(t.size:Int)-((Ref.rest t).size:Int)=(Ref.a8 t:Int):=by omega
 rw [hdep]
 obtain ⟨w1,hw1⟩:∃ y,y=(w.alloc (.cells (l.map Value.string).toArray 9)).alloc (.cells #[.int .i64 num,.int .i64 (Ref.a8 t),.slice (some ⟨w.heap.size,0,none⟩) l.length l.length] 343):=⟨_,rfl⟩
 rw [← hw1]
 have hb1:Below w.heap.size w w1:=by rw [hw1];exact ((Below.refl _ _).alloc (Nat.le_refl _) _).alloc (by simp) _
 have hws:w.heap.size+1<w1.heap.size:=by rw [hw1];simp
 have H1:aa w1 (w.heap.size+1) num (Ref.a8 t) l:=by
  rw [hw1]
  refine ⟨⟨some ⟨w.heap.size,0,none⟩,l.length,b8 _ _ _,Nat.le_refl _,fun _=>⟨w.heap.size,0,rfl,by omega,by simp;omega,pK (gn _ _ _)⟩⟩,by omega,fun x hx=>by have:=hsz x hx;omega⟩
 have hv1:bh (w.heap.size+1) w1:=⟨w,by omega,hv.env,hb1⟩
 clear hw1 hsz hlen
 refine (BV (w.heap.size+1) num (Ref.a8 t) l w1 H1 hv1 hnum).mono ?_
 rintro e w2 h2
 unfold aJ at h2
 have HP:Hid (fW num t w=fun e w'=>match Pro.bg num l with
  | none=>aY 2 num w e w'
  | some L=>Below w.heap.size w w'∧∃ v,e = .returned v∧et w' w.heap.size num (Ref.a8 t) L v):=by
  unfold Hid fW;rw [HL.out];rfl
 cases hp:Pro.aT num l with
 | none =>
  rw [hp] at h2
  have HW:Hid (Pro.bg num l=none):=by unfold Hid Pro.bg;rw [hp]
  obtain ⟨hb,b,h4,h5,rfl⟩:=tu hb1 (by omega) h2
  dsimp only
  refine ⟨rfl,?_⟩
  rw [HP.out];simp only;rw [HW.out]
  exact ⟨hb,b,h4,h5,rfl⟩
 | some q =>
  obtain ⟨L,r⟩:=q
  rw [hp] at h2
  obtain ⟨v,rfl,hL,ht2,H2⟩:=h2
  have hb2:Below w.heap.size w w2:=ht2.below hb1 (by omega) hb1.size
  have hL2:=hL.mono (show w.heap.size≤w1.heap.size by omega)
  cases r with
  | nil =>
   have HW:Hid (Pro.bg num l=some L):=by unfold Hid Pro.bg;rw [hp]
   clear hp hL ht2 H1 hv1
   dsimp only
   go_wp2_with fail
   refine (Fm (w.heap.size+1) num (Ref.a8 t) _ H2).mono ?_
   rintro e w9 ⟨rfl,hw9⟩
   rw [hw9]
   clear hw9 w9
   dsimp only
   go_wp2
   go_ret
   rw [HP.out];simp only;rw [HW.out]
   exact ⟨hb2,v,rfl,hL2⟩
  | cons y r =>
   have HW:Hid (Pro.bg num l=none):=by unfold Hid Pro.bg;rw [hp]
   clear hp hL ht2 H1 hv1
   dsimp only
   go_wp2_with fail
   refine (Dz (w.heap.size+1) num (Ref.a8 t) (y::r) _ H2 (by simp)).mono ?_
   rintro e w3 hq
   obtain ⟨hb,b,h4,h5,rfl⟩:=hq
   dsimp only
   refine ⟨rfl,?_⟩
   rw [HP.out];simp only;rw [HW.out]
   exact ⟨hb2.trans (hb.mono hb2.size),b,Nat.le_trans hb2.size h4,h5,rfl⟩
theorem j0 (s:ByteArray) (w:World) (hs:s.size≤281474976710656):Calls Tryz.prog 141 #[.string s] w fun e w'=>e = .returned (.string s)∧Below w.heap.size w w':=by
 go_enter Tryz.func141,Tryz.ntmps141
 go_wp2_with fail
 refine (Tryz.stringslite_Clone s _ hs).mono ?_
 rintro e w1 ⟨rfl,hb⟩
 dsimp only
 go_wp2
 go_ret
 exact ⟨rfl,hb⟩
theorem Tryz.BF:(Tryz.prog.info? 224).map (fun i=>(i.zero,i.size,i.bytes))=some (some .nilIface,1,16):=by kernel_rfl
namespace Pro
def wl (P:List ByteArray) (i:Nat):List ByteArray:=Ref.cut (Ref.rest (Ref.pc P i)) 32
theorem oZ (P:List ByteArray) (i:Nat):Ref.el (Ref.pc P i) i=((bg (i+1) (wl P i)).map (aA (i+1))).getD Ref.gG:=CE (i+1) _
theorem vh {P:List ByteArray} {i:Nat} (h:bg (i+1) (wl P i)=none):(Ref.el (Ref.pc P i) i).kind=0:=by rw [oZ,h];rfl
theorem jL {P:List ByteArray} {i:Nat} {L:PL} (h:bg (i+1) (wl P i)=some L):Ref.el (Ref.pc P i) i=aA (i+1) L:=by rw [oZ,h];rfl
end Pro
structure iW (w:World) (P:List ByteArray) (k:Nat) (vs:List Value) (LS:List Pro.PL):Prop where
 lv:vs.length=k
 ll:LS.length=k
 row:∀ j (h:j<k),Pro.bg (j+1) (Pro.wl P j)=some (LS[j]'(by omega))∧et w 0 (j+1:Nat) (Ref.a8 (Ref.pc P j)) (LS[j]'(by omega)) (vs[j]'(by omega))
theorem et.ay {w w':World} {num dep:Int} {L:Pro.PL} {v:Value} (h:et w 0 num dep L v) (hb:Below w.heap.size w w'):et w' 0 num dep L v:=by
 cases L with
 | state k n=>exact h
 | move ev af d t A=>obtain ⟨a,n,c,h1,h2⟩:=h;exact ⟨a,n,c,h1,aR h2 hb⟩
 | enter A=>obtain ⟨a,n,c,h1,h2⟩:=h;exact ⟨a,n,c,h1,aR h2 hb⟩
 | leave A=>obtain ⟨a,n,c,h1,h2⟩:=h;exact ⟨a,n,c,h1,aR h2 hb⟩
theorem et.tag {w w':World} {num dep:Int} {L:Pro.PL} {v:Value} {g:Nat} {c:Array Value} {t:TypeId} {fz:Nat×Nat} (h:et w 0 num dep L v) (ho:fQ g w w') (hg:w.heap[g]?=some (.cells c t fz)) (hne:324≠t):et w' 0 num dep L v:=by
 cases L with
 | state k n=>exact h
 | move ev af d t A=>obtain ⟨a,n,c,h1,h2⟩:=h;exact ⟨a,n,c,h1,ka h2 ho hg hne⟩
 | enter A=>obtain ⟨a,n,c,h1,h2⟩:=h;exact ⟨a,n,c,h1,ka h2 ho hg hne⟩
 | leave A=>obtain ⟨a,n,c,h1,h2⟩:=h;exact ⟨a,n,c,h1,ka h2 ho hg hne⟩
theorem et.iface {w:World} {base:Nat} {num dep:Int} {L:Pro.PL} {v:Value} (h:et w base num dep L v):∃ t u,v = .iface t u:=by
 cases L with
 | state k n=>exact ⟨_,_,h⟩
 | move ev af d t A=>obtain ⟨a,n,c,h1,h2⟩:=h;exact ⟨_,_,h1⟩
 | enter A=>obtain ⟨a,n,c,h1,h2⟩:=h;exact ⟨_,_,h1⟩
 | leave A=>obtain ⟨a,n,c,h1,h2⟩:=h;exact ⟨_,_,h1⟩
theorem iW.next {w w':World} {P:List ByteArray} {k:Nat} {vs:List Value} {LS:List Pro.PL} {v:Value} {L:Pro.PL} (H:iW w P k vs LS) (hk:∀ num dep L v,et w 0 num dep L v→et w' 0 num dep L v)
  (h1:Pro.bg (k+1) (Pro.wl P k)=some L) (h2:et w' 0 (k+1:Nat) (Ref.a8 (Ref.pc P k)) L v):iW w' P (k+1) (vs++[v]) (LS++[L]):=by
 have hlv:=H.lv
 have hll:=H.ll
 refine ⟨by simp [hlv],by simp [hll],fun j hj => ?_⟩
 by_cases e:j=k
 ·subst e
  rw [List.getElem_append_right (by omega),List.getElem_append_right (by omega)]
  simp only [hlv,hll,Nat.sub_self,List.getElem_cons_zero]
  exact ⟨h1,h2⟩
 ·have hj':j<k:=by omega
  obtain ⟨r1,r2⟩:=H.row j hj'
  rw [List.getElem_append_left (by omega),List.getElem_append_left (by omega)]
  exact ⟨r1,hk _ _ _ _ r2⟩
def da (s:ByteArray) (w:World) (e:Ending) (w':World):Prop :=
 if 1500<s.size then aY 1 0 w e w'
 else match Ref.syn (Ref.cut s 10) with
  | some i=>aY 2 ((i:Int)+1) w e w'
  | none=>Below w.heap.size w w'∧∃ lb vs LS,e = .returned (.slice (some ⟨lb,0,none⟩) vs.length vs.length)∧w'.heap[lb]?=some (.cells vs.toArray 224 (0,0))∧0<vs.length∧iW w' (Ref.cut s 10) ((Ref.cut s 10).length-1) vs LS
theorem pr (s:ByteArray) (w:World) (hs:1500<s.size) (hs2:s.size≤1073741824) :
  Calls Tryz.prog 106 #[.string s] w (da s w):=by
 go_enter Tryz.func106,Tryz.ntmps106
 go_wp2_with fail
 refine (aL 0 0 1 _).mono ?_
 rintro e w1 ⟨hb,b,h4,h5,rfl⟩
 dsimp only
 refine ⟨rfl,?_⟩
 unfold da
 rw [if_pos hs]
 exact ⟨hb,b,h4,h5,rfl⟩
theorem CI {vs:List Value} {m k:Nat} (hk:vs.length=k) (v:Value):(vs++List.replicate (m+1) Value.nilIface).toArray.setIfInBounds k v=((vs++[v])++List.replicate m Value.nilIface).toArray:=by
 rw [List.setIfInBounds_toArray,List.set_append_right _ _ (by omega),hk,Nat.sub_self,List.replicate_succ,List.set_cons_zero]
 simp
theorem BX (n:Nat):madeCells #[Value.nilIface] n=(List.replicate n Value.nilIface).toArray:=by
 apply Array.ext
 ·simp [madeCells]
 ·intro i h1 h2
  simp [madeCells,Nat.mod_one]
theorem qq (s:ByteArray) (w:World) (hv:rY w) (hs:s.size≤1500) :
  Calls Tryz.prog 106 #[.string s] w (da s w):=by
 obtain ⟨P,hP⟩:∃ P,P=Ref.cut s ((10:UInt8).toNat:Int):=⟨_,rfl⟩
 have hpos:0<P.length:=by rw [hP];exact Ref.j1 _ _ _
 obtain ⟨n,hn⟩:∃ n,P.length=n+1:=⟨P.length-1,by omega⟩
 clear hpos
 have hlen:n≤1500:=by
  have:P.length≤s.size+1:=by rw [hP];exact nU
  omega
 have HSZ:Hid (∀ j,(Ref.pc P j).size≤1500):=by
  intro j
  unfold Ref.pc
  rw [List.getD_eq_getElem?_getD]
  cases e:P[j]? with
  | none=>exact Nat.zero_le _
  | some x=>rw [hP] at e;exact Nat.le_trans (oG x (List.mem_of_getElem? e)) hs
 have HPost:Hid (da s w=fun e w'=>match Ref.syn P with
  | some i=>aY 2 ((i:Int)+1) w e w'
  | none=>Below w.heap.size w w'∧∃ lb vs LS,e = .returned (.slice (some ⟨lb,0,none⟩) vs.length vs.length)∧w'.heap[lb]?=some (.cells vs.toArray 224 (0,0))∧0<vs.length∧iW w' P (P.length-1) vs LS):=by
  funext e w'
  unfold da
  rw [if_neg (by omega),hP];rfl
 have hmk:=run_make_row' (P:=Tryz.prog) 219 224 .nilIface 16 Tryz.underlying219 Tryz.BF rfl .i64 .i64 n (by omega) (by omega)
 go_enter Tryz.func106,Tryz.ntmps106
 go_wp2_with fail
 refine (j0 s _ (by omega)).mono ?_
 rintro e w1 ⟨rfl,hb1⟩
 have hv1:=hv.ay hb1
 dsimp only
 go_wp2_with fail
 refine (rE s 10 _ hv1 (by omega)).mono ?_
 rintro e w9 ⟨rfl,hw9⟩
 rw [hw9,← hP]
 clear hw9 w9
 have HPn:Hid (P.length=n+1):=hn
 have HP:Hid _:=hP
 rw [hn]
 clear hP hn
 dsimp only
 go_wp2
 go_loopg [25] n (fun q i wr=>∃ (k:Nat) (vs:List Value) (LS:List Pro.PL),q=n-k∧k≤n∧i = .int .i64 k∧Ref.jW P k=none∧wr.heap[w1.heap.size]?=some (.cells (P.map Value.string).toArray 9 (0,0))∧wr.heap[w1.heap.size+1]?=some (.cells (vs++List.replicate (n-k) Value.nilIface).toArray 224 (0,0))∧iW wr P k vs LS∧Below w.heap.size w wr∧Below w1.heap.size w1 wr)
 case atStart =>
  refine ⟨0,[],[],rfl,Nat.zero_le _,rfl,rfl,gn _ _ _,?_,⟨rfl,rfl,fun j h=>absurd h (by omega)⟩,(hb1.alloc hb1.size _).alloc (by have:=hb1.size;simp;omega) _,((Below.refl _ _).alloc (Nat.le_refl _) _).alloc (by simp) _⟩
  rw [b8,BX];rfl
 case round =>
  obtain ⟨k,vs,LS,hq,hk,rfl,hsyn,hPB,hLB,HL,hbw,hbw1⟩:=hrel
  have hlv:=HL.lv
  have cP:wr.cell? ⟨w1.heap.size,k,none⟩=some (.string (Ref.pc P k)):=by
   rw [cell_of_row wr _ k _ _ _ hPB]
   simp only [List.getElem?_toArray,List.getElem?_map,Ref.pc,List.getD_eq_getElem?_getD]
   rw [List.getElem?_eq_getElem (show k<P.length by rw [HPn.out];omega)];rfl
  have hbs:=hbw.size
  have hbs1:=hbw1.size
  have lP:=(Array.getElem?_eq_some_iff.1 hPB).1
  have lL:=(Array.getElem?_eq_some_iff.1 hLB).1
  by_cases hkn:k<n
  ·have hszk:=HSZ.out k
   have hvr:=hv1.ay hbw1
   go_wp2_with fail
   refine (ts (k+1) (Ref.pc P k) _ hvr (by omega) (by omega)).mono ?_
   rintro e w2 h2
   unfold fW at h2
   change (match Pro.bg (k+1) (Pro.wl P k) with | none=>_ | some L=>_) at h2
   cases hp:Pro.bg (k+1) (Pro.wl P k) with
   | none =>
    rw [hp] at h2
    have HS:Hid (Ref.syn P=some k):=Ref.Et (by rw [HPn.out];omega) hsyn (Pro.vh hp)
    obtain ⟨hb,b,h4,h5,rfl⟩:=h2
    dsimp only
    refine ⟨rfl,?_⟩
    rw [HPost.out];simp only;rw [HS.out]
    exact ⟨hbw.trans (hb.mono hbs),b,Nat.le_trans hbs h4,h5,rfl⟩
   | some L =>
    rw [hp] at h2
    obtain ⟨hb2,v,rfl,hLV⟩:=h2
    obtain ⟨vt,vu,rfl⟩:=hLV.iface
    have hPB2:=(hb2.block _ lP).trans hPB
    have hLB2:=(hb2.block _ lL).trans hLB
    obtain ⟨m,hm⟩:∃ m,n-k=m+1:=⟨n-k-1,by omega⟩
    rw [hm] at hLB2
    have cL:w2.cell? ⟨w1.heap.size+1,k,none⟩=some .nilIface:=by
     rw [cell_of_row w2 _ k _ _ _ hLB2,List.getElem?_toArray,List.getElem?_append_right (by omega),hlv,Nat.sub_self];rfl
    have fL:w2.frozen? ⟨w1.heap.size+1,k,none⟩=false:=by simp [World.frozen?,hLB2]
    have HSY:Hid (Ref.jW P (k+1)=none):=Ref.AH hsyn (by rw [Pro.jL hp];exact Pro.vX _ _)
    have HLV:Hid (et w2 0 ((k+1:Nat):Int) (Ref.a8 (Ref.pc P k)) L (.iface vt vu)):=et.mono hLV (Nat.zero_le _)
    have HH:Hid _:=hPB2
    have HH2:Hid _:=hLB2
    have HM:Hid _:=hm
    have HHL:Hid _:=HL
    have HPW:Hid _:=hp
    clear hLV hPB2 hLB2 hm hPB hLB hsyn cP hp HL
    dsimp only
    go_wp2
    go_roundg (n-(k+1))
    case measure=>omega
    case rel =>
     have hs1:=hb1.size
     have oo:=ae w2 (w1.heap.size+1) k (.iface vt vu)
     have hb3:=oo.below (hbw.trans (hb2.mono hbs)) (by omega)
     refine ⟨k+1,vs++[.iface vt vu],LS++[L],rfl,by omega,rfl,HSY.out,?_,?_,?_,hb3,oo.below (hbw1.trans (hb2.mono hbs1)) (by omega)⟩
     ·rw [oo.block _ (by omega)];exact HH.out
     ·rw [heap_setCell_same w2 _ k _ _ (.iface vt vu) HH2.out,CI hlv,show n-(k+1)=m by have:=HM.out;omega]
     ·refine HHL.out.next (fun num dep L' v' h=>(h.ay hb2).tag oo HH2.out (by decide)) HPW.out (et.tag HLV.out oo HH2.out (by decide))
  ·obtain rfl:k=n:=by omega
   have hn0:k-k=0:=by omega
   rw [hn0] at hLB
   have hk1500:=hlen
   have HLB:Hid _:=hLB
   have HHL:Hid _:=HL
   have HSYN:Hid _:=hsyn
   clear hLB HL hsyn hPB hq hk hkn hn0
   by_cases h0:k=0
   ·have HS:Hid (Ref.syn P=some k):=by
     have:=Ref.vU (P:=P) (by rw [HPn.out];exact HSYN.out) (fun h=>by have:=h.1;rw [HPn.out] at this;omega)
     rw [HPn.out] at this;exact this
    subst h0
    go_wp2_with fail
    refine (aL 1 0 2 _).mono ?_
    rintro e w2 ⟨hb,b,h4,h5,rfl⟩
    dsimp only
    refine ⟨rfl,?_⟩
    rw [HPost.out];simp only;rw [HS.out]
    exact ⟨hbw.trans (hb.mono hbs),b,Nat.le_trans hbs h4,h5,rfl⟩
   ·cases hE:(Ref.pc P k).toList.isEmpty
    case true =>
     have HS:Hid (Ref.syn P=none):=by
      refine Ref.CR (P:=P) (by rw [HPn.out];exact HSYN.out) (by rw [HPn.out];omega) ?_
      rw [HPn.out];exact hE
     have hE':(Ref.pc P k).toList=[]:=List.isEmpty_iff.1 hE
     go_wp2
     go_ret
     rw [HPost.out];simp only;rw [HS.out]
     refine ⟨hbw,w1.heap.size+1,vs,LS,?_,?_,?_,?_⟩
     ·rw [hlv];rfl
     ·have:=HLB.out
      simpa using this
     ·omega
     ·have:=HHL.out
      rw [HPn.out];exact this
    case false =>
     have HS:Hid (Ref.syn P=some k):=by
      have:=Ref.vU (P:=P) (by rw [HPn.out];exact HSYN.out) (fun h=>by
       have h:=h.2
       rw [HPn.out] at h
       have:(Ref.pc P k).toList.isEmpty=true:=h
       rw [hE] at this;cases this)
      rw [HPn.out] at this;exact this
     go_wp2_with fail
     refine (aL (k+1) 0 2 _).mono ?_
     rintro e w2 ⟨hb,b,h4,h5,rfl⟩
     dsimp only
     refine ⟨rfl,?_⟩
     rw [HPost.out];simp only;rw [HS.out]
     exact ⟨hbw.trans (hb.mono hbs),b,Nat.le_trans hbs h4,h5,rfl⟩
end
end Go.Proofs.YtegmoddppafkfaaGreatDoor
