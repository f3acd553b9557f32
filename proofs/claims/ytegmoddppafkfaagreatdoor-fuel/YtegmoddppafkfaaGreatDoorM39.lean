import Derived.Test.YtegmoddppafkfaaGreatDoorM00
import Derived.Test.YtegmoddppafkfaaGreatDoorM35
set_option maxRecDepth 100000
set_option maxHeartbeats 8000000
namespace Go.Proofs.YtegmoddppafkfaaGreatDoor
section
open Go.RowKit Go.Proofs
namespace Fu
def mk (l:List UInt8):ByteArray:=⟨⟨l⟩⟩
def sp (c:UInt8):List UInt8→List UInt8→List (List UInt8)
 | [],acc=>[acc]
 | x::l,acc=>if x=c then acc::sp c l [] else sp c l (acc++[x])
theorem Cz (c:UInt8):∀ (l acc:List UInt8),sp c l acc≠[]
 | [],_=>by simp [sp]
 | x::l,acc=>by
  unfold sp
  split
  ·simp
  ·exact Cz c l _
theorem yx (c x:UInt8):∀ (l acc:List UInt8),sp c (l++[x]) acc=if x=c then sp c l acc++[[]] else (sp c l acc).set ((sp c l acc).length-1) ((sp c l acc)[(sp c l acc).length-1]?.getD []++[x])
 | [],acc=>by
  by_cases h:x=c
  ·simp [sp,h]
  ·simp [sp,h]
 | y::l,acc=>by
  have ih:=yx c x l
  have hp:=Cz c l []
  rw [List.cons_append]
  by_cases hy:y=c
  ·simp only [sp,if_pos hy,ih]
   by_cases h:x=c
   ·simp only [if_pos h,List.cons_append]
   ·simp only [if_neg h]
    obtain ⟨a,L,hL⟩:∃ a L,sp c l []=a::L:=by
     cases hq:sp c l [] with
     | nil=>exact absurd hq hp
     | cons a L=>exact ⟨a,L,rfl⟩
    rw [hL]
    simp
  ·simp only [sp,if_neg hy,ih]
theorem Bf (s:ByteArray) (c:UInt8):Ref.cut s (c.toNat:Int)=(sp c s.data.toList []).map mk:=by
 have key:∀ k,k≤s.data.toList.length→Ref.cA s (c.toNat:Int) k=(sp c (s.data.toList.take k) []).map mk:=by
  intro k
  induction k with
  | zero=>intro _;rfl
  | succ k ih =>
   intro hk
   have ih:=ih (by omega)
   have hk':k<s.data.toList.length:=by omega
   obtain ⟨x,hx⟩:∃ x,s.data.toList[k]?=some x:=⟨_,List.getElem?_eq_getElem hk'⟩
   have hb:Go.PlainAid.bt s k=(x.toNat:Int):=by
    obtain ⟨h1,rfl⟩:=List.getElem?_eq_some_iff.1 hx
    have h2:k<s.size:=h1
    unfold Go.PlainAid.bt
    rw [dif_pos h2]
    rfl
   have he:s.extract k (k+1)=mk [x]:=by
    have h1:(s.extract k (k+1)).data.toList=[x]:=by
     rw [ByteArray.data_extract,Array.toList_extract,List.extract_eq_take_drop,show k+1-k=1 by omega,List.take_one,List.head?_drop,hx]
     rfl
    generalize s.extract k (k+1)=z at h1
    obtain ⟨⟨z⟩⟩:=z
    have h1:z=[x]:=h1
    rw [h1]
    rfl
   rw [List.take_add_one,hx,Option.toList_some,yx,Ref.cA,ih,hb,he]
   by_cases h:x=c
   ·rw [if_pos (by rw [h]),if_pos h,List.map_append]
    rfl
   ·have hne:¬ ((x.toNat:Int)=(c.toNat:Int)):=fun e=>h (UInt8.toNat_inj.1 (by omega))
    rw [if_neg hne,if_neg h,List.map_set,List.length_map,List.getElem?_map]
    congr 1
    cases (sp c (s.data.toList.take k) [])[(sp c (s.data.toList.take k) []).length-1]? with
    | none=>rfl
    | some l=>simp [mk];rfl
 have:=key s.data.toList.length (Nat.le_refl _)
 rw [List.take_length] at this
 exact this
def tzl:List UInt8:=[32,100,111,32,115,101,110,100,32,122,32,49]
def rp (n:Nat):List UInt8:=(List.replicate n tzl).flatten
theorem yD:∀ n,(tx n).data.toList=t0.data.toList++rp n
 | 0=>by simp [tx,rp]
 | n+1=>by
  show (tx n++tz).data.toList=_
  rw [ByteArray.data_append,Array.toList_append,yD n,List.append_assoc]
  congr 1
  unfold rp
  rw [List.replicate_succ',List.flatten_append]
  simp [tz,tzl]
def lS (n:Nat):ByteArray:=mk ([32,111,110,32,115]++rp n)
def Pn (n:Nat):List ByteArray:=[⟨#[115,116,97,116,101,32,97]⟩,⟨#[32,111,110,32,120,32,100,111,32,114,97,105,115,101,32,120]⟩,⟨#[32,111,110,32,116,32,100,111,32,115,101,110,100,32,116,32,48]⟩,⟨#[32,111,110,32,102,117,108,108,32,116,111,32,98]⟩,lS n,⟨#[115,116,97,116,101,32,98]⟩,⟨#[32,111,110,32,120,32,100,111,32,114,97,105,115,101,32,120]⟩,⟨#[]⟩]
set_option maxRecDepth 100000
theorem Eo:∀ n,n<20→(sp 10 (t0.data.toList++rp n++t1.data.toList) []).map mk=Pn n
 | 0,_=>by kernel_rfl
 | 1,_=>by kernel_rfl
 | 2,_=>by kernel_rfl
 | 3,_=>by kernel_rfl
 | 4,_=>by kernel_rfl
 | 5,_=>by kernel_rfl
 | 6,_=>by kernel_rfl
 | 7,_=>by kernel_rfl
 | 8,_=>by kernel_rfl
 | 9,_=>by kernel_rfl
 | 10,_=>by kernel_rfl
 | 11,_=>by kernel_rfl
 | 12,_=>by kernel_rfl
 | 13,_=>by kernel_rfl
 | 14,_=>by kernel_rfl
 | 15,_=>by kernel_rfl
 | 16,_=>by kernel_rfl
 | 17,_=>by kernel_rfl
 | 18,_=>by kernel_rfl
 | 19,_=>by kernel_rfl
 | n+20,h=>absurd h (by omega)
theorem ue {n:Nat} (hn:n<20):Ref.cut (tx n++t1) 10=Pn n:=by
 have:=Bf (tx n++t1) 10
 rw [ByteArray.data_append,Array.toList_append,yD,Eo n hn] at this
 exact this
def wds (n:Nat):List ByteArray:=⟨#[111,110]⟩::⟨#[115]⟩::(List.replicate n [(⟨#[100,111]⟩:ByteArray),⟨#[115,101,110,100]⟩,⟨#[122]⟩,⟨#[49]⟩]).flatten
theorem Em:∀ n,n<20→(sp 32 ([111,110,32,115]++rp n) []).map mk=wds n
 | 0,_=>by kernel_rfl
 | 1,_=>by kernel_rfl
 | 2,_=>by kernel_rfl
 | 3,_=>by kernel_rfl
 | 4,_=>by kernel_rfl
 | 5,_=>by kernel_rfl
 | 6,_=>by kernel_rfl
 | 7,_=>by kernel_rfl
 | 8,_=>by kernel_rfl
 | 9,_=>by kernel_rfl
 | 10,_=>by kernel_rfl
 | 11,_=>by kernel_rfl
 | 12,_=>by kernel_rfl
 | 13,_=>by kernel_rfl
 | 14,_=>by kernel_rfl
 | 15,_=>by kernel_rfl
 | 16,_=>by kernel_rfl
 | 17,_=>by kernel_rfl
 | 18,_=>by kernel_rfl
 | 19,_=>by kernel_rfl
 | n+20,h=>absurd h (by omega)
theorem xY (n:Nat):Ref.bl (lS n)=1:=by
 unfold Ref.bl
 have hs:(lS n).size=(rp n).length+3+1+1:=by
  show ([32,111,110,32,115]++rp n).length=_
  simp
 rw [hs]
 rfl
theorem wl4 {n:Nat} (hn:n<20):Pro.wl (Pn n) 4=wds n:=by
 have h1:Ref.rest (lS n)=mk ([111,110,32,115]++rp n):=by
  have hb:=xY n
  unfold Ref.rest
  rw [hb]
  have h2:((lS n).extract 1 (lS n).size).data.toList=[111,110,32,115]++rp n:=by
   rw [ByteArray.data_extract,Array.toList_extract,List.extract_eq_take_drop]
   show List.take (([32,111,110,32,115]++rp n).length-1) ([111,110,32,115]++rp n)=_
   rw [List.take_of_length_le (by simp)]
  generalize (lS n).extract 1 (lS n).size=z at h2
  obtain ⟨⟨z⟩⟩:=z
  have h2:z=_:=h2
  rw [h2]
  rfl
 show Ref.cut (Ref.rest (lS n)) 32=_
 rw [h1]
 exact (Bf (mk ([111,110,32,115]++rp n)) 32).trans (Em n hn)
theorem FN:∀ n,n<20→Pro.bj 5 (wds n)=some (.move ⟨#[115]⟩ false 0 ⟨#[]⟩ (List.replicate n acZ))
 | 0,_=>by kernel_rfl
 | 1,_=>by kernel_rfl
 | 2,_=>by kernel_rfl
 | 3,_=>by kernel_rfl
 | 4,_=>by kernel_rfl
 | 5,_=>by kernel_rfl
 | 6,_=>by kernel_rfl
 | 7,_=>by kernel_rfl
 | 8,_=>by kernel_rfl
 | 9,_=>by kernel_rfl
 | 10,_=>by kernel_rfl
 | 11,_=>by kernel_rfl
 | 12,_=>by kernel_rfl
 | 13,_=>by kernel_rfl
 | 14,_=>by kernel_rfl
 | 15,_=>by kernel_rfl
 | 16,_=>by kernel_rfl
 | 17,_=>by kernel_rfl
 | 18,_=>by kernel_rfl
 | 19,_=>by kernel_rfl
 | n+20,h=>absurd h (by omega)
def LS (n:Nat):Nat→Pro.PL
 | 0 => .state 0 ⟨#[97]⟩
 | 1 => .move ⟨#[120]⟩ false 0 ⟨#[]⟩ [acX]
 | 2 => .move ⟨#[116]⟩ false 0 ⟨#[]⟩ [acT]
 | 3 => .move ⟨#[102,117,108,108]⟩ false 0 ⟨#[98]⟩ []
 | 4 => .move ⟨#[115]⟩ false 0 ⟨#[]⟩ (List.replicate n acZ)
 | 5 => .state 0 ⟨#[98]⟩
 | _ => .move ⟨#[120]⟩ false 0 ⟨#[]⟩ [acX]
theorem whole {n:Nat} (hn:n<20):∀ k,k<7→Pro.bj (k+1) (Pro.wl (Pn n) k)=some (LS n k)
 | 0,_=>by kernel_rfl
 | 1,_=>by kernel_rfl
 | 2,_=>by kernel_rfl
 | 3,_=>by kernel_rfl
 | 4,_=>by rw [wl4 hn];exact FN n hn
 | 5,_=>by kernel_rfl
 | 6,_=>by kernel_rfl
 | k+7,h=>absurd h (by omega)
theorem zn {n:Nat} (hn:n<20) (k:Nat) (L:Pro.PL) (hL:Pro.bj (k+1) (Pro.wl (Ref.cut (tx n++t1) 10) k)=some L):Pro.Flat L:=by
 rw [ue hn] at hL
 by_cases hk:k<7
 ·rw [whole hn k hk] at hL
  cases hL
  match k,hk with
  | 0,_=>trivial
  | 1,_=>trivial
  | 2,_=>trivial
  | 3,_=>trivial
  | 4,_=>trivial
  | 5,_=>trivial
  | 6,_=>trivial
 ·have e:Pro.wl (Pn n) k=Pro.wl [] 0:=by
   unfold Pro.wl Ref.pc
   by_cases h7:k=7
   ·rw [h7];rfl
   ·rw [List.getD_eq_getElem?_getD,List.getElem?_eq_none (by show 8≤k;omega)]
    rfl
  rw [e] at hL
  have:∀ m:Nat,Pro.bj m (Pro.wl [] 0)=none:=fun m=>by kernel_rfl
  rw [this] at hL
  cases hL
theorem eH {n:Nat} (hn:n<20) {k:Nat} (hk:k<7):Ref.ew (Ref.pc (Pn n) k) k=Pro.aA (k+1) (LS n k):=Pro.jJ (whole hn k hk)
theorem CG {n:Nat} (hn:n<20):Ref.syn (Pn n)=none:=by
 have h:∀ k,k≤7→Ref.jW (Pn n) k=none:=fun k=>by
  induction k with
  | zero=>intro _;rfl
  | succ k ih =>
   intro hk
   rw [Ref.jW,ih (by omega),eH hn (by omega)]
   have:(Pro.aA (k+1) (LS n k)).kind≠0:=by
    match k,hk with
    | 0,_=>show (115:Int)≠0;decide
    | 1,_=>show (109:Int)≠0;decide
    | 2,_=>show (109:Int)≠0;decide
    | 3,_=>show (109:Int)≠0;decide
    | 4,_=>show (109:Int)≠0;decide
    | 5,_=>show (115:Int)≠0;decide
    | 6,_=>show (109:Int)≠0;decide
   simp only [if_neg this]
 unfold Ref.syn
 rw [show (Pn n).length-1=7 from rfl,h 7 (Nat.le_refl _)]
 have he:(decide (0<7)&&(Ref.pc (Pn n) 7).toList.isEmpty)=true:=by kernel_rfl
 simp only [if_pos he]
theorem Ev (n:Nat):Ref.bM [(Pro.aA 1 (LS n 0),0),(Pro.aA 2 (LS n 1),1),(Pro.aA 3 (LS n 2),1),(Pro.aA 4 (LS n 3),1),(Pro.aA 5 (LS n 4),1),(Pro.aA 6 (LS n 5),0),(Pro.aA 7 (LS n 6),1)] 7=some [stA n,stB]:=by kernel_rfl
theorem Aq {n:Nat} (hn:n<20):Ref.bM (Ref.bp (Pn n) 7) 7=some [stA n,stB]:=by
 have:Ref.bp (Pn n) 7=[(Pro.aA 1 (LS n 0),0),(Pro.aA 2 (LS n 1),1),(Pro.aA 3 (LS n 2),1),(Pro.aA 4 (LS n 3),1),(Pro.aA 5 (LS n 4),1),(Pro.aA 6 (LS n 5),0),(Pro.aA 7 (LS n 6),1)]:=by
  show [(Ref.ew (Ref.pc (Pn n) 0) 0,(Ref.bl (Ref.pc (Pn n) 0):Int)),(Ref.ew (Ref.pc (Pn n) 1) 1,(Ref.bl (Ref.pc (Pn n) 1):Int)),(Ref.ew (Ref.pc (Pn n) 2) 2,(Ref.bl (Ref.pc (Pn n) 2):Int)),(Ref.ew (Ref.pc (Pn n) 3) 3,(Ref.bl (Ref.pc (Pn n) 3):Int)),(Ref.ew (Ref.pc (Pn n) 4) 4,(Ref.bl (Ref.pc (Pn n) 4):Int)),(Ref.ew (Ref.pc (Pn n) 5) 5,(Ref.bl (Ref.pc (Pn n) 5):Int)),(Ref.ew (Ref.pc (Pn n) 6) 6,(Ref.bl (Ref.pc (Pn n) 6):Int))]=_
  rw [eH hn (k:=0) (by decide),eH hn (k:=1) (by decide),eH hn (k:=2) (by decide),eH hn (k:=3) (by decide),eH hn (k:=4) (by decide),eH hn (k:=5) (by decide),eH hn (k:=6) (by decide)]
  have b:∀ k d,Ref.bl (Ref.pc (Pn n) k)=d→((Ref.bl (Ref.pc (Pn n) k):Nat):Int)=(d:Int):=fun k d h=>by rw [h]
  rw [b 0 0 (by kernel_rfl),b 1 1 (by kernel_rfl),b 2 1 (by kernel_rfl),b 3 1 (by kernel_rfl),b 4 1 (xY n),b 5 0 (by kernel_rfl),b 6 1 (by kernel_rfl)]
  rfl
 rw [this]
 exact Ev n
theorem Gm:∀ n,n<20→Pro.fT (Pro.aY [stA n,stB] 2) (Pro.dt [stA n,stB]) 5 (LS n 4)=false
 | 0,_=>by kernel_rfl
 | 1,_=>by kernel_rfl
 | 2,_=>by kernel_rfl
 | 3,_=>by kernel_rfl
 | 4,_=>by kernel_rfl
 | 5,_=>by kernel_rfl
 | 6,_=>by kernel_rfl
 | 7,_=>by kernel_rfl
 | 8,_=>by kernel_rfl
 | 9,_=>by kernel_rfl
 | 10,_=>by kernel_rfl
 | 11,_=>by kernel_rfl
 | 12,_=>by kernel_rfl
 | 13,_=>by kernel_rfl
 | 14,_=>by kernel_rfl
 | 15,_=>by kernel_rfl
 | 16,_=>by kernel_rfl
 | 17,_=>by kernel_rfl
 | 18,_=>by kernel_rfl
 | 19,_=>by kernel_rfl
 | n+20,h=>absurd h (by omega)
theorem A7 (n:Nat) (hn:n<20):∀ k,k<7→Pro.fT (Pro.aY [stA n,stB] 2) (Pro.dt [stA n,stB]) (k+1) (LS n k)=false
 | 0,_=>by kernel_rfl
 | 1,_=>by kernel_rfl
 | 2,_=>by kernel_rfl
 | 3,_=>by kernel_rfl
 | 4,_=>Gm n hn
 | 5,_=>by kernel_rfl
 | 6,_=>by kernel_rfl
 | k+7,h=>absurd h (by omega)
theorem Eg {n:Nat} (hn:n<20):Pro.read (tx n++t1) = .jq [stA n,stB]:=by
 have hsz:¬ 1500<(tx n++t1).size:=by rw [ByteArray.size_append,nT,show t1.size=26 from rfl];omega
 have hnm:∀ k,k≤7→Pro.cJ [stA n,stB] (Pn n) k=none:=fun k=>by
  induction k with
  | zero=>intro _;rfl
  | succ k ih =>
   intro hk
   have hb:Pro.uT [stA n,stB] (Pn n) k=false:=by
    unfold Pro.uT
    rw [whole hn k (by omega)]
    exact A7 n hn k (by omega)
   rw [Pro.cJ,ih (by omega)]
   simp only [hb]
   rfl
 unfold Pro.read
 rw [if_neg hsz,ue hn,CG hn,show (Pn n).length-1=7 from rfl]
 simp only [Aq hn]
 rw [show Ref.ej [stA n,stB] [stA n,stB].length=none by kernel_rfl,hnm 7 (Nat.le_refl _)]
end Fu
end
end Go.Proofs.YtegmoddppafkfaaGreatDoor
