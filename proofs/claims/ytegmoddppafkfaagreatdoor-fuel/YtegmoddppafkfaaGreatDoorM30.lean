import Derived.Test.YtegmoddppafkfaaGreatDoorM00
import Derived.Test.YtegmoddppafkfaaGreatDoorM03
import Derived.Test.YtegmoddppafkfaaGreatDoorM09
import Derived.Test.YtegmoddppafkfaaGreatDoorM29
import Derived.Shelf.SlSortCmp.Insertion
import Derived.Sort.LotA
set_option maxRecDepth 100000
set_option maxHeartbeats 8000000
namespace Go.Proofs.YtegmoddppafkfaaGreatDoor
section
open Go.RowKit Go.Proofs Go.Shelf
namespace Pg
def sf (a b:Nat):Int:=if a<b then -1 else if b<a then 1 else 0
end Pg
theorem zC (x:Nat) (w:World):Calls Tryz.prog 233 #[.int .u64 x] w fun e w'=>e = .returned (.bool false)∧w'=w:=by
 go_enter Tryz.func233,Tryz.ntmps233
 go_wp2
 go_ret
 exact ⟨by simp,rfl⟩
theorem ub (a b:Nat) (w:World):Calls Tryz.prog 186 #[.int .u64 a,.int .u64 b] w fun e w'=>e = .returned (.int .i64 (Pg.sf a b))∧w'=w:=by
 have HN:Hid (∀ (x:Nat) (w:World),Calls Tryz.prog 233 #[.int .u64 x] w fun e w'=>e = .returned (.bool false)∧w'=w):=fun x w=>zC x w
 have h1:Hid (∀ c,Pg.sf a b=c↔(if a<b then -1 else if b<a then 1 else 0)=c):=fun c=>Iff.rfl
 rcases Nat.lt_trichotomy a b with h | h | h
 ·have ha:(a:Int)<(b:Int):=by omega
  have HA:Hid (a<b):=h
  clear h
  go_enter Tryz.func186,Tryz.ntmps186
  go_wp2_with (go_at_call 233;refine (HN.out _ _).mono ?_;rintro e w1 ⟨rfl,rfl⟩)
  go_ret
  exact ⟨by rw [(h1.out _).2 (if_pos HA.out)];rfl,rfl⟩
 ·subst h
  go_enter Tryz.func186,Tryz.ntmps186
  go_wp2_with (go_at_call 233;refine (HN.out _ _).mono ?_;rintro e w1 ⟨rfl,rfl⟩)
  go_ret
  exact ⟨by rw [(h1.out 0).2 (by simp)];rfl,rfl⟩
 ·have ha:(b:Int)<(a:Int):=by omega
  have hn:¬ (a:Int)<(b:Int):=by omega
  have HA:Hid (b<a):=h
  clear h
  go_enter Tryz.func186,Tryz.ntmps186
  go_wp2_with (go_at_call 233;refine (HN.out _ _).mono ?_;rintro e w1 ⟨rfl,rfl⟩)
  go_ret
  exact ⟨by rw [(h1.out 1).2 (by have:=HA.out;rw [if_neg (by omega),if_pos this])];rfl,rfl⟩
theorem tY (a b ta tb:Nat) (w:World) (ha:w.cell? ⟨a,0,none⟩=some (.int .u64 ta)) (hb:w.cell? ⟨b,0,none⟩=some (.int .u64 tb)) :
  Calls Tryz.prog 185 #[.pointer (some ⟨a,0,none⟩),.pointer (some ⟨b,0,none⟩)] w fun e w'=>e = .returned (.int .i64 (Pg.sf ta tb))∧∃ q,w'=w.drewN q:=by
 have HN:Hid (∀ (w:World),Calls Tryz.prog 186 #[.int .u64 ta,.int .u64 tb] w fun e w'=>e = .returned (.int .i64 (Pg.sf ta tb))∧w'=w):=fun w=>ub ta tb w
 generalize Pg.sf ta tb=ct at *
 have ha':w.drew.cell? ⟨a,0,none⟩=some (.int .u64 ta):=ha
 have hb':w.drew.cell? ⟨b,0,none⟩=some (.int .u64 tb):=hb
 go_enter Tryz.func185,Tryz.ntmps185
 go_upto_region 1 with fail
 refine dQ 8 (by kernel_rfl) (by kernel_rfl) ?_
 simp only [List.take_succ_cons,List.take_zero,List.drop_succ_cons,List.drop_zero]
 repeat still_step
 refine wpStill_nil ?_
 go_wp2_with (go_at_call 186;refine (HN.out _).mono ?_;rintro e w1 ⟨rfl,rfl⟩)
 go_ret
 exact ⟨rfl,1,rfl⟩
end
section
namespace Pg
variable {α:Type}
def Srd (f:α→Nat) (L:List α):Prop:=L.Pairwise (fun a b=>f a≤f b)
def Stb (f:α→Nat) (A B:List α):Prop:=∀ k,A.filter (fun x=>f x == k)=B.filter (fun x=>f x == k)
theorem Stb.refl (f:α→Nat) (A:List α):Stb f A A:=fun _=>rfl
theorem Stb.symm {f:α→Nat} {A B:List α} (h:Stb f A B):Stb f B A:=fun k=>(h k).symm
theorem Stb.trans {f:α→Nat} {A B C:List α} (h:Stb f A B) (g:Stb f B C):Stb f A C:=fun k=>(h k).trans (g k)
theorem Stb.mem {f:α→Nat} {A B:List α} (h:Stb f A B) {x:α} (hx:x∈A):x∈B:=by
 have:x∈A.filter (fun y=>f y == f x):=List.mem_filter.2 ⟨hx,by simp⟩
 rw [h] at this
 exact (List.mem_filter.1 this).1
theorem yy {f:α→Nat}:∀ {A B:List α},Srd f A→Srd f B→Stb f A B→A=B
 | [],[],_,_,_=>rfl
 | [],b::B,_,_,h=>by have:=h.symm.mem (List.mem_cons_self);simp at this
 | a::A,[],_,_,h=>by have:=h.mem (List.mem_cons_self);simp at this
 | a::A,b::B,hA,hB,h=>by
  have h1:f a≤f b:=by
   rcases List.mem_cons.1 (h.symm.mem (List.mem_cons_self (a:=b) (l:=B))) with e | e
   ·rw [e];exact Nat.le_refl _
   ·exact (List.pairwise_cons.1 hA).1 _ e
  have h2:f b≤f a:=by
   rcases List.mem_cons.1 (h.mem (List.mem_cons_self (a:=a) (l:=A))) with e | e
   ·rw [e];exact Nat.le_refl _
   ·exact (List.pairwise_cons.1 hB).1 _ e
  have e:f a=f b:=by omega
  have hk:=h (f a)
  have hk2:=hk
  rw [List.filter_cons_of_pos (by simp),List.filter_cons_of_pos (by simp [e])] at hk2
  obtain rfl:a=b:=by injection hk2
  have ht:Stb f A B:=fun k=>by
   have:=h k
   by_cases hh:f a == k
   ·rw [List.filter_cons_of_pos (by simpa using hh),List.filter_cons_of_pos (by simpa using hh)] at this
    injection this
   ·rw [List.filter_cons_of_neg (by simpa using hh),List.filter_cons_of_neg (by simpa using hh)] at this
    exact this
  rw [yy (List.pairwise_cons.1 hA).2 (List.pairwise_cons.1 hB).2 ht]
def mF (f:α→Nat) (x:α):List α→List α
 | []=>[x]
 | y::L=>if f x≤f y then x::y::L else y::mF f x L
def srt (f:α→Nat):List α→List α
 | []=>[]
 | x::L=>mF f x (srt f L)
theorem uR {f:α→Nat} {x y:α}:∀ {L:List α},y∈mF f x L↔y=x∨y∈L
 | []=>by simp [mF]
 | z::L=>by
  unfold mF
  split
  ·simp
  ·rw [List.mem_cons,uR,List.mem_cons]
   constructor
   ·rintro (h | h | h)
    ·exact .inr (.inl h)
    ·exact .inl h
    ·exact .inr (.inr h)
   ·rintro (h | h | h)
    ·exact .inr (.inl h)
    ·exact .inl h
    ·exact .inr (.inr h)
theorem uG {f:α→Nat} {x:α}:∀ {L:List α},Srd f L→Srd f (mF f x L)
 | [],_=>by simp [mF,Srd]
 | y::L,h=>by
  unfold mF
  have h1:=List.pairwise_cons.1 h
  split
  ·next e =>
   refine List.pairwise_cons.2 ⟨fun z hz => ?_,h⟩
   rcases List.mem_cons.1 hz with e' | e'
   ·rw [e'];exact e
   ·exact Nat.le_trans e (h1.1 z e')
  ·next e =>
   refine List.pairwise_cons.2 ⟨fun z hz => ?_,uG h1.2⟩
   rcases uR.1 hz with e' | e'
   ·rw [e'];omega
   ·exact h1.1 z e'
theorem uH {f:α→Nat} {x:α}:∀ {L:List α},Stb f (mF f x L) (x::L)
 | []=>fun _=>rfl
 | y::L=>fun k=>by
  unfold mF
  split
  ·rfl
  ·next e =>
   have ih:=uH (f:=f) (x:=x) (L:=L) k
   rw [List.filter_cons,ih]
   by_cases hx:f x == k <;> by_cases hy:f y == k
   ·have:=beq_iff_eq.1 hx
    have:=beq_iff_eq.1 hy
    omega
   ·simp [hx,hy]
   ·simp [hx,hy]
   ·simp [hx,hy]
theorem l7 (f:α→Nat):∀ L:List α,Srd f (srt f L)
 | []=>List.Pairwise.nil
 | _::L=>uG (l7 f L)
theorem ji (f:α→Nat):∀ L:List α,Stb f (srt f L) L
 | []=>fun _=>rfl
 | x::L=>uH.trans fun k=>by rw [List.filter_cons,ji f L k,List.filter_cons]
theorem xx {f:α→Nat} {A L:List α} (h:Srd f A) (k:Stb f A L):A=srt f L:=yy h (l7 f L) (k.trans (ji f L).symm)
theorem jc {f:α→Nat} {L:List α} {x:α}:x∈srt f L↔x∈L:=⟨(ji f L).mem,(ji f L).symm.mem⟩
theorem yz {β:Type} (g:β→α) (f:α→Nat) (L:List β):(srt (fun x=>f (g x)) L).map g=srt f (L.map g):=by
 refine xx ?_ fun k => ?_
 ·exact List.pairwise_map.2 (l7 (fun x=>f (g x)) L)
 ·rw [List.filter_map,List.filter_map]
  exact congrArg _ (ji (fun x=>f (g x)) L k)
end Pg
end
section
open Go.Sort
namespace Pg
theorem Ep {α:Type} {f:α→Nat} (A B:List α) (x y:α) (h:f x≠f y):Stb f (A++y::x::B) (A++x::y::B):=fun k=>by
 rw [List.filter_append,List.filter_append]
 congr 1
 by_cases hx:f x=k
 ·have hy:¬ f y=k:=fun e=>h (hx.trans e.symm)
  simp [hx,hy]
 ·simp [List.filter_cons,hx]
variable {α:Type} [Inhabited α]
theorem CE (d:Array α) (j:Nat) (hj:j+1<d.size):∃ A B,d.toList=A++d[j]!::d[j+1]!::B∧(swp d (j+1) j).toList=A++d[j+1]!::d[j]!::B:=by
 have hl:d.toList.length=d.size:=by simp
 have e1:d[j]! =d.toList[j]'(by omega):=by rw [getElem!_pos d j (by omega)];simp
 have e2:d[j+1]! =d.toList[j+1]'(by omega):=by rw [getElem!_pos d (j+1) hj];simp
 have hd:d.toList=d.toList.take j++d[j]!::d[j+1]!::d.toList.drop (j+1+1):=by
  rw [e1,e2,← List.drop_eq_getElem_cons (by omega:j+1<d.toList.length),← List.drop_eq_getElem_cons (by omega:j<d.toList.length),List.take_append_drop]
 refine ⟨_,_,hd,?_⟩
 unfold swp
 rw [Array.toList_setIfInBounds,Array.toList_setIfInBounds]
 have hA:(d.toList.take j).length=j:=by rw [List.length_take];omega
 generalize d[j]! =x at *
 generalize d[j+1]! =y at *
 generalize d.toList.take j=A at *
 generalize d.toList.drop (j+1+1)=B at *
 rw [hd,List.set_append_right _ _ (by omega),show j+1-A.length=1 by omega,List.set_append_right _ _ (by omega),show j-A.length=0 by omega]
 rfl
theorem iw (lt:α→α→Bool) (a:Nat):∀ (j:Nat) (d:Array α),(insInner lt a j d).size=d.size
 | 0,d=>rfl
 | j+1,d=>by
  unfold insInner
  split
  ·rw [iw lt a j,swp_size]
  ·rfl
theorem ly {f:α→Nat} {lt:α→α→Bool} (hlt:∀ x y,lt x y=true→f y≠f x) (a:Nat):∀ (j:Nat) (d:Array α),j<d.size→Stb f (insInner lt a j d).toList d.toList
 | 0,d,_=>Stb.refl _ _
 | j+1,d,h=>by
  unfold insInner
  split
  ·next e =>
   obtain ⟨A,B,e1,e2⟩:=CE d j h
   refine (ly hlt a j _ (by rw [swp_size];omega)).trans ?_
   rw [e1,e2]
   simp only [Bool.and_eq_true] at e
   exact Ep A B _ _ (hlt _ _ e.2)
  ·exact Stb.refl _ _
theorem i1 {f:α→Nat} {lt:α→α→Bool} (hlt:∀ x y,lt x y=true→f y≠f x) (a b:Nat):∀ (n i:Nat) (d:Array α),b-i≤n→b≤d.size→Stb f (insOuter lt a b i d).toList d.toList∧(insOuter lt a b i d).size=d.size
 | 0,i,d,hn,hb=>by
  rw [insOuter,if_neg (by omega)]
  exact ⟨Stb.refl _ _,rfl⟩
 | n+1,i,d,hn,hb=>by
  rw [insOuter]
  split
  ·have ih:=i1 hlt a b n (i+1) (insInner lt a i d) (by omega) (by rw [iw];exact hb)
   exact ⟨ih.1.trans (ly hlt a i d (by omega)),ih.2.trans (iw _ _ _ _)⟩
  ·exact ⟨Stb.refl _ _,rfl⟩
theorem DJ (f:α→Nat) (d:Array α):(insertionSort (fun x y=>decide (f x<f y)) d 0 d.size).toList=srt f d.toList:=by
 have hs:=i1 (f:=f) (lt:=fun x y=>decide (f x<f y)) (fun x y h=>by simp at h;omega) 0 d.size d.size (0+1) d (by omega) (Nat.le_refl _)
 have ho:=(insertionSort_holds (lt:=fun x y=>decide (f x<f y)) ⟨fun x=>by simp,fun x y z h1 h2=>by simp at *;omega,fun x y z h1 h2=>by simp at *;omega⟩ d 0 d.size (Nat.zero_le _) (Nat.le_refl _)).2
 refine xx ?_ hs.1
 refine List.pairwise_iff_getElem.2 fun i j hi hj hij => ?_
 have hsz:(insertionSort (fun x y=>decide (f x<f y)) d 0 d.size).size=d.size:=hs.2
 have hj':j<d.size:=by rw [← hsz];simpa using hj
 have h:=ho i j (Nat.zero_le _) hij hj'
 rw [getElem!_pos _ i (by rw [hsz];omega),getElem!_pos _ j (by rw [hsz];omega)] at h
 simp only [decide_eq_false_iff_not,Nat.not_lt] at h
 simpa using h
theorem Br (f:α→Nat) (d:Array α):(insertionSort (fun x y=>decide (f x<f y)) d 0 d.size).size=d.size :=
 (i1 (f:=f) (lt:=fun x y=>decide (f x<f y)) (fun x y h=>by simp at h;omega) 0 d.size d.size (0+1) d (by omega) (Nat.le_refl _)).2
end Pg
end
section
open Go.RowKit Go.Proofs Go.Shelf
def Tryz.ni:Go.Shelf.Ren:=⟨fun | 20=>280 | n=>n,fun | 22=>302 | 24=>142 | 25=>353 | n=>n,fun | n=>n⟩
theorem Tryz.DT:Go.Proofs.SlLaysF.n20 Tryz.prog Tryz.ni:={
 mixed:=by kernel_rfl
 f20 := ⟨ "slices.insertionSortCmpFunc[*charts/wheels.node[charts/run.timer]]",by decide,Tryz.func280.trans (congrArg some (by kernel_rfl))⟩
 t0:=Tryz.underlying0
 a0:=Tryz.isAgg0
 z0:=Tryz.sizeOf0
 v0:=Tryz.zeroValue0
 t3:=Tryz.underlying3
 a3:=Tryz.isAgg3
 z3:=Tryz.sizeOf3
 v3:=Tryz.zeroValue3
 t4:=Tryz.underlying4
 a4:=Tryz.isAgg4
 z4:=Tryz.sizeOf4
 v4:=Tryz.zeroValue4
 t22:=Tryz.underlying302
 a22:=Tryz.isAgg302
 z22:=Tryz.sizeOf302
 v22:=Tryz.zeroValue302
 a24:=Tryz.isAgg142
 z24:=Tryz.sizeOf142
 t25:=Tryz.underlying353
 a25:=Tryz.isAgg353
 z25:=Tryz.sizeOf353
 v25:=Tryz.zeroValue353 }
namespace Pg
def ndC (x:Nd):List Value:=[ndP x.1]
abbrev NdS (W:World) (base:Nat) (sv:Value) (L:List Nd):Prop:=W.ownsRow base 142 1 sv L.length (L.flatMap ndC)
theorem nN (L:List Nd):L.flatMap ndC=L.map (fun x=>ndP x.1):=by
 induction L with
 | nil=>rfl
 | cons x L ih=>rw [List.flatMap_cons,ih];rfl
variable {α:Type} [Inhabited α]
theorem z8 {enc:α→Value} {w:World} {g o:Nat} {d:Array α} {cur:Array Value} {t:TypeId} {fz:Nat×Nat} (h:w.heap[g]?=some (.cells cur t fz)):(Sort.putRow enc w g o d).heap[g]?=some (.cells (Sort.putCells enc o d cur) t fz):=by
 simp [Sort.putRow,Sort.mapBlock,Array.getElem?_modify,h,Sort.onCells]
theorem Aa (enc:α→Value) (w:World) (g o:Nat) (d:Array α) (n:Nat):Mo (· = g) w ((Sort.putRow enc w g o d).drewN n):=⟨rfl,rfl,rfl,by show w.heap.size≤(Sort.putRow enc w g o d).heap.size;simp [Sort.putRow,Sort.mapBlock],fun k _ hk=>by
 show (Sort.putRow enc w g o d).heap[k]?=_
 have hk':¬ g=k:=fun e=>hk e.symm
 simp [Sort.putRow,Sort.mapBlock,Array.getElem?_modify,hk']⟩
theorem Bc (a b:Nat):decide (sf a b<0)=decide (a<b):=by
 unfold sf
 by_cases h:a<b
 ·simp [h]
 ·by_cases h2:b<a <;> simp [h,h2]
end Pg
theorem uD (w:World) (g cap:Nat) (L:List Pg.Nd) (cur:Array Value) (hne:L≠[]) (hl:L.length≤1000) (hg:w.heap[g]?=some (.cells cur 142 (0,0))) (hcur:∀ (j:Nat) (x:Pg.Nd),L[j]?=some x→cur[j]?=some (Pg.ndP x.1)) (hN:∀ x∈L,x.1≠g∧w.cell? ⟨x.1,0,none⟩=some (.int .u64 x.2.t)) :
  Calls Tryz.prog 280 #[.slice (some ⟨g,0,none⟩) L.length cap,.int .i64 0,.int .i64 L.length,.func (.func 185) #[] #[]] w fun e w'=>e = .returned (.tuple #[])∧(∃ cur',w'.heap[g]?=some (.cells cur' 142 (0,0))∧cur'.size=cur.size∧∀ (j:Nat) (x:Pg.Nd),(Pg.srt (fun y:Pg.Nd=>y.2.t) L)[j]?=some x→cur'[j]?=some (Pg.ndP x.1))∧Mo (· = g) w w':=by
 obtain ⟨x0,hx0⟩:∃ x,x∈L:=List.exists_mem_of_ne_nil L hne
 haveI:Inhabited { x:Pg.Nd // x∈L }:=⟨⟨x0,hx0⟩⟩
 have hds:L.attach.toArray.size=L.length:=by simp
 have hgs:g<w.heap.size:=(Array.getElem?_eq_some_iff.1 hg).1
 have hfr:∀ i,w.frozen? ⟨g,i,none⟩=false:=fun i=>by simp [World.frozen?,hg]
 have hd!:∀ j (hj:j<L.length),L.attach.toArray[j]! =⟨L[j],List.getElem_mem hj⟩:=fun j hj=>by
  rw [getElem!_pos _ j (by rw [hds];exact hj)]
  simp
 have hlt:ltOf (fun (x y:{ x:Pg.Nd // x∈L })=>Pg.sf x.1.2.t y.1.2.t)=fun x y=>decide (x.1.2.t<y.1.2.t):=by
  funext x y
  exact Pg.Bc _ _
 have h:=Any.insertionSortCmpFunc_one (P:=Tryz.prog) (ρ:=Tryz.ni) Tryz.DT (α:={ x:Pg.Nd // x∈L }) (fun x=>Pg.ndP x.1.1) (fun _=>rfl) (fun x y=>Pg.sf x.1.2.t y.1.2.t) 185 #[] g 0 cap 0 L.length L.attach.toArray w
  (enters_of Tryz.func185 (by kernel_rfl) rfl)
  (fun m os dk hdk x y=>by
   have hc:∀ z:{ x:Pg.Nd // x∈L },(sortWorld (fun x:{ x:Pg.Nd // x∈L }=>Pg.ndP x.1.1) w g 0 m dk os).cell? ⟨z.1.1,0,none⟩=some (.int .u64 z.1.2.t):=fun z=>by
    obtain ⟨h1,h2⟩:=hN z.1 z.2
    have hzl:z.1.1<w.heap.size:=World.block_lt_of_cell? _ _ h2
    unfold sortWorld
    rw [Sort.cell?_grow _ _ ⟨z.1.1,0,none⟩ (by simp [Sort.putRow,Sort.mapBlock];exact hzl),Sort.cell?_putRow_other _ _ _ _ _ _ (.inl h1)]
    exact h2
   exact tY _ _ _ _ _ (hc x) (hc y))
  (fun j hj=>by
   rw [hds] at hj
   rw [hd! j hj,Nat.zero_add]
   exact ⟨by rw [cell_of_row w _ _ _ _ _ hg];exact hcur j _ (List.getElem?_eq_getElem hj),hfr j⟩) (Nat.zero_le _) (by rw [hds];exact Nat.le_refl _) (by rw [hds];omega)
 rw [hlt,hds] at h
 refine Calls.mono h ?_
 rintro e w' ⟨rfl,n,rfl⟩
 have hs:=Pg.DJ (fun x:{ x:Pg.Nd // x∈L }=>x.1.2.t) L.attach.toArray
 have hz:=Pg.Br (fun x:{ x:Pg.Nd // x∈L }=>x.1.2.t) L.attach.toArray
 rw [hds] at hs hz
 refine ⟨rfl,⟨_,Pg.z8 hg,by simp [Sort.putCells],fun j x hx => ?_⟩,Pg.Aa _ _ _ _ _ _⟩
 have hm:(Sort.insertionSort (fun x y:{ x:Pg.Nd // x∈L }=>decide (x.1.2.t<y.1.2.t)) L.attach.toArray 0 L.length).toList.map (·.1)=Pg.srt (fun y:Pg.Nd=>y.2.t) L:=by
  rw [hs,Pg.yz (fun x:{ x:Pg.Nd // x∈L }=>x.1) (fun y:Pg.Nd=>y.2.t)]
  congr 1
  exact List.attach_map_subtype_val L
 generalize Sort.insertionSort (fun x y:{ x:Pg.Nd // x∈L }=>decide (x.1.2.t<y.1.2.t)) L.attach.toArray 0 L.length=S at *
 rw [← hm] at hx
 have hjS:j<S.size:=by
  have:=(List.getElem?_eq_some_iff.1 hx).1
  simpa using this
 have hjc:j<cur.size:=(Array.getElem?_eq_some_iff.1 (hcur j _ (List.getElem?_eq_getElem (by omega)))).1
 rw [List.getElem?_map,List.getElem?_eq_getElem (by simpa using hjS)] at hx
 simp only [Option.map_some,Option.some.injEq] at hx
 unfold Sort.putCells
 rw [Array.getElem?_mapIdx,Array.getElem?_eq_getElem hjc]
 simp only [Option.map_some]
 rw [if_pos ⟨Nat.zero_le _,by omega⟩,Nat.sub_zero,getElem!_pos _ j hjS,← hx]
 simp
theorem uE (w:World) (sv:Value) (hsv:∃ a c,sv = .slice a 0 c):Calls Tryz.prog 280 #[sv,.int .i64 0,.int .i64 0,.func (.func 185) #[] #[]] w fun e w'=>e = .returned (.tuple #[])∧w'=w:=by
 obtain ⟨a,c,rfl⟩:=hsv
 go_enter Tryz.func280,Tryz.ntmps280
 go_wp2
 refine wp_loop_rounds 1 ?_
 rw [rounds_succ]
 go_wp2
 go_end0
 exact ⟨rfl,rfl⟩
namespace Pg
def NdT (W:World) (L:List Nd):Prop:=∀ x∈L,(∃ c,W.heap[x.1]?=some (.cells c 250 (0,0)))∧W.cell? ⟨x.1,0,none⟩=some (.int .u64 x.2.t)
theorem bX.ndT {W:World} {L:List Nd} (h:bX W L):NdT W L:=fun x hx=>by
 obtain ⟨i,hi⟩:=List.getElem?_of_mem hx
 have:=h i x hi
 exact ⟨⟨_,this⟩,by rw [cell_of_row W _ _ _ _ _ this];rfl⟩
theorem ts {α:Type} (f:α→Nat):∀ L:List α,(srt f L).length=L.length
 | []=>rfl
 | x::L=>by
  have h:∀ (M:List α),(mF f x M).length=M.length+1:=fun M=>by
   induction M with
   | nil=>rfl
   | cons y M ih =>
    unfold mF
    split
    ·rfl
    ·rw [List.length_cons,ih,List.length_cons]
  show (mF f x (srt f L)).length=_
  rw [h,ts f L,List.length_cons]
end Pg
theorem uF (w:World) (base:Nat) (sv:Value) (L:List Pg.Nd) (h:Pg.NdS w base sv L) (hl:L.length≤1000) (hN:Pg.NdT w L) :
  Calls Tryz.prog 280 #[sv,.int .i64 0,.int .i64 L.length,.func (.func 185) #[] #[]] w fun e w'=>e = .returned (.tuple #[])∧Pg.NdS w' base sv (Pg.srt (fun y:Pg.Nd=>y.2.t) L)∧Mo (fun k=>sv.ownBlock=some k) w w':=by
 by_cases hne:L=[]
 ·subst hne
  have hsv:∃ a c,sv = .slice a 0 c:=by
   rcases h.2 with ⟨e,_⟩ | ⟨g,cap,cur,e,_⟩
   ·exact ⟨none,0,e⟩
   ·exact ⟨_,_,e⟩
  refine Calls.mono (uE w sv hsv) ?_
  rintro e w' ⟨rfl,rfl⟩
  exact ⟨rfl,h,Mo.refl _ _⟩
 ·have hlen:=Pg.ts (fun y:Pg.Nd=>y.2.t) L
  rcases h.2 with ⟨e,h0⟩ | ⟨g,cap,cur,e,hb,hg,hle,hcap,hsz,htk⟩
  ·exact absurd (List.length_eq_zero_iff.1 h0) hne
  ·subst e
   rw [Pg.nN,Nat.mul_one] at htk
   refine Calls.mono (uD w g cap L cur hne hl hg (fun j x hx => ?_) (fun x hx=>⟨fun e => ?_,(hN x hx).2⟩)) ?_
   ·have hj:=(List.getElem?_eq_some_iff.1 hx).1
    have:=congrArg (fun l:List Value=>l[j]?) htk
    rw [List.getElem?_take_of_lt hj,List.getElem?_map,hx,Array.getElem?_toList] at this
    exact this
   ·obtain ⟨c,hc⟩:=(hN x hx).1
    rw [e,hg] at hc
    simp at hc
   ·rintro e w' ⟨rfl,⟨cur',hg',hs',hc'⟩,hm⟩
    refine ⟨rfl,?_,hm.mono (fun k _ hk=>by rw [hk];rfl)⟩
    unfold Pg.NdS
    rw [hlen]
    refine ⟨by rw [Pg.nN,List.length_map,hlen,Nat.mul_one],.inr ⟨g,cap,cur',rfl,hb,hg',hle,hcap,by omega,?_⟩⟩
    rw [Pg.nN,Nat.mul_one]
    refine List.ext_getElem? fun j => ?_
    by_cases hj:j<L.length
    ·rw [List.getElem?_take_of_lt hj,List.getElem?_map,Array.getElem?_toList,List.getElem?_eq_getElem (by rw [hlen];exact hj),hc' j _ (List.getElem?_eq_getElem (by rw [hlen];exact hj))]
     rfl
    ·rw [List.getElem?_eq_none (by rw [List.length_take];omega),List.getElem?_eq_none (by rw [List.length_map,hlen];omega)]
theorem xy (w:World) (base:Nat) (sv:Value) (L:List Pg.Nd) (h:Pg.NdS w base sv L) (hl:L.length≤19) (hN:Pg.NdT w L) :
  Calls Tryz.prog 257 #[sv,.int .i64 L.length,.func (.func 185) #[] #[]] w fun e w'=>e = .returned (.tuple #[])∧Pg.NdS w' base sv (Pg.srt (fun y:Pg.Nd=>y.2.t) L)∧Mo (fun k=>sv.ownBlock=some k) w w':=by
 have HI:Hid _:=uF w base sv L h (by omega) hN
 have h1:¬ (20:Int)≤(L.length:Int):=by omega
 have h2:¬ (20:Int)<(L.length:Int):=by omega
 generalize hn:L.length=n at *
 have HL:Hid (n≤19):=hl
 clear h hN hn hl
 go_enter Tryz.func257,Tryz.ntmps257
 go_wp2
 refine wp_loop_rounds 1 ?_
 rw [rounds_succ]
 go_wp2_with (go_at_call 280;refine Calls.mono HI.out ?_;rintro e w1 ⟨rfl,h3⟩)
 refine wp_loop_rounds 1 ?_
 rw [rounds_succ]
 go_wp2
 go_end0
 exact ⟨rfl,h3⟩
theorem pt (w:World) (base:Nat) (sv:Value) (L:List Pg.Nd) (h:Pg.NdS w base sv L) (hl:L.length≤19) (hN:Pg.NdT w L) :
  Calls Tryz.prog 232 #[sv,.func (.func 185) #[] #[]] w fun e w'=>e = .returned (.tuple #[])∧Pg.NdS w' base sv (Pg.srt (fun y:Pg.Nd=>y.2.t) L)∧Mo (fun k=>sv.ownBlock=some k) w w':=by
 have HI:Hid _:=xy w base sv L h hl hN
 obtain ⟨sa,sc,rfl⟩:∃ a c,sv = .slice a L.length c:=by
  rcases h.2 with ⟨e,h0⟩ | ⟨g,cap,cur,e,_⟩
  ·exact ⟨none,0,by rw [e,h0]⟩
  ·exact ⟨_,_,e⟩
 clear h hN
 go_enter Tryz.func232,Tryz.ntmps232
 go_wp2_with (go_at_call 257;refine Calls.mono HI.out ?_;rintro e w1 ⟨rfl,h3⟩)
 go_end0
 exact ⟨rfl,h3⟩
attribute [local go_sem] Oper.semAt_some
theorem Tryz.DH:(Tryz.prog.info? 142).map (fun i=>(i.zero,i.size,i.bytes))=some (some (.pointer none),1,8):=by kernel_rfl
namespace Pg
theorem KpM.bel {n:Nat} {W W':World} (h:Below n W W'):KpM (fun k=>n≤k) W W':=⟨h.size,fun k _ _ _ hk hn=>(h.block k (by omega)).trans hk⟩
end Pg
theorem pP (w:World) (Bs:Nat) (L:List Pg.Nd) (hnd:(L.map (·.1)).Nodup) (hb:w.cell? ⟨Bs,0,none⟩=some (Pg.aG L)) (hR:Pg.bX w L) (hl:L.length≤19) :
  Calls Tryz.prog 256 #[.slice none 0 0,.func (.func 204) #[] #[.pointer (some ⟨Bs,0,none⟩)]] w fun e w'=>∃ sl:Ref.Sl,e = .returned (.slice sl.a sl.n sl.c)∧Pg.NdS w' w.heap.size (.slice sl.a sl.n sl.c) L∧Below w.heap.size w w':=by
 obtain ⟨i0,hi,hz0,hz1,hz2⟩:=info_parts Tryz.DH
 have hBs:Bs<w.heap.size:=World.block_lt_of_cell? _ _ hb
 refine (callsIn_wide (n:=8)).1 ?_
 refine callsIn_of_wp_marks Tryz.func256 rfl trivial ?_ rfl
 simp only [Tryz.ntmps256,List.size_toArray,List.length_cons,List.length_nil,Nat.reduceAdd,Nat.reduceSub,Array.replicate_succ,Array.replicate_zero,List.push_toArray,List.append_toArray,List.nil_append,List.cons_append]
 gi_wp2
 have c9:=Boxed.new w 302 (.slice none 0 0)
 have hB0:Below w.heap.size w (w.alloc (.cells #[.slice none 0 0] 302)):=(Below.refl _ w).alloc (Nat.le_refl _) _
 have hsz:(w.alloc (.cells #[.slice none 0 0] 302)).heap.size=w.heap.size+1:=by simp
 generalize w.alloc (.cells #[.slice none 0 0] 302)=W0 at *
 have hN0:Pg.bX W0 L:=fun i x hx=>(hB0.block x.1 (Array.getElem?_eq_some_iff.1 (hR i x hx)).1).trans (hR i x hx)
 refine wpIn_rangeFunc_ownH rfl (by omega) (gf:=204) rfl trivial (enters_of Tryz.func204 (by kernel_rfl) rfl)
  (nj (8-1) (by omega) Bs L hnd (fun k=>w.heap.size≤k) W0 ((hB0.cell (p:=⟨Bs,0,none⟩) hBs).trans hb) hN0 (by omega) (fun x hx h=>by
   obtain ⟨i,hi⟩:=List.mem_iff_getElem?.1 hx
   have:=(Array.getElem?_eq_some_iff.1 (hR i x hi)).1
   omega)) KpM.tr (fun V l o o' _ h hc _=>KpM.put V l o o' h hc) (Below.refl _ _) (fun _=>rfl)
  (fun pre W=>(∃ v,Boxed W w.heap.size 302 v∧W.ownsRow w.heap.size 142 1 v pre.length (pre.flatMap Pg.ndC)∧∃ sl:Ref.Sl,v = .slice sl.a sl.n sl.c)∧Below w.heap.size w W)
  (fun _ _ _=>False)
  (OwnFrom.and (Own.from (holdsRow_own w.heap.size w.heap.size 302 142 1 (fun pre:List Pg.Nd=>pre.length) (fun pre=>pre.flatMap Pg.ndC) (fun _ v=>∃ sl:Ref.Sl,v = .slice sl.a sl.n sl.c)) _) (ownFrom_below (Nat.le_refl _) (by omega)))
  (fun _ _ _ _ _ hs _ _=>hs)
  ⟨⟨_,c9,World.ownsRow_nil _ _ _ _,⟨none,0,0⟩,rfl⟩,hB0⟩
  (fun x a' _=>a'={ tmps:=#[.slice none 0 0,.func (.func 204) #[] #[.pointer (some ⟨Bs,0,none⟩)],.pointer (some ⟨w.heap.size,0,none⟩),undef,.slice none 0 0,.pointer (some ⟨x.1,0,none⟩),.func (.func 204) #[] #[.pointer (some ⟨Bs,0,none⟩)],.pointer (some ⟨x.1,0,none⟩),undef,undef,undef,undef,undef],defers:=[] })
  (fun _ _ _ _ _ _ hs _ _=>hs)
  ?assign ?body ?done ?stop
 case assign =>
  intro l pre x W K hI hK
  gi_wp2
  exact hK _ _ (KeepsFrom.refl _ _) (KpM.refl _ _) hI rfl
 case body =>
  rintro l pre x a' W _ _ ⟨⟨v,h9,hrow,sl,rfl⟩,hBW⟩ rfl hlt
  have d9:=h9.cell
  have f9:=h9.frozen
  have hsW:=hBW.size
  gi_wp2_with (gi_at_builtin;refine wpListIn_append_own _ rfl _ _ 302 rfl w.heap.size 142 i0 (.pointer none) 1 8 Tryz.underlying302 hi hz0 hz1 hz2 rfl (by decide) _ _ _ rfl (hrow.alloc _) ⟨W.heap.size,0,none⟩ 1 1 [.pointer (some ⟨x.1,0,none⟩)] rfl rfl (cell_one_new _ _ _) (by simp [Value.oneCell']) (by unfold maxLen;omega) (by omega) (by simp;omega) ?_;intro v' w1 hown' hgrow _;obtain ⟨g',cap',rfl⟩:=ownsRow_succ hown';obtain ⟨hv1,hv2,hr2,hk2,hb2⟩:=h9.appended (by decide) hrow hsW (by omega) hown' hgrow;have hc1:=hv1.cell;have hf1:=hv1.frozen)
  exact ⟨hk2.from _,Pg.KpM.bel hb2,⟨_,hv2,by simpa [Pg.ndC,Pg.ndP] using hr2,⟨some ⟨g',0,none⟩,pre.length+1,cap'⟩,rfl⟩,hBW.trans hb2⟩
 case done =>
  rintro D ys W hD hys ⟨⟨v,h9,hrow,sl,rfl⟩,hBW⟩ hK
  have hc:=h9.cell
  rw [hys] at hrow
  gi_wp2
  refine ⟨by simp,.inl ⟨_,_,rfl,run_takeDeferred hK,?_⟩⟩
  exact ⟨_,results_tmp rfl _ _ _,sl,rfl,ownsRow_putObj hrow _ hK rfl,hBW.trans (belowK_b (w:=w) (Nat.le_refl _) W D _ _ (by omega) hK rfl rfl)⟩
 case stop =>
  rintro D c pre W _ _ h _
  exact h.elim
theorem ua (w:World) (Bs:Nat) (L:List Pg.Nd) (hnd:(L.map (·.1)).Nodup) (hb:w.cell? ⟨Bs,0,none⟩=some (Pg.aG L)) (hR:Pg.bX w L) (hl:L.length≤19) :
  Calls Tryz.prog 231 #[.func (.func 204) #[] #[.pointer (some ⟨Bs,0,none⟩)]] w fun e w'=>∃ sl:Ref.Sl,e = .returned (.slice sl.a sl.n sl.c)∧Pg.NdS w' w.heap.size (.slice sl.a sl.n sl.c) L∧Below w.heap.size w w':=by
 have HI:Hid _:=pP w Bs L hnd hb hR hl
 clear hnd hb hR
 go_enter Tryz.func231,Tryz.ntmps231
 go_wp2_with (go_at_call 256;refine Calls.mono HI.out ?_;rintro e w1 ⟨sl,rfl,h3⟩)
 go_ret
 exact ⟨sl,rfl,h3⟩
theorem mP (w:World) (Bs:Nat) (L:List Pg.Nd) (hnd:(L.map (·.1)).Nodup) (hb:w.cell? ⟨Bs,0,none⟩=some (Pg.aG L)) (hR:Pg.bX w L) (hl:L.length≤19) :
  Calls Tryz.prog 184 #[.func (.func 204) #[] #[.pointer (some ⟨Bs,0,none⟩)],.func (.func 185) #[] #[]] w fun e w'=>∃ sl:Ref.Sl,e = .returned (.slice sl.a sl.n sl.c)∧Pg.NdS w' w.heap.size (.slice sl.a sl.n sl.c) (Pg.srt (fun y:Pg.Nd=>y.2.t) L)∧Below w.heap.size w w':=by
 have HI:Hid _:=ua w Bs L hnd hb hR hl
 have HS:Hid (∀ (V:World) (sl:Ref.Sl),Hid (Pg.NdS V w.heap.size (.slice sl.a sl.n sl.c) L∧Below w.heap.size w V)→Calls Tryz.prog 232 #[.slice sl.a sl.n sl.c,.func (.func 185) #[] #[]] V fun e w'=>e = .returned (.tuple #[])∧Hid (Pg.NdS w' w.heap.size (.slice sl.a sl.n sl.c) (Pg.srt (fun y:Pg.Nd=>y.2.t) L)∧Below w.heap.size w w')):=fun V sl hV=>by
  have hN:Pg.bX V L:=fun i x hx=>(hV.out.2.block x.1 (Array.getElem?_eq_some_iff.1 (hR i x hx)).1).trans (hR i x hx)
  refine Calls.mono (pt V w.heap.size _ L hV.out.1 hl hN.ndT) ?_
  rintro e w' ⟨rfl,h1,h2⟩
  refine ⟨rfl,h1,h2.below hV.out.2 hV.out.2.size (fun i hi e => ?_)⟩
  rcases hV.out.1.2 with ⟨e',_⟩ | ⟨g,cap,cur,e',hb,_⟩
  ·rw [e'] at e;cases e
  ·rw [e'] at e
   have:g=i:=by simpa [Value.ownBlock] using e
   omega
 clear hnd hb hR
 go_enter Tryz.func184,Tryz.ntmps184
 go_wp2_with (first
  | (go_at_call 231;refine Calls.mono HI.out ?_;rintro e w1 ⟨sl,rfl,h3⟩)
  | (go_at_call 232;refine Calls.mono (HS.out _ sl h3) ?_;rintro e w2 ⟨rfl,h4⟩))
 go_ret
 exact ⟨sl,rfl,h4⟩
theorem v7 (w:World) (L:List Pg.Nd) (hnd:(L.map (·.1)).Nodup) (hR:Pg.bX w L) (hl:L.length≤19) :
  Calls Tryz.prog 149 #[.agg #[Pg.aG L]] w fun e w'=>∃ sl:Ref.Sl,e = .returned (.slice sl.a sl.n sl.c)∧Pg.NdS w' w.heap.size (.slice sl.a sl.n sl.c) (Pg.srt (fun y:Pg.Nd=>y.2.t) L)∧Below w.heap.size w w':=by
 have hsh:Pg.aG L = .pointer none∨∃ b,Pg.aG L = .pointer (some ⟨b,0,none⟩):=by
  unfold Pg.aG
  cases L.getLast? with
  | none=>exact .inl rfl
  | some z=>exact .inr ⟨z.1,rfl⟩
 have HT:Hid (∀ (V:World) (Bs:Nat),V.cell? ⟨Bs,0,none⟩=some (Pg.aG L)→Hid (Below w.heap.size w V)→Calls Tryz.prog 184 #[.func (.func 204) #[] #[.pointer (some ⟨Bs,0,none⟩)],.func (.func 185) #[] #[]] V fun e w'=>∃ sl:Ref.Sl,e = .returned (.slice sl.a sl.n sl.c)∧Hid (Pg.NdS w' w.heap.size (.slice sl.a sl.n sl.c) (Pg.srt (fun y:Pg.Nd=>y.2.t) L)∧Below w.heap.size w w')):=fun V Bs hc hV=>by
  have hN:Pg.bX V L:=fun i x hx=>(hV.out.block x.1 (Array.getElem?_eq_some_iff.1 (hR i x hx)).1).trans (hR i x hx)
  refine Calls.mono (mP V Bs L hnd hc hN hl) ?_
  rintro e w' ⟨sl,rfl,h1,h2⟩
  exact ⟨sl,rfl,aD h1 hV.out.size,hV.out.trans (h2.mono hV.out.size)⟩
 have HB:Hid (∀ o1 o2:Obj,Below w.heap.size w ((w.alloc o1).alloc o2)):=fun o1 o2=>((Below.refl _ w).alloc (Nat.le_refl _) _).alloc (by simp) _
 clear hnd hR
 obtain ⟨rv,hrv⟩:∃ rv,Pg.aG L=rv:=⟨_,rfl⟩
 have HNO:Hid (∀ V,Calls Tryz.prog 171 #[.agg #[rv]] V fun e w'=>e = .returned (.func (.func 204) #[] #[.pointer (some ⟨V.heap.size,0,none⟩)])∧w'=V.alloc (.cells #[rv] 144)):=fun V=>mJ rv V (hrv ▸ hsh)
 rw [hrv] at HT ⊢
 have HC:Hid (((w.alloc (.cells #[rv] 144)).alloc (.cells #[rv] 144)).cell? ⟨w.heap.size+1,0,none⟩=some rv):=by
  unfold Hid
  simp
 rw [hrv] at hsh
 have HSH:Hid _:=hsh
 clear hrv
 rcases HSH.out with rfl | ⟨b,rfl⟩
 all_goals
  clear hsh HSH
  go_enter Tryz.func149,Tryz.ntmps149
  go_wp2_with (first
   | (go_at_call 171;refine Calls.mono (HNO.out _) ?_;rintro e w1 ⟨rfl,hw1⟩;rw [hw1];clear hw1 w1)
   | (go_at_call 184;refine Calls.mono (HT.out _ _ HC.out (HB.out _ _)) ?_;rintro e w2 ⟨sl,rfl,h4⟩))
  go_ret
  exact ⟨sl,rfl,h4⟩
attribute [local go_sem] Oper.semAt_some
namespace Pg
def byT (R:Nat→List Nd) (r:Nat):List Nd:=srt (fun y:Nd=>y.2.t) (R r)
def tP (R:Nat→List Nd) (hv:Nat→Nat):List Nd:=(eL hv).flatMap (byT R)
theorem uu {α β:Type} {f:α→List β} {a b:List α} (h:a <+: b):a.flatMap f <+: b.flatMap f:=by
 obtain ⟨t,rfl⟩:=h
 rw [List.flatMap_append]
 exact List.prefix_append _ _
theorem Af (l:List Nd):aG l = .pointer none∨∃ b,aG l = .pointer (some ⟨b,0,none⟩):=by
 unfold aG
 cases l.getLast? with
 | none=>exact .inl rfl
 | some z=>exact .inr ⟨z.1,rfl⟩
structure FR (w:World) (mb:Nat) (R:Nat→List Nd) (hv:Nat→Nat) (B:Nat→Prop):Prop where
 rd:∀ Bs V,KpM B w V→V.cell? ⟨Bs,0,none⟩=some (.pointer (some ⟨mb,27,none⟩))→vS V Bs mb R hv
 nds:∀ r,isR r→bX w (R r)
 nod:∀ r,isR r→((R r).map (·.1)).Nodup
 len:∀ r,isR r→(R r).length≤19
 far:∀ r,isR r→∀ x∈R r,¬ B x.1
 mb':¬ B mb
 tab':¬ B 2
 lt:∀ k,B k→k<w.heap.size
theorem KpN.lo {B:Nat→Prop} {m n:Nat} {V V':World} (h:KpN B m V V') (hmn:m≤n):KpN B n V V':=⟨h.1,h.2.size,fun k o hk ho hc=>h.2.same k o (by omega) ho hc⟩
end Pg
theorem BW (n:Nat) (hn:6≤n) (Bs mb:Nat) (R:Nat→List Pg.Nd) (hv:Nat→Nat) (hvl:∀ k,k<6→hv k<18446744073709551616) (B:Nat→Prop) (w:World) (hN:Pg.FR w mb R hv B) (hc:w.cell? ⟨Bs,0,none⟩=some (.pointer (some ⟨mb,27,none⟩))) (hBs:¬ B Bs) :
  AE Fence.wide n Tryz.prog 147 #[.pointer (some ⟨Bs,0,none⟩)] (fun x:Pg.Nd=>#[Value.pointer (some ⟨x.1,0,none⟩)]) (KpN B (w.heap.size+2)) (fun _ x=>∃ r,Pg.isR r∧x∈R r) (fun xs=>xs=Pg.tP R hv) (fun xs=>xs <+: Pg.tP R hv) w:=fun l J Jx W hW hWs hJ hJx hY h0=>by
 have hcW:=(KpM.below (B:=B) hW).cell hc hBs
 have hn1:1≤n:=by omega
 refine callsIn_of_wp_marks Tryz.func147 rfl trivial ?_ rfl
 simp only [Tryz.ntmps147,List.size_toArray,List.length_cons,List.length_nil,Nat.reduceAdd,Nat.reduceSub,Array.replicate_succ,Array.replicate_zero,List.push_toArray,List.append_toArray,List.nil_append,List.cons_append]
 have hc1:(W.alloc (.cells #[.func (.yield l) #[] #[]] 298)).cell? ⟨Bs,0,none⟩=_:=(KpM.below (B:=fun _=>False) ((Below.refl _ W).alloc (Nat.le_refl _) _)).cell hcW (fun h=>h)
 gi_wp2_with (refine ⟨trivial,?_⟩;gi_at_call 148;refine (callsIn_wide.2 (rh mb 27 _)).mono ?_;rintro e w9 ⟨rfl,hw9⟩;rw [hw9];clear hw9 w9)
 have hB1:Below W.heap.size W ((W.alloc (.cells #[.func (.yield l) #[] #[]] 298)).alloc (.cells #[.pointer (some ⟨mb,27,none⟩)] 198)):=((Below.refl _ W).alloc (Nat.le_refl _) _).alloc (by simp) _
 have by1:=(Boxed.new W 298 (.func (.yield l) #[] #[])).alloc (.cells #[.pointer (some ⟨mb,27,none⟩)] 198)
 have bx1:=Boxed.new (W.alloc (.cells #[.func (.yield l) #[] #[]] 298)) 198 (.pointer (some ⟨mb,27,none⟩))
 simp only [World.size_alloc] at bx1
 have hJ1:J [] ((W.alloc (.cells #[.func (.yield l) #[] #[]] 298)).alloc (.cells #[.pointer (some ⟨mb,27,none⟩)] 198)):=hJ.alloc _ (hJ.alloc _ h0)
 have hs1:((W.alloc (.cells #[.func (.yield l) #[] #[]] 298)).alloc (.cells #[.pointer (some ⟨mb,27,none⟩)] 198)).heap.size=W.heap.size+2:=by simp
 generalize (W.alloc (.cells #[.func (.yield l) #[] #[]] 298)).alloc (.cells #[.pointer (some ⟨mb,27,none⟩)] 198)=W1 at *
 have hK1:KpM B w W1:=(KpM.below hW).tr (KpM.below hB1)
 have hlt:=hN.lt
 have hsh:=fun r=>Pg.Af (R r)
 have hdr:∀ {K:List Pg.Nd→World→Prop},OwnFrom W.heap.size K→∀ xs A C,Below A.heap.size A C→K xs A→K xs C:=fun {K} hK xs A C hb h=>hK xs A C none h ⟨hb.os,hb.tape,hb.output,hb.size,fun k hk _=>hb.block k hk⟩ (fun r e=>by cases e)
 refine vg rfl (by omega) (gf:=182) rfl trivial (enters_of Tryz.func182 (by kernel_rfl) rfl)
  (Ck (n-1) (by omega) (W.heap.size+1) mb R hv hvl B W1 (hN.rd _ W1 hK1 bx1.cell) (fun h=>by have:=hlt _ h;have:=hW.size;omega) hN.mb' hN.tab' (fun k h=>by have:=hlt k h;have:=hW.size;omega))
  KpN.tr (fun V o o' h ho=>KpN.put (by omega) V o o' h ho) (fun _=>rfl)
  (fun rs V=>J (rs.flatMap (Pg.byT R)) V∧KpN B (w.heap.size+2) W1 V) (fun rs V=>∃ ys,ys <+: rs.flatMap (Pg.byT R)∧Jx ys V)
  (OwnFrom.and (fun rs A C row h hg hr=>hJ _ A C row h hg (fun r e=>⟨by have:=(hr r e).1;omega,(hr r e).2⟩)) (KpN.own (Nat.le_refl _)))
  (fun rs A C row h hg hr=>by obtain ⟨ys,h1,h2⟩:=h;exact ⟨ys,h1,hJx _ A C row h2 hg (fun r e=>⟨by have:=(hr r e).1;omega,(hr r e).2⟩)⟩)
  ⟨hJ1,KpN.refl _ _ _⟩
  (fun r a' V=>∃ b,a'={ tmps:=#[.func (.yield l) #[] #[],.pointer (some ⟨Bs,0,none⟩),.pointer (some ⟨W.heap.size,0,none⟩),.pointer (some ⟨b,0,none⟩),undef,undef,.pointer (some ⟨mb,27,none⟩),.func (.func 182) #[] #[.pointer (some ⟨W.heap.size+1,0,none⟩)],.agg #[Pg.aG (R r)],undef,undef,undef,undef,undef,undef,undef,undef,undef,undef,undef,undef],defers:=[] }∧Boxed V b 144 (Pg.aG (R r))∧W1.heap.size≤b)
  (fun r a' u A C row h hg hr=>by
   obtain ⟨b,e,hb,hl⟩:=h
   exact ⟨b,e,Own.from (boxed_own (β:=Unit) b 144 (fun _=>Pg.aG (R r))) _ () A C row hb hg hr,hl⟩)
  ?assign ?body ?done ?stop
 case assign =>
  intro l2 rs r V K hI hK
  have hVs:=hI.2.1.1
  have hBa:∀ o,Below V.heap.size V (V.alloc o):=fun o=>(Below.refl _ V).alloc (Nat.le_refl _) _
  have hk2:∀ rv:Value,Pg.aG (R r)=rv→K _ (V.alloc (.cells #[rv] 144)):=fun rv e=>hK _ _ ((KeepsOthers.alloc _ _).from _) (KpN.below (hBa _)) ⟨hdr hJ _ _ _ (hBa _) hI.1,hI.2.tr (KpN.below (hBa _))⟩ ⟨V.heap.size,rfl,e ▸ Boxed.new V _ _,hVs⟩
  rcases hsh r with hrv | ⟨b,hrv⟩
  all_goals
   have hk3:=hk2 _ hrv
   rw [hrv] at hk3 ⊢
   gi_wp2
   exact hk3
 case body =>
  rintro l2 rs r a' V hl ⟨rl,hrl⟩ hir ⟨hJV,hKV⟩ ⟨b,rfl,hb,hbl⟩
  have hbc:=hb.cell
  have hKw:KpM B w V:=hK1.tr hKV.1
  have hRV:Pg.bX V (R r):=fun i x hx=>hKw.2 _ _ _ _ (hN.nds r hir i x hx) (hN.far r hir x (List.mem_of_getElem? hx))
  have hbt:=v7 V (R r) (hN.nod r hir) hRV (hN.len r hir)
  have hd1:1≤n-1-1:=by omega
  obtain ⟨L,hL⟩:∃ L,Pg.srt (fun y:Pg.Nd=>y.2.t) (R r)=L:=⟨_,rfl⟩
  have HL:Hid (Pg.byT R r=L):=hL
  have hLm:∀ x∈L,x∈R r:=fun x hx=>by rw [← hL] at hx;exact Pg.jc.1 hx
  have hl19:L.length≤19:=by rw [← hL,Pg.ts];exact hN.len r hir
  rw [hL] at hbt
  obtain ⟨rv,hrv⟩:∃ rv,Pg.aG (R r)=rv:=⟨_,rfl⟩
  rw [hrv] at hbc hbt ⊢
  clear hL hrv hRV hsh
  gi_wp2_with (refine ⟨trivial,?_⟩;gi_at_call 149;refine (aU hbt).mono ?_;rintro e V2 ⟨⟨sa,sn,sc⟩,rfl,hrow,hB2⟩;dsimp only at hrow ⊢)
  have hsn:sn=L.length:=by
   rcases hrow.2 with ⟨e,h0⟩ | ⟨g,cap,cur,e,_⟩
   ·simp at e;omega
   ·simp at e;omega
  subst hsn
  have hcell:∀ (i:Nat) (x:Pg.Nd),L[i]?=some x→∃ g,sa=some ⟨g,0,none⟩∧V.heap.size≤g∧V2.cell? ⟨g,i,none⟩=some (Pg.ndP x.1):=fun i x hx=>by
   have hi:=(List.getElem?_eq_some_iff.1 hx).1
   rcases hrow.2 with ⟨e,h0⟩ | ⟨g,cap,cur,e,hbs,hg,hle,hcap,hsz,htk⟩
   ·omega
   ·simp at e
    refine ⟨g,e.1,hbs,?_⟩
    rw [Pg.nN,Nat.mul_one] at htk
    have h2:=congrArg (fun l:List Value=>l[i]?) htk
    rw [cell_of_row V2 _ _ _ _ _ hg]
    simpa [List.getElem?_take_of_lt hi,hx] using h2
  have hJ2:=hdr hJ _ _ _ hB2 hJV
  have hK2:KpN B (w.heap.size+2) W1 V2:=hKV.tr (KpN.below hB2)
  have hVs:=hKV.1.1
  have hWs2:=hW.size
  clear hbt hrow hbc
  refine wpIn_loop (fun a' U=>∃ (i:Nat) (u5 u13 u14 u15 u16 u17 u18 u19 u20:Value),a'={ tmps:=#[.func (.yield l) #[] #[],.pointer (some ⟨Bs,0,none⟩),.pointer (some ⟨W.heap.size,0,none⟩),.pointer (some ⟨b,0,none⟩),undef,u5,.pointer (some ⟨mb,27,none⟩),.func (.func 182) #[] #[.pointer (some ⟨W.heap.size+1,0,none⟩)],.agg #[rv],.agg #[rv],.slice sa L.length sc,.int .i64 L.length,.int .i64 i,u13,u14,u15,u16,u17,u18,u19,u20],defers:=[] }∧i≤L.length∧J (rs.flatMap (Pg.byT R)++L.take i) U∧KpN B (w.heap.size+2) V2 U) (fun a' _=>L.length-(intOf (a'.tmps.getD 12 undef)).toNat) ?_ ?_
  ·exact ⟨0,_,_,_,_,_,_,_,_,_,rfl,Nat.zero_le _,by simpa using hJ2,KpN.refl _ _ _⟩
  rintro a'' U ⟨i,u5,u13,u14,u15,u16,u17,u18,u19,u20,rfl,hiL,hJU,hKU⟩
  have hKW1:=hK2.tr hKU
  have hyc:U.cell? ⟨W.heap.size,0,none⟩=some (.func (.yield l) #[] #[]):=hKW1.1.cell by1.cell (fun h=>by have h':W.heap.size<w.heap.size:=hlt _ h;omega)
  have hKVU:KpN B (w.heap.size+2) V U:=(KpN.below hB2).tr hKU
  by_cases hi:i<L.length
  ·obtain ⟨x,hx⟩:∃ x,L[i]?=some x:=⟨_,List.getElem?_eq_getElem hi⟩
   obtain ⟨g,rfl,hgV,hgc⟩:=hcell i x hx
   have hgU:U.cell? ⟨g,i,none⟩=some (.pointer (some ⟨x.1,0,none⟩)):=hKU.1.cell hgc (fun h=>by have h':g<w.heap.size:=hlt _ h;omega)
   have hi':(i:Int)<(L.length:Int):=by omega
   obtain ⟨fn,tm,asg,bd,hy,hRo⟩:=hY _ x U hJU ⟨r,hir,hLm x (List.mem_of_getElem? hx)⟩
   have HX:Hid (rs.flatMap (Pg.byT R)++L.take i++[x]=rs.flatMap (Pg.byT R)++L.take (i+1)):=by
    unfold Hid
    rw [List.append_assoc,eT hx]
   (try dsimp only at hy)
   gi_wp2
   refine (kX gb (cT l2) hRo).mono ?_
   rintro e U' (⟨rfl,hJ',hk'⟩ | ⟨rfl,hJ',hk'⟩)
   ·gi_wp2
    refine ⟨⟨i+1,_,_,_,_,_,_,_,_,_,rfl,by omega,by rw [← HX.out];exact hJ',hKU.tr hk'⟩,?_⟩
    show L.length-((i:Int)+1).toNat<L.length-(i:Int).toNat
    omega
   ·gi_wp2
    have hk2:=hKVU.tr hk'
    refine ⟨(Pg.KpN.lo hk2 (by omega)).2,Pg.KpN.lo hk2 (by omega),_,?_,hJ'⟩
    rw [HX.out,List.flatMap_append,List.flatMap_singleton,HL.out]
    exact (List.prefix_append_right_inj _).2 (List.take_prefix _ _)
  ·have hie:i=L.length:=by omega
   subst hie
   gi_wp2
   refine ⟨(Pg.KpN.lo hKVU (by omega)).2,Pg.KpN.lo hKVU (by omega),?_,hKV.tr hKVU⟩
   rw [List.flatMap_append,List.flatMap_singleton,HL.out]
   rw [List.take_length] at hJU
   exact hJU
 case done =>
  rintro D rs V hD hrs ⟨hJV,hKV⟩ hdef
  subst hrs
  gi_wp2
  refine ⟨by simp,.inl ⟨_,_,rfl,run_takeDeferred hdef,?_⟩⟩
  exact ⟨_,results_none rfl _ _ _,⟨_,rfl⟩,.inl ⟨_,rfl,hJ.putObj _ hJV (by omega) hdef rfl⟩⟩
 case stop =>
  rintro D rs V hD hrs ⟨ys,hys,hJV⟩ hdef
  gi_wp2
  refine ⟨by simp,.inl ⟨_,_,rfl,run_takeDeferred hdef,?_⟩⟩
  exact ⟨_,results_none rfl _ _ _,⟨_,rfl⟩,.inr ⟨ys,hys.trans (Pg.uu hrs),hJx.putObj _ hJV (by omega) hdef rfl⟩⟩
attribute [local go_sem] Oper.semAt_some
theorem wZ (mb o:Nat) (w:World):Calls Tryz.prog 111 #[.pointer (some ⟨mb,o,none⟩)] w fun e w'=>e = .returned (.func (.func 147) #[] #[.pointer (some ⟨w.heap.size,0,none⟩)])∧w'=w.alloc (.cells #[.pointer (some ⟨mb,o,none⟩)] 198):=by
 go_enter Tryz.func111,Tryz.ntmps111
 go_wp2
 go_ret
 exact ⟨rfl,rfl⟩
theorem uP (V:World) (g:Nat) (v:Value) (h:V.cell? ⟨g,0,none⟩=some v):(loadVar 142 ⟨g,0,none⟩).run Tryz.prog V = .ok v V:=by
 simp [loadVar,Sem.run_bind,Tryz.isAgg142,go_sem,h]
namespace Pg
def wz (L:List Nd):Value:=match L.head? with | some x=>ndP x.1 | none => .pointer none
end Pg
theorem zl (w:World) (mb:Nat) (R:Nat→List Pg.Nd) (hv:Nat→Nat) (hvl:∀ k,k<6→hv k<18446744073709551616) (hN:∀ W0,Below w.heap.size w W0→W0.heap.size=w.heap.size+2→Pg.FR W0 mb R hv (· = w.heap.size)) :
  Calls Tryz.prog 138 #[.pointer (some ⟨mb,27,none⟩)] w fun e w'=>e = .returned (Pg.wz (Pg.tP R hv))∧Below w.heap.size w w':=by
 refine (callsIn_wide (n:=9)).1 ?_
 refine callsIn_of_wp_marks Tryz.func138 rfl trivial ?_ rfl
 simp only [Tryz.ntmps138,List.size_toArray,List.length_cons,List.length_nil,Nat.reduceAdd,Nat.reduceSub,Array.replicate_succ,Array.replicate_zero,List.push_toArray,List.append_toArray,List.nil_append,List.cons_append]
 gi_wp2_with (refine ⟨trivial,?_⟩;gi_at_call 111;refine (callsIn_wide.2 (wZ mb 27 _)).mono ?_;rintro e w9 ⟨rfl,hw9⟩;rw [hw9];clear hw9 w9)
 have b0:=(Boxed.new w 142 (.pointer none)).alloc (.cells #[.pointer (some ⟨mb,27,none⟩)] 198)
 have b1:=Boxed.new (w.alloc (.cells #[.pointer none] 142)) 198 (.pointer (some ⟨mb,27,none⟩))
 simp only [World.size_alloc] at b1
 have hB0:Below w.heap.size w ((w.alloc (.cells #[.pointer none] 142)).alloc (.cells #[.pointer (some ⟨mb,27,none⟩)] 198)):=((Below.refl _ w).alloc (Nat.le_refl _) _).alloc (by simp) _
 have hs0:((w.alloc (.cells #[.pointer none] 142)).alloc (.cells #[.pointer (some ⟨mb,27,none⟩)] 198)).heap.size=w.heap.size+2:=by simp
 generalize (w.alloc (.cells #[.pointer none] 142)).alloc (.cells #[.pointer (some ⟨mb,27,none⟩)] 198)=W0 at *
 refine vg rfl (by omega) (gf:=147) rfl trivial (enters_of Tryz.func147 (by kernel_rfl) rfl)
  (BW 8 (by omega) (w.heap.size+1) mb R hv hvl (· = w.heap.size) W0 (hN W0 hB0 hs0) b1.cell (by omega))
  KpN.tr (fun V o o' h ho=>KpN.put (by omega) V o o' h ho) (fun _=>rfl)
  (fun xs V=>(xs=[]∧Boxed V w.heap.size 142 (.pointer none))∧Below w.heap.size w V)
  (fun xs V=>(∃ x:Pg.Nd,xs=[x]∧Boxed V w.heap.size 142 (Pg.ndP x.1))∧Below w.heap.size w V)
  (OwnFrom.and (OwnFrom.and (ownFrom_pure _ _) (Own.from (boxed_own _ _ _) _)) (ownFrom_below (Nat.le_refl _) (by omega)))
  (OwnFrom.and (fun xs A C row h hg hr=>by
   obtain ⟨x,e,hb⟩:=h
   exact ⟨x,e,Own.from (boxed_own (β:=Unit) w.heap.size 142 (fun _=>Pg.ndP x.1)) _ () A C row hb hg hr⟩) (ownFrom_below (Nat.le_refl _) (by omega)))
  ⟨⟨rfl,b0⟩,hB0⟩
  (fun x a' _=>a'={ tmps:=#[.pointer (some ⟨mb,27,none⟩),undef,.pointer (some ⟨w.heap.size,0,none⟩),.pointer (some ⟨x.1,0,none⟩),.pointer (some ⟨mb,27,none⟩),.func (.func 147) #[] #[.pointer (some ⟨w.heap.size+1,0,none⟩)],.pointer (some ⟨x.1,0,none⟩),undef],defers:=[] })
  (fun _ _ _ _ _ _ hs _ _=>hs) ?assign ?body ?done ?stop
 case assign =>
  intro l xs x V K hI hK
  gi_wp2
  exact hK _ _ (KeepsFrom.refl _ _) (KpN.refl _ _ _) hI rfl
 case body =>
  rintro l xs x a' V hl _ _ ⟨⟨rfl,hbx⟩,hB⟩ rfl
  have hc:=hbx.cell
  have hf:=hbx.frozen
  gi_wp2
  exact ⟨(KeepsOthers.setCell _ _ _).from _,KpN.set _ _ _ rfl,⟨x,rfl,hbx.set _⟩,hB.setCell (p:=⟨w.heap.size,0,none⟩) (Nat.le_refl _) _⟩
 case done =>
  rintro D xs V hD hxs ⟨⟨rfl,hbx⟩,hB⟩ hdef
  have hc:=hbx.cell
  have hf:=hbx.frozen
  have hset:=hbx.set (.pointer none)
  gi_wp2
  refine ⟨by simp,.inl ⟨_,_,rfl,run_takeDeferred (w:=V.setCell ⟨w.heap.size,0,none⟩ (.pointer none)) ((Below.heap_setCell V _ _ D (by show D≠w.heap.size;omega)).trans hdef),?_⟩⟩
  have hBd:Below w.heap.size w ((V.setCell ⟨w.heap.size,0,none⟩ (.pointer none)).putObj D (.deferred none)):=(hB.setCell (p:=⟨w.heap.size,0,none⟩) (Nat.le_refl _) _).trans (belowK_b (w:=w) (Nat.le_refl _) _ D _ _ (by omega) ((Below.heap_setCell V _ _ D (by show D≠w.heap.size;omega)).trans hdef) rfl rfl)
  have hcd:((V.setCell ⟨w.heap.size,0,none⟩ (.pointer none)).putObj D (.deferred none)).cell? ⟨w.heap.size,0,none⟩=some (.pointer none):=(World.cell?_of_block (World.putObj_heap_other (by show w.heap.size≠D;omega))).trans hset.cell
  refine ⟨.pointer none,?_,by rw [← hxs];rfl,hBd⟩
  rw [fZ rfl]
  have:=uP _ _ _ hcd
  simpa [asAddr] using this
 case stop =>
  rintro D xs V hD hpre ⟨⟨x,rfl,hbx⟩,hB⟩ hdef
  gi_wp2
  refine ⟨by simp,.inl ⟨_,_,rfl,run_takeDeferred hdef,?_⟩⟩
  have hcd:(V.putObj D (.deferred none)).cell? ⟨w.heap.size,0,none⟩=some (Pg.ndP x.1):=(World.cell?_of_block (World.putObj_heap_other (by show w.heap.size≠D;omega))).trans hbx.cell
  refine ⟨Pg.ndP x.1,?_,?_,hB.trans (belowK_b (w:=w) (Nat.le_refl _) _ D _ _ (by omega) hdef rfl rfl)⟩
  ·rw [fZ rfl]
   have:=uP _ _ _ hcd
   simpa [asAddr] using this
  ·obtain ⟨t,ht⟩:=hpre
   unfold Pg.wz
   rw [← ht]
   rfl
end
end Go.Proofs.YtegmoddppafkfaaGreatDoor
