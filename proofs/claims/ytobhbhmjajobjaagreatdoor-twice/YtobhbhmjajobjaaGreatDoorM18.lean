import Derived.Test.YtobhbhmjajobjaaGreatDoorM05
import Derived.Shelf.SlSortCmp.Insertion
set_option maxRecDepth 100000
set_option maxHeartbeats 8000000
namespace Go.Proofs.YtobhbhmjajobjaaGreatDoor
variable {zp:Prop}
theorem zef (h:zp:=by
 unfold aK;cases l.getLast? with
 | none=>exact .inl rfl
 | some z=>exact .inr ⟨z.1,rfl⟩):zp:=h
theorem zem (h:zp:=by
 rintro (h | h | h)
 ·exact .inr (.inl h)
 ·exact .inl h
 ·exact .inr (.inr h)):zp:=h
theorem zeT (h:zp:=by
 rw [iw rfl];have:=zu _ _ _ hcd;simpa [asAddr] using this):zp:=h
theorem zbf (h:zp:=by simp [World.frozen?,q0]):zp:=h
theorem zbs (h:zp:=by simpa using hh):zp:=h
open Tryz
variable {w W W':World} {g n mb pb r k:Nat} {m:List Pg.Nd} {qv:Value} {s:Pg.MSt} {R:Nat->List Pg.Nd} {f:Pg.Nd}
section
open Go.RowKit Go.Proofs Go.Shelf
namespace Pg
def wu (a b:Nat):Int:=if a<b then -1 else if b<a then 1 else 0
end Pg
theorem D2 (x:Nat) (w:World):() 262 #[.int .u64 x] w fun e w'=>e = .returned false/\w'=w:=by
 go_enter func262,ntmps262;go_wp2;go_ret;exact ⟨zad,rfl⟩
theorem yu (a b:Nat) (w:World):() 238 #[.int .u64 a,.int .u64 b] w fun e w'=>e = .returned (.int .i64 (Pg.wu a b))/\w'=w:=by
 have HN:Hid (∀ (x:Nat) (w:World),() 262 #[.int .u64 x] w fun e w'=>e = .returned false/\w'=w):=fun x w=>D2 x w;have h1:Hid (∀ c,Pg.wu a b=c↔(if a<b then -1 else if b<a then 1 else 0)=c):=fun c=>Iff.rfl
 rcases P6 a b with h | h | h
 ·have ha:(a:Int)<(b:Int):=zaa;have HA:Hid (a<b):=h;clear h;go_enter func238,ntmps238;go_wp2_with (go_at_call 262;refine (HN.out _ _).mono ?_;rintro e w1 ⟨rfl,rfl⟩);go_ret;exact ⟨by rw [(h1.out _).2 (MB HA.out)];rfl,rfl⟩
 ·subst h;go_enter func238,ntmps238;go_wp2_with (go_at_call 262;refine (HN.out _ _).mono ?_;rintro e w1 ⟨rfl,rfl⟩);go_ret;exact ⟨by rw [(h1.out 0).2 zad];rfl,rfl⟩
 ·have ha:(b:Int)<(a:Int):=zaa;have hn:¬ (a:Int)<(b:Int):=zaa;have HA:Hid (b<a):=h;clear h;go_enter func238,ntmps238;go_wp2_with (go_at_call 262;refine (HN.out _ _).mono ?_;rintro e w1 ⟨rfl,rfl⟩);go_ret;exact ⟨by rw [(h1.out 1).2 (by have:=HA.out;rw [Mz zaa,MB this])];rfl,rfl⟩
theorem ym (a b ta tb:Nat) (w:World) (ha:w.cell? a=some (.int .u64 ta)) (hb:w.cell? b=some (.int .u64 tb)) :
  () 237 #[a,b] w fun e w'=>e = .returned (.int .i64 (Pg.wu ta tb))/\∃ q,w'=w.drewN q:=by
 have HN:Hid (∀ (w:World),() 238 #[.int .u64 ta,.int .u64 tb] w fun e w'=>e = .returned (.int .i64 (Pg.wu ta tb))/\w'=w):=fun w=>yu ta tb w;generalize Pg.wu ta tb=ct at *;have ha':w.drew.cell? a=some (.int .u64 ta):=ha;have hb':w.drew.cell? b=some (.int .u64 tb):=hb;go_enter func237,ntmps237
 go_upto_region 1 with fail
 refine dU 8 zab zab ?_;simp only [List.take_succ_cons,List.take_zero,List.drop_succ_cons,List.drop_zero]
 repeat still_step
 refine N1 ?_;go_wp2_with (go_at_call 238;refine (HN.out _).mono ?_;rintro e w1 ⟨rfl,rfl⟩);go_ret;exact ⟨rfl,1,rfl⟩
end
section
namespace Pg
variable {α:Type}
def Srd (f:α->Nat) (L:List α):Prop:=L.Pairwise (fun a b=>f a<=f b)
def Stb (f:α->Nat) (A B:List α):Prop:=∀ k,A.filter (fun x=>f x == k)=B.filter (fun x=>f x == k)
theorem Stb.refl (f:α->Nat) (A:List α):Stb f A A:=fun _=>rfl
theorem Stb.symm {f:α->Nat} {A B:List α} (h:Stb f A B):Stb f B A:=fun k=>(h k).symm
theorem Stb.trans {f:α->Nat} {A B C:List α} (h:Stb f A B) (g:Stb f B C):Stb f A C:=fun k=>(h k).trans (g k)
theorem Stb.mem {f:α->Nat} {A B:List α} (h:Stb f A B) {x:α} (hx:x∈A):x∈B:=by
 have:x∈A.filter (fun y=>f y == f x):=N7.2 ⟨hx,zad⟩;rw [h] at this;exact (N7.1 this).1
theorem C2 {f:α->Nat}:∀ {A B:List α},Srd f A->Srd f B->Stb f A B->A=B
 | [],[],_,_,_=>rfl
 | [],b::B,_,_,h=>by have:=h.symm.mem (Nk);simp at this
 | a::A,[],_,_,h=>by have:=h.mem (Nk);simp at this
 | a::A,b::B,hA,hB,h=>by
  have h1:f a<=f b:=by
   rcases OE.1 (h.symm.mem (Nk (a:=b) (l:=B))) with e | e
   ·rw [e];exact Mt _
   ·exact (OD.1 hA).1 _ e
  have h2:f b<=f a:=by
   rcases OE.1 (h.mem (Nk (a:=a) (l:=A))) with e | e
   ·rw [e];exact Mt _
   ·exact (OD.1 hB).1 _ e
  have e:f a=f b:=zaa;have hk:=h (f a);have hk2:=hk;rw [Ol zad,List.filter_cons_of_pos (by simp [e])] at hk2;obtain rfl:a=b:=by injection hk2
  have ht:Stb f A B:=fun k=>by
   have:=h k;by_cases hh:f a == k
   ·rw [Ol zbs,Ol zbs] at this;injection this
   ·rw [Ok zbs,Ok zbs] at this;exact this
  rw [C2 (OD.1 hA).2 (OD.1 hB).2 ht]
def pq (f:α->Nat) (x:α):List α->List α
 | []=>[x]
 | y::L=>if f x<=f y then x::y::L else y::pq f x L
def srt (f:α->Nat):List α->List α
 | []=>[]
 | x::L=>pq f x (srt f L)
theorem zw {f:α->Nat} {x y:α}:∀ {L:List α},y∈pq f x L↔y=x\/y∈L
 | []=>by simp [pq]
 | z::L=>by
  unfold pq;split
  ·simp
  ·rw [OE,zw,OE];constructor
   ·exact zem
   ·exact zem
theorem za {f:α->Nat} {x:α}:∀ {L:List α},Srd f L->Srd f (pq f x L)
 | [],_=>by simp [pq,Srd]
 | y::L,h=>by
  unfold pq;have h1:=OD.1 h;split
  ·next e =>
   refine OD.2 ⟨fun z hz => ?_,h⟩
   rcases OE.1 hz with e' | e'
   ·rw [e'];exact e
   ·exact Mv e (h1.1 z e')
  ·next e =>
   refine OD.2 ⟨fun z hz => ?_,za h1.2⟩
   rcases zw.1 hz with e' | e'
   ·rw [e'];omega
   ·exact h1.1 z e'
theorem zc {f:α->Nat} {x:α}:∀ {L:List α},Stb f (pq f x L) (x::L)
 | []=>fun _=>rfl
 | y::L=>fun k=>by
  unfold pq;split
  ·rfl
  ·next e =>
   have ih:=zc (f:=f) (x:=x) (L:=L) k;rw [Qe,ih];by_cases hx:f x == k <;> by_cases hy:f y == k
   ·have:=Q3.1 hx;have:=Q3.1 hy;omega
   ·simp [hx,hy]
   ·simp [hx,hy]
   ·simp [hx,hy]
theorem oL (f:α->Nat):∀ L:List α,Srd f (srt f L)
 | []=>List.Pairwise.nil
 | _::L=>za (oL f L)
theorem kA (f:α->Nat):∀ L:List α,Stb f (srt f L) L
 | []=>fun _=>rfl
 | x::L=>zc.trans fun k=>by rw [Qe,kA f L k,Qe]
theorem Ca {f:α->Nat} {A L:List α} (h:Srd f A) (k:Stb f A L):A=srt f L:=C2 h (oL f L) (k.trans (kA f L).symm)
theorem ki {f:α->Nat} {L:List α} {x:α}:x∈srt f L↔x∈L:=⟨(kA f L).mem,(kA f L).symm.mem⟩
theorem C3 {β:Type} (g:β->α) (f:α->Nat) (L:List β):(srt (fun x=>f (g x)) L).map g=srt f (L.map g):=by
 refine Ca ?_ fun k => ?_
 ·exact List.pairwise_map.2 (oL (fun x=>f (g x)) L)
 ·rw [Ql,Ql];exact congrArg _ (kA (fun x=>f (g x)) L k)
end Pg
end
section
open Go.Sort
namespace Pg
theorem JZ {α:Type} {f:α->Nat} (A B:List α) (x y:α) (h:f x≠f y):Stb f (A++y::x::B) (A++x::y::B):=fun k=>by
 rw [Og,Og]
 congr 1
 by_cases hx:f x=k
 ·have hy:¬ f y=k:=fun e=>h (hx.trans e.symm);simp [hx,hy]
 ·simp [List.filter_cons,hx]
variable {α:Type} [Inhabited α]
theorem Hs (d:Array α) (j:Nat) (hj:j+1<d.size):∃ A B,d.toList=A++d[j]!::d[j+1]!::B/\(swp d (j+1) j).toList=A++d[j+1]!::d[j]!::B:=by
 have hl:d.toList.length=d.size:=zad;have e1:d[j]! =d.toList[j]'(zaa):=by rw [Qc d j zaa];simp
 have e2:d[j+1]! =d.toList[j+1]'(zaa):=by rw [Qc d (j+1) hj];simp
 have hd:d.toList=d.toList.take j++d[j]!::d[j+1]!::d.toList.drop (j+1+1):=by
  rw [e1,e2,<- Pr (by omega:j+1<d.toList.length),<- Pr (by omega:j<d.toList.length),List.take_append_drop]
 refine ⟨_,_,hd,?_⟩;unfold swp;rw [Po,Po];have hA:(d.toList.take j).length=j:=by rw [NP];omega
 generalize d[j]! =x at *;generalize d[j+1]! =y at *;generalize d.toList.take j=A at *;generalize d.toList.drop (j+1+1)=B at *;rw [hd,P5 _ _ zaa,show j+1-A.length=1 by omega,P5 _ _ zaa,show j-A.length=0 by omega];rfl
theorem jg (lt:α->α->Bool) (a:Nat):∀ (j:Nat) (d:Array α),(insInner lt a j d).size=d.size
 | 0,d=>rfl
 | j+1,d=>by
  unfold insInner;split
  ·rw [jg lt a j,swp_size]
  ·rfl
theorem nQ {f:α->Nat} {lt:α->α->Bool} (hlt:∀ x y,lt x y=true->f y≠f x) (a:Nat):∀ (j:Nat) (d:Array α),j<d.size->Stb f (insInner lt a j d).toList d.toList
 | 0,d,_=>Stb.refl _ _
 | j+1,d,h=>by
  unfold insInner;split
  ·next e =>
   obtain ⟨A,B,e1,e2⟩:=Hs d j h;refine (nQ hlt a j _ (by rw [swp_size];omega)).trans ?_;rw [e1,e2];simp only [Bool.and_eq_true] at e;exact JZ A B _ _ (hlt _ _ e.2)
  ·exact Stb.refl _ _
theorem j9 {f:α->Nat} {lt:α->α->Bool} (hlt:∀ x y,lt x y=true->f y≠f x) (a b:Nat):∀ (n i:Nat) (d:Array α),b-i<=n->b<=d.size->Stb f (insOuter lt a b i d).toList d.toList/\(insOuter lt a b i d).size=d.size
 | 0,i,d,hn,hb=>by
  rw [insOuter,Mz zaa];exact ⟨Stb.refl _ _,rfl⟩
 | n+1,i,d,hn,hb=>by
  rw [insOuter];split
  ·have ih:=j9 hlt a b n (i+1) (insInner lt a i d) zaa (by rw [jg];exact hb);exact ⟨ih.1.trans (nQ hlt a i d zaa),ih.2.trans (jg _ _ _ _)⟩
  ·exact ⟨Stb.refl _ _,rfl⟩
theorem I8 (f:α->Nat) (d:Array α):(insertionSort (fun x y=>decide (f x<f y)) d 0 d.size).toList=srt f d.toList:=by
 have hs:=j9 (f:=f) (lt:=fun x y=>decide (f x<f y)) (fun x y h=>by simp at h;omega) 0 d.size d.size (0+1) d zaa (Mt _);have ho:=(insertionSort_holds (lt:=fun x y=>decide (f x<f y)) ⟨fun x=>zad,fun x y z h1 h2=>by simp at *;omega,fun x y z h1 h2=>by simp at *;omega⟩ d 0 d.size (MJ _) (Mt _)).2;refine Ca ?_ hs.1;refine List.pairwise_iff_getElem.2 fun i j hi hj hij => ?_;have hsz:(insertionSort (fun x y=>decide (f x<f y)) d 0 d.size).size=d.size:=hs.2;have hj':j<d.size:=by rw [<- hsz];simpa using hj
 have h:=ho i j (MJ _) hij hj';rw [Qc _ i (by rw [hsz];omega),Qc _ j (by rw [hsz];omega)] at h;simp only [decide_eq_false_iff_not,Nat.not_lt] at h;simpa using h
theorem F7 (f:α->Nat) (d:Array α):(insertionSort (fun x y=>decide (f x<f y)) d 0 d.size).size=d.size :=
 (j9 (f:=f) (lt:=fun x y=>decide (f x<f y)) (fun x y h=>by simp at h;omega) 0 d.size d.size (0+1) d zaa (Mt _)).2
end Pg
end
section
open Go.RowKit Go.Proofs Go.Shelf
def pU:Go.Shelf.Ren:=⟨fun | 20=>294 | n=>n,fun | 22=>377 | 24=>79 | 25=>399 | n=>n,fun | n=>n⟩
theorem Jm:Go.Proofs.SlLaysF.n20 prog pU:={
 mixed:=zab
 f20 := ⟨ "slices.insertionSortCmpFunc[*charts/wheels.node[charts/run.timer]]",zac,Tryz.func294.trans (congrArg some zab)⟩
 t0:=underlying0
 a0:=Tryz.isAgg0
 z0:=Tryz.sizeOf0
 v0:=Tryz.zeroValue0
 t3:=underlying3
 a3:=Tryz.isAgg3
 z3:=Tryz.sizeOf3
 v3:=Tryz.zeroValue3
 t4:=underlying4
 a4:=Tryz.isAgg4
 z4:=Tryz.sizeOf4
 v4:=Tryz.zeroValue4
 t22:=underlying377
 a22:=isAgg377
 z22:=sizeOf377
 v22:=zeroValue377
 a24:=Tryz.isAgg79
 z24:=Tryz.sizeOf79
 t25:=underlying399
 a25:=isAgg399
 z25:=sizeOf399
 v25:=zeroValue399 }
namespace Pg
def ndC (x:Nd):List Value:=[ndP x.1]
abbrev NdS (W:World) (base:Nat) (sv:Value) (L:List Nd):Prop:=W.ownsRow base 79 1 sv L.length (L.flatMap ndC)
theorem qz (L:List Nd):L.flatMap ndC=L.map (fun x=>ndP x.1):=by
 induction L with
 | nil=>rfl
 | cons x L ih=>rw [NT,ih];rfl
variable {α:Type} [Inhabited α]
theorem Ev {enc:α->Value} {o:Nat} {d:Array α} {cur:Array Value} {t:TypeId} {fz:Nat×Nat} (h:w.heap[g]?=some (.cells cur t fz)):(Sort.putRow enc w g o d).heap[g]?=some (.cells (Sort.putCells enc o d cur) t fz):=by
 simp [Sort.putRow,Sort.mapBlock,Array.getElem?_modify,h,Sort.onCells]
theorem Ew (enc:α->Value) (w:World) (g o:Nat) (d:Array α) (n:Nat):Mo (· = g) w ((Sort.putRow enc w g o d).drewN n):=⟨rfl,rfl,rfl,by show w.heap.size<=(Sort.putRow enc w g o d).heap.size;simp [Sort.putRow,Sort.mapBlock],fun k _ hk=>by
 show (Sort.putRow enc w g o d).heap[k]?=_;have hk':¬ g=k:=fun e=>hk e.symm;simp [Sort.putRow,Sort.mapBlock,Array.getElem?_modify,hk']⟩
theorem FJ (a b:Nat):decide (wu a b<0)=decide (a<b):=by
 unfold wu;by_cases h:a<b
 ·simp [h]
 ·by_cases h2:b<a <;> simp [h,h2]
end Pg
theorem yX (w:World) (g cap:Nat) (L:List Pg.Nd) (cur:Array Value) (hne:L≠[]) (hl:L.length<=1000) (hg:w.heap[g]?=some (.cells cur 79 (0,0))) (hcur:∀ (j:Nat) (x:Pg.Nd),L[j]?=some x->cur[j]?=some (Pg.ndP x.1)) (hN:∀ x∈L,x.1≠g/\w.cell? x.1=some (.int .u64 x.2.t)) :
  () 294 #[.slice g L.length cap,(0:Int),(L.length:Int),.func (.func 237) #[] #[]] w fun e w'=>e = .returned (.tuple #[])/\(∃ cur',w'.heap[g]?=some (.cells cur' 79 (0,0))/\cur'.size=cur.size/\∀ (j:Nat) (x:Pg.Nd),(Pg.srt (fun y:Pg.Nd=>y.2.t) L)[j]?=some x->cur'[j]?=some (Pg.ndP x.1))/\Mo (· = g) w w':=by
 obtain ⟨x0,hx0⟩:∃ x,x∈L:=List.exists_mem_of_ne_nil L hne
 haveI:Inhabited { x:Pg.Nd // x∈L }:=⟨⟨x0,hx0⟩⟩
 have hds:L.attach.toArray.size=L.length:=zad;have hgs:g<w.heap.size:=(Ms.1 hg).1;have hfr:∀ i,w.frozen? ⟨g,i,none⟩=false:=fun i=>by simp [World.frozen?,hg]
 have hd!:∀ j (hj:j<L.length),L.attach.toArray[j]! =⟨L[j],Ns hj⟩:=fun j hj=>by
  rw [Qc _ j (by rw [hds];exact hj)];simp
 have hlt:ltOf (fun (x y:{ x:Pg.Nd // x∈L })=>Pg.wu x.1.2.t y.1.2.t)=fun x y=>decide (x.1.2.t<y.1.2.t):=by
  funext x y;exact Pg.FJ _ _
 have h:=Any.insertionSortCmpFunc_one (P:=prog) (ρ:=pU) Jm (α:={ x:Pg.Nd // x∈L }) (fun x=>Pg.ndP x.1.1) (fun _=>rfl) (fun x y=>Pg.wu x.1.2.t y.1.2.t) 237 #[] g 0 cap 0 L.length L.attach.toArray w
  (ON func237 zab rfl)
  (fun m os dk hdk x y=>by
   have hc:∀ z:{ x:Pg.Nd // x∈L },(sortWorld (fun x:{ x:Pg.Nd // x∈L }=>Pg.ndP x.1.1) w g 0 m dk os).cell? ⟨z.1.1,0,none⟩=some (.int .u64 z.1.2.t):=fun z=>by
    obtain ⟨h1,h2⟩:=hN z.1 z.2;have hzl:z.1.1<w.heap.size:=MQ _ _ h2;unfold sortWorld;rw [Sort.cell?_grow _ _ ⟨z.1.1,0,none⟩ (by simp [Sort.putRow,Sort.mapBlock];exact hzl),Sort.cell?_putRow_other _ _ _ _ _ _ (.inl h1)];exact h2
   exact ym _ _ _ _ _ (hc x) (hc y))
  (fun j hj=>by
   rw [hds] at hj;rw [hd! j hj,OM];exact ⟨by rw [My w _ _ _ _ _ hg];exact hcur j _ (Mu hj),hfr j⟩) (MJ _) (by rw [hds];exact Mt _) (by rw [hds];omega)
 rw [hlt,hds] at h;refine MC h ?_;rintro e w' ⟨rfl,n,rfl⟩;have hs:=Pg.I8 (fun x:{ x:Pg.Nd // x∈L }=>x.1.2.t) L.attach.toArray;have hz:=Pg.F7 (fun x:{ x:Pg.Nd // x∈L }=>x.1.2.t) L.attach.toArray;rw [hds] at hs hz;refine ⟨rfl,⟨_,Pg.Ev hg,by simp [Sort.putCells],fun j x hx => ?_⟩,Pg.Ew _ _ _ _ _ _⟩;have hm:(Sort.insertionSort (fun x y:{ x:Pg.Nd // x∈L }=>decide (x.1.2.t<y.1.2.t)) L.attach.toArray 0 L.length).toList.map (·.1)=Pg.srt (fun y:Pg.Nd=>y.2.t) L:=by
  rw [hs,Pg.C3 (fun x:{ x:Pg.Nd // x∈L }=>x.1) (fun y:Pg.Nd=>y.2.t)]
  congr 1
  exact List.attach_map_subtype_val L
 generalize Sort.insertionSort (fun x y:{ x:Pg.Nd // x∈L }=>decide (x.1.2.t<y.1.2.t)) L.attach.toArray 0 L.length=S at *;rw [<- hm] at hx;have hjS:j<S.size:=by
  have:=(Mx.1 hx).1;simpa using this
 have hjc:j<cur.size:=(Ms.1 (hcur j _ (Mu zaa))).1;rw [MF,Mu (by simpa using hjS)] at hx;simp only [Option.map_some,Option.some.injEq] at hx;unfold Sort.putCells;rw [Array.getElem?_mapIdx,Pq hjc];simp only [Option.map_some];rw [MB ⟨MJ _,zaa⟩,Nat.sub_zero,Qc _ j hjS,<- hx];simp
theorem yY (w:World) (sv:Value) (hsv:∃ a c,sv = .slice a 0 c):() 294 #[sv,(0:Int),(0:Int),.func (.func 237) #[] #[]] w fun e w'=>e = .returned (.tuple #[])/\w'=w:=by
 obtain ⟨a,c,rfl⟩:=hsv;go_enter func294,ntmps294;go_wp2;refine Qa 1 ?_;rw [QJ];go_wp2;go_end0;exact ⟨rfl,rfl⟩
namespace Pg
def NdT (W:World) (L:List Nd):Prop:=∀ x∈L,(∃ c,W.heap[x.1]?=some (.cells c 279 (0,0)))/\W.cell? x.1=some (.int .u64 x.2.t)
theorem cn.ndT {L:List Nd} (h:cn W L):NdT W L:=fun x hx=>by
 obtain ⟨i,hi⟩:=QH hx;have:=h i x hi;exact ⟨⟨_,this⟩,by rw [My W _ _ _ _ _ this];rfl⟩
theorem qE {α:Type} (f:α->Nat):∀ L:List α,(srt f L).length=L.length
 | []=>rfl
 | x::L=>by
  have h:∀ (M:List α),(pq f x M).length=M.length+1:=fun M=>by
   induction M with
   | nil=>rfl
   | cons y M ih =>
    unfold pq;split
    ·rfl
    ·rw [NU,ih,NU]
  show (pq f x (srt f L)).length=_;rw [h,qE f L,NU]
end Pg
theorem yZ (w:World) (base:Nat) (sv:Value) (L:List Pg.Nd) (h:Pg.NdS w base sv L) (hl:L.length<=1000) (hN:Pg.NdT w L) :
  () 294 #[sv,(0:Int),(L.length:Int),.func (.func 237) #[] #[]] w fun e w'=>e = .returned (.tuple #[])/\Pg.NdS w' base sv (Pg.srt (fun y:Pg.Nd=>y.2.t) L)/\Mo (fun k=>sv.ownBlock=some k) w w':=by
 by_cases hne:L=[]
 ·subst hne;have hsv:∃ a c,sv = .slice a 0 c:=by
   rcases h.2 with ⟨e,_⟩ | ⟨g,cap,cur,e,_⟩
   ·exact ⟨none,0,e⟩
   ·exact ⟨_,_,e⟩
  refine MC (yY w sv hsv) ?_;rintro e w' ⟨rfl,rfl⟩;exact ⟨rfl,h,Mo.refl _ _⟩
 ·have hlen:=Pg.qE (fun y:Pg.Nd=>y.2.t) L
  rcases h.2 with ⟨e,h0⟩ | ⟨g,cap,cur,e,hb,hg,hle,hcap,hsz,htk⟩
  ·exact absurd (OA.1 h0) hne
  ·subst e;rw [Pg.qz,Pw] at htk;refine MC (yX w g cap L cur hne hl hg (fun j x hx => ?_) (fun x hx=>⟨fun e => ?_,(hN x hx).2⟩)) ?_
   ·have hj:=(Mx.1 hx).1;have:=congrArg (fun l:List Value=>l[j]?) htk;rw [NK hj,MF,hx,NS] at this;exact this
   ·obtain ⟨c,hc⟩:=(hN x hx).1;rw [e,hg] at hc;simp at hc
   ·rintro e w' ⟨rfl,⟨cur',hg',hs',hc'⟩,hm⟩;refine ⟨rfl,?_,hm.mono (fun k _ hk=>za4)⟩;unfold Pg.NdS;rw [hlen];refine ⟨by rw [Pg.qz,MH,hlen,Pw],.inr ⟨g,cap,cur',rfl,hb,hg',hle,hcap,zaa,?_⟩⟩;rw [Pg.qz,Pw];refine OL fun j => ?_;by_cases hj:j<L.length
    ·rw [NK hj,MF,NS,Mu (by rw [hlen];exact hj),hc' j _ (Mu (by rw [hlen];exact hj))];rfl
    ·rw [M4 (by rw [NP];omega),M4 (by rw [MH,hlen];omega)]
theorem Cb (w:World) (base:Nat) (sv:Value) (L:List Pg.Nd) (h:Pg.NdS w base sv L) (hl:L.length<=19) (hN:Pg.NdT w L) :
  () 279 #[sv,(L.length:Int),.func (.func 237) #[] #[]] w fun e w'=>e = .returned (.tuple #[])/\Pg.NdS w' base sv (Pg.srt (fun y:Pg.Nd=>y.2.t) L)/\Mo (fun k=>sv.ownBlock=some k) w w':=by
 have HI:Hid _:=yZ w base sv L h zaa hN;have h1:¬ (20:Int)<=(L.length:Int):=zaa;have h2:¬ (20:Int)<(L.length:Int):=zaa;generalize hn:L.length=n at *;have HL:Hid (n<=19):=hl;clear h hN hn hl;go_enter func279,ntmps279;go_wp2;refine Qa 1 ?_;rw [QJ];go_wp2_with (go_at_call 294;refine MC HI.out ?_;rintro e w1 ⟨rfl,h3⟩);refine Qa 1 ?_;rw [QJ];go_wp2;go_end0;exact ⟨rfl,h3⟩
theorem sM (w:World) (base:Nat) (sv:Value) (L:List Pg.Nd) (h:Pg.NdS w base sv L) (hl:L.length<=19) (hN:Pg.NdT w L) :
  () 261 #[sv,.func (.func 237) #[] #[]] w fun e w'=>e = .returned (.tuple #[])/\Pg.NdS w' base sv (Pg.srt (fun y:Pg.Nd=>y.2.t) L)/\Mo (fun k=>sv.ownBlock=some k) w w':=by
 have HI:Hid _:=Cb w base sv L h hl hN;obtain ⟨sa,sc,rfl⟩:∃ a c,sv = .slice a L.length c:=by
  rcases h.2 with ⟨e,h0⟩ | ⟨g,cap,cur,e,_⟩
  ·exact ⟨none,0,by rw [e,h0]⟩
  ·exact ⟨_,_,e⟩
 clear h hN;go_enter func261,ntmps261;go_wp2_with (go_at_call 279;refine MC HI.out ?_;rintro e w1 ⟨rfl,h3⟩);go_end0;exact ⟨rfl,h3⟩
attribute [local go_sem] Nw
theorem I6:(Tryz.prog.info? 79).map (fun i=>(i.zero,i.size,i.bytes))=some (some (.pointer none),1,8):=zab
namespace Pg
theorem KpM.bel (h:Below n W W'):KpM (fun k _=>n<=k) W W':=⟨h.size,fun k _ _ _ hk hn=>(h.block k zaa).trans hk⟩
end Pg
theorem tv (w:World) (Bs:Nat) (L:List Pg.Nd) (hnd:(L.map (·.1)).Nodup) (hb:w.cell? Bs=some (Pg.aK L)) (hR:Pg.cn w L) (hl:L.length<=19) :
  () 278 #[.slice none 0 0,.func (.func 201) #[] #[Bs]] w fun e w'=>∃ sl:Ref.Sl,e = .returned (.slice sl.a sl.n sl.c)/\Pg.NdS w' w (.slice sl.a sl.n sl.c) L/\Below w w w':=by
 obtain ⟨i0,hi,hz0,hz1,hz2⟩:=N4 I6;have hBs:Bs<w.heap.size:=MQ _ _ hb;refine (M6 (n:=8)).1 ?_;refine Nz func278 rfl trivial ?_ rfl;simp only [ntmps278,List.size_toArray,List.length_cons,List.length_nil,Nat.reduceAdd,Nat.reduceSub,Array.replicate_succ,Array.replicate_zero,List.push_toArray,List.append_toArray,List.nil_append,List.cons_append];gi_wp2;have c9:=M7 w 377 (.slice none 0 0);have hB0:Below w w (w.alloc (.cells #[.slice none 0 0] 377)):=(Mw _ w).alloc (Mt _) _;have hsz:(w.alloc (.cells #[.slice none 0 0] 377)).heap.size=w.heap.size+1:=zad;generalize w.alloc (.cells #[.slice none 0 0] 377)=W0 at *;have hN0:Pg.cn W0 L:=fun i x hx=>(hB0.block x.1 (Ms.1 (hR i x hx)).1).trans (hR i x hx);refine PC rfl zaa (gf:=201) rfl trivial (ON func201 zab rfl)
  (pW (8-1) zaa Bs L hnd (fun k _=>w.heap.size<=k) W0 ((hB0.cell (p:=⟨Bs,0,none⟩) hBs).trans hb) hN0 (fun _=>zaa) (fun x hx _ h=>by
   obtain ⟨i,hi⟩:=M5.1 hx;have:=(Ms.1 (hR i x hi)).1;omega)) KpM.tr (fun V l o o' _ h hc _=>KpM.put V l o o' h hc) (Mw _ _) (fun _=>rfl)
  (fun pre W=>(∃ v,Boxed W w 377 v/\W.ownsRow w 79 1 v pre.length (pre.flatMap Pg.ndC)/\∃ sl:Ref.Sl,v = .slice sl.a sl.n sl.c)/\Below w w W)
  (fun _ _ _=>False)
  (Nh (NX (holdsRow_own w w.heap.size 377 79 1 (fun pre:List Pg.Nd=>pre.length) (fun pre=>pre.flatMap Pg.ndC) (fun _ v=>∃ sl:Ref.Sl,v = .slice sl.a sl.n sl.c)) _) (Oq (Mt _) zaa))
  (fun _ _ _ _ _ hs _ _=>hs)
  ⟨⟨_,c9,ND _ _ _ _,⟨none,0,0⟩,rfl⟩,hB0⟩
  (fun x a' _=>a'={ tmps:=#[.slice none 0 0,.func (.func 201) #[] #[Bs],w,undef,.slice none 0 0,.pointer (some ⟨x.1,0,none⟩),.func (.func 201) #[] #[Bs],.pointer (some ⟨x.1,0,none⟩),undef,undef,undef,undef,undef],defers:=[] })
  (fun _ _ _ _ _ _ hs _ _=>hs)
  ?assign ?body ?done ?stop
 case assign =>
  intro l pre x W K hI hK;gi_wp2;exact hK _ _ (NR _ _) (KpM.refl _ _) hI rfl
 case body =>
  rintro l pre x a' W _ _ ⟨⟨v,h9,hrow,sl,rfl⟩,hBW⟩ rfl hlt;have d9:=h9.cell;have f9:=h9.frozen;have hsW:=hBW.size;gi_wp2_with (gi_at_builtin;refine wpListIn_append_own _ rfl _ _ 377 rfl w 79 i0 (.pointer none) 1 8 underlying377 hi hz0 hz1 hz2 rfl zac _ _ _ rfl (hrow.alloc _) ⟨W,0,none⟩ 1 1 [x.1] rfl rfl (cell_one_new _ _ _) zap zag zaa zaf ?_;intro v' w1 hown' hgrow _;obtain ⟨g',cap',rfl⟩:=ownsRow_succ hown';obtain ⟨hv1,hv2,hr2,hk2,hb2⟩:=h9.appended zac hrow hsW zaa hown' hgrow;have hc1:=hv1.cell;have hf1:=hv1.frozen);exact ⟨hk2.from _,Pg.KpM.bel hb2,⟨_,hv2,by simpa [Pg.ndC,Pg.ndP] using hr2,⟨some ⟨g',0,none⟩,pre.length+1,cap'⟩,rfl⟩,hBW.trans hb2⟩
 case done =>
  rintro D ys W hD hys ⟨⟨v,h9,hrow,sl,rfl⟩,hBW⟩ hK;exact zdr
 case stop =>
  exact zfg
theorem yt (w:World) (Bs:Nat) (L:List Pg.Nd) (hnd:(L.map (·.1)).Nodup) (hb:w.cell? Bs=some (Pg.aK L)) (hR:Pg.cn w L) (hl:L.length<=19) :
  () 260 #[.func (.func 201) #[] #[Bs]] w fun e w'=>∃ sl:Ref.Sl,e = .returned (.slice sl.a sl.n sl.c)/\Pg.NdS w' w (.slice sl.a sl.n sl.c) L/\Below w w w':=by
 have HI:Hid _:=tv w Bs L hnd hb hR hl;clear hnd hb hR;go_enter func260,ntmps260;go_wp2_with (go_at_call 278;refine MC HI.out ?_;rintro e w1 ⟨sl,rfl,h3⟩);go_ret;exact ⟨sl,rfl,h3⟩
theorem pG (w:World) (Bs:Nat) (L:List Pg.Nd) (hnd:(L.map (·.1)).Nodup) (hb:w.cell? Bs=some (Pg.aK L)) (hR:Pg.cn w L) (hl:L.length<=19) :
  () 236 #[.func (.func 201) #[] #[Bs],.func (.func 237) #[] #[]] w fun e w'=>∃ sl:Ref.Sl,e = .returned (.slice sl.a sl.n sl.c)/\Pg.NdS w' w (.slice sl.a sl.n sl.c) (Pg.srt (fun y:Pg.Nd=>y.2.t) L)/\Below w w w':=by
 have HI:Hid _:=yt w Bs L hnd hb hR hl;have HS:Hid (∀ (V:World) (sl:Ref.Sl),Hid (Pg.NdS V w (.slice sl.a sl.n sl.c) L/\Below w w V)->() 261 #[.slice sl.a sl.n sl.c,.func (.func 237) #[] #[]] V fun e w'=>e = .returned (.tuple #[])/\Hid (Pg.NdS w' w (.slice sl.a sl.n sl.c) (Pg.srt (fun y:Pg.Nd=>y.2.t) L)/\Below w w w')):=fun V sl hV=>by
  have hN:Pg.cn V L:=fun i x hx=>(hV.out.2.block x.1 (Ms.1 (hR i x hx)).1).trans (hR i x hx);refine MC (sM V w _ L hV.out.1 hl hN.ndT) ?_;rintro e w' ⟨rfl,h1,h2⟩;refine ⟨rfl,h1,h2.below hV.out.2 hV.out.2.size (fun i hi e => ?_)⟩
  rcases hV.out.1.2 with ⟨e',_⟩ | ⟨g,cap,cur,e',hb,_⟩
  ·rw [e'] at e;cases e
  ·rw [e'] at e;have:g=i:=by simpa [Value.ownBlock] using e
   omega
 clear hnd hb hR;go_enter func236,ntmps236;go_wp2_with (first
  | (go_at_call 260;refine MC HI.out ?_;rintro e w1 ⟨sl,rfl,h3⟩)
  | (go_at_call 261;refine MC (HS.out _ sl h3) ?_;rintro e w2 ⟨rfl,h4⟩))
 go_ret;exact ⟨sl,rfl,h4⟩
theorem AM (w:World) (L:List Pg.Nd) (hnd:(L.map (·.1)).Nodup) (hR:Pg.cn w L) (hl:L.length<=19) :
  () 207 #[.agg #[Pg.aK L]] w fun e w'=>∃ sl:Ref.Sl,e = .returned (.slice sl.a sl.n sl.c)/\Pg.NdS w' w (.slice sl.a sl.n sl.c) (Pg.srt (fun y:Pg.Nd=>y.2.t) L)/\Below w w w':=by
 have hsh:Pg.aK L = .pointer none\/∃ b,Pg.aK L = .pointer (some ⟨b,0,none⟩):=by
  unfold Pg.aK;cases L.getLast? with
  | none=>exact .inl rfl
  | some z=>exact .inr ⟨z.1,rfl⟩
 have HT:Hid (∀ (V:World) (Bs:Nat),V.cell? ⟨Bs,0,none⟩=some (Pg.aK L)->Hid (Below w w V)->() 236 #[.func (.func 201) #[] #[.pointer (some ⟨Bs,0,none⟩)],.func (.func 237) #[] #[]] V fun e w'=>∃ sl:Ref.Sl,e = .returned (.slice sl.a sl.n sl.c)/\Hid (Pg.NdS w' w (.slice sl.a sl.n sl.c) (Pg.srt (fun y:Pg.Nd=>y.2.t) L)/\Below w w w')):=fun V Bs hc hV=>by
  have hN:Pg.cn V L:=fun i x hx=>(hV.out.block x.1 (Ms.1 (hR i x hx)).1).trans (hR i x hx);refine MC (pG V Bs L hnd hc hN hl) ?_;rintro e w' ⟨sl,rfl,h1,h2⟩;exact ⟨sl,rfl,aD h1 hV.out.size,hV.out.trans (h2.mono hV.out.size)⟩
 have HB:Hid (∀ o1 o2:Obj,Below w w ((w.alloc o1).alloc o2)):=fun o1 o2=>((Mw _ w).alloc (Mt _) _).alloc zad _;clear hnd hR;obtain ⟨rv,hrv⟩:∃ rv,Pg.aK L=rv:=⟨_,rfl⟩;have HNO:Hid (∀ V,() 161 #[.agg #[rv]] V fun e w'=>e = .returned (.func (.func 201) #[] #[.pointer (some ⟨V.heap.size,0,none⟩)])/\w'=V.alloc (.cells #[rv] 81)):=fun V=>l9 rv V (hrv ▸ hsh);rw [hrv] at HT ⊢;have HC:Hid (((w.alloc (.cells #[rv] 81)).alloc (.cells #[rv] 81)).cell? ⟨w.heap.size+1,0,none⟩=some rv):=by
  unfold Hid;simp
 rw [hrv] at hsh;have HSH:Hid _:=hsh;clear hrv
 rcases HSH.out with rfl | ⟨b,rfl⟩
 all_goals
  clear hsh HSH;go_enter func207,ntmps207;go_wp2_with (first
   | (go_at_call 161;refine MC (HNO.out _) ?_;rintro e w1 ⟨rfl,hw1⟩;rw [hw1];clear hw1 w1)
   | (go_at_call 236;refine MC (HT.out _ _ HC.out (HB.out _ _)) ?_;rintro e w2 ⟨sl,rfl,h4⟩))
  go_ret;exact ⟨sl,rfl,h4⟩
attribute [local go_sem] Nw
namespace Pg
def byT (R:Nat->List Nd) (r:Nat):List Nd:=srt (fun y:Nd=>y.2.t) (R r)
def xY (R:Nat->List Nd) (hv:Nat->Nat):List Nd:=(fY hv).flatMap (byT R)
theorem yL {α β:Type} {f:α->List β} {a b:List α} (h:a <+: b):a.flatMap f <+: b.flatMap f:=by
 obtain ⟨t,rfl⟩:=h;rw [Nr];exact Q2 _ _
theorem EE (l:List Nd):aK l = .pointer none\/∃ b,aK l = .pointer (some ⟨b,0,none⟩):=by
 exact zef
structure E5 (w:World) (mb:Nat) (R:Nat->List Nd) (hv:Nat->Nat) (B:Nat->TypeId->Prop):Prop where
 rd:∀ Bs V,KpM B w V->Boxed V Bs 122 (.pointer (some ⟨mb,27,none⟩))->Au V Bs mb R hv
 nds:∀ r,isR r->cn w (R r)
 nod:∀ r,isR r->((R r).map (·.1)).Nodup
 len:∀ r,isR r->(R r).length<=19
 far:∀ r,isR r->∀ x∈R r,∀ t,¬ B x.1 t
 mb':∀ t,¬ B mb t
 tab':∀ t,¬ B 5 t
 lt:∀ k t,B k t->k<w.heap.size\/t=139
theorem E5.flat {w:World} {mb:Nat} {R:Nat->List Nd} {hv:Nat->Nat} {B:Nat->TypeId->Prop} (h:E5 w mb R hv B):∀ rs:List Nat,(∀ q∈rs,isR q)->(rs.flatMap (byT R)).length<=19*rs.length
 | [],_=>Mt _
 | q::rs,hq=>by
  have:=h.flat rs (fun x hx=>hq x (Nl _ hx));have:=h.len q (hq q (Nk ..));rw [NT,MN,NU];unfold byT at *;rw [qE];omega
theorem KpN.lo {B:Nat->TypeId->Prop} {m:Nat} {V V':World} (h:KpN B m V V') (hmn:m<=n):KpN B n V V':=⟨h.1,h.2.size,fun k o hk ho hc=>h.2.same k o zaa ho hc⟩
end Pg
theorem GD (n:Nat) (hn:6<=n) (Bs mb:Nat) (R:Nat->List Pg.Nd) (hv:Nat->Nat) (hvl:∀ k,k<6->hv k<18446744073709551616) (B:Nat->TypeId->Prop) (w:World) (hN:Pg.E5 w mb R hv B) (hc:Boxed w Bs 122 (.pointer (some ⟨mb,27,none⟩))) (hBs:¬ B Bs 122) :
  E8 Fence.wide n prog 205 #[Bs] (fun x:Pg.Nd=>#[Value.pointer (some ⟨x.1,0,none⟩)]) (KpN B (w.heap.size+2)) (fun xs x=>(∃ r,Pg.isR r/\x∈R r)/\xs.length<=8000) (fun xs=>xs=Pg.xY R hv) (fun xs=>xs <+: Pg.xY R hv) w:=fun l J Jx W hW hWs hJ hJx hY h0=>by
 have hcW:=(show Boxed W Bs _ _ from (KpM.below (B:=B) hW).2 _ _ _ _ hc hBs).cell;have hn1:1<=n:=zaa;refine Nz func205 rfl trivial ?_ rfl;simp only [ntmps205,List.size_toArray,List.length_cons,List.length_nil,Nat.reduceAdd,Nat.reduceSub,Array.replicate_succ,Array.replicate_zero,List.push_toArray,List.append_toArray,List.nil_append,List.cons_append];have hc1:(W.alloc (.cells #[.func (.yield l) #[] #[]] 372)).cell? Bs=_:=nH ((Mw _ W).alloc (Mt _) _) hcW;gi_wp2_with (refine ⟨trivial,?_⟩;gi_at_call 206;refine (M6.2 (vi mb 27 _)).mono ?_;rintro e w9 ⟨rfl,hw9⟩;rw [hw9];clear hw9 w9);have hB1:Below W W ((W.alloc (.cells #[.func (.yield l) #[] #[]] 372)).alloc (.cells #[.pointer (some ⟨mb,27,none⟩)] 122)):=((Mw _ W).alloc (Mt _) _).alloc zad _;have by1:=(M7 W 372 (.func (.yield l) #[] #[])).alloc (.cells #[.pointer (some ⟨mb,27,none⟩)] 122);have bx1:=M7 (W.alloc (.cells #[.func (.yield l) #[] #[]] 372)) 122 (.pointer (some ⟨mb,27,none⟩));simp only [World.size_alloc] at bx1;have hJ1:J [] ((W.alloc (.cells #[.func (.yield l) #[] #[]] 372)).alloc (.cells #[.pointer (some ⟨mb,27,none⟩)] 122)):=hJ.alloc _ (hJ.alloc _ h0);have hs1:((W.alloc (.cells #[.func (.yield l) #[] #[]] 372)).alloc (.cells #[.pointer (some ⟨mb,27,none⟩)] 122)).heap.size=W.heap.size+2:=zad;generalize (W.alloc (.cells #[.func (.yield l) #[] #[]] 372)).alloc (.cells #[.pointer (some ⟨mb,27,none⟩)] 122)=W1 at *;have hK1:KpM B w W1:=(KpM.below hW).tr (KpM.below hB1);have hlt:=hN.lt;have hsh:=fun r=>Pg.EE (R r);have hdr:∀ {K:List Pg.Nd->World->Prop},OwnFrom W K->∀ xs A C,Below A.heap.size A C->K xs A->K xs C:=fun {K} hK xs A C hb h=>hK xs A C none h ⟨hb.os,hb.tape,hb.output,hb.size,fun k hk _=>hb.block k hk⟩ (fun r e=>by cases e)
 refine zI rfl zaa (gf:=234) rfl trivial (ON func234 zab rfl)
  (zO (n-1) zaa (W.heap.size+1) mb R hv hvl B W1 (hN.rd _ W1 hK1 bx1) (fun h=>by rcases hlt _ _ h with h | h;have:=hW.size;omega;exact absurd h zac) hN.mb' hN.tab' (fun k t h=>(hlt k t h).imp (fun h=>by have:=hW.size;omega) id))
  KpN.tr (fun V o o' h ho=>KpN.put zaa V o o' h ho) (fun _=>rfl)
  (fun rs V=>J (rs.flatMap (Pg.byT R)) V/\KpN B (w.heap.size+2) W1 V) (fun rs V=>∃ ys,ys <+: rs.flatMap (Pg.byT R)/\Jx ys V)
  (Nh (fun rs A C row h hg hr=>hJ _ A C row h hg (fun r e=>⟨zat,(hr r e).2⟩)) (KpN.own (Mt _)))
  (fun rs A C row h hg hr=>by obtain ⟨ys,h1,h2⟩:=h;exact ⟨ys,h1,hJx _ A C row h2 hg (fun r e=>⟨zat,(hr r e).2⟩)⟩)
  ⟨hJ1,KpN.refl _ _ _⟩
  (fun r a' V=>∃ b,a'={ tmps:=#[.func (.yield l) #[] #[],.pointer (some ⟨Bs,0,none⟩),.pointer (some ⟨W.heap.size,0,none⟩),.pointer (some ⟨b,0,none⟩),undef,undef,.pointer (some ⟨mb,27,none⟩),.func (.func 234) #[] #[.pointer (some ⟨W.heap.size+1,0,none⟩)],.agg #[Pg.aK (R r)],undef,undef,undef,undef,undef,undef,undef,undef,undef,undef,undef,undef],defers:=[] }/\Boxed V b 81 (Pg.aK (R r))/\W1.heap.size<=b)
  (fun r a' u A C row h hg hr=>by
   obtain ⟨b,e,hb,hl⟩:=h;exact ⟨b,e,NX (NN (β:=Unit) b 81 (fun _=>Pg.aK (R r))) _ () A C row hb hg hr,hl⟩)
  ?assign ?body ?done ?stop
 case assign =>
  intro l2 rs r V K hI hK;have hVs:=hI.2.1.1;have hBa:∀ o,Below V V (V.alloc o):=fun o=>(Mw _ V).alloc (Mt _) _;have hk2:∀ rv:Value,Pg.aK (R r)=rv->K _ (V.alloc (.cells #[rv] 81)):=fun rv e=>hK _ _ ((Q8 _ _).from _) (KpN.below (hBa _)) ⟨hdr hJ _ _ _ (hBa _) hI.1,hI.2.tr (KpN.below (hBa _))⟩ ⟨V.heap.size,rfl,e ▸ M7 V _ _,hVs⟩;exact zdY
 case body =>
  rintro l2 rs r a' V hl ⟨rl,hrl⟩ ⟨hir,hrsl,hrsm⟩ ⟨hJV,hKV⟩ ⟨b,rfl,hb,hbl⟩;have hfl:=hN.flat rs hrsm;have hbc:=hb.cell;have hKw:KpM B w V:=hK1.tr hKV.1;have hRV:Pg.cn V (R r):=fun i x hx=>hKw.2 _ _ _ _ (hN.nds r hir i x hx) (hN.far r hir x (MG hx) _);have hbt:=AM V (R r) (hN.nod r hir) hRV (hN.len r hir);have hd1:1<=n-1-1:=zaa;obtain ⟨L,hL⟩:∃ L,Pg.srt (fun y:Pg.Nd=>y.2.t) (R r)=L:=⟨_,rfl⟩;have HL:Hid (Pg.byT R r=L):=hL;have hLm:∀ x∈L,x∈R r:=fun x hx=>by rw [<- hL] at hx;exact Pg.ki.1 hx
  have hl19:L.length<=19:=by rw [<- hL,Pg.qE];exact hN.len r hir
  rw [hL] at hbt;obtain ⟨rv,hrv⟩:∃ rv,Pg.aK (R r)=rv:=⟨_,rfl⟩;rw [hrv] at hbc hbt ⊢;clear hL hrv hRV hsh;gi_wp2_with (refine ⟨trivial,?_⟩;gi_at_call 207;refine (aH hbt).mono ?_;rintro e V2 ⟨⟨sa,sn,sc⟩,rfl,hrow,hB2⟩;dsimp only at hrow ⊢);have hsn:sn=L.length:=by
   rcases hrow.2 with ⟨e,h0⟩ | ⟨g,cap,cur,e,_⟩
   ·simp at e;omega
   ·simp at e;omega
  subst hsn;have hcell:∀ (i:Nat) (x:Pg.Nd),L[i]?=some x->∃ g cur,sa=some ⟨g,0,none⟩/\V.heap.size<=g/\V2.heap[g]?=some (.cells cur 79 (0,0))/\cur[i]?=some (Pg.ndP x.1):=fun i x hx=>by
   have hi:=(Mx.1 hx).1
   rcases hrow.2 with ⟨e,h0⟩ | ⟨g,cap,cur,e,hbs,hg,hle,hcap,hsz,htk⟩
   ·omega
   ·simp at e;refine ⟨g,cur,e.1,hbs,hg,?_⟩;rw [Pg.qz,Pw] at htk;have h2:=congrArg (fun l:List Value=>l[i]?) htk;simpa [List.getElem?_take_of_lt hi,hx] using h2
  have hJ2:=hdr hJ _ _ _ hB2 hJV;have hK2:KpN B (w.heap.size+2) W1 V2:=hKV.tr (KpN.below hB2);have hVs:=hKV.1.1;have hWs2:=hW.size;clear hbt hrow hbc;refine wpIn_loop (fun a' U=>∃ (i:Nat) (u5 u13 u14 u15 u16 u17 u18 u19 u20:Value),a'={ tmps:=#[.func (.yield l) #[] #[],Bs,W,b,undef,u5,.pointer (some ⟨mb,27,none⟩),.func (.func 234) #[] #[↑(W.heap.size+1)],.agg #[rv],.agg #[rv],.slice sa L.length sc,(L.length:Int),(i:Int),u13,u14,u15,u16,u17,u18,u19,u20],defers:=[] }/\i<=L.length/\J (rs.flatMap (Pg.byT R)++L.take i) U/\KpN B (w.heap.size+2) V2 U) (fun a' _=>L.length-(intOf (a'.tmps.getD 12 undef)).toNat) ?_ ?_
  ·exact ⟨0,_,_,_,_,_,_,_,_,_,rfl,MJ _,by simpa using hJ2,KpN.refl _ _ _⟩
  rintro a'' U ⟨i,u5,u13,u14,u15,u16,u17,u18,u19,u20,rfl,hiL,hJU,hKU⟩;have hKW1:=hK2.tr hKU;have hyc:U.cell? W=some (.func (.yield l) #[] #[]):=(Pg.KpM.bx hlt hKW1.1 by1 hWs2).cell;have hKVU:KpN B (w.heap.size+2) V U:=(KpN.below hB2).tr hKU;by_cases hi:i<L.length
  ·obtain ⟨x,hx⟩:∃ x,L[i]?=some x:=⟨_,Mu hi⟩;obtain ⟨g,cur,rfl,hgV,hgr,hgc⟩:=hcell i x hx;have hgU:U.cell? ⟨g,i,none⟩=some ↑x.1:=(My U _ _ _ _ _ (hKU.1.2 _ _ _ _ hgr (fun h=>by rcases hlt _ _ h with h' | h';omega;exact absurd h' zac))).trans hgc;have hi':(i:Int)<(L.length:Int):=zaa;obtain ⟨fn,tm,asg,bd,hy,hRo⟩:=hY _ x U hJU ⟨⟨r,hir,hLm x (MG hx)⟩,by rw [MN,NP];omega⟩;have HX:Hid (rs.flatMap (Pg.byT R)++L.take i++[x]=rs.flatMap (Pg.byT R)++L.take (i+1)):=by
    unfold Hid;rw [On,dC hx]
   (try dsimp only at hy)
   gi_wp2;refine (sK mx (dF l2) hRo).mono ?_;rintro e U' (⟨rfl,hJ',hk'⟩ | ⟨rfl,hJ',hk'⟩)
   ·gi_wp2;refine ⟨⟨i+1,_,_,_,_,_,_,_,_,_,rfl,zaa,by rw [<- HX.out];exact hJ',hKU.tr hk'⟩,?_⟩;show L.length-((i:Int)+1).toNat<L.length-(i:Int).toNat;omega
   ·gi_wp2;have hk2:=hKVU.tr hk';refine ⟨(Pg.KpN.lo hk2 zaa).2,Pg.KpN.lo hk2 zaa,_,?_,hJ'⟩;rw [HX.out,Nr,Qu,HL.out];exact (QN _).2 (List.take_prefix _ _)
  ·have hie:i=L.length:=zaa;subst hie;gi_wp2;refine ⟨(Pg.KpN.lo hKVU zaa).2,Pg.KpN.lo hKVU zaa,?_,hKV.tr hKVU⟩;rw [Nr,Qu,HL.out];rw [NO] at hJU;exact hJU
 case done =>
  rintro D rs V hD hrs ⟨hJV,hKV⟩ hdef;subst hrs;gi_wp2;refine ⟨zad,.inl ⟨_,_,rfl,Nq hdef,?_⟩⟩;exact ⟨_,NF rfl _ _ _,⟨_,rfl⟩,.inl ⟨_,rfl,hJ.putObj _ hJV zaa hdef rfl⟩⟩
 case stop =>
  rintro D rs V hD hrs ⟨ys,hys,hJV⟩ hdef;gi_wp2;refine ⟨zad,.inl ⟨_,_,rfl,Nq hdef,?_⟩⟩;exact ⟨_,NF rfl _ _ _,⟨_,rfl⟩,.inr ⟨ys,hys.trans (Pg.yL hrs),hJx.putObj _ hJV zaa hdef rfl⟩⟩
attribute [local go_sem] Nw
theorem tp {F:Fence} (hF:Wd F) {P:Program} {ops:Array Oper} {Q:Exit->Act->World->Prop} {a:Act} {rest:List Oper} {o:Oper} (hg:o.guard=none) (hnd:∀ c,o.op ≠ .defer c) (h:∀ K:Act->World->Prop,(∀ a w,wpListIn F n P ops Q rest a w->K a w)->o.wp P a w K Q):wpListIn F n P ops Q (o::rest) a w :=
 wpListIn_plain hg fun K hK=>⟨fun _ _=>hF.fn _,by
  rw [Oper.semAt_eq _ _ _ hnd];exact Db hF _ (h K hK)⟩
theorem BI (mb o:Nat) (w:World):() 163 #[.pointer (some ⟨mb,o,none⟩)] w fun e w'=>e = .returned (.func (.func 205) #[] #[w])/\w'=w.alloc (.cells #[.pointer (some ⟨mb,o,none⟩)] 122):=by
 go_enter func163,ntmps163;exact zfl
theorem zu (V:World) (g:Nat) (v:Value) (h:V.cell? g=some v):(loadVar 79 ⟨g,0,none⟩).run prog V = .ok v V:=by
 simp [loadVar,Sem.run_bind,Tryz.isAgg79,go_sem,h]
namespace Pg
def A8 (L:List Nd):Value:=match L.head? with | some x=>ndP x.1 | none => .pointer none
end Pg
theorem DN (w:World) (mb:Nat) (R:Nat->List Pg.Nd) (hv:Nat->Nat) (hvl:∀ k,k<6->hv k<18446744073709551616) (hN:∀ W0,Below w w W0->W0.heap.size=w.heap.size+2->Pg.E5 W0 mb R hv (fun k _=>k=w.heap.size)) :
  () 116 #[.pointer (some ⟨mb,27,none⟩)] w fun e w'=>e = .returned (Pg.A8 (Pg.xY R hv))/\Below w w w':=by
 refine (M6 (n:=9)).1 ?_;refine Nz func116 rfl trivial ?_ rfl;simp only [ntmps116,List.size_toArray,List.length_cons,List.length_nil,Nat.reduceAdd,Nat.reduceSub,Array.replicate_succ,Array.replicate_zero,List.push_toArray,List.append_toArray,List.nil_append,List.cons_append];gi_wp2_with (refine ⟨trivial,?_⟩;gi_at_call 163;refine (M6.2 (BI mb 27 _)).mono ?_;rintro e w9 ⟨rfl,hw9⟩;rw [hw9];clear hw9 w9);have b0:=(M7 w 79 (.pointer none)).alloc (.cells #[.pointer (some ⟨mb,27,none⟩)] 122);have b1:=M7 (w.alloc (.cells #[.pointer none] 79)) 122 (.pointer (some ⟨mb,27,none⟩));simp only [World.size_alloc] at b1;have hB0:Below w w ((w.alloc (.cells #[.pointer none] 79)).alloc (.cells #[.pointer (some ⟨mb,27,none⟩)] 122)):=((Mw _ w).alloc (Mt _) _).alloc zad _;have hs0:((w.alloc (.cells #[.pointer none] 79)).alloc (.cells #[.pointer (some ⟨mb,27,none⟩)] 122)).heap.size=w.heap.size+2:=zad;generalize (w.alloc (.cells #[.pointer none] 79)).alloc (.cells #[.pointer (some ⟨mb,27,none⟩)] 122)=W0 at *;refine zI rfl zaa (gf:=205) rfl trivial (ON func205 zab rfl)
  (GD 8 zaa (w.heap.size+1) mb R hv hvl (fun k _=>k=w.heap.size) W0 (hN W0 hB0 hs0) b1 zaa)
  KpN.tr (fun V o o' h ho=>KpN.put zaa V o o' h ho) (fun _=>rfl)
  (fun xs V=>(xs=[]/\Boxed V w 79 (.pointer none))/\Below w w V)
  (fun xs V=>(∃ x:Pg.Nd,xs=[x]/\Boxed V w 79 (Pg.ndP x.1))/\Below w w V)
  (Nh (Nh (ownFrom_pure _ _) (NX (NN _ _ _) _)) (Oq (Mt _) zaa))
  (Nh (fun xs A C row h hg hr=>by
   obtain ⟨x,e,hb⟩:=h;exact ⟨x,e,NX (NN (β:=Unit) w.heap.size 79 (fun _=>Pg.ndP x.1)) _ () A C row hb hg hr⟩) (Oq (Mt _) zaa))
  ⟨⟨rfl,b0⟩,hB0⟩
  (fun x a' _=>a'={ tmps:=#[.pointer (some ⟨mb,27,none⟩),undef,w,.pointer (some ⟨x.1,0,none⟩),.pointer (some ⟨mb,27,none⟩),.func (.func 205) #[] #[↑(w.heap.size+1)],.pointer (some ⟨x.1,0,none⟩),undef],defers:=[] })
  (fun _ _ _ _ _ _ hs _ _=>hs) ?assign ?body ?done ?stop
 case assign =>
  intro l xs x V K hI hK;gi_wp2;exact hK _ _ (NR _ _) (KpN.refl _ _ _) hI rfl
 case body =>
  rintro l xs x a' V hl _ _ ⟨⟨rfl,hbx⟩,hB⟩ rfl;have hc:=hbx.cell;have hf:=hbx.frozen;gi_wp2;exact ⟨(NB _ _ _).from _,KpN.set _ _ _ (fun _=>rfl),⟨x,rfl,hbx.set _⟩,hB.setCell (p:=⟨w,0,none⟩) (Mt _) _⟩
 case done =>
  rintro D xs V hD hxs ⟨⟨rfl,hbx⟩,hB⟩ hdef;have hc:=hbx.cell;have hf:=hbx.frozen;have hset:=hbx.set (.pointer none);gi_wp2;refine ⟨zad,.inl ⟨_,_,rfl,Nq (w:=V.setCell w (.pointer none)) ((Nf V _ _ D (by show D≠w.heap.size;omega)).trans hdef),?_⟩⟩;have hBd:Below w w ((V.setCell w (.pointer none)).putObj D (.deferred none)):=(hB.setCell (p:=⟨w,0,none⟩) (Mt _) _).trans (OV (w:=w) (Mt _) _ D _ _ zaa ((Nf V _ _ D (by show D≠w.heap.size;omega)).trans hdef) rfl rfl);have hcd:((V.setCell w (.pointer none)).putObj D (.deferred none)).cell? w=some (.pointer none):=(MK (Nu (by show w.heap.size≠D;omega))).trans hset.cell;refine ⟨.pointer none,?_,by rw [<- hxs];rfl,hBd⟩;exact zeT
 case stop =>
  rintro D xs V hD hpre ⟨⟨x,rfl,hbx⟩,hB⟩ hdef;gi_wp2;refine ⟨zad,.inl ⟨_,_,rfl,Nq hdef,?_⟩⟩;have hcd:(V.putObj D (.deferred none)).cell? w=some (Pg.ndP x.1):=(MK (Nu (by show w.heap.size≠D;omega))).trans hbx.cell;refine ⟨Pg.ndP x.1,?_,?_,hB.trans (OV (w:=w) (Mt _) _ D _ _ zaa hdef rfl rfl)⟩
  ·exact zeT
  ·obtain ⟨t,ht⟩:=hpre;unfold Pg.A8;rw [<- ht];rfl
namespace Pg
theorem cW.nil {lo:Pg.Lo} (hM:au W lo mb pb qv s) (h:cW W lo s.wh R) (hr:isR r) (hls:lo<=W.heap.size) :
  au (W.setCell ⟨mb,28+r,none⟩ (.pointer none)) lo mb pb qv { s with wh:=upd s.wh (28+r) (.pointer none) }/\cW (W.setCell ⟨mb,28+r,none⟩ (.pointer none)) lo (upd s.wh (28+r) (.pointer none)) (upd R r [])/\Rw lo W (W.setCell ⟨mb,28+r,none⟩ (.pointer none)):=by
 have hrl:=hr.lt;have hm:Mo (· = mb) W (W.setCell ⟨mb,28+r,none⟩ (.pointer none)):=(Mo.refl _ _).set _ _ rfl;have hR:Rm lo W (W.setCell ⟨mb,28+r,none⟩ (.pointer none)):=RfE.mo hm (fun j hj=>by
  obtain ⟨arr,a1,_⟩:=hM.blk;subst hj;exact ⟨hM.lo',arr,_,_,a1,rfl⟩) hls
 refine ⟨hM.C0 (28+r) _ zaa zaa,?_,Hc hR⟩;have h2:=h.kd hR.kd (by unfold JD;decide);have hmem:∀ q x,x∈upd R r [] q->x∈R q:=fun q x hx=>by
  by_cases e:q=r
  ·subst e;rw [aC] at hx;cases hx
  ·rw [aG _ _ e] at hx;exact hx
 refine ⟨fun q hq => ?_,fun q hq => ?_,fun q hq x hx=>h2.low q hq x (hmem q x hx),fun p q hp hq hpq x hx y hy=>h2.dis p q hp hq hpq x (hmem p x hx) y (hmem q y hy),fun q hq => ?_⟩
 ·by_cases e:q=r
  ·subst e;rw [aC,aC];rfl
  ·rw [aG _ _ e,aG _ _ zaa];exact h.ring q hq
 ·by_cases e:q=r
  ·subst e;rw [aC];exact cn.nil _
  ·rw [aG _ _ e];exact h2.nds q hq
 ·by_cases e:q=r
  ·subst e;rw [aC];exact Ry
  ·rw [aG _ _ e];exact h2.nod q hq
theorem Lb {i:Nat} (hi:i+1<m.length):nxt m i=nxt (f::m) (i+1):=by
 unfold nxt;rw [OP,Mu hi]
theorem cW.tl {lo:Pg.Lo} (hM:au W lo mb pb qv s) (h:cW W lo s.wh R) (hr:isR r) (hls:lo<=W.heap.size) {z:Nd} (hf:R r=f::m) (hz:m.getLast?=some z) :
  au (W.setCell ⟨z.1,3,none⟩ (nxt (f::m) 0)) lo mb pb qv s/\cW (W.setCell ⟨z.1,3,none⟩ (nxt (f::m) 0)) lo s.wh (upd R r m)/\Rw lo W (W.setCell ⟨z.1,3,none⟩ (nxt (f::m) 0)):=by
 have hne:m≠[]:=fun e=>zaX;have hml:0<m.length:=Ou.2 hne;have hlz:m[m.length-1]?=some z:=zaA;have hn:=h.nds r hr;rw [hf] at hn;have hzn:=hn (m.length-1+1) z (by rw [OP];exact hlz);have hm:Mo (· = z.1) W (W.setCell ⟨z.1,3,none⟩ (nxt (f::m) 0)):=(Mo.refl _ _).set _ _ rfl;have hzr:z∈R r:=by rw [hf];exact Nl _ (MG hlz)
 have hR:Rw lo W (W.setCell ⟨z.1,3,none⟩ (nxt (f::m) 0)):=RfE.mo hm (fun j hj=>by
  subst hj;exact ⟨h.low r hr z hzr,_,_,_,hzn,.inr rfl⟩) hls
 have hnd:=h.nod r hr;rw [hf,OQ,P1] at hnd;have hmem:∀ q x,x∈upd R r m q->x∈R q:=fun q x hx=>by
  by_cases e:q=r
  ·subst e;rw [aC] at hx;rw [hf];exact Nl _ hx
  ·rw [aG _ _ e] at hx;exact hx
 refine ⟨hM.mo hm (fun e=>hM.typ hzn e) (fun g hg e => ?_),⟨fun q hq => ?_,fun q hq => ?_,fun q hq x hx=>h.low q hq x (hmem q x hx),fun p q hp hq hpq x hx y hy=>h.dis p q hp hq hpq x (hmem p x hx) y (hmem q y hy),fun q hq => ?_⟩,hR⟩
 ·obtain ⟨c',hc'⟩:=hM.que.kind g hg;rw [e,hzn] at hc';simp at hc'
 ·by_cases e:q=r
  ·subst e;rw [aC,h.ring q hq,hf];unfold aK;rw [List.getLast?_cons,hz];rfl
  ·rw [aG _ _ e];exact h.ring q hq
 ·by_cases e:q=r
  ·subst e;rw [aC];intro i x hx;have hi:=(Mx.1 hx).1;by_cases ei:i=m.length-1
   ·subst ei;rw [hlz] at hx;cases hx
    rw [show nxt m (m.length-1)=nxt (f::m) 0 by
     rw [iL (Mu hml)];unfold nxt;rw [OP,Mu hml]]
    exact MO W z.1 3 _ _ _ hzn
   ·rw [Lb (f:=f) (m:=m) (i:=i) zaa];refine (Nf W _ _ x.1 (fun e'=>ei ?_)).trans (hn (i+1) x (by rw [OP];exact hx));have e1:(m.map (·.1))[i]?=(m.map (·.1))[m.length-1]?:=by rw [MF,MF,hx,hlz];simp only [Option.map_some];rw [e']
    have hi':i<(m.map (·.1)).length:=zbp;have hj':m.length-1<(m.map (·.1)).length:=zaf;rw [Mu hi',Mu hj'] at e1;have ea:=hnd.2.idxOf_getElem i hi';have eb:=hnd.2.idxOf_getElem (m.length-1) hj';rw [Np e1] at ea;omega
  ·rw [aG _ _ e];exact (h.nds q hq).mo hm (fun x hx=>h.dis q r hq hr e x hx z hzr)
 ·by_cases e:q=r
  ·subst e;rw [aC];exact hnd.2
  ·rw [aG _ _ e];exact h.nod q hq
end Pg
theorem EF (w:World) (c o fb:Nat) (hc:w.cell? ⟨c,o,none⟩=some (Pg.ndP fb)) (hfz:w.frozen? ⟨c,o,none⟩=false) (x:Pg.Tn) (hn:w.heap[fb]?=some (.cells (Pg.ep x (Pg.ndP fb)) 279 (0,0))) :
  () 198 #[.pointer (some ⟨c,o,none⟩)] w fun e w'=>e = .returned (Pg.ndP fb)/\w'=w.setCell ⟨c,o,none⟩ (.pointer none):=by
 have n3:w.cell? ⟨fb,3,none⟩=some (Pg.ndP fb):=zaV;have heq:=iy w fb fb ⟨_,hn⟩ ⟨_,hn⟩;rw [show decide (fb=fb)=true by simp] at heq;unfold Pg.ndP at hc n3 ⊢;clear hn;go_enter func198,ntmps198;go_wp2;go_ret;exact ⟨rfl,rfl⟩
theorem EG (w:World) (c o fb zb nb:Nat) (hc:w.cell? ⟨c,o,none⟩=some (Pg.ndP zb)) (x y:Pg.Tn) (hn:w.heap[fb]?=some (.cells (Pg.ep x (Pg.ndP nb)) 279 (0,0))) (hz:w.heap[zb]?=some (.cells (Pg.ep y (Pg.ndP fb)) 279 (0,0))) (hne:fb≠zb) :
  () 198 #[.pointer (some ⟨c,o,none⟩)] w fun e w'=>e = .returned (Pg.ndP fb)/\w'=w.drew.setCell ⟨zb,3,none⟩ (Pg.ndP nb):=by
 have n3:w.cell? ⟨fb,3,none⟩=some (Pg.ndP nb):=zaV;have z3:w.cell? ⟨zb,3,none⟩=some (Pg.ndP fb):=by rw [My w _ _ _ _ _ hz];rfl
 have zf:w.drew.frozen? ⟨zb,3,none⟩=false:=by show w.frozen? _=_;simp [World.frozen?,hz]
 have heq:=iy w fb zb ⟨_,hn⟩ ⟨_,hz⟩;rw [show decide (fb=zb)=false by simp [hne]] at heq;unfold Pg.ndP at hc n3 z3 ⊢;have hc':w.drew.cell? ⟨c,o,none⟩=_:=hc;have n3':w.drew.cell? ⟨fb,3,none⟩=_:=n3;have z3':w.drew.cell? ⟨zb,3,none⟩=_:=z3;clear hn hz hne;go_enter func198,ntmps198
 go_upto_region 4 with fail
 refine dU 8 zab zab ?_;simp only [List.take_succ_cons,List.take_zero,List.drop_succ_cons,List.drop_zero]
 repeat still_step
 refine N1 ?_;go_wp2;go_ret;exact ⟨rfl,rfl⟩
theorem Hf (w:World) (lo:Pg.Lo) (mb pb:Nat) (qv:Value) (s:Pg.MSt) (R:Nat->List Pg.Nd) (r:Nat) (f:Pg.Nd) (m:List Pg.Nd) (hM:Pg.au w lo mb pb qv s) (h:Pg.cW w lo s.wh R) (hls:lo<=w.heap.size) (hr:Pg.isR r) (hf:R r=f::m) :
  () 198 #[.pointer (some ⟨mb,28+r,none⟩)] w fun e w'=>e = .returned (Pg.ndP f.1)/\Hid (∃ wh',Pg.au w' lo mb pb qv { s with wh:=wh' }/\Pg.cW w' lo wh' (Pg.upd R r m)/\Pg.Rw lo w w'/\(∀ i,i≠28+r->wh' i=s.wh i)/\∃ v,w'.heap[f.1]?=some (.cells (Pg.ep f.2 v) 279 (0,0))):=by
 have hrl:=hr.lt;have hn:=h.nds r hr;have hc:=(hM.whc (28+r) zaa zaa).trans (congrArg some (h.ring r hr));rw [hf] at hn hc;have hf0:=hn 0 f rfl;cases hz:m.getLast? with
 | none =>
  have hm:m=[]:=OX.1 hz;subst hm;refine MC (EF w mb (28+r) f.1 hc (hM.frozen _) f.2 hf0) ?_;rintro e w' ⟨rfl,rfl⟩;obtain ⟨a,b,c⟩:=h.nil hM hr hls;exact ⟨rfl,_,a,b,c,fun i hi=>Pg.aG _ _ hi,_,(Nf w _ _ f.1 (fun e=>hM.typ hf0 e.symm)).trans hf0⟩
 | some z =>
  have hne:m≠[]:=fun e=>zaX;have hml:0<m.length:=Ou.2 hne;have hlz:m[m.length-1]?=some z:=zaA;have hzn:=hn (m.length-1+1) z (by rw [OP];exact hlz);have hnd:=h.nod r hr;rw [hf,OQ,P1] at hnd;have hfz:f.1≠z.1:=fun e=>hnd.1 (Ni.2 ⟨z,MG hlz,e.symm⟩);have e1:Pg.aK (f::m)=Pg.ndP z.1:=by unfold Pg.aK;rw [List.getLast?_cons,hz];rfl
  have e2:Pg.nxt (f::m) (m.length-1+1)=Pg.ndP f.1:=by
   have:=Pg.iL (l:=f::m) (f:=f) rfl;rw [NU,QY] at this;rw [show m.length-1+1=m.length by omega];exact this
  have e3:Pg.nxt (f::m) 0=Pg.ndP m[0].1:=by
   unfold Pg.nxt;rw [OP,Mu hml]
  rw [e1] at hc;rw [e2] at hzn;rw [e3] at hf0;refine MC (EG w mb (28+r) f.1 z.1 m[0].1 hc f.2 z.2 hf0 hzn hfz) ?_;rintro e w' ⟨rfl,rfl⟩;have hd:=(Mw w w).drew;obtain ⟨a,b,c⟩:=(h.below hd).tl (hM.below hd) hr hls hf hz;rw [e3] at a b c;exact ⟨rfl,s.wh,a,b,(Pg.RfE.of hd hls).trans c,fun _ _=>rfl,_,(Nf w.drew _ _ f.1 hfz).trans hf0⟩
theorem Pg.jS.marked {wh wh1:Nat->Value} {sl h:Nat} (hH:Pg.jS wh R) (hk:k<6) (hs:sl<64) (h2:wh (28+(k*65+64)) = .int .u64 h) (h1:h<18446744073709551616) (hw:∀ i,i≠28+(k*65+sl)->wh1 i=wh i) (h3:∀ s,s<64->h.testBit s = !(R (k*65+s)).isEmpty) :
  Pg.jS (Pg.upd wh1 (28+(k*65+64)) (.int .u64 (Pg.ie h sl m.isEmpty))) (Pg.upd R (k*65+sl) m):=fun k' hk'=>by
 by_cases e:k'=k
 ·subst e;refine ⟨_,Pg.nY h1 hs,Pg.aC _ _ _,fun j hj => ?_⟩;rw [Pg.l7 hs j hj];by_cases e:j=sl
  ·subst e;rw [MB rfl,Pg.aC]
  ·rw [Mz e,Pg.aG _ _ zaa];exact h3 j hj
 ·obtain ⟨g,g1,g2,g3⟩:=hH k' hk';refine ⟨g,g1,?_,fun j hj => ?_⟩
  ·rw [Pg.aG _ _ zaa,hw _ zaa];exact g2
  ·rw [Pg.aG _ _ zaa];exact g3 j hj
theorem vQ (w:World) (lo:Pg.Lo) (mb pb:Nat) (qv:Value) (s:Pg.MSt) (wh0:Nat->Value) (R:Nat->List Pg.Nd) (k sl:Nat) (m:List Pg.Nd) (hM:Pg.au w lo mb pb qv s) (h:Pg.cW w lo s.wh (Pg.upd R (k*65+sl) m)) (hH:Pg.jS wh0 R) (hls:lo<=w.heap.size) (hk:k<6) (hs:sl<64) (hw:∀ i,i≠28+(k*65+sl)->s.wh i=wh0 i) :
  () 199 #[.pointer (some ⟨mb,28+k*65,none⟩),(sl:Int)] w fun e w'=>e = .returned (.tuple #[])/\Hid (∃ wh',Pg.au w' lo mb pb qv { s with wh:=wh' }/\Pg.WhM w' lo { s with wh:=wh' } (Pg.upd R (k*65+sl) m)/\Pg.Rw lo w w'/\∃ V:World,V.heap=w.heap/\∃ p v,w'=V.setCell p v/\p.block=mb):=by
 have hr:Pg.isR (k*65+sl) := .inl zaa;obtain ⟨g,h1,h2,h3⟩:=hH k hk;have hg:s.wh (28+(k*65+64)) = .int .u64 g:=(hw _ zaa).trans h2;have hring:=h.ring _ hr;rw [Pg.aC] at hring;refine MC (rZ w mb (28+k*65) sl m g hs h1 (by rw [NW];exact (hM.whc (28+(k*65+sl)) zaa zaa).trans (congrArg some hring)) (by rw [NW];exact (hM.whc (28+(k*65+64)) zaa zaa).trans (congrArg some hg)) (hM.frozen _)) ?_;rintro e w' ⟨rfl,rfl⟩;obtain ⟨a2,b2,c2⟩:=h.mark hM k hk (.int .u64 (Pg.ie g sl m.isEmpty)) hls;exact ⟨rfl,_,a2,⟨b2,hH.marked hk hs h2 h1 hw h3⟩,c2,w.drew,rfl,_,_,rfl,rfl⟩
theorem Ih (w:World) (lo:Pg.Lo) (mb pb:Nat) (qv:Value) (s:Pg.MSt) (R:Nat->List Pg.Nd) (k sl:Nat) (f:Pg.Nd) (m:List Pg.Nd) (hM:Pg.au w lo mb pb qv s) (hW:Pg.WhM w lo s R) (hls:lo<=w.heap.size) (hk:k<6) (hs:sl<64) (hf:R (k*65+sl)=f::m) :
  () 159 #[.pointer (some ⟨mb,28+k*65,none⟩),(sl:Int)] w fun e w'=>e = .returned (Pg.ndP f.1)/\Hid (∃ wh',Pg.au w' lo mb pb qv { s with wh:=wh' }/\Pg.WhM w' lo { s with wh:=wh' } (Pg.upd R (k*65+sl) m)/\Pg.Rw lo w w'/\∃ v,w'.heap[f.1]?=some (.cells (Pg.ep f.2 v) 279 (0,0))):=by
 have hr:Pg.isR (k*65+sl) := .inl zaa;have HP:Hid (() 198 #[.pointer (some ⟨mb,28+k*65+sl,none⟩)] w fun e w'=>e = .returned (Pg.ndP f.1)/\Hid (∃ wh',Pg.au w' lo mb pb qv { s with wh:=wh' }/\Pg.cW w' lo wh' (Pg.upd R (k*65+sl) m)/\Pg.Rw lo w w'/\(∀ i,i≠28+(k*65+sl)->wh' i=s.wh i)/\∃ v,w'.heap[f.1]?=some (.cells (Pg.ep f.2 v) 279 (0,0)))):=by
  unfold Hid;rw [NW];exact Hf w lo mb pb qv s R _ f m hM hW.rgs hls hr hf
 have HK:Hid (∀ V:World,Hid (∃ wh',Pg.au V lo mb pb qv { s with wh:=wh' }/\Pg.cW V lo wh' (Pg.upd R (k*65+sl) m)/\Pg.Rw lo w V/\(∀ i,i≠28+(k*65+sl)->wh' i=s.wh i)/\∃ v,V.heap[f.1]?=some (.cells (Pg.ep f.2 v) 279 (0,0)))->() 199 #[.pointer (some ⟨mb,28+k*65,none⟩),(sl:Int)] V fun e w'=>e = .returned (.tuple #[])/\Hid (∃ wh',Pg.au w' lo mb pb qv { s with wh:=wh' }/\Pg.WhM w' lo { s with wh:=wh' } (Pg.upd R (k*65+sl) m)/\Pg.Rw lo w w'/\∃ v,w'.heap[f.1]?=some (.cells (Pg.ep f.2 v) 279 (0,0)))):=fun V hV=>by
  obtain ⟨wh1,a,b,c,d,v,hv⟩:=hV.out;refine MC (vQ V lo mb pb qv { s with wh:=wh1 } s.wh R k sl m a b hW.held (Mv hls c.bel.size) hk hs d) ?_;rintro e w' ⟨rfl,x⟩;obtain ⟨wh2,a2,b2,c2,V2,hV2,p,u,rfl,hp⟩:=x.out;exact ⟨rfl,wh2,a2,b2,c.trans c2,v,(Nf V2 p u f.1 (fun e=>a.typ hv (by rw [<- hp];exact e.symm))).trans (by rw [hV2];exact hv)⟩
 have hs':(sl:Int)<64:=zaa;clear hM hW hf hr;go_enter func159,ntmps159;go_wp2_with (first
  | (go_at_call 198;refine MC HP.out ?_;rintro e w1 ⟨rfl,h1⟩)
  | (go_at_call 199;refine MC (HK.out _ h1) ?_;rintro e w2 ⟨rfl,h2⟩))
 go_ret;exact ⟨rfl,h2⟩
theorem oJ:(Tryz.prog.info? 81).map (·.size)=some 1:=zab
theorem EC:Tryz.f200.results=#[.cell 4 81]:=rfl
namespace Pg
theorem RfE.Gx {E:TypeId->Prop} {lo:Pg.Lo} (h:RfE E lo w W) (hlo:lo<=w.heap.size) (hm:Mo (fun k=>w.heap.size<=k) W W'):RfE E lo w W':=by
 have hsz:=h.bel.size;exact ⟨⟨hm.os.trans h.bel.os,hm.tape.trans h.bel.tape,hm.output.trans h.bel.output,Mv hsz hm.size,fun k hk=>(hm.block k zaa zaa).trans (h.bel.block k hk)⟩,
  ⟨Mv h.kd.size hm.size,fun k c t f hk hn=>by
   have:=(Ms.1 hk).1;exact (hm.block k zaa zaa).trans (h.kd.ak k c t f hk hn)⟩,
  ⟨Mv h.oth.size hm.size,fun k o hk ho=>by
   have:=(Ms.1 hk).1;exact (hm.block k zaa zaa).trans (h.oth.same k o hk ho)⟩,
  fun k hk hn=>(hm.block k zaa zaa).trans (h.own k hk hn)⟩
structure Emp (w V w':World) (lo:Pg.Lo) (mb pb:Nat) (qv:Value) (s:MSt) (R:Nat->List Nd) (r:Nat):Prop where
 ex:∃ wh',au w' lo mb pb qv { s with wh:=wh' }/\WhM w' lo { s with wh:=wh' } (upd R r [])
 rf:Rw lo w w'
 mo:Mo (· = mb) V w'
theorem oB (l:List Nd):aK l = .pointer none\/∃ b,aK l = .pointer (some ⟨b,0,none⟩):=by
 exact zef
theorem Emp.box {V w':World} {lo:Pg.Lo} (h:Emp w V w' lo mb pb qv s R r) (hlo:lo<=w.heap.size) {v u:Value} (hg:w'.heap[g]?=some (.cells #[v] 81 (0,0))) (hgw:w.heap.size<=g) (hgV:V.heap.size<=g\/True) (hw:Below w w V):Emp w w (w'.setCell g u) lo mb pb qv s R r:=by
 obtain ⟨wh',a,b⟩:=h.ex;have hm:Mo (· = g) w' (w'.setCell g u):=(Mo.refl _ _).set _ _ rfl;have hk:Kd (fun t=>t=81) w' (w'.setCell g u):=fV hm (fun k c t f hp hc=>by
  subst hp;rw [hg] at hc;cases hc
  rfl)
 refine ⟨⟨wh',a.mo hm (fun e => ?_) (fun q hq e => ?_),⟨b.rgs.kd hk zac,b.held⟩⟩,h.rf.Gx hlo (hm.mono (fun k _ hk=>zaa)),?_⟩
 ·obtain ⟨arr,a1,_⟩:=a.blk;rw [e,hg] at a1;simp at a1
 ·obtain ⟨c',hc'⟩:=a.que.kind q hq;rw [e,hg] at hc';simp at hc'
 ·have h1:Mo (· = mb) w w':=⟨h.mo.os.trans hw.os,h.mo.tape.trans hw.tape,h.mo.output.trans hw.output,Mv hw.size h.mo.size,fun k hk hn=>(h.mo.block k (by have:=hw.size;omega) hn).trans (hw.block k hk)⟩;exact h1.trans' hm (fun i hi e=>zaa)
end Pg
theorem DK (w V:World) (lo:Pg.Lo) (mb pb:Nat) (qv:Value) (s:Pg.MSt) (R:Nat->List Pg.Nd) (k sl:Nat) (hM:Pg.au w lo mb pb qv s) (hW:Pg.WhM w lo s R) (hls:lo<=w.heap.size) (hk:k<6) (hs:sl<64) (hV:Below w w V) :
  () 199 #[.pointer (some ⟨mb,28+k*65,none⟩),(sl:Int)] (V.setCell ⟨mb,28+k*65+sl,none⟩ (.pointer none)) fun e w'=>e = .returned (.tuple #[])/\Hid (Pg.Emp w V w' lo mb pb qv s R (k*65+sl)):=by
 have hr:Pg.isR (k*65+sl) := .inl zaa;have hlV:=Mv hls hV.size;rw [NW];obtain ⟨a,b,c⟩:=(hW.rgs.below hV).nil (hM.below hV) hr hlV;refine MC (vQ _ lo mb pb qv { s with wh:=Pg.upd s.wh (28+(k*65+sl)) (.pointer none) } s.wh R k sl [] a b hW.held (Mv hlV c.bel.size) hk hs (fun i hi=>Pg.aG _ _ hi)) ?_;rintro e w' ⟨rfl,x⟩;obtain ⟨wh2,a2,b2,c2,V2,hV2,p,u,rfl,hp⟩:=x.out;refine ⟨rfl,⟨wh2,a2,b2⟩,(Pg.RfE.of hV hls).trans (c.trans c2),?_⟩;have hc:=c.trans c2;refine ⟨hc.bel.os,hc.bel.tape,hc.bel.output,hc.bel.size,fun j hj hn => ?_⟩;rw [Nf V2 p u j (fun e=>hn (e.trans hp)),hV2];exact Nf V _ _ j hn
theorem Cs (w:World) (lo:Pg.Lo) (mb pb:Nat) (qv:Value) (s:Pg.MSt) (R:Nat->List Pg.Nd) (k sl:Nat) (hM:Pg.au w lo mb pb qv s) (hW:Pg.WhM w lo s R) (hls:lo<=w.heap.size) (hk:k<6) (hs:sl<64) :
  () 200 #[.pointer (some ⟨mb,28+k*65,none⟩),(sl:Int)] w fun e w'=>e = .returned (.agg #[Pg.aK (R (k*65+sl))])/\Hid (Pg.Emp w w w' lo mb pb qv s R (k*65+sl)):=by
 have hr:Pg.isR (k*65+sl) := .inl zaa;have hmb:=hM.lt;have hcv:∀ V,Below w w V->V.cell? ⟨mb,28+k*65+sl,none⟩=some (Pg.aK (R (k*65+sl)))/\V.frozen? ⟨mb,28+k*65+sl,none⟩=false:=fun V hV=>by
  rw [NW];exact ⟨((hM.below hV).whc (28+(k*65+sl)) zaa zaa).trans (congrArg some ((hW.rgs.below hV).ring _ hr)),(hM.below hV).frozen _⟩
 have hsh:=Pg.oB (R (k*65+sl));obtain ⟨rv,hrv⟩:∃ rv,Pg.aK (R (k*65+sl))=rv:=⟨_,rfl⟩;rw [hrv] at hcv hsh ⊢;have hB1:Below w w (w.alloc (.cells #[.pointer none] 81)):=(Mw _ w).alloc (Mt _) _;have hB2:Below w w ((w.alloc (.cells #[.pointer none] 81)).alloc (.cells #[rv] 81)):=hB1.alloc zad _;obtain ⟨c1,f1⟩:=hcv _ hB1;obtain ⟨c2,f2⟩:=hcv _ hB2;have hem:=DK w _ lo mb pb qv s R k sl hM hW hls hk hs hB2;rw [World.setCell_alloc_past _ _ _ _ zaf,World.setCell_alloc_past _ _ _ _ hmb] at hem;have HM:Hid _:=hem;clear hem;have hs':(sl:Int)<64:=zaa;have HB2:Hid _:=hB2;have g0:((w.alloc (.cells #[.pointer none] 81)).alloc (.cells #[rv] 81)).heap[w.heap.size]?=some (.cells #[.pointer none] 81 (0,0)):=(NI _ _ _ zad).trans (MD w _);have g1:((w.alloc (.cells #[.pointer none] 81)).alloc (.cells #[rv] 81)).heap[w.heap.size+1]?=some (.cells #[rv] 81 (0,0)):=by
  have:=MD (w.alloc (.cells #[.pointer none] 81)) (.cells #[rv] 81);simpa using this
 have HG:Hid (∀ w',Pg.Emp w ((w.alloc (.cells #[.pointer none] 81)).alloc (.cells #[rv] 81)) w' lo mb pb qv s R (k*65+sl)->w'.heap[w.heap.size]?=some (.cells #[.pointer none] 81 (0,0))/\w'.heap[w.heap.size+1]?=some (.cells #[rv] 81 (0,0))):=fun w' h=>⟨(h.mo.block _ zaf zaa).trans g0,(h.mo.block _ zad zaa).trans g1⟩;clear hM hW hcv hrv hB1 hB2 g0 g1 hr
 rcases hsh with rfl | ⟨b,rfl⟩
 all_goals
  go_enter func200,ntmps200;go_wp2_with (go_at_call 199;refine MC HM.out ?_;rintro e w4 ⟨rfl,h4⟩;obtain ⟨q0,q1⟩:=HG.out _ h4.out;have k1:=My w4 _ 0 _ _ _ q1;have k0:=My w4 _ 0 _ _ _ q0;have z0:w4.frozen? ⟨w,0,none⟩=false:=zbf);refine dP EC w _ _ _ _ rfl (MO w4 w 0 _ _ _ q0) underlying81 rfl oJ rfl ?_;exact ⟨rfl,h4.out.box hls q0 (Mt _) (.inr trivial) HB2.out⟩
theorem sH:Tryz.f160.results=#[.cell 6 81]:=rfl
theorem A0 (w:World) (lo:Pg.Lo) (mb pb:Nat) (qv:Value) (s:Pg.MSt) (R:Nat->List Pg.Nd) (sl:Nat) (hM:Pg.au w lo mb pb qv s) (hW:Pg.WhM w lo s R) (hls:lo<=w.heap.size) :
  () 160 #[.pointer (some ⟨mb,27,none⟩),(6:Int),(sl:Int)] w fun e w'=>e = .returned (.agg #[Pg.aK (R 390)])/\Hid (Pg.Emp w w w' lo mb pb qv s R 390):=by
 have hr:Pg.isR 390 := .inr rfl;have hmb:=hM.lt;have hcv:∀ V,Below w w V->V.cell? ⟨mb,418,none⟩=some (Pg.aK (R 390))/\V.frozen? ⟨mb,418,none⟩=false:=fun V hV =>
  ⟨((hM.below hV).whc 418 zaa zaa).trans (congrArg some ((hW.rgs.below hV).ring _ hr)),(hM.below hV).frozen _⟩
 have hsh:=Pg.oB (R 390);obtain ⟨rv,hrv⟩:∃ rv,Pg.aK (R 390)=rv:=⟨_,rfl⟩;rw [hrv] at hcv hsh ⊢;have hB1:Below w w (w.alloc (.cells #[.pointer none] 81)):=(Mw _ w).alloc (Mt _) _;have hB2:Below w w ((w.alloc (.cells #[.pointer none] 81)).alloc (.cells #[rv] 81)):=hB1.alloc zad _;obtain ⟨c1,f1⟩:=hcv _ hB1;obtain ⟨c2,f2⟩:=hcv _ hB2;obtain ⟨a,b,c⟩:=hW.rgs.nil hM hr hls;have HE:Hid (∀ o1 o2:Obj,Pg.Emp w w (((w.setCell ⟨mb,418,none⟩ (.pointer none)).alloc o1).alloc o2) lo mb pb qv s R 390):=fun o1 o2=>by
  have hb:Below (w.setCell ⟨mb,28+390,none⟩ (.pointer none)).heap.size (w.setCell ⟨mb,28+390,none⟩ (.pointer none)) (((w.setCell ⟨mb,28+390,none⟩ (.pointer none)).alloc o1).alloc o2):=((Mw _ _).alloc (Mt _) _).alloc zad _;refine ⟨⟨_,a.below hb,b.below hb,fun k hk => ?_⟩,c.trans (Pg.RfE.of hb (by simp;exact hls)),((Mo.refl (· = mb) w).set _ _ rfl).trans (ay hb)⟩;exact zdz
 clear hM hW hcv hrv hB1 hB2 hr a b c
 rcases hsh with rfl | ⟨q,rfl⟩
 ·go_enter func160,ntmps160;go_wp2;refine dP sH w 81 #[.pointer none] (0,0) _ rfl ?_ underlying81 rfl oJ rfl ⟨rfl,HE.out _ _⟩;refine (NI _ _ _ zad).trans ?_;have:=MD (w.setCell ⟨mb,418,none⟩ (.pointer none)) (.cells #[.pointer none] 81);simpa using this
 ·go_enter func160,ntmps160;go_wp2;refine dP sH w 81 #[q] (0,0) _ rfl ?_ underlying81 rfl oJ rfl ⟨rfl,HE.out _ _⟩;refine (NI _ _ _ zad).trans ?_;have:=MD (w.setCell ⟨mb,418,none⟩ (.pointer none)) (.cells #[q] 81);simpa using this
theorem A6 (w:World) (lo:Pg.Lo) (mb pb:Nat) (qv:Value) (s:Pg.MSt) (R:Nat->List Pg.Nd) (k sl:Nat) (hM:Pg.au w lo mb pb qv s) (hW:Pg.WhM w lo s R) (hls:lo<=w.heap.size) (hk:k<6) (hs:sl<64) :
  () 160 #[.pointer (some ⟨mb,27,none⟩),(k:Int),(sl:Int)] w fun e w'=>e = .returned (.agg #[Pg.aK (R (k*65+sl))])/\Hid (Pg.Emp w w w' lo mb pb qv s R (k*65+sl)):=by
 have hsh:=Pg.oB (R (k*65+sl));have hB1:Below w w (w.alloc (.cells #[.pointer none] 81)):=(Mw _ w).alloc (Mt _) _;have HK:Hid (() 200 #[.pointer (some ⟨mb,28+k*65,none⟩),(sl:Int)] (w.alloc (.cells #[.pointer none] 81)) fun e w'=>e = .returned (.agg #[Pg.aK (R (k*65+sl))])/\w'.heap[w.heap.size]?=some (.cells #[.pointer none] 81 (0,0))/\Hid (∀ u,Pg.Emp w w (w'.setCell w u) lo mb pb qv s R (k*65+sl))):=by
  refine MC (Cs _ lo mb pb qv s R k sl (hM.below hB1) ⟨hW.rgs.below hB1,hW.held⟩ (Mv hls hB1.size) hk hs) ?_;rintro e w' ⟨rfl,h⟩;have hmb:=hM.lt;have hq:w'.heap[w.heap.size]?=some (.cells #[.pointer none] 81 (0,0)):=(h.out.mo.block _ zad zaa).trans (MD w _);have h2:Pg.Emp w (w.alloc (.cells #[.pointer none] 81)) w' lo mb pb qv s R (k*65+sl):=⟨h.out.ex,(Pg.RfE.of hB1 hls).trans h.out.rf,h.out.mo⟩;exact ⟨rfl,hq,fun u=>h2.box hls hq (Mt _) (.inr trivial) hB1⟩
 obtain ⟨rv,hrv⟩:∃ rv,Pg.aK (R (k*65+sl))=rv:=⟨_,rfl⟩;rw [hrv] at hsh HK ⊢;have hk6:((k:Int) == 6)=false:=zaf;have hk':(k:Int)<6:=zaa;clear hM hW hrv hB1
 rcases hsh with rfl | ⟨q,rfl⟩
 all_goals
  go_enter func160,ntmps160;go_wp2_with (go_at_call 200;refine MC HK.out ?_;rintro e w4 ⟨rfl,q0,h4⟩;have k0:=My w4 _ 0 _ _ _ q0;have z0:w4.frozen? ⟨w,0,none⟩=false:=zbf);refine dP sH w _ _ _ _ rfl (MO w4 w 0 _ _ _ q0) underlying81 rfl oJ rfl ?_;exact ⟨rfl,h4.out _⟩
theorem GU (w:World) (lo:Pg.Lo) (mb pb:Nat) (qv:Value) (s:Pg.MSt) (R:Nat->List Pg.Nd) (n:Nat) (x:Pg.Tn) (v:Value) (hM:Pg.au w lo mb pb qv s) (hW:Pg.WhM w lo s R) (hls:lo<=w.heap.size) (hnow:s.now<18446744073709551616) (hxt:x.t<18446744073709551616) (hn:w.heap[n]?=some (.cells (Pg.ep x v) 279 (0,0))) (hnl:∀ q,Pg.isR q->∀ y∈R q,y.1≠n) (hlo:lo.ok n) :
  () 162 #[.pointer (some ⟨mb,27,none⟩),n] w fun e w'=>e = .returned (.tuple #[])/\∃ wh',Pg.au w' lo mb pb qv { s with wh:=wh' }/\Pg.WhM w' lo { s with wh:=wh' } (Pg.upd R (Pg.place s.now x.t) (R (Pg.place s.now x.t)++[(n,x)]))/\Pg.Rw lo w w'/\Mo (fun k=>k=mb\/k=n\/∃ q,Pg.isR q/\∃ y∈R q,k=y.1) w w':=by
 have hn0:w.cell? n=some (.int .u64 x.t):=zaV;have hc27:w.cell? ⟨mb,27,none⟩=some (.int .u64 s.now):=hM.cell 27 zac;have hsp:=oK w mb 27 s.now x.t hnow hxt hc27;have hr:=Pg.fI s.now x.t;have hmn:=hM.typ hn;have hty:∀ q,Pg.isR q->mb ∉ (R q).map (·.1):=fun q hq e=>by
  exact zd8
 have hnr:∀ q,Pg.isR q->n ∉ (R q).map (·.1):=fun q hq e=>by
  obtain ⟨y,hy,e⟩:=Ni.1 e;exact hnl q hq y hy e
 have hpm:∀ (w9:World) (r:Nat),Pg.isR r->w9.heap[n]?=some (.cells (Pg.ep x v) 279 (0,0))->Pg.cW w9 lo s.wh R->Mo (fun k=>k=mb\/k=n\/∃ q,Pg.isR q/\∃ y∈R q,k=y.1) w9 (Pg.ee w9 ⟨mb,28+r,none⟩ (R r) n):=fun w9 r hr hn9 hR9=>(Pg.cn.push (p:=⟨mb,28+r,none⟩) (hR9.nds r hr) (hR9.nod r hr) hn9 (hnr r hr) hmn (hty r hr)).2.mono (fun k _ h=>h.imp id (fun h=>h.imp id (fun ⟨z,hz,e⟩=>⟨r,hr,z,OB hz,e⟩)));have hKl:=Pg.eI s.now x.t;have hSl:=Pg.ff s.now x.t;have hpl:Pg.place s.now x.t=if Pg.aL s.now x.t=6 then 390 else Pg.aL s.now x.t*65+Pg.fJ s.now x.t:=rfl;generalize Pg.place s.now x.t=r at *;generalize Pg.aL s.now x.t=K at *;generalize Pg.fJ s.now x.t=S at *;by_cases hK:K=6
 ·subst hK;rw [MB rfl] at hpl;subst hpl;have H:Hid (∀ w9,Below w w w9->() 203 #[.pointer (some ⟨mb,418,none⟩),n] w9 fun e w'=>e = .returned (.tuple #[])/\∃ wh',Pg.au w' lo mb pb qv { s with wh:=wh' }/\Pg.WhM w' lo { s with wh:=wh' } (Pg.upd R 390 (R 390++[(n,x)]))/\Pg.Rw lo w w'/\Mo (fun k=>k=mb\/k=n\/∃ q,Pg.isR q/\∃ y∈R q,k=y.1) w w'):=fun w9 hb=>by
   have hM9:=hM.below hb;have hR9:=hW.rgs.below hb;have hn9:=(hb.block n (Ms.1 hn).1).trans hn;refine (mi w9 mb 418 (R 390) n x v ((hM9.whc 418 zaa zaa).trans (congrArg some (hR9.ring 390 hr))) (hM9.frozen _) (hR9.nds 390 hr) hn9 (hnr 390 hr) hmn (hty 390 hr)).mono ?_;rintro e w' ⟨rfl,rfl⟩;obtain ⟨a,b,c⟩:=hR9.push (r:=390) hM9 hr (Mv hls hb.size) hn9 hnl hlo;refine ⟨rfl,_,a,⟨b,fun k hk => ?_⟩,(Pg.RfE.of hb hls).trans c,(ay hb).trans (hpm w9 390 hr hn9 hR9)⟩;exact zdz
  clear hW hM hty hnr hnl hn hlo hr hmn hpm;exact zdf
 ·rw [Mz hK] at hpl;subst hpl;have hK5:K<6:=zaa;have hKb:((K:Int) == 6)=false:=zaf;have H:Hid (∀ w9,Below w w w9->() 204 #[.pointer (some ⟨mb,28+K*65,none⟩),(S:Int),n] w9 fun e w'=>e = .returned (.tuple #[])/\∃ wh',Pg.au w' lo mb pb qv { s with wh:=wh' }/\Pg.WhM w' lo { s with wh:=wh' } (Pg.upd R (K*65+S) (R (K*65+S)++[(n,x)]))/\Pg.Rw lo w w'/\Mo (fun k=>k=mb\/k=n\/∃ q,Pg.isR q/\∃ y∈R q,k=y.1) w w'):=fun w9 hb=>by
   have hM9:=hM.below hb;have hR9:=hW.rgs.below hb;have hn9:=(hb.block n (Ms.1 hn).1).trans hn;obtain ⟨h,h1,h2,h3⟩:=hW.held K hK5;refine (vS w9 mb (28+K*65) S (R (K*65+S)) n x v h hSl h1 zb1 (fun i=>hM9.frozen i) zb3 (hR9.nds _ hr) hn9 (hnr _ hr) hmn (hty _ hr)).mono ?_;rintro e w' ⟨rfl,rfl⟩;obtain ⟨a,b,c⟩:=hR9.push (r:=K*65+S) hM9 hr (Mv hls hb.size) hn9 hnl hlo;rw [NW 28 (K*65) S];obtain ⟨a2,b2,c2⟩:=b.mark a K hK5 (.int .u64 (Pg.ie h S false)) (Mv hls (Mv hb.size c.bel.size));refine ⟨rfl,_,a2,⟨b2,fun k hk => ?_⟩,(Pg.RfE.of hb hls).trans (c.trans c2),((ay hb).trans (hpm w9 (K*65+S) hr hn9 hR9)).trans ((ay ((Mw _ _).drew)).trans ((Mo.refl _ _).set _ _ (.inl rfl)))⟩;exact zc0
  clear hW hM hty hnr hnl hn hlo hr hmn hpm;exact zdj
end
section
namespace Pg
theorem Cv (a b n:Nat):(a ^^^ b)<2 ^ n↔a / 2 ^ n=b / 2 ^ n:=by
 rw [<- Nat.shiftRight_eq_div_pow,<- Nat.shiftRight_eq_div_pow];constructor
 ·intro h;refine Nat.eq_of_testBit_eq fun i => ?_;rw [PW,PW];have:=Qr (MR h (Of zac (PD n i)));rw [Nat.testBit_xor] at this;cases h1:a.testBit (n+i) <;> cases h2:b.testBit (n+i) <;> simp_all
 ·intro h;refine Nat.lt_pow_two_of_testBit _ fun i hi => ?_;have h1:(a >>> n).testBit (i-n)=(b >>> n).testBit (i-n):=by rw [h]
  rw [PW,PW,show n+(i-n)=i by omega] at h1;rw [Nat.testBit_xor,h1];simp
theorem aW {now t:Nat} (hn:now<18446744073709551616) (ht:t<18446744073709551616) (hk:k<6):aL now t<=k↔t / 64 ^ (k+1)=now / 64 ^ (k+1):=by
 have e:(64:Nat) ^ (k+1)=2 ^ (6*(k+1)):=by rw [Nat.pow_mul]
 rw [e,<- Cv];have h1:(t ^^^ now)<2 ^ (6*(k+1))↔((t ^^^ now)|||1)<2 ^ (6*(k+1)):=by
  have h2:1<2 ^ (6*(k+1)):=Nat.one_lt_two_pow zaa;constructor
  ·intro h;exact Nv h h2
  ·intro h;exact Nt Nat.left_le_or h
 rw [h1];unfold aL;have hx:((t ^^^ now)|||1)<2 ^ 64:=Nv (Nat.xor_lt_two_pow ht hn) zac;have hx0:(t ^^^ now)|||1≠0:=uX _;generalize (t ^^^ now)|||1=x at *;obtain ⟨b1,b2,b3⟩:=QF 64 x hx hx0;have hL:Lib.bitLen x=Lib.bitLenAux 64 x:=rfl;rw [hL];generalize Lib.bitLenAux 64 x=L at *;constructor
 ·intro h;exact MR b3 (Of zac zaa)
 ·intro h;have:L-1<6*(k+1):=(Nat.pow_lt_pow_iff_right (by decide:1<2)).1 (Nt b2 h);omega
theorem fa (now t:Nat):fJ now t=t / 64 ^ aL now t % 64:=by
 unfold fJ;rw [show (2:Nat) ^ (aL now t*6)=64 ^ aL now t by rw [Nat.mul_comm,Nat.pow_mul]]
theorem IT {a b c:Nat} (h1:a<=b) (h2:b<=c) (h:c / n=a / n):b / n=a / n:=by
 have:=QK (c:=n) h1;have:=QK (c:=n) h2;omega
section
variable {now a b:Nat} (hn:now<18446744073709551616) (ha:a<18446744073709551616) (hb:b<18446744073709551616)
theorem sN (hn:now<18446744073709551616) (ha:a<18446744073709551616) (hb:b<18446744073709551616) (h1:now<=a) (h2:a<=b):aL now a<=aL now b:=by
 have h6:=eI now a;by_cases hk:aL now b<6
 ·exact (aW hn ha hk).2 (IT h1 h2 ((aW hn hb hk).1 (Mt _)))
 ·omega
theorem sB (hn:now<18446744073709551616) (ha:a<18446744073709551616) (hb:b<18446744073709551616) (h1:now<=a) (h2:a<=b):place now a<=place now b:=by
 have hK:=sN hn ha hb h1 h2;have h6:=eI now b;have s1:=ff now a;have s2:=ff now b;unfold place;by_cases hkb:aL now b=6
 ·rw [MB hkb];split
  ·exact Mt _
  ·omega
 ·rw [Mz hkb,Mz zaa];by_cases hab:aL now a=aL now b
  ·have e1:=(aW hn ha (show aL now b<6 by omega)).1 zaa;have e2:=(aW hn hb (show aL now b<6 by omega)).1 (Mt _);have d:=QK (c:=64 ^ aL now b) h2;rw [QU,<- PX] at e1 e2;rw [<- PX] at e1 e2;rw [fa,fa,hab];omega
  ·omega
theorem BU (hn:now<18446744073709551616) (ha:a<18446744073709551616) (hb:b<18446744073709551616) (h1:now<=a) (h2:a<=b) (h:place now b≠place now a):place a b=place now b:=by
 have hK:=sN hn ha hb h1 h2;have h6:=eI now b;have h6':=eI a b;have hKe:aL a b=aL now b:=by
  by_cases hab:aL now a=aL now b
  ·have hl:aL now b<6:=by
    rcases OF (aL now b) 6 with h' | h'
    ·exact h'
    ·exfalso;apply h
     unfold place;rw [MB zaa,MB zaa]
   have e1:=(aW hn ha hl).1 zaa;have e2:=(aW hn hb hl).1 (Mt _);have h3:aL a b<=aL now b:=(aW ha hb hl).2 (e2.trans e1.symm)
   rcases OF (aL a b) (aL now b) with h' | h'
   ·exfalso;have h4:aL a b<=aL now b-1:=zaa;have e3:=(aW ha hb (show aL now b-1<6 by omega)).1 h4;rw [show aL now b-1+1=aL now b by omega] at e3;apply h
    unfold place;rw [Mz zaa,Mz zaa,fa,fa,hab,e3]
   ·omega
  ·have hl:aL now a<6:=zaa;have e1:∀ k,aL now a<=k->k<6->a / 64 ^ (k+1)=now / 64 ^ (k+1):=fun k hk hk6=>(aW hn ha hk6).1 hk;have e2:∀ k,aL now a<=k->k<6->(aL a b<=k↔aL now b<=k):=fun k hk hk6=>by rw [aW ha hb hk6,aW hn hb hk6,e1 k hk hk6]
   have e3:=e2 (aL now b-1) zaa zaa
   rcases OF (aL now b) 6 with h' | h'
   ·have e4:=e2 (aL now b) zaa h';omega
   ·omega
 unfold place fJ;rw [hKe]
theorem BT (hn:now<18446744073709551616) (ha:a<18446744073709551616) (hb:b<18446744073709551616) (_:now<=a) (h2:a<=b) (h:place now b=place now a) (hr:place now a≠390):place a b<=place now a:=by
 have h6:=eI now a;have h6':=eI a b;have s1:=ff now a;have s2:=ff now b;have s3:=ff a b;have hka:aL now a≠6:=fun e=>hr (by unfold place;rw [MB e]);have hkb:aL now b≠6:=fun e=>by
  rw [<- h] at hr;exact hr (by unfold place;rw [MB e])
 unfold place at h;rw [Mz hka,Mz hkb] at h;have hK:aL now b=aL now a:=zaa;have hS:fJ now b=fJ now a:=zaa;rw [fa,fa,hK] at hS;have e1:=(aW hn ha (show aL now a<6 by omega)).1 (Mt _);have e2:=(aW hn hb (show aL now a<6 by omega)).1 zaa;rw [QU,<- PX] at e1 e2;rw [<- PX] at e1 e2;have e3:b / 64 ^ aL now a=a / 64 ^ aL now a:=zaa;by_cases h0:aL now a=0
 ·rw [h0] at e3;have:b=a:=by simpa using e3
  subst this;have hz:aL b b=0:=by
   have:=(aW hb hb (k:=0) zac).2 rfl;omega
  unfold place;rw [Mz hka,Mz zaa,hz,h0,fa,fa,hz,h0];exact Mt _
 ·have h3:aL a b<=aL now a-1:=(aW ha hb zaa).2 (by rw [show aL now a-1+1=aL now a by omega];exact e3);unfold place;rw [Mz hka,Mz zaa];omega
