import Derived.Test.YtkgklodamkkpgaaGreatDoorM05
import Derived.Shelf.SlSortCmp.Insertion
set_option maxRecDepth 100000
set_option maxHeartbeats 8000000
namespace Go.Proofs.YtkgklodamkkpgaaGreatDoor
variable {zp:Prop}
theorem zei (h:zp:=by
 unfold aK;cases l.getLast? with
 | none=>exact .inl rfl
 | some z=>exact .inr ⟨z.1,rfl⟩):zp:=h
theorem zep (h:zp:=by
 rintro (h | h | h)
 ·exact .inr (.inl h)
 ·exact .inl h
 ·exact .inr (.inr h)):zp:=h
theorem zeX (h:zp:=by
 rw [iB rfl];have:=zJ _ _ _ hcd;simpa [asAddr] using this):zp:=h
theorem zfq (h:zp:=by
 go_wp2;go_ret;exact ⟨zad,rfl⟩):zp:=h
theorem zbh (h:zp:=by simp [World.frozen?,q0]):zp:=h
theorem zbu (h:zp:=by simpa using hh):zp:=h
open Tryz
variable {w W W':World} {g n mb pb r k:Nat} {m:List Pg.Nd} {qv:Value} {s:Pg.MSt} {R:Nat->List Pg.Nd} {f:Pg.Nd}
section
open Go.RowKit Go.Proofs Go.Shelf
namespace Pg
def wL (a b:Nat):Int:=if a<b then -1 else if b<a then 1 else 0
end Pg
theorem Eo (x:Nat) (w:World):() 261 #[.int .u64 x] w fun e w'=>e = .returned false/\w'=w:=by
 go_enter func261,ntmps261;exact zfq
theorem yG (a b:Nat) (w:World):() 237 #[.int .u64 a,.int .u64 b] w fun e w'=>e = .returned (.int .i64 (Pg.wL a b))/\w'=w:=by
 have HN:Hid (∀ (x:Nat) (w:World),() 261 #[.int .u64 x] w fun e w'=>e = .returned false/\w'=w):=fun x w=>Eo x w;have h1:Hid (∀ c,Pg.wL a b=c↔(if a<b then -1 else if b<a then 1 else 0)=c):=fun c=>Iff.rfl
 rcases Qy a b with h | h | h
 ·have ha:(a:Int)<(b:Int):=zaa;have HA:Hid (a<b):=h;clear h;go_enter func237,ntmps237;go_wp2_with (go_at_call 261;refine (HN.out _ _).mono ?_;rintro e w1 ⟨rfl,rfl⟩);go_ret;exact ⟨by rw [(h1.out _).2 (M6 HA.out)];rfl,rfl⟩
 ·subst h;go_enter func237,ntmps237;go_wp2_with (go_at_call 261;refine (HN.out _ _).mono ?_;rintro e w1 ⟨rfl,rfl⟩);go_ret;exact ⟨by rw [(h1.out 0).2 zad];rfl,rfl⟩
 ·have ha:(b:Int)<(a:Int):=zaa;have hn:¬ (a:Int)<(b:Int):=zaa;have HA:Hid (b<a):=h;clear h;go_enter func237,ntmps237;go_wp2_with (go_at_call 261;refine (HN.out _ _).mono ?_;rintro e w1 ⟨rfl,rfl⟩);go_ret;exact ⟨by rw [(h1.out 1).2 (by have:=HA.out;rw [M4 zaa,M6 this])];rfl,rfl⟩
theorem yB (a b ta tb:Nat) (w:World) (ha:w.cell? a=some (.int .u64 ta)) (hb:w.cell? b=some (.int .u64 tb)) :
  () 236 #[a,b] w fun e w'=>e = .returned (.int .i64 (Pg.wL ta tb))/\∃ q,w'=w.drewN q:=by
 have HN:Hid (∀ (w:World),() 237 #[.int .u64 ta,.int .u64 tb] w fun e w'=>e = .returned (.int .i64 (Pg.wL ta tb))/\w'=w):=fun w=>yG ta tb w;generalize Pg.wL ta tb=ct at *;have ha':w.drew.cell? a=some (.int .u64 ta):=ha;have hb':w.drew.cell? b=some (.int .u64 tb):=hb;go_enter func236,ntmps236
 go_upto_region 1 with fail
 refine dU 8 zab zab ?_;simp only [List.take_succ_cons,List.take_zero,List.drop_succ_cons,List.drop_zero]
 repeat still_step
 refine Ov ?_;go_wp2_with (go_at_call 237;refine (HN.out _).mono ?_;rintro e w1 ⟨rfl,rfl⟩);go_ret;exact ⟨rfl,1,rfl⟩
end
section
namespace Pg
variable {α:Type}
def Srd (f:α->Nat) (L:List α):Prop:=L.Pairwise (fun a b=>f a<=f b)
def Stb (f:α->Nat) (A B:List α):Prop:=∀ k,A.filter (fun x=>f x == k)=B.filter (fun x=>f x == k)
theorem Stb.refl (f:α->Nat) (A:List α):Stb f A A:=fun _=>rfl
theorem Stb.symm {f:α->Nat} {A B:List α} (h:Stb f A B):Stb f B A:=fun k=>(h k).symm
theorem Stb.trans {f:α->Nat} {A B C:List α} (h:Stb f A B) (g:Stb f B C):Stb f A C:=fun k=>(h k).trans (g k)
theorem Stb.mem {f:α->Nat} {A B:List α} (h:Stb f A B) {x:α} (hx:x∈A):x∈B:=by
 have:x∈A.filter (fun y=>f y == f x):=OE.2 ⟨hx,zad⟩;rw [h] at this;exact (OE.1 this).1
theorem Dp {f:α->Nat}:∀ {A B:List α},Srd f A->Srd f B->Stb f A B->A=B
 | [],[],_,_,_=>rfl
 | [],b::B,_,_,h=>by have:=h.symm.mem (NK);simp at this
 | a::A,[],_,_,h=>by have:=h.mem (NK);simp at this
 | a::A,b::B,hA,hB,h=>by
  have h1:f a<=f b:=by
   rcases O5.1 (h.symm.mem (NK (a:=b) (l:=B))) with e | e
   ·rw [e];exact MR _
   ·exact (O4.1 hA).1 _ e
  have h2:f b<=f a:=by
   rcases O5.1 (h.mem (NK (a:=a) (l:=A))) with e | e
   ·rw [e];exact MR _
   ·exact (O4.1 hB).1 _ e
  have e:f a=f b:=zaa;have hk:=h (f a);have hk2:=hk;rw [OT zad,List.filter_cons_of_pos (by simp [e])] at hk2;obtain rfl:a=b:=by injection hk2
  have ht:Stb f A B:=fun k=>by
   have:=h k;by_cases hh:f a == k
   ·rw [OT zbu,OT zbu] at this;injection this
   ·rw [OS zbu,OS zbu] at this;exact this
  rw [Dp (O4.1 hA).2 (O4.1 hB).2 ht]
def pB (f:α->Nat) (x:α):List α->List α
 | []=>[x]
 | y::L=>if f x<=f y then x::y::L else y::pB f x L
def srt (f:α->Nat):List α->List α
 | []=>[]
 | x::L=>pB f x (srt f L)
theorem zK {f:α->Nat} {x y:α}:∀ {L:List α},y∈pB f x L↔y=x\/y∈L
 | []=>by simp [pB]
 | z::L=>by
  unfold pB;split
  ·simp
  ·rw [O5,zK,O5];constructor
   ·exact zep
   ·exact zep
theorem zr {f:α->Nat} {x:α}:∀ {L:List α},Srd f L->Srd f (pB f x L)
 | [],_=>by simp [pB,Srd]
 | y::L,h=>by
  unfold pB;have h1:=O4.1 h;split
  ·next e =>
   refine O4.2 ⟨fun z hz => ?_,h⟩
   rcases O5.1 hz with e' | e'
   ·rw [e'];exact e
   ·exact MX e (h1.1 z e')
  ·next e =>
   refine O4.2 ⟨fun z hz => ?_,zr h1.2⟩
   rcases zK.1 hz with e' | e'
   ·rw [e'];omega
   ·exact h1.1 z e'
theorem zu {f:α->Nat} {x:α}:∀ {L:List α},Stb f (pB f x L) (x::L)
 | []=>fun _=>rfl
 | y::L=>fun k=>by
  unfold pB;split
  ·rfl
  ·next e =>
   have ih:=zu (f:=f) (x:=x) (L:=L) k;rw [QH,ih];by_cases hx:f x == k <;> by_cases hy:f y == k
   ·have:=RG.1 hx;have:=RG.1 hy;omega
   ·simp [hx,hy]
   ·simp [hx,hy]
   ·simp [hx,hy]
theorem oP (f:α->Nat):∀ L:List α,Srd f (srt f L)
 | []=>List.Pairwise.nil
 | _::L=>zr (oP f L)
theorem kF (f:α->Nat):∀ L:List α,Stb f (srt f L) L
 | []=>fun _=>rfl
 | x::L=>zu.trans fun k=>by rw [QH,kF f L k,QH]
theorem Cq {f:α->Nat} {A L:List α} (h:Srd f A) (k:Stb f A L):A=srt f L:=Dp h (oP f L) (k.trans (kF f L).symm)
theorem kx {f:α->Nat} {L:List α} {x:α}:x∈srt f L↔x∈L:=⟨(kF f L).mem,(kF f L).symm.mem⟩
theorem Dq {β:Type} (g:β->α) (f:α->Nat) (L:List β):(srt (fun x=>f (g x)) L).map g=srt f (L.map g):=by
 refine Cq ?_ fun k => ?_
 ·exact List.pairwise_map.2 (oP (fun x=>f (g x)) L)
 ·rw [QP,QP];exact congrArg _ (kF (fun x=>f (g x)) L k)
end Pg
end
section
open Go.Sort
namespace Pg
theorem Km {α:Type} {f:α->Nat} (A B:List α) (x y:α) (h:f x≠f y):Stb f (A++y::x::B) (A++x::y::B):=fun k=>by
 rw [ON,ON]
 congr 1
 by_cases hx:f x=k
 ·have hy:¬ f y=k:=fun e=>h (hx.trans e.symm);simp [hx,hy]
 ·simp [List.filter_cons,hx]
variable {α:Type} [Inhabited α]
theorem Is (d:Array α) (j:Nat) (hj:j+1<d.size):∃ A B,d.toList=A++d[j]!::d[j+1]!::B/\(swp d (j+1) j).toList=A++d[j+1]!::d[j]!::B:=by
 have hl:d.toList.length=d.size:=zad;have e1:d[j]! =d.toList[j]'(zaa):=by rw [QF d j zaa];simp
 have e2:d[j+1]! =d.toList[j+1]'(zaa):=by rw [QF d (j+1) hj];simp
 have hd:d.toList=d.toList.take j++d[j]!::d[j+1]!::d.toList.drop (j+1+1):=by
  rw [e1,e2,<- P4 (by omega:j+1<d.toList.length),<- P4 (by omega:j<d.toList.length),List.take_append_drop]
 refine ⟨_,_,hd,?_⟩;unfold swp;rw [P0,P0];have hA:(d.toList.take j).length=j:=za5;generalize d[j]! =x at *;generalize d[j+1]! =y at *;generalize d.toList.take j=A at *;generalize d.toList.drop (j+1+1)=B at *;rw [hd,Qx _ _ zaa,show j+1-A.length=1 by omega,Qx _ _ zaa,show j-A.length=0 by omega];rfl
theorem jm (lt:α->α->Bool) (a:Nat):∀ (j:Nat) (d:Array α),(insInner lt a j d).size=d.size
 | 0,d=>rfl
 | j+1,d=>by
  unfold insInner;split
  ·rw [jm lt a j,swp_size]
  ·rfl
theorem nU {f:α->Nat} {lt:α->α->Bool} (hlt:∀ x y,lt x y=true->f y≠f x) (a:Nat):∀ (j:Nat) (d:Array α),j<d.size->Stb f (insInner lt a j d).toList d.toList
 | 0,d,_=>Stb.refl _ _
 | j+1,d,h=>by
  unfold insInner;split
  ·next e =>
   obtain ⟨A,B,e1,e2⟩:=Is d j h;refine (nU hlt a j _ (by rw [swp_size];omega)).trans ?_;rw [e1,e2];simp only [Bool.and_eq_true] at e;exact Km A B _ _ (hlt _ _ e.2)
  ·exact Stb.refl _ _
theorem kg {f:α->Nat} {lt:α->α->Bool} (hlt:∀ x y,lt x y=true->f y≠f x) (a b:Nat):∀ (n i:Nat) (d:Array α),b-i<=n->b<=d.size->Stb f (insOuter lt a b i d).toList d.toList/\(insOuter lt a b i d).size=d.size
 | 0,i,d,hn,hb=>by
  rw [insOuter,M4 zaa];exact ⟨Stb.refl _ _,rfl⟩
 | n+1,i,d,hn,hb=>by
  rw [insOuter];split
  ·have ih:=kg hlt a b n (i+1) (insInner lt a i d) zaa (by rw [jm];exact hb);exact ⟨ih.1.trans (nU hlt a i d zaa),ih.2.trans (jm _ _ _ _)⟩
  ·exact ⟨Stb.refl _ _,rfl⟩
theorem Jy (f:α->Nat) (d:Array α):(insertionSort (fun x y=>decide (f x<f y)) d 0 d.size).toList=srt f d.toList:=by
 have hs:=kg (f:=f) (lt:=fun x y=>decide (f x<f y)) (fun x y h=>by simp at h;omega) 0 d.size d.size (0+1) d zaa (MR _);have ho:=(insertionSort_holds (lt:=fun x y=>decide (f x<f y)) ⟨fun x=>zad,fun x y z h1 h2=>by simp at *;omega,fun x y z h1 h2=>by simp at *;omega⟩ d 0 d.size (Ni _) (MR _)).2;refine Cq ?_ hs.1;refine List.pairwise_iff_getElem.2 fun i j hi hj hij => ?_;have hsz:(insertionSort (fun x y=>decide (f x<f y)) d 0 d.size).size=d.size:=hs.2;have hj':j<d.size:=by rw [<- hsz];simpa using hj
 have h:=ho i j (Ni _) hij hj';rw [QF _ i (by rw [hsz];omega),QF _ j (by rw [hsz];omega)] at h;simp only [decide_eq_false_iff_not,Nat.not_lt] at h;simpa using h
theorem Gw (f:α->Nat) (d:Array α):(insertionSort (fun x y=>decide (f x<f y)) d 0 d.size).size=d.size :=
 (kg (f:=f) (lt:=fun x y=>decide (f x<f y)) (fun x y h=>by simp at h;omega) 0 d.size d.size (0+1) d zaa (MR _)).2
end Pg
end
section
open Go.RowKit Go.Proofs Go.Shelf
def p7:Go.Shelf.Ren:=⟨fun | 20=>293 | n=>n,fun | 22=>376 | 24=>78 | 25=>398 | n=>n,fun | n=>n⟩
theorem JL:Go.Proofs.SlLaysF.n20 prog p7:={
 mixed:=zab
 f20 := ⟨ "slices.insertionSortCmpFunc[*charts/wheels.node[charts/run.timer]]",zac,Tryz.func293.trans (congrArg some zab)⟩
 t0:=underlying0
 a0:=Tryz.isAgg0
 z0:=Tryz.sizeOf0
 v0:=Tryz.zeroValue0
 t3:=underlying3
 a3:=RK
 z3:=Rv
 v3:=QN
 t4:=underlying4
 a4:=Qz
 z4:=Qj
 v4:=PK
 t22:=underlying376
 a22:=isAgg376
 z22:=sizeOf376
 v22:=zeroValue376
 a24:=Tryz.isAgg78
 z24:=Tryz.sizeOf78
 t25:=underlying398
 a25:=isAgg398
 z25:=sizeOf398
 v25:=zeroValue398 }
namespace Pg
def ndC (x:Nd):List Value:=[ndP x.1]
abbrev NdS (W:World) (base:Nat) (sv:Value) (L:List Nd):Prop:=W.ownsRow base 78 1 sv L.length (L.flatMap ndC)
theorem qI (L:List Nd):L.flatMap ndC=L.map (fun x=>ndP x.1):=by
 induction L with
 | nil=>rfl
 | cons x L ih=>rw [Ol,ih];rfl
variable {α:Type} [Inhabited α]
theorem ES {enc:α->Value} {o:Nat} {d:Array α} {cur:Array Value} {t:TypeId} {fz:Nat×Nat} (h:w.heap[g]?=some (.cells cur t fz)):(Sort.putRow enc w g o d).heap[g]?=some (.cells (Sort.putCells enc o d cur) t fz):=by
 simp [Sort.putRow,Sort.mapBlock,Array.getElem?_modify,h,Sort.onCells]
theorem ET (enc:α->Value) (w:World) (g o:Nat) (d:Array α) (n:Nat):Mo (· = g) w ((Sort.putRow enc w g o d).drewN n):=⟨rfl,rfl,rfl,by show w.heap.size<=(Sort.putRow enc w g o d).heap.size;simp [Sort.putRow,Sort.mapBlock],fun k _ hk=>by
 show (Sort.putRow enc w g o d).heap[k]?=_;have hk':¬ g=k:=fun e=>hk e.symm;simp [Sort.putRow,Sort.mapBlock,Array.getElem?_modify,hk']⟩
theorem F7 (a b:Nat):decide (wL a b<0)=decide (a<b):=by
 unfold wL;by_cases h:a<b
 ·simp [h]
 ·by_cases h2:b<a <;> simp [h,h2]
end Pg
theorem zn (w:World) (g cap:Nat) (L:List Pg.Nd) (cur:Array Value) (hne:L≠[]) (hl:L.length<=1000) (hg:w.heap[g]?=some (.cells cur 78 (0,0))) (hcur:∀ (j:Nat) (x:Pg.Nd),L[j]?=some x->cur[j]?=some (Pg.ndP x.1)) (hN:∀ x∈L,x.1≠g/\w.cell? x.1=some (.int .u64 x.2.t)) :
  () 293 #[.slice g L.length cap,(0:Int),(L.length:Int),.func (.func 236) #[] #[]] w fun e w'=>e = .returned (.tuple #[])/\(∃ cur',w'.heap[g]?=some (.cells cur' 78 (0,0))/\cur'.size=cur.size/\∀ (j:Nat) (x:Pg.Nd),(Pg.srt (fun y:Pg.Nd=>y.2.t) L)[j]?=some x->cur'[j]?=some (Pg.ndP x.1))/\Mo (· = g) w w':=by
 obtain ⟨x0,hx0⟩:∃ x,x∈L:=List.exists_mem_of_ne_nil L hne
 haveI:Inhabited { x:Pg.Nd // x∈L }:=⟨⟨x0,hx0⟩⟩
 have hds:L.attach.toArray.size=L.length:=zad;have hgs:g<w.heap.size:=(MQ.1 hg).1;have hfr:∀ i,w.frozen? ⟨g,i,none⟩=false:=fun i=>by simp [World.frozen?,hg]
 have hd!:∀ j (hj:j<L.length),L.attach.toArray[j]! =⟨L[j],NS hj⟩:=fun j hj=>by
  rw [QF _ j (by rw [hds];exact hj)];simp
 have hlt:ltOf (fun (x y:{ x:Pg.Nd // x∈L })=>Pg.wL x.1.2.t y.1.2.t)=fun x y=>decide (x.1.2.t<y.1.2.t):=by
  funext x y;exact Pg.F7 _ _
 have h:=Any.insertionSortCmpFunc_one (P:=prog) (ρ:=p7) JL (α:={ x:Pg.Nd // x∈L }) (fun x=>Pg.ndP x.1.1) (fun _=>rfl) (fun x y=>Pg.wL x.1.2.t y.1.2.t) 236 #[] g 0 cap 0 L.length L.attach.toArray w
  (Pe func236 zab rfl)
  (fun m os dk hdk x y=>by
   have hc:∀ z:{ x:Pg.Nd // x∈L },(sortWorld (fun x:{ x:Pg.Nd // x∈L }=>Pg.ndP x.1.1) w g 0 m dk os).cell? ⟨z.1.1,0,none⟩=some (.int .u64 z.1.2.t):=fun z=>by
    obtain ⟨h1,h2⟩:=hN z.1 z.2;have hzl:z.1.1<w.heap.size:=Np _ _ h2;unfold sortWorld;rw [Sort.cell?_grow _ _ ⟨z.1.1,0,none⟩ (by simp [Sort.putRow,Sort.mapBlock];exact hzl),Sort.cell?_putRow_other _ _ _ _ _ _ (.inl h1)];exact h2
   exact yB _ _ _ _ _ (hc x) (hc y))
  (fun j hj=>by
   rw [hds] at hj;rw [hd! j hj,Pd];exact ⟨by rw [M0 w _ _ _ _ _ hg];exact hcur j _ (MU hj),hfr j⟩) (Ni _) (by rw [hds];exact MR _) (by rw [hds];omega)
 rw [hlt,hds] at h;refine M7 h ?_;rintro e w' ⟨rfl,n,rfl⟩;have hs:=Pg.Jy (fun x:{ x:Pg.Nd // x∈L }=>x.1.2.t) L.attach.toArray;have hz:=Pg.Gw (fun x:{ x:Pg.Nd // x∈L }=>x.1.2.t) L.attach.toArray;rw [hds] at hs hz;refine ⟨rfl,⟨_,Pg.ES hg,by simp [Sort.putCells],fun j x hx => ?_⟩,Pg.ET _ _ _ _ _ _⟩;have hm:(Sort.insertionSort (fun x y:{ x:Pg.Nd // x∈L }=>decide (x.1.2.t<y.1.2.t)) L.attach.toArray 0 L.length).toList.map (·.1)=Pg.srt (fun y:Pg.Nd=>y.2.t) L:=by
  rw [hs,Pg.Dq (fun x:{ x:Pg.Nd // x∈L }=>x.1) (fun y:Pg.Nd=>y.2.t)]
  congr 1
  exact List.attach_map_subtype_val L
 generalize Sort.insertionSort (fun x y:{ x:Pg.Nd // x∈L }=>decide (x.1.2.t<y.1.2.t)) L.attach.toArray 0 L.length=S at *;rw [<- hm] at hx;have hjS:j<S.size:=by
  have:=(MZ.1 hx).1;simpa using this
 have hjc:j<cur.size:=(MQ.1 (hcur j _ (MU zaa))).1;rw [Nf,MU (by simpa using hjS)] at hx;simp only [Option.map_some,Option.some.injEq] at hx;unfold Sort.putCells;rw [Array.getElem?_mapIdx,P3 hjc];simp only [Option.map_some];rw [M6 ⟨Ni _,zaa⟩,Nat.sub_zero,QF _ j hjS,<- hx];simp
theorem zo (w:World) (sv:Value) (hsv:∃ a c,sv = .slice a 0 c):() 293 #[sv,(0:Int),(0:Int),.func (.func 236) #[] #[]] w fun e w'=>e = .returned (.tuple #[])/\w'=w:=by
 obtain ⟨a,c,rfl⟩:=hsv;go_enter func293,ntmps293;go_wp2;refine QD 1 ?_;rw [Re];go_wp2;go_end0;exact ⟨rfl,rfl⟩
namespace Pg
def NdT (W:World) (L:List Nd):Prop:=∀ x∈L,(∃ c,W.heap[x.1]?=some (.cells c 278 (0,0)))/\W.cell? x.1=some (.int .u64 x.2.t)
theorem cA.ndT {L:List Nd} (h:cA W L):NdT W L:=fun x hx=>by
 obtain ⟨i,hi⟩:=Rb hx;have:=h i x hi;exact ⟨⟨_,this⟩,by rw [M0 W _ _ _ _ _ this];rfl⟩
theorem qN {α:Type} (f:α->Nat):∀ L:List α,(srt f L).length=L.length
 | []=>rfl
 | x::L=>by
  have h:∀ (M:List α),(pB f x M).length=M.length+1:=fun M=>by
   induction M with
   | nil=>rfl
   | cons y M ih =>
    unfold pB;split
    ·rfl
    ·rw [Oa,ih,Oa]
  show (pB f x (srt f L)).length=_;rw [h,qN f L,Oa]
end Pg
theorem zq (w:World) (base:Nat) (sv:Value) (L:List Pg.Nd) (h:Pg.NdS w base sv L) (hl:L.length<=1000) (hN:Pg.NdT w L) :
  () 293 #[sv,(0:Int),(L.length:Int),.func (.func 236) #[] #[]] w fun e w'=>e = .returned (.tuple #[])/\Pg.NdS w' base sv (Pg.srt (fun y:Pg.Nd=>y.2.t) L)/\Mo (fun k=>sv.ownBlock=some k) w w':=by
 by_cases hne:L=[]
 ·subst hne;have hsv:∃ a c,sv = .slice a 0 c:=by
   rcases h.2 with ⟨e,_⟩ | ⟨g,cap,cur,e,_⟩
   ·exact ⟨none,0,e⟩
   ·exact ⟨_,_,e⟩
  refine M7 (zo w sv hsv) ?_;rintro e w' ⟨rfl,rfl⟩;exact ⟨rfl,h,Mo.refl _ _⟩
 ·have hlen:=Pg.qN (fun y:Pg.Nd=>y.2.t) L
  rcases h.2 with ⟨e,h0⟩ | ⟨g,cap,cur,e,hb,hg,hle,hcap,hsz,htk⟩
  ·exact absurd (O1.1 h0) hne
  ·subst e;rw [Pg.qI,P9] at htk;refine M7 (zn w g cap L cur hne hl hg (fun j x hx => ?_) (fun x hx=>⟨fun e => ?_,(hN x hx).2⟩)) ?_
   ·have hj:=(MZ.1 hx).1;have:=congrArg (fun l:List Value=>l[j]?) htk;rw [Oc hj,Nf,hx,Ok] at this;exact this
   ·obtain ⟨c,hc⟩:=(hN x hx).1;rw [e,hg] at hc;simp at hc
   ·rintro e w' ⟨rfl,⟨cur',hg',hs',hc'⟩,hm⟩;refine ⟨rfl,?_,hm.mono (fun k _ hk=>za6)⟩;unfold Pg.NdS;rw [hlen];refine ⟨by rw [Pg.qI,Ng,hlen,P9],.inr ⟨g,cap,cur',rfl,hb,hg',hle,hcap,zaa,?_⟩⟩;rw [Pg.qI,P9];refine Pc fun j => ?_;by_cases hj:j<L.length
    ·rw [Oc hj,Nf,Ok,MU (by rw [hlen];exact hj),hc' j _ (MU (by rw [hlen];exact hj))];rfl
    ·rw [Ny za5,Ny (by rw [Ng,hlen];omega)]
theorem Cr (w:World) (base:Nat) (sv:Value) (L:List Pg.Nd) (h:Pg.NdS w base sv L) (hl:L.length<=19) (hN:Pg.NdT w L) :
  () 278 #[sv,(L.length:Int),.func (.func 236) #[] #[]] w fun e w'=>e = .returned (.tuple #[])/\Pg.NdS w' base sv (Pg.srt (fun y:Pg.Nd=>y.2.t) L)/\Mo (fun k=>sv.ownBlock=some k) w w':=by
 have HI:Hid _:=zq w base sv L h zaa hN;have h1:¬ (20:Int)<=(L.length:Int):=zaa;have h2:¬ (20:Int)<(L.length:Int):=zaa;generalize hn:L.length=n at *;have HL:Hid (n<=19):=hl;clear h hN hn hl;go_enter func278,ntmps278;go_wp2;refine QD 1 ?_;rw [Re];go_wp2_with (go_at_call 293;refine M7 HI.out ?_;rintro e w1 ⟨rfl,h3⟩);refine QD 1 ?_;rw [Re];go_wp2;go_end0;exact ⟨rfl,h3⟩
theorem sU (w:World) (base:Nat) (sv:Value) (L:List Pg.Nd) (h:Pg.NdS w base sv L) (hl:L.length<=19) (hN:Pg.NdT w L) :
  () 260 #[sv,.func (.func 236) #[] #[]] w fun e w'=>e = .returned (.tuple #[])/\Pg.NdS w' base sv (Pg.srt (fun y:Pg.Nd=>y.2.t) L)/\Mo (fun k=>sv.ownBlock=some k) w w':=by
 have HI:Hid _:=Cr w base sv L h hl hN;obtain ⟨sa,sc,rfl⟩:∃ a c,sv = .slice a L.length c:=by
  rcases h.2 with ⟨e,h0⟩ | ⟨g,cap,cur,e,_⟩
  ·exact ⟨none,0,by rw [e,h0]⟩
  ·exact ⟨_,_,e⟩
 clear h hN;go_enter func260,ntmps260;go_wp2_with (go_at_call 278;refine M7 HI.out ?_;rintro e w1 ⟨rfl,h3⟩);go_end0;exact ⟨rfl,h3⟩
attribute [local go_sem] NR
theorem Jv:(Tryz.prog.info? 78).map (fun i=>(i.zero,i.size,i.bytes))=some (some (.pointer none),1,8):=zab
namespace Pg
theorem KpM.bel (h:Below n W W'):KpM (fun k _=>n<=k) W W':=⟨h.size,fun k _ _ _ hk hn=>(h.block k zaa).trans hk⟩
end Pg
theorem tL (w:World) (Bs:Nat) (L:List Pg.Nd) (hnd:(L.map (·.1)).Nodup) (hb:w.cell? Bs=some (Pg.aK L)) (hR:Pg.cA w L) (hl:L.length<=19) :
  () 277 #[.slice none 0 0,.func (.func 200) #[] #[Bs]] w fun e w'=>∃ sl:Ref.Sl,e = .returned (.slice sl.a sl.n sl.c)/\Pg.NdS w' w (.slice sl.a sl.n sl.c) L/\Below w w w':=by
 obtain ⟨i0,hi,hz0,hz1,hz2⟩:=OB Jv;have hBs:Bs<w.heap.size:=Np _ _ hb;refine (Nz (n:=8)).1 ?_;refine NX func277 rfl trivial ?_ rfl;simp only [ntmps277,List.size_toArray,List.length_cons,List.length_nil,Nat.reduceAdd,Nat.reduceSub,Array.replicate_succ,Array.replicate_zero,List.push_toArray,List.append_toArray,List.nil_append,List.cons_append];gi_wp2;have c9:=NA w 376 (.slice none 0 0);have hB0:Below w w (w.alloc (.cells #[.slice none 0 0] 376)):=(MY _ w).alloc (MR _) _;have hsz:(w.alloc (.cells #[.slice none 0 0] 376)).heap.size=w.heap.size+1:=zad;generalize w.alloc (.cells #[.slice none 0 0] 376)=W0 at *;have hN0:Pg.cA W0 L:=fun i x hx=>(hB0.block x.1 (MQ.1 (hR i x hx)).1).trans (hR i x hx);refine Qb rfl zaa (gf:=200) rfl trivial (Pe func200 zab rfl)
  (p9 (8-1) zaa Bs L hnd (fun k _=>w.heap.size<=k) W0 ((hB0.cell (p:=⟨Bs,0,none⟩) hBs).trans hb) hN0 (fun _=>zaa) (fun x hx _ h=>by
   obtain ⟨i,hi⟩:=Nu.1 hx;have:=(MQ.1 (hR i x hi)).1;omega)) KpM.tr (fun V l o o' _ h hc _=>KpM.put V l o o' h hc) (MY _ _) (fun _=>rfl)
  (fun pre W=>(∃ v,Boxed W w 376 v/\W.ownsRow w 78 1 v pre.length (pre.flatMap Pg.ndC)/\∃ sl:Ref.Sl,v = .slice sl.a sl.n sl.c)/\Below w w W)
  (fun _ _ _=>False)
  (NH (Oo (holdsRow_own w w.heap.size 376 78 1 (fun pre:List Pg.Nd=>pre.length) (fun pre=>pre.flatMap Pg.ndC) (fun _ v=>∃ sl:Ref.Sl,v = .slice sl.a sl.n sl.c)) _) (OX (MR _) zaa))
  (fun _ _ _ _ _ hs _ _=>hs)
  ⟨⟨_,c9,N4 _ _ _ _,⟨none,0,0⟩,rfl⟩,hB0⟩
  (fun x a' _=>a'={ tmps:=#[.slice none 0 0,.func (.func 200) #[] #[Bs],w,undef,.slice none 0 0,.pointer (some ⟨x.1,0,none⟩),.func (.func 200) #[] #[Bs],.pointer (some ⟨x.1,0,none⟩),undef,undef,undef,undef,undef],defers:=[] })
  (fun _ _ _ _ _ _ hs _ _=>hs)
  ?assign ?body ?done ?stop
 case assign =>
  intro l pre x W K hI hK;gi_wp2;exact hK _ _ (Oj _ _) (KpM.refl _ _) hI rfl
 case body =>
  rintro l pre x a' W _ _ ⟨⟨v,h9,hrow,sl,rfl⟩,hBW⟩ rfl hlt;have d9:=h9.cell;have f9:=h9.frozen;have hsW:=hBW.size;gi_wp2_with (gi_at_builtin;refine wpListIn_append_own _ rfl _ _ 376 rfl w 78 i0 (.pointer none) 1 8 underlying376 hi hz0 hz1 hz2 rfl zac _ _ _ rfl (hrow.alloc _) ⟨W,0,none⟩ 1 1 [x.1] rfl rfl (cell_one_new _ _ _) zao zag zaa zae ?_;intro v' w1 hown' hgrow _;obtain ⟨g',cap',rfl⟩:=ownsRow_succ hown';obtain ⟨hv1,hv2,hr2,hk2,hb2⟩:=h9.appended zac hrow hsW zaa hown' hgrow;have hc1:=hv1.cell;have hf1:=hv1.frozen);exact ⟨hk2.from _,Pg.KpM.bel hb2,⟨_,hv2,by simpa [Pg.ndC,Pg.ndP] using hr2,⟨some ⟨g',0,none⟩,pre.length+1,cap'⟩,rfl⟩,hBW.trans hb2⟩
 case done =>
  rintro D ys W hD hys ⟨⟨v,h9,hrow,sl,rfl⟩,hBW⟩ hK;exact zdu
 case stop =>
  exact zfk
theorem yF (w:World) (Bs:Nat) (L:List Pg.Nd) (hnd:(L.map (·.1)).Nodup) (hb:w.cell? Bs=some (Pg.aK L)) (hR:Pg.cA w L) (hl:L.length<=19) :
  () 259 #[.func (.func 200) #[] #[Bs]] w fun e w'=>∃ sl:Ref.Sl,e = .returned (.slice sl.a sl.n sl.c)/\Pg.NdS w' w (.slice sl.a sl.n sl.c) L/\Below w w w':=by
 have HI:Hid _:=tL w Bs L hnd hb hR hl;clear hnd hb hR;go_enter func259,ntmps259;go_wp2_with (go_at_call 277;refine M7 HI.out ?_;rintro e w1 ⟨sl,rfl,h3⟩);go_ret;exact ⟨sl,rfl,h3⟩
theorem pM (w:World) (Bs:Nat) (L:List Pg.Nd) (hnd:(L.map (·.1)).Nodup) (hb:w.cell? Bs=some (Pg.aK L)) (hR:Pg.cA w L) (hl:L.length<=19) :
  () 235 #[.func (.func 200) #[] #[Bs],.func (.func 236) #[] #[]] w fun e w'=>∃ sl:Ref.Sl,e = .returned (.slice sl.a sl.n sl.c)/\Pg.NdS w' w (.slice sl.a sl.n sl.c) (Pg.srt (fun y:Pg.Nd=>y.2.t) L)/\Below w w w':=by
 have HI:Hid _:=yF w Bs L hnd hb hR hl;have HS:Hid (∀ (V:World) (sl:Ref.Sl),Hid (Pg.NdS V w (.slice sl.a sl.n sl.c) L/\Below w w V)->() 260 #[.slice sl.a sl.n sl.c,.func (.func 236) #[] #[]] V fun e w'=>e = .returned (.tuple #[])/\Hid (Pg.NdS w' w (.slice sl.a sl.n sl.c) (Pg.srt (fun y:Pg.Nd=>y.2.t) L)/\Below w w w')):=fun V sl hV=>by
  have hN:Pg.cA V L:=fun i x hx=>(hV.out.2.block x.1 (MQ.1 (hR i x hx)).1).trans (hR i x hx);refine M7 (sU V w _ L hV.out.1 hl hN.ndT) ?_;rintro e w' ⟨rfl,h1,h2⟩;refine ⟨rfl,h1,h2.below hV.out.2 hV.out.2.size (fun i hi e => ?_)⟩
  rcases hV.out.1.2 with ⟨e',_⟩ | ⟨g,cap,cur,e',hb,_⟩
  ·rw [e'] at e;cases e
  ·rw [e'] at e;have:g=i:=by simpa [Value.ownBlock] using e
   omega
 clear hnd hb hR;go_enter func235,ntmps235;go_wp2_with (first
  | (go_at_call 259;refine M7 HI.out ?_;rintro e w1 ⟨sl,rfl,h3⟩)
  | (go_at_call 260;refine M7 (HS.out _ sl h3) ?_;rintro e w2 ⟨rfl,h4⟩))
 go_ret;exact ⟨sl,rfl,h4⟩
theorem A6 (w:World) (L:List Pg.Nd) (hnd:(L.map (·.1)).Nodup) (hR:Pg.cA w L) (hl:L.length<=19) :
  () 206 #[.agg #[Pg.aK L]] w fun e w'=>∃ sl:Ref.Sl,e = .returned (.slice sl.a sl.n sl.c)/\Pg.NdS w' w (.slice sl.a sl.n sl.c) (Pg.srt (fun y:Pg.Nd=>y.2.t) L)/\Below w w w':=by
 have hsh:Pg.aK L = .pointer none\/∃ b,Pg.aK L = .pointer (some ⟨b,0,none⟩):=by
  unfold Pg.aK;cases L.getLast? with
  | none=>exact .inl rfl
  | some z=>exact .inr ⟨z.1,rfl⟩
 have HT:Hid (∀ (V:World) (Bs:Nat),V.cell? ⟨Bs,0,none⟩=some (Pg.aK L)->Hid (Below w w V)->() 235 #[.func (.func 200) #[] #[.pointer (some ⟨Bs,0,none⟩)],.func (.func 236) #[] #[]] V fun e w'=>∃ sl:Ref.Sl,e = .returned (.slice sl.a sl.n sl.c)/\Hid (Pg.NdS w' w (.slice sl.a sl.n sl.c) (Pg.srt (fun y:Pg.Nd=>y.2.t) L)/\Below w w w')):=fun V Bs hc hV=>by
  have hN:Pg.cA V L:=fun i x hx=>(hV.out.block x.1 (MQ.1 (hR i x hx)).1).trans (hR i x hx);refine M7 (pM V Bs L hnd hc hN hl) ?_;rintro e w' ⟨sl,rfl,h1,h2⟩;exact ⟨sl,rfl,aD h1 hV.out.size,hV.out.trans (h2.mono hV.out.size)⟩
 have HB:Hid (∀ o1 o2:Obj,Below w w ((w.alloc o1).alloc o2)):=fun o1 o2=>((MY _ w).alloc (MR _) _).alloc zad _;clear hnd hR;obtain ⟨rv,hrv⟩:∃ rv,Pg.aK L=rv:=⟨_,rfl⟩;have HNO:Hid (∀ V,() 160 #[.agg #[rv]] V fun e w'=>e = .returned (.func (.func 200) #[] #[.pointer (some ⟨V.heap.size,0,none⟩)])/\w'=V.alloc (.cells #[rv] 80)):=fun V=>mg rv V (hrv ▸ hsh);rw [hrv] at HT ⊢;have HC:Hid (((w.alloc (.cells #[rv] 80)).alloc (.cells #[rv] 80)).cell? ⟨w.heap.size+1,0,none⟩=some rv):=by
  unfold Hid;simp
 rw [hrv] at hsh;have HSH:Hid _:=hsh;clear hrv
 rcases HSH.out with rfl | ⟨b,rfl⟩
 all_goals
  clear hsh HSH;go_enter func206,ntmps206;go_wp2_with (first
   | (go_at_call 160;refine M7 (HNO.out _) ?_;rintro e w1 ⟨rfl,hw1⟩;rw [hw1];clear hw1 w1)
   | (go_at_call 235;refine M7 (HT.out _ _ HC.out (HB.out _ _)) ?_;rintro e w2 ⟨sl,rfl,h4⟩))
  go_ret;exact ⟨sl,rfl,h4⟩
attribute [local go_sem] NR
namespace Pg
def byT (R:Nat->List Nd) (r:Nat):List Nd:=srt (fun y:Nd=>y.2.t) (R r)
def yr (R:Nat->List Nd) (hv:Nat->Nat):List Nd:=(ga hv).flatMap (byT R)
theorem yY {α β:Type} {f:α->List β} {a b:List α} (h:a <+: b):a.flatMap f <+: b.flatMap f:=by
 obtain ⟨t,rfl⟩:=h;rw [NQ];exact RF _ _
theorem E2 (l:List Nd):aK l = .pointer none\/∃ b,aK l = .pointer (some ⟨b,0,none⟩):=by
 exact zei
structure Ft (w:World) (mb:Nat) (R:Nat->List Nd) (hv:Nat->Nat) (B:Nat->TypeId->Prop):Prop where
 rd:∀ Bs V,KpM B w V->Boxed V Bs 121 (.pointer (some ⟨mb,27,none⟩))->AJ V Bs mb R hv
 nds:∀ r,isR r->cA w (R r)
 nod:∀ r,isR r->((R r).map (·.1)).Nodup
 len:∀ r,isR r->(R r).length<=19
 far:∀ r,isR r->∀ x∈R r,∀ t,¬ B x.1 t
 mb':∀ t,¬ B mb t
 tab':∀ t,¬ B 5 t
 lt:∀ k t,B k t->k<w.heap.size\/t=138
theorem Ft.flat {w:World} {mb:Nat} {R:Nat->List Nd} {hv:Nat->Nat} {B:Nat->TypeId->Prop} (h:Ft w mb R hv B):∀ rs:List Nat,(∀ q∈rs,isR q)->(rs.flatMap (byT R)).length<=19*rs.length
 | [],_=>MR _
 | q::rs,hq=>by
  have:=h.flat rs (fun x hx=>hq x (NL _ hx));have:=h.len q (hq q (NK ..));rw [Ol,Nj,Oa];unfold byT at *;rw [qN];omega
theorem KpN.lo {B:Nat->TypeId->Prop} {m:Nat} {V V':World} (h:KpN B m V V') (hmn:m<=n):KpN B n V V':=⟨h.1,h.2.size,fun k o hk ho hc=>h.2.same k o zaa ho hc⟩
end Pg
theorem Hb (n:Nat) (hn:6<=n) (Bs mb:Nat) (R:Nat->List Pg.Nd) (hv:Nat->Nat) (hvl:∀ k,k<6->hv k<18446744073709551616) (B:Nat->TypeId->Prop) (w:World) (hN:Pg.Ft w mb R hv B) (hc:Boxed w Bs 121 (.pointer (some ⟨mb,27,none⟩))) (hBs:¬ B Bs 121) :
  Fw Fence.wide n prog 204 #[Bs] (fun x:Pg.Nd=>#[Value.pointer (some ⟨x.1,0,none⟩)]) (KpN B (w.heap.size+2)) (fun xs x=>(∃ r,Pg.isR r/\x∈R r)/\xs.length<=8000) (fun xs=>xs=Pg.yr R hv) (fun xs=>xs <+: Pg.yr R hv) w:=fun l J Jx W hW hWs hJ hJx hY h0=>by
 have hcW:=(show Boxed W Bs _ _ from (KpM.below (B:=B) hW).2 _ _ _ _ hc hBs).cell;have hn1:1<=n:=zaa;refine NX func204 rfl trivial ?_ rfl;simp only [ntmps204,List.size_toArray,List.length_cons,List.length_nil,Nat.reduceAdd,Nat.reduceSub,Array.replicate_succ,Array.replicate_zero,List.push_toArray,List.append_toArray,List.nil_append,List.cons_append];have hc1:(W.alloc (.cells #[.func (.yield l) #[] #[]] 371)).cell? Bs=_:=nL ((MY _ W).alloc (MR _) _) hcW;gi_wp2_with (refine ⟨trivial,?_⟩;gi_at_call 205;refine (Nz.2 (vH mb 27 _)).mono ?_;rintro e w9 ⟨rfl,hw9⟩;rw [hw9];clear hw9 w9);have hB1:Below W W ((W.alloc (.cells #[.func (.yield l) #[] #[]] 371)).alloc (.cells #[.pointer (some ⟨mb,27,none⟩)] 121)):=((MY _ W).alloc (MR _) _).alloc zad _;have by1:=(NA W 371 (.func (.yield l) #[] #[])).alloc (.cells #[.pointer (some ⟨mb,27,none⟩)] 121);have bx1:=NA (W.alloc (.cells #[.func (.yield l) #[] #[]] 371)) 121 (.pointer (some ⟨mb,27,none⟩));simp only [World.size_alloc] at bx1;have hJ1:J [] ((W.alloc (.cells #[.func (.yield l) #[] #[]] 371)).alloc (.cells #[.pointer (some ⟨mb,27,none⟩)] 121)):=hJ.alloc _ (hJ.alloc _ h0);have hs1:((W.alloc (.cells #[.func (.yield l) #[] #[]] 371)).alloc (.cells #[.pointer (some ⟨mb,27,none⟩)] 121)).heap.size=W.heap.size+2:=zad;generalize (W.alloc (.cells #[.func (.yield l) #[] #[]] 371)).alloc (.cells #[.pointer (some ⟨mb,27,none⟩)] 121)=W1 at *;have hK1:KpM B w W1:=(KpM.below hW).tr (KpM.below hB1);have hlt:=hN.lt;have hsh:=fun r=>Pg.E2 (R r);have hdr:∀ {K:List Pg.Nd->World->Prop},OwnFrom W K->∀ xs A C,Below A.heap.size A C->K xs A->K xs C:=fun {K} hK xs A C hb h=>hK xs A C none h ⟨hb.os,hb.tape,hb.output,hb.size,fun k hk _=>hb.block k hk⟩ (fun r e=>by cases e)
 refine zV rfl zaa (gf:=233) rfl trivial (Pe func233 zab rfl)
  (z7 (n-1) zaa (W.heap.size+1) mb R hv hvl B W1 (hN.rd _ W1 hK1 bx1) (fun h=>by rcases hlt _ _ h with h | h;have:=hW.size;omega;exact absurd h zac) hN.mb' hN.tab' (fun k t h=>(hlt k t h).imp (fun h=>by have:=hW.size;omega) id))
  KpN.tr (fun V o o' h ho=>KpN.put zaa V o o' h ho) (fun _=>rfl)
  (fun rs V=>J (rs.flatMap (Pg.byT R)) V/\KpN B (w.heap.size+2) W1 V) (fun rs V=>∃ ys,ys <+: rs.flatMap (Pg.byT R)/\Jx ys V)
  (NH (fun rs A C row h hg hr=>hJ _ A C row h hg (fun r e=>⟨zas,(hr r e).2⟩)) (KpN.own (MR _)))
  (fun rs A C row h hg hr=>by obtain ⟨ys,h1,h2⟩:=h;exact ⟨ys,h1,hJx _ A C row h2 hg (fun r e=>⟨zas,(hr r e).2⟩)⟩)
  ⟨hJ1,KpN.refl _ _ _⟩
  (fun r a' V=>∃ b,a'={ tmps:=#[.func (.yield l) #[] #[],.pointer (some ⟨Bs,0,none⟩),.pointer (some ⟨W.heap.size,0,none⟩),.pointer (some ⟨b,0,none⟩),undef,undef,.pointer (some ⟨mb,27,none⟩),.func (.func 233) #[] #[.pointer (some ⟨W.heap.size+1,0,none⟩)],.agg #[Pg.aK (R r)],undef,undef,undef,undef,undef,undef,undef,undef,undef,undef,undef,undef],defers:=[] }/\Boxed V b 80 (Pg.aK (R r))/\W1.heap.size<=b)
  (fun r a' u A C row h hg hr=>by
   obtain ⟨b,e,hb,hl⟩:=h;exact ⟨b,e,Oo (Og (β:=Unit) b 80 (fun _=>Pg.aK (R r))) _ () A C row hb hg hr,hl⟩)
  ?assign ?body ?done ?stop
 case assign =>
  intro l2 rs r V K hI hK;have hVs:=hI.2.1.1;have hBa:∀ o,Below V V (V.alloc o):=fun o=>(MY _ V).alloc (MR _) _;have hk2:∀ rv:Value,Pg.aK (R r)=rv->K _ (V.alloc (.cells #[rv] 80)):=fun rv e=>hK _ _ ((RM _ _).from _) (KpN.below (hBa _)) ⟨hdr hJ _ _ _ (hBa _) hI.1,hI.2.tr (KpN.below (hBa _))⟩ ⟨V.heap.size,rfl,e ▸ NA V _ _,hVs⟩;exact zd1
 case body =>
  rintro l2 rs r a' V hl ⟨rl,hrl⟩ ⟨hir,hrsl,hrsm⟩ ⟨hJV,hKV⟩ ⟨b,rfl,hb,hbl⟩;have hfl:=hN.flat rs hrsm;have hbc:=hb.cell;have hKw:KpM B w V:=hK1.tr hKV.1;have hRV:Pg.cA V (R r):=fun i x hx=>hKw.2 _ _ _ _ (hN.nds r hir i x hx) (hN.far r hir x (Nc hx) _);have hbt:=A6 V (R r) (hN.nod r hir) hRV (hN.len r hir);have hd1:1<=n-1-1:=zaa;obtain ⟨L,hL⟩:∃ L,Pg.srt (fun y:Pg.Nd=>y.2.t) (R r)=L:=⟨_,rfl⟩;have HL:Hid (Pg.byT R r=L):=hL;have hLm:∀ x∈L,x∈R r:=fun x hx=>by rw [<- hL] at hx;exact Pg.kx.1 hx
  have hl19:L.length<=19:=by rw [<- hL,Pg.qN];exact hN.len r hir
  rw [hL] at hbt;obtain ⟨rv,hrv⟩:∃ rv,Pg.aK (R r)=rv:=⟨_,rfl⟩;rw [hrv] at hbc hbt ⊢;clear hL hrv hRV hsh;gi_wp2_with (refine ⟨trivial,?_⟩;gi_at_call 206;refine (aH hbt).mono ?_;rintro e V2 ⟨⟨sa,sn,sc⟩,rfl,hrow,hB2⟩;dsimp only at hrow ⊢);have hsn:sn=L.length:=by
   rcases hrow.2 with ⟨e,h0⟩ | ⟨g,cap,cur,e,_⟩
   ·simp at e;omega
   ·simp at e;omega
  subst hsn;have hcell:∀ (i:Nat) (x:Pg.Nd),L[i]?=some x->∃ g cur,sa=some ⟨g,0,none⟩/\V.heap.size<=g/\V2.heap[g]?=some (.cells cur 78 (0,0))/\cur[i]?=some (Pg.ndP x.1):=fun i x hx=>by
   have hi:=(MZ.1 hx).1
   rcases hrow.2 with ⟨e,h0⟩ | ⟨g,cap,cur,e,hbs,hg,hle,hcap,hsz,htk⟩
   ·omega
   ·simp at e;refine ⟨g,cur,e.1,hbs,hg,?_⟩;rw [Pg.qI,P9] at htk;have h2:=congrArg (fun l:List Value=>l[i]?) htk;simpa [List.getElem?_take_of_lt hi,hx] using h2
  have hJ2:=hdr hJ _ _ _ hB2 hJV;have hK2:KpN B (w.heap.size+2) W1 V2:=hKV.tr (KpN.below hB2);have hVs:=hKV.1.1;have hWs2:=hW.size;clear hbt hrow hbc;refine wpIn_loop (fun a' U=>∃ (i:Nat) (u5 u13 u14 u15 u16 u17 u18 u19 u20:Value),a'={ tmps:=#[.func (.yield l) #[] #[],Bs,W,b,undef,u5,.pointer (some ⟨mb,27,none⟩),.func (.func 233) #[] #[↑(W.heap.size+1)],.agg #[rv],.agg #[rv],.slice sa L.length sc,(L.length:Int),(i:Int),u13,u14,u15,u16,u17,u18,u19,u20],defers:=[] }/\i<=L.length/\J (rs.flatMap (Pg.byT R)++L.take i) U/\KpN B (w.heap.size+2) V2 U) (fun a' _=>L.length-(intOf (a'.tmps.getD 12 undef)).toNat) ?_ ?_
  ·exact ⟨0,_,_,_,_,_,_,_,_,_,rfl,Ni _,by simpa using hJ2,KpN.refl _ _ _⟩
  rintro a'' U ⟨i,u5,u13,u14,u15,u16,u17,u18,u19,u20,rfl,hiL,hJU,hKU⟩;have hKW1:=hK2.tr hKU;have hyc:U.cell? W=some (.func (.yield l) #[] #[]):=(Pg.KpM.bx hlt hKW1.1 by1 hWs2).cell;have hKVU:KpN B (w.heap.size+2) V U:=(KpN.below hB2).tr hKU;by_cases hi:i<L.length
  ·obtain ⟨x,hx⟩:∃ x,L[i]?=some x:=⟨_,MU hi⟩;obtain ⟨g,cur,rfl,hgV,hgr,hgc⟩:=hcell i x hx;have hgU:U.cell? ⟨g,i,none⟩=some ↑x.1:=(M0 U _ _ _ _ _ (hKU.1.2 _ _ _ _ hgr (fun h=>by rcases hlt _ _ h with h' | h';omega;exact absurd h' zac))).trans hgc;have hi':(i:Int)<(L.length:Int):=zaa;obtain ⟨fn,tm,asg,bd,hy,hRo⟩:=hY _ x U hJU ⟨⟨r,hir,hLm x (Nc hx)⟩,by rw [Nj,N8];omega⟩;have HX:Hid (rs.flatMap (Pg.byT R)++L.take i++[x]=rs.flatMap (Pg.byT R)++L.take (i+1)):=by
    unfold Hid;rw [OV,dC hx]
   (try dsimp only at hy)
   gi_wp2;refine (sS mB (dF l2) hRo).mono ?_;rintro e U' (⟨rfl,hJ',hk'⟩ | ⟨rfl,hJ',hk'⟩)
   ·gi_wp2;refine ⟨⟨i+1,_,_,_,_,_,_,_,_,_,rfl,zaa,by rw [<- HX.out];exact hJ',hKU.tr hk'⟩,?_⟩;show L.length-((i:Int)+1).toNat<L.length-(i:Int).toNat;omega
   ·gi_wp2;have hk2:=hKVU.tr hk';refine ⟨(Pg.KpN.lo hk2 zaa).2,Pg.KpN.lo hk2 zaa,_,?_,hJ'⟩;rw [HX.out,NQ,QY,HL.out];exact (Rl _).2 (List.take_prefix _ _)
  ·have hie:i=L.length:=zaa;subst hie;gi_wp2;refine ⟨(Pg.KpN.lo hKVU zaa).2,Pg.KpN.lo hKVU zaa,?_,hKV.tr hKVU⟩;rw [NQ,QY,HL.out];rw [N6] at hJU;exact hJU
 case done =>
  rintro D rs V hD hrs ⟨hJV,hKV⟩ hdef;subst hrs;gi_wp2;refine ⟨zad,.inl ⟨_,_,rfl,NP hdef,?_⟩⟩;exact ⟨_,N5 rfl _ _ _,⟨_,rfl⟩,.inl ⟨_,rfl,hJ.putObj _ hJV zaa hdef rfl⟩⟩
 case stop =>
  rintro D rs V hD hrs ⟨ys,hys,hJV⟩ hdef;gi_wp2;refine ⟨zad,.inl ⟨_,_,rfl,NP hdef,?_⟩⟩;exact ⟨_,N5 rfl _ _ _,⟨_,rfl⟩,.inr ⟨ys,hys.trans (Pg.yY hrs),hJx.putObj _ hJV zaa hdef rfl⟩⟩
attribute [local go_sem] NR
theorem tF {F:Fence} (hF:Wd F) {P:Program} {ops:Array Oper} {Q:Exit->Act->World->Prop} {a:Act} {rest:List Oper} {o:Oper} (hg:o.guard=none) (hnd:∀ c,o.op ≠ .defer c) (h:∀ K:Act->World->Prop,(∀ a w,wpListIn F n P ops Q rest a w->K a w)->o.wp P a w K Q):wpListIn F n P ops Q (o::rest) a w :=
 wpListIn_plain hg fun K hK=>⟨fun _ _=>hF.fn _,by
  rw [Oper.semAt_eq _ _ _ hnd];exact Dz hF _ (h K hK)⟩
theorem BY (mb o:Nat) (w:World):() 162 #[.pointer (some ⟨mb,o,none⟩)] w fun e w'=>e = .returned (.func (.func 204) #[] #[w])/\w'=w.alloc (.cells #[.pointer (some ⟨mb,o,none⟩)] 121):=by
 go_enter func162,ntmps162;exact zfp
theorem zJ (V:World) (g:Nat) (v:Value) (h:V.cell? g=some v):(loadVar 78 ⟨g,0,none⟩).run prog V = .ok v V:=by
 simp [loadVar,Sem.run_bind,Tryz.isAgg78,go_sem,h]
namespace Pg
def Bm (L:List Nd):Value:=match L.head? with | some x=>ndP x.1 | none => .pointer none
end Pg
theorem Eb (w:World) (mb:Nat) (R:Nat->List Pg.Nd) (hv:Nat->Nat) (hvl:∀ k,k<6->hv k<18446744073709551616) (hN:∀ W0,Below w w W0->W0.heap.size=w.heap.size+2->Pg.Ft W0 mb R hv (fun k _=>k=w.heap.size)) :
  () 115 #[.pointer (some ⟨mb,27,none⟩)] w fun e w'=>e = .returned (Pg.Bm (Pg.yr R hv))/\Below w w w':=by
 refine (Nz (n:=9)).1 ?_;refine NX func115 rfl trivial ?_ rfl;simp only [ntmps115,List.size_toArray,List.length_cons,List.length_nil,Nat.reduceAdd,Nat.reduceSub,Array.replicate_succ,Array.replicate_zero,List.push_toArray,List.append_toArray,List.nil_append,List.cons_append];gi_wp2_with (refine ⟨trivial,?_⟩;gi_at_call 162;refine (Nz.2 (BY mb 27 _)).mono ?_;rintro e w9 ⟨rfl,hw9⟩;rw [hw9];clear hw9 w9);have b0:=(NA w 78 (.pointer none)).alloc (.cells #[.pointer (some ⟨mb,27,none⟩)] 121);have b1:=NA (w.alloc (.cells #[.pointer none] 78)) 121 (.pointer (some ⟨mb,27,none⟩));simp only [World.size_alloc] at b1;have hB0:Below w w ((w.alloc (.cells #[.pointer none] 78)).alloc (.cells #[.pointer (some ⟨mb,27,none⟩)] 121)):=((MY _ w).alloc (MR _) _).alloc zad _;have hs0:((w.alloc (.cells #[.pointer none] 78)).alloc (.cells #[.pointer (some ⟨mb,27,none⟩)] 121)).heap.size=w.heap.size+2:=zad;generalize (w.alloc (.cells #[.pointer none] 78)).alloc (.cells #[.pointer (some ⟨mb,27,none⟩)] 121)=W0 at *;refine zV rfl zaa (gf:=204) rfl trivial (Pe func204 zab rfl)
  (Hb 8 zaa (w.heap.size+1) mb R hv hvl (fun k _=>k=w.heap.size) W0 (hN W0 hB0 hs0) b1 zaa)
  KpN.tr (fun V o o' h ho=>KpN.put zaa V o o' h ho) (fun _=>rfl)
  (fun xs V=>(xs=[]/\Boxed V w 78 (.pointer none))/\Below w w V)
  (fun xs V=>(∃ x:Pg.Nd,xs=[x]/\Boxed V w 78 (Pg.ndP x.1))/\Below w w V)
  (NH (NH (ownFrom_pure _ _) (Oo (Og _ _ _) _)) (OX (MR _) zaa))
  (NH (fun xs A C row h hg hr=>by
   obtain ⟨x,e,hb⟩:=h;exact ⟨x,e,Oo (Og (β:=Unit) w.heap.size 78 (fun _=>Pg.ndP x.1)) _ () A C row hb hg hr⟩) (OX (MR _) zaa))
  ⟨⟨rfl,b0⟩,hB0⟩
  (fun x a' _=>a'={ tmps:=#[.pointer (some ⟨mb,27,none⟩),undef,w,.pointer (some ⟨x.1,0,none⟩),.pointer (some ⟨mb,27,none⟩),.func (.func 204) #[] #[↑(w.heap.size+1)],.pointer (some ⟨x.1,0,none⟩),undef],defers:=[] })
  (fun _ _ _ _ _ _ hs _ _=>hs) ?assign ?body ?done ?stop
 case assign =>
  intro l xs x V K hI hK;gi_wp2;exact hK _ _ (Oj _ _) (KpN.refl _ _ _) hI rfl
 case body =>
  rintro l xs x a' V hl _ _ ⟨⟨rfl,hbx⟩,hB⟩ rfl;have hc:=hbx.cell;have hf:=hbx.frozen;gi_wp2;exact ⟨(N0 _ _ _).from _,KpN.set _ _ _ (fun _=>rfl),⟨x,rfl,hbx.set _⟩,hB.setCell (p:=⟨w,0,none⟩) (MR _) _⟩
 case done =>
  rintro D xs V hD hxs ⟨⟨rfl,hbx⟩,hB⟩ hdef;have hc:=hbx.cell;have hf:=hbx.frozen;have hset:=hbx.set (.pointer none);gi_wp2;refine ⟨zad,.inl ⟨_,_,rfl,NP (w:=V.setCell w (.pointer none)) ((NF V _ _ D (by show D≠w.heap.size;omega)).trans hdef),?_⟩⟩;have hBd:Below w w ((V.setCell w (.pointer none)).putObj D (.deferred none)):=(hB.setCell (p:=⟨w,0,none⟩) (MR _) _).trans (Po (w:=w) (MR _) _ D _ _ zaa ((NF V _ _ D (by show D≠w.heap.size;omega)).trans hdef) rfl rfl);have hcd:((V.setCell w (.pointer none)).putObj D (.deferred none)).cell? w=some (.pointer none):=(Nk (NU (by show w.heap.size≠D;omega))).trans hset.cell;refine ⟨.pointer none,?_,by rw [<- hxs];rfl,hBd⟩;exact zeX
 case stop =>
  rintro D xs V hD hpre ⟨⟨x,rfl,hbx⟩,hB⟩ hdef;gi_wp2;refine ⟨zad,.inl ⟨_,_,rfl,NP hdef,?_⟩⟩;have hcd:(V.putObj D (.deferred none)).cell? w=some (Pg.ndP x.1):=(Nk (NU (by show w.heap.size≠D;omega))).trans hbx.cell;refine ⟨Pg.ndP x.1,?_,?_,hB.trans (Po (w:=w) (MR _) _ D _ _ zaa hdef rfl rfl)⟩
  ·exact zeX
  ·obtain ⟨t,ht⟩:=hpre;unfold Pg.Bm;rw [<- ht];rfl
namespace Pg
theorem cX.nil {lo:Pg.Lo} (hM:au W lo mb pb qv s) (h:cX W lo s.wh R) (hr:isR r) (hls:lo<=W.heap.size) :
  au (W.setCell ⟨mb,28+r,none⟩ (.pointer none)) lo mb pb qv { s with wh:=upd s.wh (28+r) (.pointer none) }/\cX (W.setCell ⟨mb,28+r,none⟩ (.pointer none)) lo (upd s.wh (28+r) (.pointer none)) (upd R r [])/\Rw lo W (W.setCell ⟨mb,28+r,none⟩ (.pointer none)):=by
 have hrl:=hr.lt;have hm:Mo (· = mb) W (W.setCell ⟨mb,28+r,none⟩ (.pointer none)):=(Mo.refl _ _).set _ _ rfl;have hR:Rm lo W (W.setCell ⟨mb,28+r,none⟩ (.pointer none)):=RfE.mo hm (fun j hj=>by
  obtain ⟨arr,a1,_⟩:=hM.blk;subst hj;exact ⟨hM.lo',arr,_,_,a1,rfl⟩) hls
 refine ⟨hM.Dm (28+r) _ zaa zaa,?_,H7 hR⟩;have h2:=h.kd hR.kd (by unfold J0;decide);have hmem:∀ q x,x∈upd R r [] q->x∈R q:=fun q x hx=>by
  by_cases e:q=r
  ·subst e;rw [aC] at hx;cases hx
  ·rw [aG _ _ e] at hx;exact hx
 refine ⟨fun q hq => ?_,fun q hq => ?_,fun q hq x hx=>h2.low q hq x (hmem q x hx),fun p q hp hq hpq x hx y hy=>h2.dis p q hp hq hpq x (hmem p x hx) y (hmem q y hy),fun q hq => ?_⟩
 ·by_cases e:q=r
  ·subst e;rw [aC,aC];rfl
  ·rw [aG _ _ e,aG _ _ zaa];exact h.ring q hq
 ·by_cases e:q=r
  ·subst e;rw [aC];exact cA.nil _
  ·rw [aG _ _ e];exact h2.nds q hq
 ·by_cases e:q=r
  ·subst e;rw [aC];exact R6
  ·rw [aG _ _ e];exact h2.nod q hq
theorem LB {i:Nat} (hi:i+1<m.length):nxt m i=nxt (f::m) (i+1):=by
 unfold nxt;rw [Ph,MU hi]
theorem cX.tl {lo:Pg.Lo} (hM:au W lo mb pb qv s) (h:cX W lo s.wh R) (hr:isR r) (hls:lo<=W.heap.size) {z:Nd} (hf:R r=f::m) (hz:m.getLast?=some z) :
  au (W.setCell ⟨z.1,3,none⟩ (nxt (f::m) 0)) lo mb pb qv s/\cX (W.setCell ⟨z.1,3,none⟩ (nxt (f::m) 0)) lo s.wh (upd R r m)/\Rw lo W (W.setCell ⟨z.1,3,none⟩ (nxt (f::m) 0)):=by
 have hne:m≠[]:=fun e=>zaZ;have hml:0<m.length:=OJ.2 hne;have hlz:m[m.length-1]?=some z:=zaA;have hn:=h.nds r hr;rw [hf] at hn;have hzn:=hn (m.length-1+1) z (by rw [Ph];exact hlz);have hm:Mo (· = z.1) W (W.setCell ⟨z.1,3,none⟩ (nxt (f::m) 0)):=(Mo.refl _ _).set _ _ rfl;have hzr:z∈R r:=by rw [hf];exact NL _ (Nc hlz)
 have hR:Rw lo W (W.setCell ⟨z.1,3,none⟩ (nxt (f::m) 0)):=RfE.mo hm (fun j hj=>by
  subst hj;exact ⟨h.low r hr z hzr,_,_,_,hzn,.inr rfl⟩) hls
 have hnd:=h.nod r hr;rw [hf,Pj,Qt] at hnd;have hmem:∀ q x,x∈upd R r m q->x∈R q:=fun q x hx=>by
  by_cases e:q=r
  ·subst e;rw [aC] at hx;rw [hf];exact NL _ hx
  ·rw [aG _ _ e] at hx;exact hx
 refine ⟨hM.mo hm (fun e=>hM.typ hzn e) (fun g hg e => ?_),⟨fun q hq => ?_,fun q hq => ?_,fun q hq x hx=>h.low q hq x (hmem q x hx),fun p q hp hq hpq x hx y hy=>h.dis p q hp hq hpq x (hmem p x hx) y (hmem q y hy),fun q hq => ?_⟩,hR⟩
 ·obtain ⟨c',hc'⟩:=hM.que.kind g hg;rw [e,hzn] at hc';simp at hc'
 ·by_cases e:q=r
  ·subst e;rw [aC,h.ring q hq,hf];unfold aK;rw [List.getLast?_cons,hz];rfl
  ·rw [aG _ _ e];exact h.ring q hq
 ·by_cases e:q=r
  ·subst e;rw [aC];intro i x hx;have hi:=(MZ.1 hx).1;by_cases ei:i=m.length-1
   ·subst ei;rw [hlz] at hx;cases hx
    rw [show nxt m (m.length-1)=nxt (f::m) 0 by
     rw [iP (MU hml)];unfold nxt;rw [Ph,MU hml]]
    exact Nn W z.1 3 _ _ _ hzn
   ·rw [LB (f:=f) (m:=m) (i:=i) zaa];refine (NF W _ _ x.1 (fun e'=>ei ?_)).trans (hn (i+1) x (by rw [Ph];exact hx));have e1:(m.map (·.1))[i]?=(m.map (·.1))[m.length-1]?:=by rw [Nf,Nf,hx,hlz];simp only [Option.map_some];rw [e']
    have hi':i<(m.map (·.1)).length:=zbr;have hj':m.length-1<(m.map (·.1)).length:=zae;rw [MU hi',MU hj'] at e1;have ea:=hnd.2.idxOf_getElem i hi';have eb:=hnd.2.idxOf_getElem (m.length-1) hj';rw [NO e1] at ea;omega
  ·rw [aG _ _ e];exact (h.nds q hq).mo hm (fun x hx=>h.dis q r hq hr e x hx z hzr)
 ·by_cases e:q=r
  ·subst e;rw [aC];exact hnd.2
  ·rw [aG _ _ e];exact h.nod q hq
end Pg
theorem E5 (w:World) (c o fb:Nat) (hc:w.cell? ⟨c,o,none⟩=some (Pg.ndP fb)) (hfz:w.frozen? ⟨c,o,none⟩=false) (x:Pg.Tn) (hn:w.heap[fb]?=some (.cells (Pg.et x (Pg.ndP fb)) 278 (0,0))) :
  () 197 #[.pointer (some ⟨c,o,none⟩)] w fun e w'=>e = .returned (Pg.ndP fb)/\w'=w.setCell ⟨c,o,none⟩ (.pointer none):=by
 have n3:w.cell? ⟨fb,3,none⟩=some (Pg.ndP fb):=zaX;have heq:=iC w fb fb ⟨_,hn⟩ ⟨_,hn⟩;rw [show decide (fb=fb)=true by simp] at heq;unfold Pg.ndP at hc n3 ⊢;clear hn;go_enter func197,ntmps197;go_wp2;go_ret;exact ⟨rfl,rfl⟩
theorem E6 (w:World) (c o fb zb nb:Nat) (hc:w.cell? ⟨c,o,none⟩=some (Pg.ndP zb)) (x y:Pg.Tn) (hn:w.heap[fb]?=some (.cells (Pg.et x (Pg.ndP nb)) 278 (0,0))) (hz:w.heap[zb]?=some (.cells (Pg.et y (Pg.ndP fb)) 278 (0,0))) (hne:fb≠zb) :
  () 197 #[.pointer (some ⟨c,o,none⟩)] w fun e w'=>e = .returned (Pg.ndP fb)/\w'=w.drew.setCell ⟨zb,3,none⟩ (Pg.ndP nb):=by
 have n3:w.cell? ⟨fb,3,none⟩=some (Pg.ndP nb):=zaX;have z3:w.cell? ⟨zb,3,none⟩=some (Pg.ndP fb):=by rw [M0 w _ _ _ _ _ hz];rfl
 have zf:w.drew.frozen? ⟨zb,3,none⟩=false:=by show w.frozen? _=_;simp [World.frozen?,hz]
 have heq:=iC w fb zb ⟨_,hn⟩ ⟨_,hz⟩;rw [show decide (fb=zb)=false by simp [hne]] at heq;unfold Pg.ndP at hc n3 z3 ⊢;have hc':w.drew.cell? ⟨c,o,none⟩=_:=hc;have n3':w.drew.cell? ⟨fb,3,none⟩=_:=n3;have z3':w.drew.cell? ⟨zb,3,none⟩=_:=z3;clear hn hz hne;go_enter func197,ntmps197
 go_upto_region 4 with fail
 refine dU 8 zab zab ?_;simp only [List.take_succ_cons,List.take_zero,List.drop_succ_cons,List.drop_zero]
 repeat still_step
 refine Ov ?_;go_wp2;go_ret;exact ⟨rfl,rfl⟩
theorem Ic (w:World) (lo:Pg.Lo) (mb pb:Nat) (qv:Value) (s:Pg.MSt) (R:Nat->List Pg.Nd) (r:Nat) (f:Pg.Nd) (m:List Pg.Nd) (hM:Pg.au w lo mb pb qv s) (h:Pg.cX w lo s.wh R) (hls:lo<=w.heap.size) (hr:Pg.isR r) (hf:R r=f::m) :
  () 197 #[.pointer (some ⟨mb,28+r,none⟩)] w fun e w'=>e = .returned (Pg.ndP f.1)/\Hid (∃ wh',Pg.au w' lo mb pb qv { s with wh:=wh' }/\Pg.cX w' lo wh' (Pg.upd R r m)/\Pg.Rw lo w w'/\(∀ i,i≠28+r->wh' i=s.wh i)/\∃ v,w'.heap[f.1]?=some (.cells (Pg.et f.2 v) 278 (0,0))):=by
 have hrl:=hr.lt;have hn:=h.nds r hr;have hc:=(hM.whc (28+r) zaa zaa).trans (congrArg some (h.ring r hr));rw [hf] at hn hc;have hf0:=hn 0 f rfl;cases hz:m.getLast? with
 | none =>
  have hm:m=[]:=Pq.1 hz;subst hm;refine M7 (E5 w mb (28+r) f.1 hc (hM.frozen _) f.2 hf0) ?_;rintro e w' ⟨rfl,rfl⟩;obtain ⟨a,b,c⟩:=h.nil hM hr hls;exact ⟨rfl,_,a,b,c,fun i hi=>Pg.aG _ _ hi,_,(NF w _ _ f.1 (fun e=>hM.typ hf0 e.symm)).trans hf0⟩
 | some z =>
  have hne:m≠[]:=fun e=>zaZ;have hml:0<m.length:=OJ.2 hne;have hlz:m[m.length-1]?=some z:=zaA;have hzn:=hn (m.length-1+1) z (by rw [Ph];exact hlz);have hnd:=h.nod r hr;rw [hf,Pj,Qt] at hnd;have hfz:f.1≠z.1:=fun e=>hnd.1 (NI.2 ⟨z,Nc hlz,e.symm⟩);have e1:Pg.aK (f::m)=Pg.ndP z.1:=by unfold Pg.aK;rw [List.getLast?_cons,hz];rfl
  have e2:Pg.nxt (f::m) (m.length-1+1)=Pg.ndP f.1:=by
   have:=Pg.iP (l:=f::m) (f:=f) rfl;rw [Oa,RB] at this;rw [show m.length-1+1=m.length by omega];exact this
  have e3:Pg.nxt (f::m) 0=Pg.ndP m[0].1:=by
   unfold Pg.nxt;rw [Ph,MU hml]
  rw [e1] at hc;rw [e2] at hzn;rw [e3] at hf0;refine M7 (E6 w mb (28+r) f.1 z.1 m[0].1 hc f.2 z.2 hf0 hzn hfz) ?_;rintro e w' ⟨rfl,rfl⟩;have hd:=(MY w w).drew;obtain ⟨a,b,c⟩:=(h.below hd).tl (hM.below hd) hr hls hf hz;rw [e3] at a b c;exact ⟨rfl,s.wh,a,b,(Pg.RfE.of hd hls).trans c,fun _ _=>rfl,_,(NF w.drew _ _ f.1 hfz).trans hf0⟩
theorem Pg.jX.marked {wh wh1:Nat->Value} {sl h:Nat} (hH:Pg.jX wh R) (hk:k<6) (hs:sl<64) (h2:wh (28+(k*65+64)) = .int .u64 h) (h1:h<18446744073709551616) (hw:∀ i,i≠28+(k*65+sl)->wh1 i=wh i) (h3:∀ s,s<64->h.testBit s = !(R (k*65+s)).isEmpty) :
  Pg.jX (Pg.upd wh1 (28+(k*65+64)) (.int .u64 (Pg.iq h sl m.isEmpty))) (Pg.upd R (k*65+sl) m):=fun k' hk'=>by
 by_cases e:k'=k
 ·subst e;refine ⟨_,Pg.n7 h1 hs,Pg.aC _ _ _,fun j hj => ?_⟩;rw [Pg.l9 hs j hj];by_cases e:j=sl
  ·subst e;rw [M6 rfl,Pg.aC]
  ·rw [M4 e,Pg.aG _ _ zaa];exact h3 j hj
 ·obtain ⟨g,g1,g2,g3⟩:=hH k' hk';refine ⟨g,g1,?_,fun j hj => ?_⟩
  ·rw [Pg.aG _ _ zaa,hw _ zaa];exact g2
  ·rw [Pg.aG _ _ zaa];exact g3 j hj
theorem we (w:World) (lo:Pg.Lo) (mb pb:Nat) (qv:Value) (s:Pg.MSt) (wh0:Nat->Value) (R:Nat->List Pg.Nd) (k sl:Nat) (m:List Pg.Nd) (hM:Pg.au w lo mb pb qv s) (h:Pg.cX w lo s.wh (Pg.upd R (k*65+sl) m)) (hH:Pg.jX wh0 R) (hls:lo<=w.heap.size) (hk:k<6) (hs:sl<64) (hw:∀ i,i≠28+(k*65+sl)->s.wh i=wh0 i) :
  () 198 #[.pointer (some ⟨mb,28+k*65,none⟩),(sl:Int)] w fun e w'=>e = .returned (.tuple #[])/\Hid (∃ wh',Pg.au w' lo mb pb qv { s with wh:=wh' }/\Pg.WhM w' lo { s with wh:=wh' } (Pg.upd R (k*65+sl) m)/\Pg.Rw lo w w'/\∃ V:World,V.heap=w.heap/\∃ p v,w'=V.setCell p v/\p.block=mb):=by
 have hr:Pg.isR (k*65+sl) := .inl zaa;obtain ⟨g,h1,h2,h3⟩:=hH k hk;have hg:s.wh (28+(k*65+64)) = .int .u64 g:=(hw _ zaa).trans h2;have hring:=h.ring _ hr;rw [Pg.aC] at hring;refine M7 (so w mb (28+k*65) sl m g hs h1 (by rw [On];exact (hM.whc (28+(k*65+sl)) zaa zaa).trans (congrArg some hring)) (by rw [On];exact (hM.whc (28+(k*65+64)) zaa zaa).trans (congrArg some hg)) (hM.frozen _)) ?_;rintro e w' ⟨rfl,rfl⟩;obtain ⟨a2,b2,c2⟩:=h.mark hM k hk (.int .u64 (Pg.iq g sl m.isEmpty)) hls;exact ⟨rfl,_,a2,⟨b2,hH.marked hk hs h2 h1 hw h3⟩,c2,w.drew,rfl,_,_,rfl,rfl⟩
theorem IH (w:World) (lo:Pg.Lo) (mb pb:Nat) (qv:Value) (s:Pg.MSt) (R:Nat->List Pg.Nd) (k sl:Nat) (f:Pg.Nd) (m:List Pg.Nd) (hM:Pg.au w lo mb pb qv s) (hW:Pg.WhM w lo s R) (hls:lo<=w.heap.size) (hk:k<6) (hs:sl<64) (hf:R (k*65+sl)=f::m) :
  () 158 #[.pointer (some ⟨mb,28+k*65,none⟩),(sl:Int)] w fun e w'=>e = .returned (Pg.ndP f.1)/\Hid (∃ wh',Pg.au w' lo mb pb qv { s with wh:=wh' }/\Pg.WhM w' lo { s with wh:=wh' } (Pg.upd R (k*65+sl) m)/\Pg.Rw lo w w'/\∃ v,w'.heap[f.1]?=some (.cells (Pg.et f.2 v) 278 (0,0))):=by
 have hr:Pg.isR (k*65+sl) := .inl zaa;have HP:Hid (() 197 #[.pointer (some ⟨mb,28+k*65+sl,none⟩)] w fun e w'=>e = .returned (Pg.ndP f.1)/\Hid (∃ wh',Pg.au w' lo mb pb qv { s with wh:=wh' }/\Pg.cX w' lo wh' (Pg.upd R (k*65+sl) m)/\Pg.Rw lo w w'/\(∀ i,i≠28+(k*65+sl)->wh' i=s.wh i)/\∃ v,w'.heap[f.1]?=some (.cells (Pg.et f.2 v) 278 (0,0)))):=by
  unfold Hid;rw [On];exact Ic w lo mb pb qv s R _ f m hM hW.rgs hls hr hf
 have HK:Hid (∀ V:World,Hid (∃ wh',Pg.au V lo mb pb qv { s with wh:=wh' }/\Pg.cX V lo wh' (Pg.upd R (k*65+sl) m)/\Pg.Rw lo w V/\(∀ i,i≠28+(k*65+sl)->wh' i=s.wh i)/\∃ v,V.heap[f.1]?=some (.cells (Pg.et f.2 v) 278 (0,0)))->() 198 #[.pointer (some ⟨mb,28+k*65,none⟩),(sl:Int)] V fun e w'=>e = .returned (.tuple #[])/\Hid (∃ wh',Pg.au w' lo mb pb qv { s with wh:=wh' }/\Pg.WhM w' lo { s with wh:=wh' } (Pg.upd R (k*65+sl) m)/\Pg.Rw lo w w'/\∃ v,w'.heap[f.1]?=some (.cells (Pg.et f.2 v) 278 (0,0)))):=fun V hV=>by
  obtain ⟨wh1,a,b,c,d,v,hv⟩:=hV.out;refine M7 (we V lo mb pb qv { s with wh:=wh1 } s.wh R k sl m a b hW.held (MX hls c.bel.size) hk hs d) ?_;rintro e w' ⟨rfl,x⟩;obtain ⟨wh2,a2,b2,c2,V2,hV2,p,u,rfl,hp⟩:=x.out;exact ⟨rfl,wh2,a2,b2,c.trans c2,v,(NF V2 p u f.1 (fun e=>a.typ hv (by rw [<- hp];exact e.symm))).trans (by rw [hV2];exact hv)⟩
 have hs':(sl:Int)<64:=zaa;clear hM hW hf hr;go_enter func158,ntmps158;go_wp2_with (first
  | (go_at_call 197;refine M7 HP.out ?_;rintro e w1 ⟨rfl,h1⟩)
  | (go_at_call 198;refine M7 (HK.out _ h1) ?_;rintro e w2 ⟨rfl,h2⟩))
 go_ret;exact ⟨rfl,h2⟩
theorem oN:(Tryz.prog.info? 80).map (·.size)=some 1:=zab
theorem EZ:Tryz.f199.results=#[.cell 4 80]:=rfl
namespace Pg
theorem RfE.GY {E:TypeId->Prop} {lo:Pg.Lo} (h:RfE E lo w W) (hlo:lo<=w.heap.size) (hm:Mo (fun k=>w.heap.size<=k) W W'):RfE E lo w W':=by
 have hsz:=h.bel.size;exact ⟨⟨hm.os.trans h.bel.os,hm.tape.trans h.bel.tape,hm.output.trans h.bel.output,MX hsz hm.size,fun k hk=>(hm.block k zaa zaa).trans (h.bel.block k hk)⟩,
  ⟨MX h.kd.size hm.size,fun k c t f hk hn=>by
   have:=(MQ.1 hk).1;exact (hm.block k zaa zaa).trans (h.kd.ao k c t f hk hn)⟩,
  ⟨MX h.oth.size hm.size,fun k o hk ho=>by
   have:=(MQ.1 hk).1;exact (hm.block k zaa zaa).trans (h.oth.same k o hk ho)⟩,
  fun k hk hn=>(hm.block k zaa zaa).trans (h.own k hk hn)⟩
structure Emp (w V w':World) (lo:Pg.Lo) (mb pb:Nat) (qv:Value) (s:MSt) (R:Nat->List Nd) (r:Nat):Prop where
 ex:∃ wh',au w' lo mb pb qv { s with wh:=wh' }/\WhM w' lo { s with wh:=wh' } (upd R r [])
 rf:Rw lo w w'
 mo:Mo (· = mb) V w'
theorem oE (l:List Nd):aK l = .pointer none\/∃ b,aK l = .pointer (some ⟨b,0,none⟩):=by
 exact zei
theorem Emp.box {V w':World} {lo:Pg.Lo} (h:Emp w V w' lo mb pb qv s R r) (hlo:lo<=w.heap.size) {v u:Value} (hg:w'.heap[g]?=some (.cells #[v] 80 (0,0))) (hgw:w.heap.size<=g) (hgV:V.heap.size<=g\/True) (hw:Below w w V):Emp w w (w'.setCell g u) lo mb pb qv s R r:=by
 obtain ⟨wh',a,b⟩:=h.ex;have hm:Mo (· = g) w' (w'.setCell g u):=(Mo.refl _ _).set _ _ rfl;have hk:Kd (fun t=>t=80) w' (w'.setCell g u):=fX hm (fun k c t f hp hc=>by
  subst hp;rw [hg] at hc;cases hc
  rfl)
 refine ⟨⟨wh',a.mo hm (fun e => ?_) (fun q hq e => ?_),⟨b.rgs.kd hk zac,b.held⟩⟩,h.rf.GY hlo (hm.mono (fun k _ hk=>zaa)),?_⟩
 ·obtain ⟨arr,a1,_⟩:=a.blk;rw [e,hg] at a1;simp at a1
 ·obtain ⟨c',hc'⟩:=a.que.kind q hq;rw [e,hg] at hc';simp at hc'
 ·have h1:Mo (· = mb) w w':=⟨h.mo.os.trans hw.os,h.mo.tape.trans hw.tape,h.mo.output.trans hw.output,MX hw.size h.mo.size,fun k hk hn=>(h.mo.block k (by have:=hw.size;omega) hn).trans (hw.block k hk)⟩;exact h1.trans' hm (fun i hi e=>zaa)
end Pg
theorem D8 (w V:World) (lo:Pg.Lo) (mb pb:Nat) (qv:Value) (s:Pg.MSt) (R:Nat->List Pg.Nd) (k sl:Nat) (hM:Pg.au w lo mb pb qv s) (hW:Pg.WhM w lo s R) (hls:lo<=w.heap.size) (hk:k<6) (hs:sl<64) (hV:Below w w V) :
  () 198 #[.pointer (some ⟨mb,28+k*65,none⟩),(sl:Int)] (V.setCell ⟨mb,28+k*65+sl,none⟩ (.pointer none)) fun e w'=>e = .returned (.tuple #[])/\Hid (Pg.Emp w V w' lo mb pb qv s R (k*65+sl)):=by
 have hr:Pg.isR (k*65+sl) := .inl zaa;have hlV:=MX hls hV.size;rw [On];obtain ⟨a,b,c⟩:=(hW.rgs.below hV).nil (hM.below hV) hr hlV;refine M7 (we _ lo mb pb qv { s with wh:=Pg.upd s.wh (28+(k*65+sl)) (.pointer none) } s.wh R k sl [] a b hW.held (MX hlV c.bel.size) hk hs (fun i hi=>Pg.aG _ _ hi)) ?_;rintro e w' ⟨rfl,x⟩;obtain ⟨wh2,a2,b2,c2,V2,hV2,p,u,rfl,hp⟩:=x.out;refine ⟨rfl,⟨wh2,a2,b2⟩,(Pg.RfE.of hV hls).trans (c.trans c2),?_⟩;have hc:=c.trans c2;refine ⟨hc.bel.os,hc.bel.tape,hc.bel.output,hc.bel.size,fun j hj hn => ?_⟩;rw [NF V2 p u j (fun e=>hn (e.trans hp)),hV2];exact NF V _ _ j hn
theorem CH (w:World) (lo:Pg.Lo) (mb pb:Nat) (qv:Value) (s:Pg.MSt) (R:Nat->List Pg.Nd) (k sl:Nat) (hM:Pg.au w lo mb pb qv s) (hW:Pg.WhM w lo s R) (hls:lo<=w.heap.size) (hk:k<6) (hs:sl<64) :
  () 199 #[.pointer (some ⟨mb,28+k*65,none⟩),(sl:Int)] w fun e w'=>e = .returned (.agg #[Pg.aK (R (k*65+sl))])/\Hid (Pg.Emp w w w' lo mb pb qv s R (k*65+sl)):=by
 have hr:Pg.isR (k*65+sl) := .inl zaa;have hmb:=hM.lt;have hcv:∀ V,Below w w V->V.cell? ⟨mb,28+k*65+sl,none⟩=some (Pg.aK (R (k*65+sl)))/\V.frozen? ⟨mb,28+k*65+sl,none⟩=false:=fun V hV=>by
  rw [On];exact ⟨((hM.below hV).whc (28+(k*65+sl)) zaa zaa).trans (congrArg some ((hW.rgs.below hV).ring _ hr)),(hM.below hV).frozen _⟩
 have hsh:=Pg.oE (R (k*65+sl));obtain ⟨rv,hrv⟩:∃ rv,Pg.aK (R (k*65+sl))=rv:=⟨_,rfl⟩;rw [hrv] at hcv hsh ⊢;have hB1:Below w w (w.alloc (.cells #[.pointer none] 80)):=(MY _ w).alloc (MR _) _;have hB2:Below w w ((w.alloc (.cells #[.pointer none] 80)).alloc (.cells #[rv] 80)):=hB1.alloc zad _;obtain ⟨c1,f1⟩:=hcv _ hB1;obtain ⟨c2,f2⟩:=hcv _ hB2;have hem:=D8 w _ lo mb pb qv s R k sl hM hW hls hk hs hB2;rw [World.setCell_alloc_past _ _ _ _ zae,World.setCell_alloc_past _ _ _ _ hmb] at hem;have HM:Hid _:=hem;clear hem;have hs':(sl:Int)<64:=zaa;have HB2:Hid _:=hB2;have g0:((w.alloc (.cells #[.pointer none] 80)).alloc (.cells #[rv] 80)).heap[w.heap.size]?=some (.cells #[.pointer none] 80 (0,0)):=(N9 _ _ _ zad).trans (Na w _);have g1:((w.alloc (.cells #[.pointer none] 80)).alloc (.cells #[rv] 80)).heap[w.heap.size+1]?=some (.cells #[rv] 80 (0,0)):=by
  have:=Na (w.alloc (.cells #[.pointer none] 80)) (.cells #[rv] 80);simpa using this
 have HG:Hid (∀ w',Pg.Emp w ((w.alloc (.cells #[.pointer none] 80)).alloc (.cells #[rv] 80)) w' lo mb pb qv s R (k*65+sl)->w'.heap[w.heap.size]?=some (.cells #[.pointer none] 80 (0,0))/\w'.heap[w.heap.size+1]?=some (.cells #[rv] 80 (0,0))):=fun w' h=>⟨(h.mo.block _ zae zaa).trans g0,(h.mo.block _ zad zaa).trans g1⟩;clear hM hW hcv hrv hB1 hB2 g0 g1 hr
 rcases hsh with rfl | ⟨b,rfl⟩
 all_goals
  go_enter func199,ntmps199;go_wp2_with (go_at_call 198;refine M7 HM.out ?_;rintro e w4 ⟨rfl,h4⟩;obtain ⟨q0,q1⟩:=HG.out _ h4.out;have k1:=M0 w4 _ 0 _ _ _ q1;have k0:=M0 w4 _ 0 _ _ _ q0;have z0:w4.frozen? ⟨w,0,none⟩=false:=zbh);refine dP EZ w _ _ _ _ rfl (Nn w4 w 0 _ _ _ q0) underlying80 rfl oN rfl ?_;exact ⟨rfl,h4.out.box hls q0 (MR _) (.inr trivial) HB2.out⟩
theorem sP:Tryz.f159.results=#[.cell 6 80]:=rfl
theorem Bj (w:World) (lo:Pg.Lo) (mb pb:Nat) (qv:Value) (s:Pg.MSt) (R:Nat->List Pg.Nd) (sl:Nat) (hM:Pg.au w lo mb pb qv s) (hW:Pg.WhM w lo s R) (hls:lo<=w.heap.size) :
  () 159 #[.pointer (some ⟨mb,27,none⟩),(6:Int),(sl:Int)] w fun e w'=>e = .returned (.agg #[Pg.aK (R 390)])/\Hid (Pg.Emp w w w' lo mb pb qv s R 390):=by
 have hr:Pg.isR 390 := .inr rfl;have hmb:=hM.lt;have hcv:∀ V,Below w w V->V.cell? ⟨mb,418,none⟩=some (Pg.aK (R 390))/\V.frozen? ⟨mb,418,none⟩=false:=fun V hV =>
  ⟨((hM.below hV).whc 418 zaa zaa).trans (congrArg some ((hW.rgs.below hV).ring _ hr)),(hM.below hV).frozen _⟩
 have hsh:=Pg.oE (R 390);obtain ⟨rv,hrv⟩:∃ rv,Pg.aK (R 390)=rv:=⟨_,rfl⟩;rw [hrv] at hcv hsh ⊢;have hB1:Below w w (w.alloc (.cells #[.pointer none] 80)):=(MY _ w).alloc (MR _) _;have hB2:Below w w ((w.alloc (.cells #[.pointer none] 80)).alloc (.cells #[rv] 80)):=hB1.alloc zad _;obtain ⟨c1,f1⟩:=hcv _ hB1;obtain ⟨c2,f2⟩:=hcv _ hB2;obtain ⟨a,b,c⟩:=hW.rgs.nil hM hr hls;have HE:Hid (∀ o1 o2:Obj,Pg.Emp w w (((w.setCell ⟨mb,418,none⟩ (.pointer none)).alloc o1).alloc o2) lo mb pb qv s R 390):=fun o1 o2=>by
  have hb:Below (w.setCell ⟨mb,28+390,none⟩ (.pointer none)).heap.size (w.setCell ⟨mb,28+390,none⟩ (.pointer none)) (((w.setCell ⟨mb,28+390,none⟩ (.pointer none)).alloc o1).alloc o2):=((MY _ _).alloc (MR _) _).alloc zad _;refine ⟨⟨_,a.below hb,b.below hb,fun k hk => ?_⟩,c.trans (Pg.RfE.of hb (by simp;exact hls)),((Mo.refl (· = mb) w).set _ _ rfl).trans (ay hb)⟩;exact zdC
 clear hM hW hcv hrv hB1 hB2 hr a b c
 rcases hsh with rfl | ⟨q,rfl⟩
 ·go_enter func159,ntmps159;go_wp2;refine dP sP w 80 #[.pointer none] (0,0) _ rfl ?_ underlying80 rfl oN rfl ⟨rfl,HE.out _ _⟩;refine (N9 _ _ _ zad).trans ?_;have:=Na (w.setCell ⟨mb,418,none⟩ (.pointer none)) (.cells #[.pointer none] 80);simpa using this
 ·go_enter func159,ntmps159;go_wp2;refine dP sP w 80 #[q] (0,0) _ rfl ?_ underlying80 rfl oN rfl ⟨rfl,HE.out _ _⟩;refine (N9 _ _ _ zad).trans ?_;have:=Na (w.setCell ⟨mb,418,none⟩ (.pointer none)) (.cells #[q] 80);simpa using this
theorem Bk (w:World) (lo:Pg.Lo) (mb pb:Nat) (qv:Value) (s:Pg.MSt) (R:Nat->List Pg.Nd) (k sl:Nat) (hM:Pg.au w lo mb pb qv s) (hW:Pg.WhM w lo s R) (hls:lo<=w.heap.size) (hk:k<6) (hs:sl<64) :
  () 159 #[.pointer (some ⟨mb,27,none⟩),(k:Int),(sl:Int)] w fun e w'=>e = .returned (.agg #[Pg.aK (R (k*65+sl))])/\Hid (Pg.Emp w w w' lo mb pb qv s R (k*65+sl)):=by
 have hsh:=Pg.oE (R (k*65+sl));have hB1:Below w w (w.alloc (.cells #[.pointer none] 80)):=(MY _ w).alloc (MR _) _;have HK:Hid (() 199 #[.pointer (some ⟨mb,28+k*65,none⟩),(sl:Int)] (w.alloc (.cells #[.pointer none] 80)) fun e w'=>e = .returned (.agg #[Pg.aK (R (k*65+sl))])/\w'.heap[w.heap.size]?=some (.cells #[.pointer none] 80 (0,0))/\Hid (∀ u,Pg.Emp w w (w'.setCell w u) lo mb pb qv s R (k*65+sl))):=by
  refine M7 (CH _ lo mb pb qv s R k sl (hM.below hB1) ⟨hW.rgs.below hB1,hW.held⟩ (MX hls hB1.size) hk hs) ?_;rintro e w' ⟨rfl,h⟩;have hmb:=hM.lt;have hq:w'.heap[w.heap.size]?=some (.cells #[.pointer none] 80 (0,0)):=(h.out.mo.block _ zad zaa).trans (Na w _);have h2:Pg.Emp w (w.alloc (.cells #[.pointer none] 80)) w' lo mb pb qv s R (k*65+sl):=⟨h.out.ex,(Pg.RfE.of hB1 hls).trans h.out.rf,h.out.mo⟩;exact ⟨rfl,hq,fun u=>h2.box hls hq (MR _) (.inr trivial) hB1⟩
 obtain ⟨rv,hrv⟩:∃ rv,Pg.aK (R (k*65+sl))=rv:=⟨_,rfl⟩;rw [hrv] at hsh HK ⊢;have hk6:((k:Int) == 6)=false:=zae;have hk':(k:Int)<6:=zaa;clear hM hW hrv hB1
 rcases hsh with rfl | ⟨q,rfl⟩
 all_goals
  go_enter func159,ntmps159;go_wp2_with (go_at_call 199;refine M7 HK.out ?_;rintro e w4 ⟨rfl,q0,h4⟩;have k0:=M0 w4 _ 0 _ _ _ q0;have z0:w4.frozen? ⟨w,0,none⟩=false:=zbh);refine dP sP w _ _ _ _ rfl (Nn w4 w 0 _ _ _ q0) underlying80 rfl oN rfl ?_;exact ⟨rfl,h4.out _⟩
theorem Hq (w:World) (lo:Pg.Lo) (mb pb:Nat) (qv:Value) (s:Pg.MSt) (R:Nat->List Pg.Nd) (n:Nat) (x:Pg.Tn) (v:Value) (hM:Pg.au w lo mb pb qv s) (hW:Pg.WhM w lo s R) (hls:lo<=w.heap.size) (hnow:s.now<18446744073709551616) (hxt:x.t<18446744073709551616) (hn:w.heap[n]?=some (.cells (Pg.et x v) 278 (0,0))) (hnl:∀ q,Pg.isR q->∀ y∈R q,y.1≠n) (hlo:lo.ok n) :
  () 161 #[.pointer (some ⟨mb,27,none⟩),n] w fun e w'=>e = .returned (.tuple #[])/\∃ wh',Pg.au w' lo mb pb qv { s with wh:=wh' }/\Pg.WhM w' lo { s with wh:=wh' } (Pg.upd R (Pg.place s.now x.t) (R (Pg.place s.now x.t)++[(n,x)]))/\Pg.Rw lo w w'/\Mo (fun k=>k=mb\/k=n\/∃ q,Pg.isR q/\∃ y∈R q,k=y.1) w w':=by
 have hn0:w.cell? n=some (.int .u64 x.t):=zaX;have hc27:w.cell? ⟨mb,27,none⟩=some (.int .u64 s.now):=hM.cell 27 zac;have hsp:=oO w mb 27 s.now x.t hnow hxt hc27;have hr:=Pg.fJ s.now x.t;have hmn:=hM.typ hn;have hty:∀ q,Pg.isR q->mb ∉ (R q).map (·.1):=fun q hq e=>by
  exact zeb
 have hnr:∀ q,Pg.isR q->n ∉ (R q).map (·.1):=fun q hq e=>by
  obtain ⟨y,hy,e⟩:=NI.1 e;exact hnl q hq y hy e
 have hpm:∀ (w9:World) (r:Nat),Pg.isR r->w9.heap[n]?=some (.cells (Pg.et x v) 278 (0,0))->Pg.cX w9 lo s.wh R->Mo (fun k=>k=mb\/k=n\/∃ q,Pg.isR q/\∃ y∈R q,k=y.1) w9 (Pg.ef w9 ⟨mb,28+r,none⟩ (R r) n):=fun w9 r hr hn9 hR9=>(Pg.cA.push (p:=⟨mb,28+r,none⟩) (hR9.nds r hr) (hR9.nod r hr) hn9 (hnr r hr) hmn (hty r hr)).2.mono (fun k _ h=>h.imp id (fun h=>h.imp id (fun ⟨z,hz,e⟩=>⟨r,hr,z,O2 hz,e⟩)));have hKl:=Pg.eJ s.now x.t;have hSl:=Pg.fg s.now x.t;have hpl:Pg.place s.now x.t=if Pg.aL s.now x.t=6 then 390 else Pg.aL s.now x.t*65+Pg.fK s.now x.t:=rfl;generalize Pg.place s.now x.t=r at *;generalize Pg.aL s.now x.t=K at *;generalize Pg.fK s.now x.t=S at *;by_cases hK:K=6
 ·subst hK;rw [M6 rfl] at hpl;subst hpl;have H:Hid (∀ w9,Below w w w9->() 202 #[.pointer (some ⟨mb,418,none⟩),n] w9 fun e w'=>e = .returned (.tuple #[])/\∃ wh',Pg.au w' lo mb pb qv { s with wh:=wh' }/\Pg.WhM w' lo { s with wh:=wh' } (Pg.upd R 390 (R 390++[(n,x)]))/\Pg.Rw lo w w'/\Mo (fun k=>k=mb\/k=n\/∃ q,Pg.isR q/\∃ y∈R q,k=y.1) w w'):=fun w9 hb=>by
   have hM9:=hM.below hb;have hR9:=hW.rgs.below hb;have hn9:=(hb.block n (MQ.1 hn).1).trans hn;refine (mq w9 mb 418 (R 390) n x v ((hM9.whc 418 zaa zaa).trans (congrArg some (hR9.ring 390 hr))) (hM9.frozen _) (hR9.nds 390 hr) hn9 (hnr 390 hr) hmn (hty 390 hr)).mono ?_;rintro e w' ⟨rfl,rfl⟩;obtain ⟨a,b,c⟩:=hR9.push (r:=390) hM9 hr (MX hls hb.size) hn9 hnl hlo;refine ⟨rfl,_,a,⟨b,fun k hk => ?_⟩,(Pg.RfE.of hb hls).trans c,(ay hb).trans (hpm w9 390 hr hn9 hR9)⟩;exact zdC
  clear hW hM hty hnr hnl hn hlo hr hmn hpm;exact zdh
 ·rw [M4 hK] at hpl;subst hpl;have hK5:K<6:=zaa;have hKb:((K:Int) == 6)=false:=zae;have H:Hid (∀ w9,Below w w w9->() 203 #[.pointer (some ⟨mb,28+K*65,none⟩),(S:Int),n] w9 fun e w'=>e = .returned (.tuple #[])/\∃ wh',Pg.au w' lo mb pb qv { s with wh:=wh' }/\Pg.WhM w' lo { s with wh:=wh' } (Pg.upd R (K*65+S) (R (K*65+S)++[(n,x)]))/\Pg.Rw lo w w'/\Mo (fun k=>k=mb\/k=n\/∃ q,Pg.isR q/\∃ y∈R q,k=y.1) w w'):=fun w9 hb=>by
   have hM9:=hM.below hb;have hR9:=hW.rgs.below hb;have hn9:=(hb.block n (MQ.1 hn).1).trans hn;obtain ⟨h,h1,h2,h3⟩:=hW.held K hK5;refine (wi w9 mb (28+K*65) S (R (K*65+S)) n x v h hSl h1 zb3 (fun i=>hM9.frozen i) zb5 (hR9.nds _ hr) hn9 (hnr _ hr) hmn (hty _ hr)).mono ?_;rintro e w' ⟨rfl,rfl⟩;obtain ⟨a,b,c⟩:=hR9.push (r:=K*65+S) hM9 hr (MX hls hb.size) hn9 hnl hlo;rw [On 28 (K*65) S];obtain ⟨a2,b2,c2⟩:=b.mark a K hK5 (.int .u64 (Pg.iq h S false)) (MX hls (MX hb.size c.bel.size));refine ⟨rfl,_,a2,⟨b2,fun k hk => ?_⟩,(Pg.RfE.of hb hls).trans (c.trans c2),((ay hb).trans (hpm w9 (K*65+S) hr hn9 hR9)).trans ((ay ((MY _ _).drew)).trans ((Mo.refl _ _).set _ _ (.inl rfl)))⟩;exact zc2
  clear hW hM hty hnr hnl hn hlo hr hmn hpm;exact zdl
end
section
namespace Pg
theorem CK (a b n:Nat):(a ^^^ b)<2 ^ n↔a / 2 ^ n=b / 2 ^ n:=by
 rw [<- Nat.shiftRight_eq_div_pow,<- Nat.shiftRight_eq_div_pow];constructor
 ·intro h;refine Nat.eq_of_testBit_eq fun i => ?_;rw [Qo,Qo];have:=QV (Nq h (OM zac (Qc n i)));rw [Nat.testBit_xor] at this;cases h1:a.testBit (n+i) <;> cases h2:b.testBit (n+i) <;> simp_all
 ·intro h;refine Nat.lt_pow_two_of_testBit _ fun i hi => ?_;have h1:(a >>> n).testBit (i-n)=(b >>> n).testBit (i-n):=by rw [h]
  rw [Qo,Qo,show n+(i-n)=i by omega] at h1;rw [Nat.testBit_xor,h1];simp
theorem aW {now t:Nat} (hn:now<18446744073709551616) (ht:t<18446744073709551616) (hk:k<6):aL now t<=k↔t / 64 ^ (k+1)=now / 64 ^ (k+1):=by
 have e:(64:Nat) ^ (k+1)=2 ^ (6*(k+1)):=by rw [Nat.pow_mul]
 rw [e,<- CK];have h1:(t ^^^ now)<2 ^ (6*(k+1))↔((t ^^^ now)|||1)<2 ^ (6*(k+1)):=by
  have h2:1<2 ^ (6*(k+1)):=Nat.one_lt_two_pow zaa;constructor
  ·intro h;exact NV h h2
  ·intro h;exact NT Nat.left_le_or h
 rw [h1];unfold aL;have hx:((t ^^^ now)|||1)<2 ^ 64:=NV (Nat.xor_lt_two_pow ht hn) zac;have hx0:(t ^^^ now)|||1≠0:=vB _;generalize (t ^^^ now)|||1=x at *;obtain ⟨b1,b2,b3⟩:=Q9 64 x hx hx0;have hL:Lib.bitLen x=Lib.bitLenAux 64 x:=rfl;rw [hL];generalize Lib.bitLenAux 64 x=L at *;constructor
 ·intro h;exact Nq b3 (OM zac zaa)
 ·intro h;have:L-1<6*(k+1):=(Nat.pow_lt_pow_iff_right (by decide:1<2)).1 (NT b2 h);omega
theorem ff (now t:Nat):fK now t=t / 64 ^ aL now t % 64:=by
 unfold fK;rw [show (2:Nat) ^ (aL now t*6)=64 ^ aL now t by rw [Nat.mul_comm,Nat.pow_mul]]
theorem Jg {a b c:Nat} (h1:a<=b) (h2:b<=c) (h:c / n=a / n):b / n=a / n:=by
 have:=Rg (c:=n) h1;have:=Rg (c:=n) h2;omega
section
variable {now a b:Nat} (hn:now<18446744073709551616) (ha:a<18446744073709551616) (hb:b<18446744073709551616)
theorem sV (hn:now<18446744073709551616) (ha:a<18446744073709551616) (hb:b<18446744073709551616) (h1:now<=a) (h2:a<=b):aL now a<=aL now b:=by
 have h6:=eJ now a;by_cases hk:aL now b<6
 ·exact (aW hn ha hk).2 (Jg h1 h2 ((aW hn hb hk).1 (MR _)))
 ·omega
theorem sJ (hn:now<18446744073709551616) (ha:a<18446744073709551616) (hb:b<18446744073709551616) (h1:now<=a) (h2:a<=b):place now a<=place now b:=by
 have hK:=sV hn ha hb h1 h2;have h6:=eJ now b;have s1:=fg now a;have s2:=fg now b;unfold place;by_cases hkb:aL now b=6
 ·rw [M6 hkb];split
  ·exact MR _
  ·omega
 ·rw [M4 hkb,M4 zaa];by_cases hab:aL now a=aL now b
  ·have e1:=(aW hn ha (show aL now b<6 by omega)).1 zaa;have e2:=(aW hn hb (show aL now b<6 by omega)).1 (MR _);have d:=Rg (c:=64 ^ aL now b) h2;rw [Ru,<- Qp] at e1 e2;rw [<- Qp] at e1 e2;rw [ff,ff,hab];omega
  ·omega
theorem Cg (hn:now<18446744073709551616) (ha:a<18446744073709551616) (hb:b<18446744073709551616) (h1:now<=a) (h2:a<=b) (h:place now b≠place now a):place a b=place now b:=by
 have hK:=sV hn ha hb h1 h2;have h6:=eJ now b;have h6':=eJ a b;have hKe:aL a b=aL now b:=by
  by_cases hab:aL now a=aL now b
  ·have hl:aL now b<6:=by
    rcases O6 (aL now b) 6 with h' | h'
    ·exact h'
    ·exfalso;apply h
     unfold place;rw [M6 zaa,M6 zaa]
   have e1:=(aW hn ha hl).1 zaa;have e2:=(aW hn hb hl).1 (MR _);have h3:aL a b<=aL now b:=(aW ha hb hl).2 (e2.trans e1.symm)
   rcases O6 (aL a b) (aL now b) with h' | h'
   ·exfalso;have h4:aL a b<=aL now b-1:=zaa;have e3:=(aW ha hb (show aL now b-1<6 by omega)).1 h4;rw [show aL now b-1+1=aL now b by omega] at e3;apply h
    unfold place;rw [M4 zaa,M4 zaa,ff,ff,hab,e3]
   ·omega
  ·have hl:aL now a<6:=zaa;have e1:∀ k,aL now a<=k->k<6->a / 64 ^ (k+1)=now / 64 ^ (k+1):=fun k hk hk6=>(aW hn ha hk6).1 hk;have e2:∀ k,aL now a<=k->k<6->(aL a b<=k↔aL now b<=k):=fun k hk hk6=>by rw [aW ha hb hk6,aW hn hb hk6,e1 k hk hk6]
   have e3:=e2 (aL now b-1) zaa zaa
   rcases O6 (aL now b) 6 with h' | h'
   ·have e4:=e2 (aL now b) zaa h';omega
   ·omega
 unfold place fK;rw [hKe]
theorem Cf (hn:now<18446744073709551616) (ha:a<18446744073709551616) (hb:b<18446744073709551616) (_:now<=a) (h2:a<=b) (h:place now b=place now a) (hr:place now a≠390):place a b<=place now a:=by
 have h6:=eJ now a;have h6':=eJ a b;have s1:=fg now a;have s2:=fg now b;have s3:=fg a b;have hka:aL now a≠6:=fun e=>hr (by unfold place;rw [M6 e]);have hkb:aL now b≠6:=fun e=>by
  rw [<- h] at hr;exact hr (by unfold place;rw [M6 e])
 unfold place at h;rw [M4 hka,M4 hkb] at h;have hK:aL now b=aL now a:=zaa;have hS:fK now b=fK now a:=zaa;rw [ff,ff,hK] at hS;have e1:=(aW hn ha (show aL now a<6 by omega)).1 (MR _);have e2:=(aW hn hb (show aL now a<6 by omega)).1 zaa;rw [Ru,<- Qp] at e1 e2;rw [<- Qp] at e1 e2;have e3:b / 64 ^ aL now a=a / 64 ^ aL now a:=zaa;by_cases h0:aL now a=0
 ·rw [h0] at e3;have:b=a:=by simpa using e3
  subst this;have hz:aL b b=0:=by
   have:=(aW hb hb (k:=0) zac).2 rfl;omega
  unfold place;rw [M4 hka,M4 zaa,hz,h0,ff,ff,hz,h0];exact MR _
 ·have h3:aL a b<=aL now a-1:=(aW ha hb zaa).2 (by rw [show aL now a-1+1=aL now a by omega];exact e3);unfold place;rw [M4 hka,M4 zaa];omega
