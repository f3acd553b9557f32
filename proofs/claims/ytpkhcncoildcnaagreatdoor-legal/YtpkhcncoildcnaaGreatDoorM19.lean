import Derived.Test.YtpkhcncoildcnaaGreatDoorM05
import Derived.Shelf.SlSortCmp.Insertion
set_option maxRecDepth 100000
set_option maxHeartbeats 8000000
namespace Go.Proofs.YtpkhcncoildcnaaGreatDoor
variable {zp:Prop}
theorem zer(h:zp:=by
 unfold aM;cases l.getLast? with
 |none=>exact .inl rfl
 |some z=>exact .inr ⟨z.1,rfl⟩):zp:=h
theorem zez(h:zp:=by
 rintro(h|h|h)
 ·exact .inr (.inl h)
 ·exact .inl h
 ·exact .inr (.inr h)):zp:=h
theorem ze9(h:zp:=by
 rw[iT rfl];have:=Ay _ _ _ hcd;simpa[asAddr] using this):zp:=h
theorem zbk(h:zp:=by simp[World.frozen?,q0]):zp:=h
open Tryz
variable {w W W':World}{g n mb pb r k:Nat}{m:List Y.Nd}{qv:Value}{s:Y.MSt}{R:Nat->List Y.Nd}{f:Y.Nd}
section
open Go.RowKit Go.Proofs Go.Shelf
namespace Y
def xE(a b:Nat):Int:=if a<b then -1 else if b<a then 1 else 0
end Y
theorem Fq(x:Nat)(w:World):() 240 #[.int .u64 x] w fun e w'=>e=.returned false/\w'=w:=by
 go_enter func240,ntmps240;go_wp2;go_ret;exact⟨zad,rfl⟩
theorem zI(a b:Nat)(w:World):() 209 #[.int .u64 a,.int .u64 b] w fun e w'=>e=.returned (.int .i64 (Y.xE a b))/\w'=w:=by
 have HN:Hid (∀(x:Nat) (w:World),() 240 #[.int .u64 x] w fun e w'=>e=.returned false/\w'=w):=fun x w=>Fq x w;have h1:Hid (∀c,Y.xE a b=c↔(if a<b then -1 else if b<a then 1 else 0)=c):=fun c=>Iff.rfl
 rcases RB a b with h|h|h
 ·have ha:(a:Int)<(b:Int):=zaa;have HA:Hid (a<b):=h;clear h;go_enter func209,ntmps209;go_wp2_with(go_at_call 240;refine(HN.out _ _).mono ?_;rintro e w1 ⟨rfl,rfl⟩);go_ret;exact⟨by rw[(h1.out _).2 (OD HA.out)];rfl,rfl⟩
 ·subst h;go_enter func209,ntmps209;go_wp2_with(go_at_call 240;refine(HN.out _ _).mono ?_;rintro e w1 ⟨rfl,rfl⟩);go_ret;exact⟨by rw[(h1.out 0).2 zad];rfl,rfl⟩
 ·have ha:(b:Int)<(a:Int):=zaa;have hn:¬(a:Int)<(b:Int):=zaa;have HA:Hid (b<a):=h;clear h;go_enter func209,ntmps209;go_wp2_with(go_at_call 240;refine(HN.out _ _).mono ?_;rintro e w1 ⟨rfl,rfl⟩);go_ret;exact⟨by rw[(h1.out 1).2 (by have:=HA.out;rw[OB zaa,OD this])];rfl,rfl⟩
theorem zB(a b ta tb:Nat)(w:World)(ha:w.cell? a=some (.int .u64 ta))(hb:w.cell? b=some (.int .u64 tb)):
  () 208 #[a,b] w fun e w'=>e=.returned (.int .i64 (Y.xE ta tb))/\∃q,w'=w.drewN q:=by
 have HN:Hid (∀(w:World),() 209 #[.int .u64 ta,.int .u64 tb] w fun e w'=>e=.returned (.int .i64 (Y.xE ta tb))/\w'=w):=fun w=>zI ta tb w;generalize Y.xE ta tb=ct at *;have ha':w.drew.cell? a=some (.int .u64 ta):=ha;have hb':w.drew.cell? b=some (.int .u64 tb):=hb;go_enter func208,ntmps208
 go_upto_region 1 with fail
 refine fa 8 zab zab ?_;simp only[List.take_succ_cons,List.take_zero,List.drop_succ_cons,List.drop_zero]
 repeat still_step
 refine P8 ?_;go_wp2_with(go_at_call 209;refine(HN.out _).mono ?_;rintro e w1 ⟨rfl,rfl⟩);go_ret;exact⟨rfl,1,rfl⟩
end
section
namespace Y
variable {α:Type}
def Srd(f:α->Nat)(L:List α):Prop:=L.Pairwise (fun a b=>f a<=f b)
def Stb(f:α->Nat)(A B:List α):Prop:=∀k,A.filter (fun x=>f x == k)=B.filter (fun x=>f x == k)
theorem Stb.refl(f:α->Nat)(A:List α):Stb f A A:=fun _=>rfl
theorem Stb.symm{f:α->Nat}{A B:List α}(h:Stb f A B):Stb f B A:=fun k=>(h k).symm
theorem Stb.trans{f:α->Nat}{A B C:List α}(h:Stb f A B)(g:Stb f B C):Stb f A C:=fun k=>(h k).trans (g k)
theorem Stb.mem{f:α->Nat}{A B:List α}(h:Stb f A B){x:α}(hx:x∈A):x∈B:=by
 have:x∈A.filter (fun y=>f y == f x):=P3.2 ⟨hx,zad⟩;rw[h]at this;exact(P3.1 this).1
theorem El{f:α->Nat}:∀{A B:List α},Srd f A->Srd f B->Stb f A B->A=B
 |[],[],_,_,_=>rfl
 |[],b::B,_,_,h=>by have:=h.symm.mem (O1);simp at this
 |a::A,[],_,_,h=>by have:=h.mem (O1);simp at this
 |a::A,b::B,hA,hB,h=>by
  have h1:f a<=f b:=by
   rcases P2.1 (h.symm.mem (O1 (a:=b) (l:=B))) with e|e
   ·rw[e];exact Ow _
   ·exact(Qq.1 hA).1 _ e
  have h2:f b<=f a:=by
   rcases P2.1 (h.mem (O1 (a:=a) (l:=A))) with e|e
   ·rw[e];exact Ow _
   ·exact(Qq.1 hB).1 _ e
  have e:f a=f b:=zaa;have hk:=h (f a);have VN:=hk;rw[Ql zad,List.filter_cons_of_pos (by simp[e])]at VN;obtain rfl:a=b:=by injection VN
  have ht:Stb f A B:=fun k=>by
   have:=h k;by_cases hh:f a == k
   ·rw[Ql za6,Ql za6]at this;injection this
   ·rw[Qk za6,Qk za6]at this;exact this
  rw[El (Qq.1 hA).2 (Qq.1 hB).2 ht]
def p7(f:α->Nat)(x:α):List α->List α
 |[]=>[x]
 |y::L=>if f x<=f y then x::y::L else y::p7 f x L
def srt(f:α->Nat):List α->List α
 |[]=>[]
 |x::L=>p7 f x (srt f L)
theorem Az{f:α->Nat}{x y:α}:∀{L:List α},y∈p7 f x L↔y=x\/y∈L
 |[]=>by simp[p7]
 |z::L=>by
  unfold p7;split
  ·simp
  ·rw[P2,Az,P2];constructor
   ·exact zez
   ·exact zez
theorem Aj{f:α->Nat}{x:α}:∀{L:List α},Srd f L->Srd f (p7 f x L)
 |[],_=>by simp[p7,Srd]
 |y::L,h=>by
  unfold p7;have h1:=Qq.1 h;split
  ·next e=>
   refine Qq.2 ⟨fun z hz=>?_,h⟩
   rcases P2.1 hz with e'|e'
   ·rw[e'];exact e
   ·exact Ox e (h1.1 z e')
  ·next e=>
   refine Qq.2 ⟨fun z hz=>?_,Aj h1.2⟩
   rcases Az.1 hz with e'|e'
   ·rw[e'];omega
   ·exact h1.1 z e'
theorem Ak{f:α->Nat}{x:α}:∀{L:List α},Stb f (p7 f x L) (x::L)
 |[]=>fun _=>rfl
 |y::L=>fun k=>by
  unfold p7;split
  ·rfl
  ·next e=>
   have ih:=Ak (f:=f) (x:=x) (L:=L) k;rw[Sj,ih];by_cases hx:f x == k<;>by_cases hy:f y == k
   ·have:=Sc.1 hx;have:=Sc.1 hy;omega
   ·simp[hx,hy]
   ·simp[hx,hy]
   ·simp[hx,hy]
theorem pF(f:α->Nat):∀L:List α,Srd f (srt f L)
 |[]=>List.Pairwise.nil
 |_::L=>Aj (pF f L)
theorem lf(f:α->Nat):∀L:List α,Stb f (srt f L) L
 |[]=>fun _=>rfl
 |x::L=>Ak.trans fun k=>by rw[Sj,lf f L k,Sj]
theorem Dc{f:α->Nat}{A L:List α}(h:Srd f A)(k:Stb f A L):A=srt f L:=El h (pF f L) (k.trans (lf f L).symm)
theorem kV{f:α->Nat}{L:List α}{x:α}:x∈srt f L↔x∈L:=⟨(lf f L).mem,(lf f L).symm.mem⟩
theorem Em{β:Type}(g:β->α)(f:α->Nat)(L:List β):(srt (fun x=>f (g x)) L).map g=srt f (L.map g):=by
 refine Dc ?_ fun k=>?_
 ·exact List.pairwise_map.2 (pF (fun x=>f (g x)) L)
 ·rw[Su,Su];exact congrArg _ (lf (fun x=>f (g x)) L k)
end Y
end
section
open Go.Sort
namespace Y
theorem LF{α:Type}{f:α->Nat}(A B:List α)(x y:α)(h:f x≠f y):Stb f (A++y::x::B) (A++x::y::B):=fun k=>by
 rw[Qg,Qg]
 congr 1
 by_cases hx:f x=k
 ·have hy:¬f y=k:=fun e=>h (hx.trans e.symm);simp[hx,hy]
 ·simp[List.filter_cons,hx]
variable {α:Type}[Inhabited α]
theorem Jv(d:Array α)(j:Nat)(hj:j+1<d.size):∃A B,d.toList=A++d[j]!::d[j+1]!::B/\(swp d (j+1) j).toList=A++d[j+1]!::d[j]!::B:=by
 have hl:d.toList.length=d.size:=zad;have e1:d[j]! =d.toList[j]'(zaa):=by rw[Sh d j zaa];simp
 have e2:d[j+1]! =d.toList[j+1]'(zaa):=by rw[Sh d (j+1) hj];simp
 have hd:d.toList=d.toList.take j++d[j]!::d[j+1]!::d.toList.drop (j+1+1):=by
  rw[e1,e2,<- Rx (by omega:j+1<d.toList.length),<- Rx (by omega:j<d.toList.length),List.take_append_drop]
 refine⟨_,_,hd,?_⟩;unfold swp;rw[Rt,Rt];have hA:(d.toList.take j).length=j:=by rw[PH];omega
 generalize d[j]! =x at *;generalize d[j+1]! =y at *;generalize d.toList.take j=A at *;generalize d.toList.drop (j+1+1)=B at *;rw[hd,Rv _ _ zaa,show j+1-A.length=1 by omega,Rv _ _ zaa,show j-A.length=0 by omega];rfl
theorem jK(lt:α->α->Bool)(a:Nat):∀(j:Nat) (d:Array α),(insInner lt a j d).size=d.size
 |0,d=>rfl
 |j+1,d=>by
  unfold insInner;split
  ·rw[jK lt a j,swp_size]
  ·rfl
theorem oH{f:α->Nat}{lt:α->α->Bool}(TX:∀x y,lt x y=true->f y≠f x)(a:Nat):∀(j:Nat) (d:Array α),j<d.size->Stb f (insInner lt a j d).toList d.toList
 |0,d,_=>Stb.refl _ _
 |j+1,d,h=>by
  unfold insInner;split
  ·next e=>
   obtain⟨A,B,e1,e2⟩:=Jv d j h;refine(oH TX a j _ (by rw[swp_size];omega)).trans ?_;rw[e1,e2];simp only[Bool.and_eq_true]at e;exact LF A B _ _ (TX _ _ e.2)
  ·exact Stb.refl _ _
theorem kP{f:α->Nat}{lt:α->α->Bool}(TX:∀x y,lt x y=true->f y≠f x)(a b:Nat):∀(n i:Nat) (d:Array α),b-i<=n->b<=d.size->Stb f (insOuter lt a b i d).toList d.toList/\(insOuter lt a b i d).size=d.size
 |0,i,d,hn,hb=>by
  rw[insOuter,OB zaa];exact⟨Stb.refl _ _,rfl⟩
 |n+1,i,d,hn,hb=>by
  rw[insOuter];split
  ·have ih:=kP TX a b n (i+1) (insInner lt a i d) zaa (by rw[jK];exact hb);exact⟨ih.1.trans (oH TX a i d zaa),ih.2.trans (jK _ _ _ _)⟩
  ·exact⟨Stb.refl _ _,rfl⟩
theorem KF(f:α->Nat)(d:Array α):(insertionSort (fun x y=>decide (f x<f y)) d 0 d.size).toList=srt f d.toList:=by
 have hs:=kP (f:=f) (lt:=fun x y=>decide (f x<f y)) (fun x y h=>by simp at h;omega) 0 d.size d.size (0+1) d zaa (Ow _);have ho:=(insertionSort_holds (lt:=fun x y=>decide (f x<f y)) ⟨fun x=>zad,fun x y z h1 h2=>by simp at *;omega,fun x y z h1 h2=>by simp at *;omega⟩ d 0 d.size (OL _) (Ow _)).2;refine Dc ?_ hs.1;refine List.pairwise_iff_getElem.2 fun i j hi hj V9=>?_;have T6:(insertionSort (fun x y=>decide (f x<f y)) d 0 d.size).size=d.size:=hs.2;have Ze:j<d.size:=by rw[<- T6];simpa using hj
 have h:=ho i j (OL _) V9 Ze;rw[Sh _ i (by rw[T6];omega),Sh _ j (by rw[T6];omega)]at h;simp only[decide_eq_false_iff_not,Nat.not_lt]at h;simpa using h
theorem Ih(f:α->Nat)(d:Array α):(insertionSort (fun x y=>decide (f x<f y)) d 0 d.size).size=d.size:=
 (kP (f:=f) (lt:=fun x y=>decide (f x<f y)) (fun x y h=>by simp at h;omega) 0 d.size d.size (0+1) d zaa (Ow _)).2
end Y
end
section
open Go.RowKit Go.Proofs Go.Shelf
def qJ:Go.Shelf.Ren:=⟨fun|20=>277|n=>n,fun|22=>338|24=>110|25=>385|n=>n,fun|n=>n⟩
theorem KT:Go.Proofs.SlLaysF.n20 prog qJ:={
 mixed:=zab
 f20:=⟨ "slices.insertionSortCmpFunc[*charts/wheels.node[charts/run.timer]]",zac,Tryz.func277.trans (congrArg some zab)⟩
 t0:=underlying0
 a0:=Tryz.isAgg0
 z0:=Tryz.sizeOf0
 v0:=Tryz.zeroValue0
 t3:=underlying3
 a3:=Tl
 z3:=S6
 v3:=Ss
 t4:=underlying4
 a4:=Sa
 z4:=RP
 v4:=Q9
 t22:=underlying338
 a22:=isAgg338
 z22:=sizeOf338
 v22:=zeroValue338
 a24:=Tryz.isAgg110
 z24:=Tryz.sizeOf110
 t25:=underlying385
 a25:=isAgg385
 z25:=sizeOf385
 v25:=zeroValue385 }
namespace Y
def ndC(x:Nd):List Value:=[ndP x.1]
abbrev NdS(W:World)(base:Nat)(sv:Value)(L:List Nd):Prop:=W.ownsRow base 110 1 sv L.length (L.flatMap ndC)
theorem rG(L:List Nd):L.flatMap ndC=L.map (fun x=>ndP x.1):=by
 induction L with
 |nil=>rfl
 |cons x L ih=>rw[PO,ih];rfl
variable {α:Type}[Inhabited α]
theorem FU{enc:α->Value}{o:Nat}{d:Array α}{cur:Array Value}{t:TypeId}{fz:Nat×Nat}(h:w.heap[g]?=some (.cells cur t fz)):(Sort.putRow enc w g o d).heap[g]?=some (.cells (Sort.putCells enc o d cur) t fz):=by
 simp[Sort.putRow,Sort.mapBlock,Array.getElem?_modify,h,Sort.onCells]
theorem FV(enc:α->Value)(w:World)(g o:Nat)(d:Array α)(n:Nat):Mo (·=g) w ((Sort.putRow enc w g o d).drewN n):=⟨rfl,rfl,rfl,by show w.heap.size<=(Sort.putRow enc w g o d).heap.size;simp[Sort.putRow,Sort.mapBlock],fun k _ hk=>by
 show(Sort.putRow enc w g o d).heap[k]?=_;have UD:¬g=k:=fun e=>hk e.symm;simp[Sort.putRow,Sort.mapBlock,Array.getElem?_modify,UD]⟩
theorem Hg(a b:Nat):decide (xE a b<0)=decide (a<b):=by
 unfold xE;by_cases h:a<b
 ·simp[h]
 ·by_cases h2:b<a<;>simp[h,h2]
end Y
theorem Ag(w:World)(g cap:Nat)(L:List Y.Nd)(cur:Array Value)(TU:L≠[])(hl:L.length<=1000)(hg:w.heap[g]?=some (.cells cur 110 (0,0)))(ZS:∀(j:Nat) (x:Y.Nd),L[j]?=some x->cur[j]?=some (Y.ndP x.1))(hN:∀x∈L,x.1≠g/\w.cell? x.1=some (.int .u64 x.2.t)):
  () 277 #[.slice g L.length cap,(0:Int),(L.length:Int),.func (.func 208) #[] #[]] w fun e w'=>e=.returned (.tuple #[])/\(∃cur',w'.heap[g]?=some (.cells cur' 110 (0,0))/\cur'.size=cur.size/\∀(j:Nat) (x:Y.Nd),(Y.srt (fun y:Y.Nd=>y.2.t) L)[j]?=some x->cur'[j]?=some (Y.ndP x.1))/\Mo (·=g) w w':=by
 obtain⟨x0,hx0⟩:∃x,x∈L:=List.exists_mem_of_ne_nil L TU
 haveI:Inhabited { x:Y.Nd // x∈L }:=⟨⟨x0,hx0⟩⟩
 have hds:L.attach.toArray.size=L.length:=zad;have hgs:g<w.heap.size:=(Ov.1 hg).1;have hfr:∀i,w.frozen? ⟨g,i,none⟩=false:=fun i=>by simp[World.frozen?,hg]
 have hd!:∀j (hj:j<L.length),L.attach.toArray[j]! =⟨L[j],Pl hj⟩:=fun j hj=>by
  rw[Sh _ j (by rw[hds];exact hj)];simp
 have TX:ltOf (fun(x y:{ x:Y.Nd // x∈L })=>Y.xE x.1.2.t y.1.2.t)=fun x y=>decide (x.1.2.t<y.1.2.t):=by
  funext x y;exact Y.Hg _ _
 have h:=Any.insertionSortCmpFunc_one (P:=prog) (ρ:=qJ) KT (α:={ x:Y.Nd // x∈L }) (fun x=>Y.ndP x.1.1) (fun _=>rfl) (fun x y=>Y.xE x.1.2.t y.1.2.t) 208 #[] g 0 cap 0 L.length L.attach.toArray w
  (QN func208 zab rfl)
  (fun m os dk hdk x y=>by
   have hc:∀z:{ x:Y.Nd // x∈L },(sortWorld (fun x:{ x:Y.Nd // x∈L }=>Y.ndP x.1.1) w g 0 m dk os).cell? ⟨z.1.1,0,none⟩=some (.int .u64 z.1.2.t):=fun z=>by
    obtain⟨h1,h2⟩:=hN z.1 z.2;have XP:z.1.1<w.heap.size:=OW _ _ h2;unfold sortWorld;rw[Sort.cell?_grow _ _ ⟨z.1.1,0,none⟩ (by simp[Sort.putRow,Sort.mapBlock];exact XP),Sort.cell?_putRow_other _ _ _ _ _ _ (.inl h1)];exact h2
   exact zB _ _ _ _ _ (hc x) (hc y))
  (fun j hj=>by
   rw[hds]at hj;rw[hd! j hj,QC];exact⟨by rw[OA w _ _ _ _ _ hg];exact ZS j _ (Ou hj),hfr j⟩) (OL _) (by rw[hds];exact Ow _) (by rw[hds];omega)
 rw[TX,hds]at h;refine OI h ?_;rintro e w' ⟨rfl,n,rfl⟩;have hs:=Y.KF (fun x:{ x:Y.Nd // x∈L }=>x.1.2.t) L.attach.toArray;have hz:=Y.Ih (fun x:{ x:Y.Nd // x∈L }=>x.1.2.t) L.attach.toArray;rw[hds]at hs hz;refine⟨rfl,⟨_,Y.FU hg,by simp[Sort.putCells],fun j x hx=>?_⟩,Y.FV _ _ _ _ _ _⟩;have hm:(Sort.insertionSort (fun x y:{ x:Y.Nd // x∈L }=>decide (x.1.2.t<y.1.2.t)) L.attach.toArray 0 L.length).toList.map (·.1)=Y.srt (fun y:Y.Nd=>y.2.t) L:=by
  rw[hs,Y.Em (fun x:{ x:Y.Nd // x∈L }=>x.1) (fun y:Y.Nd=>y.2.t)]
  congr 1
  exact List.attach_map_subtype_val L
 generalize Sort.insertionSort (fun x y:{ x:Y.Nd // x∈L }=>decide (x.1.2.t<y.1.2.t)) L.attach.toArray 0 L.length=S at *;rw[<- hm]at hx;have hjS:j<S.size:=by
  have:=(Oz.1 hx).1;simpa using this
 have hjc:j<cur.size:=(Ov.1 (ZS j _ (Ou zaa))).1;rw[OF,Ou (by simpa using hjS)]at hx;simp only[Option.map_some,Option.some.injEq]at hx;unfold Sort.putCells;rw[Array.getElem?_mapIdx,Sk hjc];simp only[Option.map_some];rw[OD ⟨OL _,zaa⟩,Nat.sub_zero,Sh _ j hjS,<- hx];simp
theorem Ah(w:World)(sv:Value)(hsv:∃a c,sv=.slice a 0 c):() 277 #[sv,(0:Int),(0:Int),.func (.func 208) #[] #[]] w fun e w'=>e=.returned (.tuple #[])/\w'=w:=by
 obtain⟨a,c,rfl⟩:=hsv;go_enter func277,ntmps277;go_wp2;refine Sf 1 ?_;rw[SU];go_wp2;go_end0;exact⟨rfl,rfl⟩
namespace Y
def NdT(W:World)(L:List Nd):Prop:=∀x∈L,(∃c,W.heap[x.1]?=some (.cells c 215 (0,0)))/\W.cell? x.1=some (.int .u64 x.2.t)
theorem cH.ndT{L:List Nd}(h:cH W L):NdT W L:=fun x hx=>by
 obtain⟨i,hi⟩:=SR hx;have:=h i x hi;exact⟨⟨_,this⟩,by rw[OA W _ _ _ _ _ this];rfl⟩
theorem rO{α:Type}(f:α->Nat):∀L:List α,(srt f L).length=L.length
 |[]=>rfl
 |x::L=>by
  have h:∀(M:List α),(p7 f x M).length=M.length+1:=fun M=>by
   induction M with
   |nil=>rfl
   |cons y M ih=>
    unfold p7;split
    ·rfl
    ·rw[PR,ih,PR]
  show(p7 f x (srt f L)).length=_;rw[h,rO f L,PR]
end Y
theorem Ai(w:World)(base:Nat)(sv:Value)(L:List Y.Nd)(h:Y.NdS w base sv L)(hl:L.length<=1000)(hN:Y.NdT w L):
  () 277 #[sv,(0:Int),(L.length:Int),.func (.func 208) #[] #[]] w fun e w'=>e=.returned (.tuple #[])/\Y.NdS w' base sv (Y.srt (fun y:Y.Nd=>y.2.t) L)/\Mo (fun k=>sv.ownBlock=some k) w w':=by
 by_cases TU:L=[]
 ·subst TU;have hsv:∃a c,sv=.slice a 0 c:=by
   rcases h.2 with⟨e,_⟩|⟨g,cap,cur,e,_⟩
   ·exact⟨none,0,e⟩
   ·exact⟨_,_,e⟩
  refine OI (Ah w sv hsv) ?_;rintro e w' ⟨rfl,rfl⟩;exact⟨rfl,h,Mo.refl _ _⟩
 ·have hlen:=Y.rO (fun y:Y.Nd=>y.2.t) L
  rcases h.2 with⟨e,h0⟩|⟨g,cap,cur,e,hb,hg,hle,UX,T6,htk⟩
  ·exact absurd (Qx.1 h0) TU
  ·subst e;rw[Y.rG,RC]at htk;refine OI (Ag w g cap L cur TU hl hg (fun j x hx=>?_) (fun x hx=>⟨fun e=>?_,(hN x hx).2⟩)) ?_
   ·have hj:=(Oz.1 hx).1;have:=congrArg (fun l:List Value=>l[j]?) htk;rw[PC hj,OF,hx,PN]at this;exact this
   ·obtain⟨c,hc⟩:=(hN x hx).1;rw[e,hg]at hc;simp at hc
   ·rintro e w' ⟨rfl,⟨cur',VQ,hs',TZ⟩,hm⟩;refine⟨rfl,?_,hm.mono (fun k _ hk=>za9)⟩;unfold Y.NdS;rw[hlen];refine⟨by rw[Y.rG,OK,hlen,RC],.inr ⟨g,cap,cur',rfl,hb,VQ,hle,UX,zaa,?_⟩⟩;rw[Y.rG,RC];refine Qo fun j=>?_;by_cases hj:j<L.length
    ·rw[PC hj,OF,PN,Ou (by rw[hlen];exact hj),TZ j _ (Ou (by rw[hlen];exact hj))];rfl
    ·rw[OV (by rw[PH];omega),OV (by rw[OK,hlen];omega)]
theorem Dd(w:World)(base:Nat)(sv:Value)(L:List Y.Nd)(h:Y.NdS w base sv L)(hl:L.length<=19)(hN:Y.NdT w L):
  () 261 #[sv,(L.length:Int),.func (.func 208) #[] #[]] w fun e w'=>e=.returned (.tuple #[])/\Y.NdS w' base sv (Y.srt (fun y:Y.Nd=>y.2.t) L)/\Mo (fun k=>sv.ownBlock=some k) w w':=by
 have HI:Hid _:=Ai w base sv L h zaa hN;have h1:¬(20:Int)<=(L.length:Int):=zaa;have h2:¬(20:Int)<(L.length:Int):=zaa;generalize hn:L.length=n at *;have HL:Hid (n<=19):=hl;clear h hN hn hl;go_enter func261,ntmps261;go_wp2;refine Sf 1 ?_;rw[SU];go_wp2_with(go_at_call 277;refine OI HI.out ?_;rintro e w1 ⟨rfl,h3⟩);refine Sf 1 ?_;rw[SU];go_wp2;go_end0;exact⟨rfl,h3⟩
theorem tS(w:World)(base:Nat)(sv:Value)(L:List Y.Nd)(h:Y.NdS w base sv L)(hl:L.length<=19)(hN:Y.NdT w L):
  () 239 #[sv,.func (.func 208) #[] #[]] w fun e w'=>e=.returned (.tuple #[])/\Y.NdS w' base sv (Y.srt (fun y:Y.Nd=>y.2.t) L)/\Mo (fun k=>sv.ownBlock=some k) w w':=by
 have HI:Hid _:=Dd w base sv L h hl hN;obtain⟨sa,sc,rfl⟩:∃a c,sv=.slice a L.length c:=by
  rcases h.2 with⟨e,h0⟩|⟨g,cap,cur,e,_⟩
  ·exact⟨none,0,by rw[e,h0]⟩
  ·exact⟨_,_,e⟩
 clear h hN;go_enter func239,ntmps239;go_wp2_with(go_at_call 261;refine OI HI.out ?_;rintro e w1 ⟨rfl,h3⟩);go_end0;exact⟨rfl,h3⟩
attribute [local go_sem] Pp
theorem KB:(Tryz.prog.info? 110).map (fun i=>(i.zero,i.size,i.bytes))=some (some (.pointer none),1,8):=zab
namespace Y
theorem KpM.bel(h:Below n W W'):KpM (fun k _=>n<=k) W W':=⟨h.size,fun k _ _ _ hk hn=>(h.block k zaa).trans hk⟩
end Y
theorem uF(w:World)(Bs:Nat)(L:List Y.Nd)(Ua:(L.map (·.1)).Nodup)(hb:w.cell? Bs=some (Y.aM L))(hR:Y.cH w L)(hl:L.length<=19):
  () 260 #[.slice none 0 0,.func (.func 165) #[] #[Bs]] w fun e w'=>∃sl:U.Sl,e=.returned (.slice sl.a sl.n sl.c)/\Y.NdS w' w (.slice sl.a sl.n sl.c) L/\Below w w w':=by
 obtain⟨i0,hi,Ue,Ub,Uf⟩:=PZ KB;have Wb:Bs<w.heap.size:=OW _ _ hb;refine(O3 (n:=8)).1 ?_;refine Pq func260 rfl trivial ?_ rfl;simp only[ntmps260,List.size_toArray,List.length_cons,List.length_nil,Nat.reduceAdd,Nat.reduceSub,Array.replicate_succ,Array.replicate_zero,List.push_toArray,List.append_toArray,List.nil_append,List.cons_append];gi_wp2;have c9:=O4 w 338 (.slice none 0 0);have Ut:Below w w (w.alloc (.cells #[.slice none 0 0] 338)):=(Oy _ w).alloc (Ow _) _;have T6:(w.alloc (.cells #[.slice none 0 0] 338)).heap.size=w.heap.size+1:=zad;generalize w.alloc (.cells #[.slice none 0 0] 338)=W0 at *;have hN0:Y.cH W0 L:=fun i x hx=>(Ut.block x.1 (Ov.1 (hR i x hx)).1).trans (hR i x hx);refine RE rfl zaa (gf:=165) rfl trivial (QN func165 zab rfl)
  (qL (8-1) zaa Bs L Ua (fun k _=>w.heap.size<=k) W0 ((Ut.cell (p:=Bs) Wb).trans hb) hN0 (fun _=>zaa) (fun x hx _ h=>by
   obtain⟨i,hi⟩:=O5.1 hx;have:=(Ov.1 (hR i x hi)).1;omega)) KpM.tr (fun V l o o' _ h hc _=>KpM.put V l o o' h hc) (Oy _ _) (fun _=>rfl)
  (fun pre W=>(∃v,Boxed W w 338 v/\W.ownsRow w 110 1 v pre.length (pre.flatMap Y.ndC)/\∃sl:U.Sl,v=.slice sl.a sl.n sl.c)/\Below w w W)
  (fun _ _ _=>False)
  (Pa (PY (holdsRow_own w w.heap.size 338 110 1 (fun pre:List Y.Nd=>pre.length) (fun pre=>pre.flatMap Y.ndC) (fun _ v=>∃sl:U.Sl,v=.slice sl.a sl.n sl.c)) _) (Qr (Ow _) zaa))
  (fun _ _ _ _ _ hs _ _=>hs)
  ⟨⟨_,c9,Pt _ _ _ _,⟨none,0,0⟩,rfl⟩,Ut⟩
  (fun x a' _=>a'={ tmps:=#[.slice none 0 0,.func (.func 165) #[] #[Bs],w,undef,.slice none 0 0,.pointer (some ⟨x.1,0,none⟩),.func (.func 165) #[] #[Bs],.pointer (some ⟨x.1,0,none⟩),undef,undef,undef,undef,undef],defers:=[] })
  (fun _ _ _ _ _ _ hs _ _=>hs)
  ?assign ?body ?done ?stop
 case assign=>
  intro l pre x W K hI hK;gi_wp2;exact hK _ _ (PK _ _) (KpM.refl _ _) hI rfl
 case body=>
  rintro l pre x a' W _ _ ⟨⟨v,h9,TO,sl,rfl⟩,Wt⟩ rfl TX;have d9:=h9.cell;have f9:=h9.frozen;have hsW:=Wt.size;gi_wp2_with(gi_at_builtin;refine wpListIn_append_own _ rfl _ _ 338 rfl w 110 i0 (.pointer none) 1 8 underlying338 hi Ue Ub Uf rfl zac _ _ _ rfl (TO.alloc _) ⟨W,0,none⟩ 1 1 [x.1] rfl rfl (cell_one_new _ _ _) zao zah zaa zae ?_;intro v' w1 Uz L8 _;obtain⟨g',cap',rfl⟩:=ownsRow_succ Uz;obtain⟨UP,XE,Wr,VN,TP⟩:=h9.appended zac TO hsW zaa Uz L8;have Xk:=UP.cell;have hf1:=UP.frozen);exact⟨VN.from _,Y.KpM.bel TP,⟨_,XE,by simpa[Y.ndC,Y.ndP] using Wr,⟨some ⟨g',0,none⟩,pre.length+1,cap'⟩,rfl⟩,Wt.trans TP⟩
 case done=>
  rintro D ys W hD VA ⟨⟨v,h9,TO,sl,rfl⟩,Wt⟩ hK;exact zdz
 case stop=>
  exact zfA
theorem zG(w:World)(Bs:Nat)(L:List Y.Nd)(Ua:(L.map (·.1)).Nodup)(hb:w.cell? Bs=some (Y.aM L))(hR:Y.cH w L)(hl:L.length<=19):
  () 238 #[.func (.func 165) #[] #[Bs]] w fun e w'=>∃sl:U.Sl,e=.returned (.slice sl.a sl.n sl.c)/\Y.NdS w' w (.slice sl.a sl.n sl.c) L/\Below w w w':=by
 have HI:Hid _:=uF w Bs L Ua hb hR hl;clear Ua hb hR;go_enter func238,ntmps238;go_wp2_with(go_at_call 260;refine OI HI.out ?_;rintro e w1 ⟨sl,rfl,h3⟩);go_ret;exact⟨sl,rfl,h3⟩
theorem qp(w:World)(Bs:Nat)(L:List Y.Nd)(Ua:(L.map (·.1)).Nodup)(hb:w.cell? Bs=some (Y.aM L))(hR:Y.cH w L)(hl:L.length<=19):
  () 207 #[.func (.func 165) #[] #[Bs],.func (.func 208) #[] #[]] w fun e w'=>∃sl:U.Sl,e=.returned (.slice sl.a sl.n sl.c)/\Y.NdS w' w (.slice sl.a sl.n sl.c) (Y.srt (fun y:Y.Nd=>y.2.t) L)/\Below w w w':=by
 have HI:Hid _:=zG w Bs L Ua hb hR hl;have HS:Hid (∀(V:World) (sl:U.Sl),Hid (Y.NdS V w (.slice sl.a sl.n sl.c) L/\Below w w V)->() 239 #[.slice sl.a sl.n sl.c,.func (.func 208) #[] #[]] V fun e w'=>e=.returned (.tuple #[])/\Hid (Y.NdS w' w (.slice sl.a sl.n sl.c) (Y.srt (fun y:Y.Nd=>y.2.t) L)/\Below w w w')):=fun V sl hV=>by
  have hN:Y.cH V L:=fun i x hx=>(hV.out.2.block x.1 (Ov.1 (hR i x hx)).1).trans (hR i x hx);refine OI (tS V w _ L hV.out.1 hl hN.ndT) ?_;rintro e w' ⟨rfl,h1,h2⟩;refine⟨rfl,h1,h2.below hV.out.2 hV.out.2.size (fun i hi e=>?_)⟩
  rcases hV.out.1.2 with⟨e',_⟩|⟨g,cap,cur,e',hb,_⟩
  ·rw[e']at e;cases e
  ·rw[e']at e;have:g=i:=by simpa[Value.ownBlock] using e
   omega
 clear Ua hb hR;go_enter func207,ntmps207;go_wp2_with(first
  |(go_at_call 238;refine OI HI.out ?_;rintro e w1 ⟨sl,rfl,h3⟩)
  |(go_at_call 239;refine OI (HS.out _ sl h3) ?_;rintro e w2 ⟨rfl,h4⟩))
 go_ret;exact⟨sl,rfl,h4⟩
theorem BT(w:World)(L:List Y.Nd)(Ua:(L.map (·.1)).Nodup)(hR:Y.cH w L)(hl:L.length<=19):
  () 171 #[.agg #[Y.aM L]] w fun e w'=>∃sl:U.Sl,e=.returned (.slice sl.a sl.n sl.c)/\Y.NdS w' w (.slice sl.a sl.n sl.c) (Y.srt (fun y:Y.Nd=>y.2.t) L)/\Below w w w':=by
 have VH:Y.aM L=.pointer none\/∃b,Y.aM L=.pointer (some ⟨b,0,none⟩):=by
  unfold Y.aM;cases L.getLast? with
  |none=>exact .inl rfl
  |some z=>exact .inr ⟨z.1,rfl⟩
 have HT:Hid (∀(V:World) (Bs:Nat),V.cell? ⟨Bs,0,none⟩=some (Y.aM L)->Hid (Below w w V)->() 207 #[.func (.func 165) #[] #[.pointer (some ⟨Bs,0,none⟩)],.func (.func 208) #[] #[]] V fun e w'=>∃sl:U.Sl,e=.returned (.slice sl.a sl.n sl.c)/\Hid (Y.NdS w' w (.slice sl.a sl.n sl.c) (Y.srt (fun y:Y.Nd=>y.2.t) L)/\Below w w w')):=fun V Bs hc hV=>by
  have hN:Y.cH V L:=fun i x hx=>(hV.out.block x.1 (Ov.1 (hR i x hx)).1).trans (hR i x hx);refine OI (qp V Bs L Ua hc hN hl) ?_;rintro e w' ⟨sl,rfl,h1,h2⟩;exact⟨sl,rfl,aC h1 hV.out.size,hV.out.trans (h2.mono hV.out.size)⟩
 have HB:Hid (∀o1 o2:Obj,Below w w ((w.alloc o1).alloc o2)):=fun o1 o2=>((Oy _ w).alloc (Ow _) _).alloc zad _;clear Ua hR;obtain⟨rv,US⟩:∃rv,Y.aM L=rv:=⟨_,rfl⟩;have HNO:Hid (∀V,() 117 #[.agg #[rv]] V fun e w'=>e=.returned (.func (.func 165) #[] #[.pointer (some ⟨V.heap.size,0,none⟩)])/\w'=V.alloc (.cells #[rv] 112)):=fun V=>mS rv V (US▸VH);rw[US]at HT⊢;have HC:Hid (((w.alloc (.cells #[rv] 112)).alloc (.cells #[rv] 112)).cell? ↑(w.heap.size+1)=some rv):=by
  unfold Hid;simp
 rw[US]at VH;have HSH:Hid _:=VH;clear US
 rcases HSH.out with rfl|⟨b,rfl⟩
 all_goals
  clear VH HSH;go_enter func171,ntmps171;go_wp2_with(first
   |(go_at_call 117;refine OI (HNO.out _) ?_;rintro e w1 ⟨rfl,Ul⟩;rw[Ul];clear Ul w1)
   |(go_at_call 207;refine OI (HT.out _ _ HC.out (HB.out _ _)) ?_;rintro e w2 ⟨sl,rfl,h4⟩))
  go_ret;exact⟨sl,rfl,h4⟩
attribute [local go_sem] Pp
namespace Y
def byT(R:Nat->List Nd)(r:Nat):List Nd:=srt (fun y:Nd=>y.2.t) (R r)
def zl(R:Nat->List Nd)(hv:Nat->Nat):List Nd:=(gF hv).flatMap (byT R)
theorem zY{α β:Type}{f:α->List β}{a b:List α}(h:a <+: b):a.flatMap f <+: b.flatMap f:=by
 obtain⟨t,rfl⟩:=h;rw[Ph];exact Tg _ _
theorem F6(l:List Nd):aM l=.pointer none\/∃b,aM l=.pointer (some ⟨b,0,none⟩):=by
 exact zer
structure Gv(w:World)(mb:Nat)(R:Nat->List Nd)(hv:Nat->Nat)(B:Nat->TypeId->Prop):Prop where
 rd:∀Bs V,KpM B w V->Boxed V Bs 209 (mb,27)->BC V Bs mb R hv
 nds:∀r,isR r->cH w (R r)
 nod:∀r,isR r->((R r).map (·.1)).Nodup
 len:∀r,isR r->(R r).length<=19
 far:∀r,isR r->∀x∈R r,∀t,¬B x.1 t
 mb':∀t,¬B mb t
 tab':∀t,¬B 3 t
 lt:∀k t,B k t->k<w.heap.size\/t=157
theorem Gv.flat{w:World}{mb:Nat}{R:Nat->List Nd}{hv:Nat->Nat}{B:Nat->TypeId->Prop}(h:Gv w mb R hv B):∀rs:List Nat,(∀q∈rs,isR q)->(rs.flatMap (byT R)).length<=19*rs.length
 |[],_=>Ow _
 |q::rs,hq=>by
  have:=h.flat rs (fun x hx=>hq x (OZ _ hx));have:=h.len q (hq q (O1 ..));rw[PO,OM,PR];unfold byT at *;rw[rO];omega
theorem KpN.lo{B:Nat->TypeId->Prop}{m:Nat}{V V':World}(h:KpN B m V V')(ZZ:m<=n):KpN B n V V':=⟨h.1,h.2.size,fun k o hk ho hc=>h.2.same k o zaa ho hc⟩
end Y
theorem IP(n:Nat)(hn:6<=n)(Bs mb:Nat)(R:Nat->List Y.Nd)(hv:Nat->Nat)(Xs:∀k,k<6->hv k<18446744073709551616)(B:Nat->TypeId->Prop)(w:World)(hN:Y.Gv w mb R hv B)(hc:Boxed w Bs 209 (mb,27))(Wb:¬B Bs 209):
  Gy Fence.wide n prog 169 #[Bs] (fun x:Y.Nd=>#[Value.pointer (some ⟨x.1,0,none⟩)]) (KpN B (w.heap.size+2)) (fun xs x=>(∃r,Y.isR r/\x∈R r)/\xs.length<=8000) (fun xs=>xs=Y.zl R hv) (fun xs=>xs <+: Y.zl R hv) w:=fun l J Jx W hW hWs hJ hJx hY h0=>by
 have hcW:=(show Boxed W Bs _ _ from(KpM.below (B:=B) hW).2 _ _ _ _ hc Wb).cell;have hn1:1<=n:=zaa;refine Pq func169 rfl trivial ?_ rfl;simp only[ntmps169,List.size_toArray,List.length_cons,List.length_nil,Nat.reduceAdd,Nat.reduceSub,Array.replicate_succ,Array.replicate_zero,List.push_toArray,List.append_toArray,List.nil_append,List.cons_append];have Xk:(W.alloc (.cells #[.func (.yield l) #[] #[]] 333)).cell? Bs=_:=ou ((Oy _ W).alloc (Ow _) _) hcW;gi_wp2_with(refine⟨trivial,?_⟩;gi_at_call 170;refine(O3.2 (wC mb 27 _)).mono ?_;rintro e w9 ⟨rfl,Pg⟩;rw[Pg];clear Pg w9);have T5:Below W W ((W.alloc (.cells #[.func (.yield l) #[] #[]] 333)).alloc (.cells #[(mb,27)] 209)):=((Oy _ W).alloc (Ow _) _).alloc zad _;have by1:=(O4 W 333 (.func (.yield l) #[] #[])).alloc (.cells #[(mb,27)] 209);have bx1:=O4 (W.alloc (.cells #[.func (.yield l) #[] #[]] 333)) 209 (mb,27);simp only[World.size_alloc]at bx1;have hJ1:J [] ((W.alloc (.cells #[.func (.yield l) #[] #[]] 333)).alloc (.cells #[(mb,27)] 209)):=hJ.alloc _ (hJ.alloc _ h0);have Wg:((W.alloc (.cells #[.func (.yield l) #[] #[]] 333)).alloc (.cells #[(mb,27)] 209)).heap.size=W.heap.size+2:=zad;generalize(W.alloc (.cells #[.func (.yield l) #[] #[]] 333)).alloc (.cells #[(mb,27)] 209)=W1 at *;have hK1:KpM B w W1:=(KpM.below hW).tr (KpM.below T5);have TX:=hN.lt;have VH:=fun r=>Y.F6 (R r);have hdr:∀{K:List Y.Nd->World->Prop},OwnFrom W K->∀xs A C,Below A.heap.size A C->K xs A->K xs C:=fun{K} hK xs A C hb h=>hK xs A C none h ⟨hb.os,hb.tape,hb.output,hb.size,fun k hk _=>hb.block k hk⟩ (fun r e=>by cases e)
 refine AL rfl zaa (gf:=205) rfl trivial (QN func205 zab rfl)
  (AR (n-1) zaa (W.heap.size+1) mb R hv Xs B W1 (hN.rd _ W1 hK1 bx1) (fun h=>by rcases TX _ _ h with h|h;have:=hW.size;omega;exact absurd h zac) hN.mb' hN.tab' (fun k t h=>(TX k t h).imp (fun h=>by have:=hW.size;omega) id))
  KpN.tr (fun V o o' h ho=>KpN.put zaa V o o' h ho) (fun _=>rfl)
  (fun rs V=>J (rs.flatMap (Y.byT R)) V/\KpN B (w.heap.size+2) W1 V) (fun rs V=>∃ys,ys <+: rs.flatMap (Y.byT R)/\Jx ys V)
  (Pa (fun rs A C row h hg hr=>hJ _ A C row h hg (fun r e=>⟨zas,(hr r e).2⟩)) (KpN.own (Ow _)))
  (fun rs A C row h hg hr=>by obtain⟨ys,h1,h2⟩:=h;exact⟨ys,h1,hJx _ A C row h2 hg (fun r e=>⟨zas,(hr r e).2⟩)⟩)
  ⟨hJ1,KpN.refl _ _ _⟩
  (fun r a' V=>∃b,a'={ tmps:=#[.func (.yield l) #[] #[],.pointer (some ⟨Bs,0,none⟩),.pointer (some ⟨W.heap.size,0,none⟩),.pointer (some ⟨b,0,none⟩),undef,undef,.pointer (some ⟨mb,27,none⟩),.func (.func 205) #[] #[.pointer (some ⟨W.heap.size+1,0,none⟩)],.agg #[Y.aM (R r)],undef,undef,undef,undef,undef,undef,undef,undef,undef,undef,undef,undef],defers:=[] }/\Boxed V b 112 (Y.aM (R r))/\W1.heap.size<=b)
  (fun r a' u A C row h hg hr=>by
   obtain⟨b,e,hb,hl⟩:=h;exact⟨b,e,PY (PG (β:=Unit) b 112 (fun _=>Y.aM (R r))) _ () A C row hb hg hr,hl⟩)
  ?assign ?body ?done ?stop
 case assign=>
  intro l2 rs r V K hI hK;have YD:=hI.2.1.1;have UA:∀o,Below V V (V.alloc o):=fun o=>(Oy _ V).alloc (Ow _) _;have VN:∀rv:Value,Y.aM (R r)=rv->K _ (V.alloc (.cells #[rv] 112)):=fun rv e=>hK _ _ ((To _ _).from _) (KpN.below (UA _)) ⟨hdr hJ _ _ _ (UA _) hI.1,hI.2.tr (KpN.below (UA _))⟩ ⟨V.heap.size,rfl,e▸O4 V _ _,YD⟩;exact zd8
 case body=>
  rintro l2 rs r a' V hl ⟨rl,V6⟩ ⟨XI,hrsl,hrsm⟩ ⟨ZU,XO⟩ ⟨b,rfl,hb,UE⟩;have hfl:=hN.flat rs hrsm;have UM:=hb.cell;have hKw:KpM B w V:=hK1.tr XO.1;have ZW:Y.cH V (R r):=fun i x hx=>hKw.2 _ _ _ _ (hN.nds r XI i x hx) (hN.far r XI x (OG hx) _);have Zu:=BT V (R r) (hN.nod r XI) ZW (hN.len r XI);have ZX:1<=n-1-1:=zaa;obtain⟨L,hL⟩:∃L,Y.srt (fun y:Y.Nd=>y.2.t) (R r)=L:=⟨_,rfl⟩;have HL:Hid (Y.byT R r=L):=hL;have hLm:∀x∈L,x∈R r:=fun x hx=>by rw[<- hL]at hx;exact Y.kV.1 hx
  have hl19:L.length<=19:=by rw[<- hL,Y.rO];exact hN.len r XI
  rw[hL]at Zu;obtain⟨rv,US⟩:∃rv,Y.aM (R r)=rv:=⟨_,rfl⟩;rw[US]at UM Zu⊢;clear hL US ZW VH;gi_wp2_with(refine⟨trivial,?_⟩;gi_at_call 171;refine(aI Zu).mono ?_;rintro e V2 ⟨⟨sa,sn,sc⟩,rfl,TO,UU⟩;dsimp only at TO⊢);have U6:sn=L.length:=by
   rcases TO.2 with⟨e,h0⟩|⟨g,cap,cur,e,_⟩
   ·simp at e;omega
   ·simp at e;omega
  subst U6;have Ve:∀(i:Nat) (x:Y.Nd),L[i]?=some x->∃g cur,sa=some ⟨g,0,none⟩/\V.heap.size<=g/\V2.heap[g]?=some (.cells cur 110 (0,0))/\cur[i]?=some (Y.ndP x.1):=fun i x hx=>by
   have hi:=(Oz.1 hx).1
   rcases TO.2 with⟨e,h0⟩|⟨g,cap,cur,e,U5,hg,hle,UX,T6,htk⟩
   ·omega
   ·simp at e;refine⟨g,cur,e.1,U5,hg,?_⟩;rw[Y.rG,RC]at htk;have h2:=congrArg (fun l:List Value=>l[i]?) htk;simpa[List.getElem?_take_of_lt hi,hx] using h2
  have hJ2:=hdr hJ _ _ _ UU ZU;have hK2:KpN B (w.heap.size+2) W1 V2:=XO.tr (KpN.below UU);have YD:=XO.1.1;have hWs2:=hW.size;clear Zu TO UM;refine wpIn_loop (fun a' U=>∃(i:Nat) (u5 u13 u14 u15 u16 u17 u18 u19 u20:Value),a'={ tmps:=#[.func (.yield l) #[] #[],Bs,W,b,undef,u5,(mb,27),.func (.func 205) #[] #[↑(W.heap.size+1)],.agg #[rv],.agg #[rv],.slice sa L.length sc,(L.length:Int),(i:Int),u13,u14,u15,u16,u17,u18,u19,u20],defers:=[] }/\i<=L.length/\J (rs.flatMap (Y.byT R)++L.take i) U/\KpN B (w.heap.size+2) V2 U) (fun a' _=>L.length-(intOf (a'.tmps.getD 12 undef)).toNat) ?_ ?_
  ·exact⟨0,_,_,_,_,_,_,_,_,_,rfl,OL _,by simpa using hJ2,KpN.refl _ _ _⟩
  rintro a'' U ⟨i,u5,u13,u14,u15,u16,u17,u18,u19,u20,rfl,hiL,hJU,hKU⟩;have hKW1:=hK2.tr hKU;have hyc:U.cell? W=some (.func (.yield l) #[] #[]):=(Y.KpM.bx TX hKW1.1 by1 hWs2).cell;have hKVU:KpN B (w.heap.size+2) V U:=(KpN.below UU).tr hKU;by_cases hi:i<L.length
  ·obtain⟨x,hx⟩:∃x,L[i]?=some x:=⟨_,Ou hi⟩;obtain⟨g,cur,rfl,hgV,Vk,hgc⟩:=Ve i x hx;have hgU:U.cell? (g,i)=some ↑x.1:=(OA U _ _ _ _ _ (hKU.1.2 _ _ _ _ Vk (fun h=>by rcases TX _ _ h with h'|h';omega;exact absurd h' zac))).trans hgc;have Wn:(i:Int)<(L.length:Int):=zaa;obtain⟨fn,tm,asg,bd,hy,hRo⟩:=hY _ x U hJU ⟨⟨r,XI,hLm x (OG hx)⟩,by rw[OM,PH];omega⟩;have HX:Hid (rs.flatMap (Y.byT R)++L.take i++[x]=rs.flatMap (Y.byT R)++L.take (i+1)):=by
    unfold Hid;rw[Qn,dO hx]
   (try dsimp only at hy)
   gi_wp2;refine(tP np (dQ l2) hRo).mono ?_;rintro e U' (⟨rfl,YC,UD⟩|⟨rfl,YC,UD⟩)
   ·gi_wp2;refine⟨⟨i+1,_,_,_,_,_,_,_,_,_,rfl,zaa,by rw[<- HX.out];exact YC,hKU.tr UD⟩,?_⟩;show L.length-((i:Int)+1).toNat<L.length-(i:Int).toNat;omega
   ·gi_wp2;have VN:=hKVU.tr UD;refine⟨(Y.KpN.lo VN zaa).2,Y.KpN.lo VN zaa,_,?_,YC⟩;rw[HX.out,Ph,SD,HL.out];exact(SZ _).2 (List.take_prefix _ _)
  ·have hie:i=L.length:=zaa;subst hie;gi_wp2;refine⟨(Y.KpN.lo hKVU zaa).2,Y.KpN.lo hKVU zaa,?_,XO.tr hKVU⟩;rw[Ph,SD,HL.out];rw[Pw]at hJU;exact hJU
 case done=>
  rintro D rs V hD hrs ⟨ZU,XO⟩ T7;subst hrs;gi_wp2;refine⟨zad,.inl ⟨_,_,rfl,Pj T7,?_⟩⟩;exact⟨_,Pu rfl _ _ _,⟨_,rfl⟩,.inl ⟨_,rfl,hJ.putObj _ ZU zaa T7 rfl⟩⟩
 case stop=>
  rintro D rs V hD hrs ⟨ys,VA,ZU⟩ T7;gi_wp2;refine⟨zad,.inl ⟨_,_,rfl,Pj T7,?_⟩⟩;exact⟨_,Pu rfl _ _ _,⟨_,rfl⟩,.inr ⟨ys,VA.trans (Y.zY hrs),hJx.putObj _ ZU zaa T7 rfl⟩⟩
attribute [local go_sem] Pp
theorem uz{F:Fence}(hF:Wd F){P:Program}{ops:Array Oper}{Q:Exit->Act->World->Prop}{a:Act}{rest:List Oper}{o:Oper}(hg:o.guard=none)(Ua:∀c,o.op≠.defer c)(h:∀K:Act->World->Prop,(∀a w,wpListIn F n P ops Q rest a w->K a w)->o.wp P a w K Q):wpListIn F n P ops Q (o::rest) a w:=
 wpListIn_plain hg fun K hK=>⟨fun _ _=>hF.fn _,by
  rw[Oper.semAt_eq _ _ _ Ua];exact Ey hF _ (h K hK)⟩
theorem CO(mb o:Nat)(w:World):() 119 #[(mb,o)] w fun e w'=>e=.returned (.func (.func 169) #[] #[w])/\w'=w.alloc (.cells #[(mb,o)] 209):=by
 go_enter func119,ntmps119;exact zfG
theorem Ay(V:World)(g:Nat)(v:Value)(h:V.cell? g=some v):(loadVar 110 ⟨g,0,none⟩).run prog V=.ok v V:=by
 simp[loadVar,Sem.run_bind,Tryz.isAgg110,go_sem,h]
namespace Y
def Ci(L:List Nd):Value:=match L.head? with|some x=>ndP x.1|none=>.pointer none
end Y
theorem Fc(w:World)(mb:Nat)(R:Nat->List Y.Nd)(hv:Nat->Nat)(Xs:∀k,k<6->hv k<18446744073709551616)(hN:∀W0,Below w w W0->W0.heap.size=w.heap.size+2->Y.Gv W0 mb R hv (fun k _=>k=w.heap.size)):
  () 78 #[(mb,27)] w fun e w'=>e=.returned (Y.Ci (Y.zl R hv))/\Below w w w':=by
 refine(O3 (n:=9)).1 ?_;refine Pq func78 rfl trivial ?_ rfl;simp only[ntmps78,List.size_toArray,List.length_cons,List.length_nil,Nat.reduceAdd,Nat.reduceSub,Array.replicate_succ,Array.replicate_zero,List.push_toArray,List.append_toArray,List.nil_append,List.cons_append];gi_wp2_with(refine⟨trivial,?_⟩;gi_at_call 119;refine(O3.2 (CO mb 27 _)).mono ?_;rintro e w9 ⟨rfl,Pg⟩;rw[Pg];clear Pg w9);have b0:=(O4 w 110 (.pointer none)).alloc (.cells #[(mb,27)] 209);have b1:=O4 (w.alloc (.cells #[.pointer none] 110)) 209 (mb,27);simp only[World.size_alloc]at b1;have Ut:Below w w ((w.alloc (.cells #[.pointer none] 110)).alloc (.cells #[(mb,27)] 209)):=((Oy _ w).alloc (Ow _) _).alloc zad _;have XR:((w.alloc (.cells #[.pointer none] 110)).alloc (.cells #[(mb,27)] 209)).heap.size=w.heap.size+2:=zad;generalize(w.alloc (.cells #[.pointer none] 110)).alloc (.cells #[(mb,27)] 209)=W0 at *;refine AL rfl zaa (gf:=169) rfl trivial (QN func169 zab rfl)
  (IP 8 zaa (w.heap.size+1) mb R hv Xs (fun k _=>k=w.heap.size) W0 (hN W0 Ut XR) b1 zaa)
  KpN.tr (fun V o o' h ho=>KpN.put zaa V o o' h ho) (fun _=>rfl)
  (fun xs V=>(xs=[]/\Boxed V w 110 (.pointer none))/\Below w w V)
  (fun xs V=>(∃x:Y.Nd,xs=[x]/\Boxed V w 110 (Y.ndP x.1))/\Below w w V)
  (Pa (Pa (ownFrom_pure _ _) (PY (PG _ _ _) _)) (Qr (Ow _) zaa))
  (Pa (fun xs A C row h hg hr=>by
   obtain⟨x,e,hb⟩:=h;exact⟨x,e,PY (PG (β:=Unit) w.heap.size 110 (fun _=>Y.ndP x.1)) _ () A C row hb hg hr⟩) (Qr (Ow _) zaa))
  ⟨⟨rfl,b0⟩,Ut⟩
  (fun x a' _=>a'={ tmps:=#[(mb,27),undef,w,.pointer (some ⟨x.1,0,none⟩),(mb,27),.func (.func 169) #[] #[↑(w.heap.size+1)],.pointer (some ⟨x.1,0,none⟩),undef],defers:=[] })
  (fun _ _ _ _ _ _ hs _ _=>hs) ?assign ?body ?done ?stop
 case assign=>
  intro l xs x V K hI hK;gi_wp2;exact hK _ _ (PK _ _) (KpN.refl _ _ _) hI rfl
 case body=>
  rintro l xs x a' V hl _ _ ⟨⟨rfl,UI⟩,hB⟩ rfl;have hc:=UI.cell;have hf:=UI.frozen;gi_wp2;exact⟨(Ps _ _ _).from _,KpN.set _ _ _ (fun _=>rfl),⟨x,rfl,UI.set _⟩,hB.setCell (p:=w) (Ow _) _⟩
 case done=>
  rintro D xs V hD VK ⟨⟨rfl,UI⟩,hB⟩ T7;have hc:=UI.cell;have hf:=UI.frozen;have T4:=UI.set (.pointer none);gi_wp2;refine⟨zad,.inl ⟨_,_,rfl,Pj (w:=V.setCell w (.pointer none)) ((O9 V _ _ D (by show D≠w.heap.size;omega)).trans T7),?_⟩⟩;have UB:Below w w ((V.setCell w (.pointer none)).putObj D (.deferred none)):=(hB.setCell (p:=w) (Ow _) _).trans (QW (w:=w) (Ow _) _ D _ _ zaa ((O9 V _ _ D (by show D≠w.heap.size;omega)).trans T7) rfl rfl);have hcd:((V.setCell w (.pointer none)).putObj D (.deferred none)).cell? w=some (.pointer none):=(OO (Pn (by show w.heap.size≠D;omega))).trans T4.cell;refine⟨.pointer none,?_,by rw[<- VK];rfl,UB⟩;exact ze9
 case stop=>
  rintro D xs V hD VX ⟨⟨x,rfl,UI⟩,hB⟩ T7;gi_wp2;refine⟨zad,.inl ⟨_,_,rfl,Pj T7,?_⟩⟩;have hcd:(V.putObj D (.deferred none)).cell? w=some (Y.ndP x.1):=(OO (Pn (by show w.heap.size≠D;omega))).trans UI.cell;refine⟨Y.ndP x.1,?_,?_,hB.trans (QW (w:=w) (Ow _) _ D _ _ zaa T7 rfl rfl)⟩
  ·exact ze9
  ·obtain⟨t,ht⟩:=VX;unfold Y.Ci;rw[<- ht];rfl
namespace Y
theorem dh.nil{lo:Y.Lo}(hM:au W lo mb pb qv s)(h:dh W lo s.wh R)(hr:isR r)(TV:lo<=W.heap.size):
  au (W.setCell (mb,28+r) (.pointer none)) lo mb pb qv { s with wh:=upd s.wh (28+r) (.pointer none) }/\dh (W.setCell (mb,28+r) (.pointer none)) lo (upd s.wh (28+r) (.pointer none)) (upd R r [])/\Rw lo W (W.setCell (mb,28+r) (.pointer none)):=by
 have V6:=hr.lt;have hm:Mo (·=mb) W (W.setCell (mb,28+r) (.pointer none)):=(Mo.refl _ _).set _ _ rfl;have hR:Rm lo W (W.setCell (mb,28+r) (.pointer none)):=RfE.mo hm (fun j hj=>by
  obtain⟨arr,a1,_⟩:=hM.blk;subst hj;exact⟨hM.lo',arr,_,_,a1,rfl⟩) TV
 refine⟨hM.Ej (28+r) _ zaa zaa,?_,Jd hR⟩;have h2:=h.kd hR.kd (by unfold La;decide);have Ud:∀q x,x∈upd R r [] q->x∈R q:=fun q x hx=>by
  by_cases e:q=r
  ·subst e;rw[aD]at hx;cases hx
  ·rw[aG _ _ e]at hx;exact hx
 refine⟨fun q hq=>?_,fun q hq=>?_,fun q hq x hx=>h2.low q hq x (Ud q x hx),fun p q hp hq hpq x hx y hy=>h2.dis p q hp hq hpq x (Ud p x hx) y (Ud q y hy),fun q hq=>?_⟩
 ·by_cases e:q=r
  ·subst e;rw[aD,aD];rfl
  ·rw[aG _ _ e,aG _ _ zaa];exact h.ring q hq
 ·by_cases e:q=r
  ·subst e;rw[aD];exact cH.nil _
  ·rw[aG _ _ e];exact h2.nds q hq
 ·by_cases e:q=r
  ·subst e;rw[aD];exact TH
  ·rw[aG _ _ e];exact h2.nod q hq
theorem Nc{i:Nat}(hi:i+1<m.length):nxt m i=nxt (f::m) (i+1):=by
 unfold nxt;rw[QP,Ou hi]
theorem dh.tl{lo:Y.Lo}(hM:au W lo mb pb qv s)(h:dh W lo s.wh R)(hr:isR r)(TV:lo<=W.heap.size){z:Nd}(hf:R r=f::m)(hz:m.getLast?=some z):
  au (W.setCell (z.1,3) (nxt (f::m) 0)) lo mb pb qv s/\dh (W.setCell (z.1,3) (nxt (f::m) 0)) lo s.wh (upd R r m)/\Rw lo W (W.setCell (z.1,3) (nxt (f::m) 0)):=by
 have TU:m≠[]:=fun e=>za0;have Vd:0<m.length:=Qc.2 TU;have VE:m[m.length-1]?=some z:=zaA;have hn:=h.nds r hr;rw[hf]at hn;have Zn:=hn (m.length-1+1) z (by rw[QP];exact VE);have hm:Mo (·=z.1) W (W.setCell (z.1,3) (nxt (f::m) 0)):=(Mo.refl _ _).set _ _ rfl;have Yq:z∈R r:=by rw[hf];exact OZ _ (OG VE)
 have hR:Rw lo W (W.setCell (z.1,3) (nxt (f::m) 0)):=RfE.mo hm (fun j hj=>by
  subst hj;exact⟨h.low r hr z Yq,_,_,_,Zn,.inr rfl⟩) TV
 have Ua:=h.nod r hr;rw[hf,QQ,R6]at Ua;have Ud:∀q x,x∈upd R r m q->x∈R q:=fun q x hx=>by
  by_cases e:q=r
  ·subst e;rw[aD]at hx;rw[hf];exact OZ _ hx
  ·rw[aG _ _ e]at hx;exact hx
 refine⟨hM.mo hm (fun e=>hM.typ Zn e) (fun g hg e=>?_),⟨fun q hq=>?_,fun q hq=>?_,fun q hq x hx=>h.low q hq x (Ud q x hx),fun p q hp hq hpq x hx y hy=>h.dis p q hp hq hpq x (Ud p x hx) y (Ud q y hy),fun q hq=>?_⟩,hR⟩
 ·obtain⟨c',TZ⟩:=hM.que.kind g hg;rw[e,Zn]at TZ;simp at TZ
 ·by_cases e:q=r
  ·subst e;rw[aD,h.ring q hq,hf];unfold aM;rw[List.getLast?_cons,hz];rfl
  ·rw[aG _ _ e];exact h.ring q hq
 ·by_cases e:q=r
  ·subst e;rw[aD];intro i x hx;have hi:=(Oz.1 hx).1;by_cases ei:i=m.length-1
   ·subst ei;rw[VE]at hx;cases hx
    rw[show nxt m (m.length-1)=nxt (f::m) 0 by
     rw[jf (Ou Vd)];unfold nxt;rw[QP,Ou Vd]]
    exact OP W z.1 3 _ _ _ Zn
   ·rw[Nc (f:=f) (m:=m) (i:=i) zaa];refine(O9 W _ _ x.1 (fun e'=>ei ?_)).trans (hn (i+1) x (by rw[QP];exact hx));have e1:(m.map (·.1))[i]?=(m.map (·.1))[m.length-1]?:=by rw[OF,OF,hx,VE];simp only[Option.map_some];rw[e']
    have Wn:i<(m.map (·.1)).length:=za4;have Ze:m.length-1<(m.map (·.1)).length:=zae;rw[Ou Wn,Ou Ze]at e1;have ea:=Ua.2.idxOf_getElem i Wn;have eb:=Ua.2.idxOf_getElem (m.length-1) Ze;rw[Pd e1]at ea;omega
  ·rw[aG _ _ e];exact(h.nds q hq).mo hm (fun x hx=>h.dis q r hq hr e x hx z Yq)
 ·by_cases e:q=r
  ·subst e;rw[aD];exact Ua.2
  ·rw[aG _ _ e];exact h.nod q hq
end Y
theorem F7(w:World)(c o fb:Nat)(hc:w.cell? (c,o)=some (Y.ndP fb))(Vp:w.frozen? (c,o)=false)(x:Y.Tn)(hn:w.heap[fb]?=some (.cells (Y.eN x (Y.ndP fb)) 215 (0,0))):
  () 162 #[(c,o)] w fun e w'=>e=.returned (Y.ndP fb)/\w'=w.setCell (c,o) (.pointer none):=by
 have n3:w.cell? (fb,3)=some (Y.ndP fb):=zaY;have heq:=iU w fb fb ⟨_,hn⟩ ⟨_,hn⟩;rw[show decide (fb=fb)=true by simp]at heq;unfold Y.ndP at hc n3⊢;clear hn;go_enter func162,ntmps162;go_wp2;go_ret;exact⟨rfl,rfl⟩
theorem F8(w:World)(c o fb zb nb:Nat)(hc:w.cell? (c,o)=some (Y.ndP zb))(x y:Y.Tn)(hn:w.heap[fb]?=some (.cells (Y.eN x (Y.ndP nb)) 215 (0,0)))(hz:w.heap[zb]?=some (.cells (Y.eN y (Y.ndP fb)) 215 (0,0)))(TU:fb≠zb):
  () 162 #[(c,o)] w fun e w'=>e=.returned (Y.ndP fb)/\w'=w.drew.setCell (zb,3) (Y.ndP nb):=by
 have n3:w.cell? (fb,3)=some (Y.ndP nb):=zaY;have z3:w.cell? (zb,3)=some (Y.ndP fb):=by rw[OA w _ _ _ _ _ hz];rfl
 have zf:w.drew.frozen? (zb,3)=false:=by show w.frozen? _=_;simp[World.frozen?,hz]
 have heq:=iU w fb zb ⟨_,hn⟩ ⟨_,hz⟩;rw[show decide (fb=zb)=false by simp[TU]]at heq;unfold Y.ndP at hc n3 z3⊢;have TZ:w.drew.cell? (c,o)=_:=hc;have n3':w.drew.cell? (fb,3)=_:=n3;have z3':w.drew.cell? (zb,3)=_:=z3;clear hn hz TU;go_enter func162,ntmps162
 go_upto_region 4 with fail
 refine fa 8 zab zab ?_;simp only[List.take_succ_cons,List.take_zero,List.drop_succ_cons,List.drop_zero]
 repeat still_step
 refine P8 ?_;go_wp2;go_ret;exact⟨rfl,rfl⟩
theorem Ji(w:World)(lo:Y.Lo)(mb pb:Nat)(qv:Value)(s:Y.MSt)(R:Nat->List Y.Nd)(r:Nat)(f:Y.Nd)(m:List Y.Nd)(hM:Y.au w lo mb pb qv s)(h:Y.dh w lo s.wh R)(TV:lo<=w.heap.size)(hr:Y.isR r)(hf:R r=f::m):
  () 162 #[(mb,28+r)] w fun e w'=>e=.returned (Y.ndP f.1)/\Hid (∃wh',Y.au w' lo mb pb qv { s with wh:=wh' }/\Y.dh w' lo wh' (Y.upd R r m)/\Y.Rw lo w w'/\(∀i,i≠28+r->wh' i=s.wh i)/\∃v,w'.heap[f.1]?=some (.cells (Y.eN f.2 v) 215 (0,0))):=by
 have V6:=hr.lt;have hn:=h.nds r hr;have hc:=(hM.whc (28+r) zaa zaa).trans (congrArg some (h.ring r hr));rw[hf]at hn hc;have hf0:=hn 0 f rfl;cases hz:m.getLast? with
 |none=>
  have hm:m=[]:=QY.1 hz;subst hm;refine OI (F7 w mb (28+r) f.1 hc (hM.frozen _) f.2 hf0) ?_;rintro e w' ⟨rfl,rfl⟩;obtain⟨a,b,c⟩:=h.nil hM hr TV;exact⟨rfl,_,a,b,c,fun i hi=>Y.aG _ _ hi,_,(O9 w _ _ f.1 (fun e=>hM.typ hf0 e.symm)).trans hf0⟩
 |some z=>
  have TU:m≠[]:=fun e=>za0;have Vd:0<m.length:=Qc.2 TU;have VE:m[m.length-1]?=some z:=zaA;have Zn:=hn (m.length-1+1) z (by rw[QP];exact VE);have Ua:=h.nod r hr;rw[hf,QQ,R6]at Ua;have Vp:f.1≠z.1:=fun e=>Ua.1 (O7.2 ⟨z,OG VE,e.symm⟩);have e1:Y.aM (f::m)=Y.ndP z.1:=by unfold Y.aM;rw[List.getLast?_cons,hz];rfl
  have e2:Y.nxt (f::m) (m.length-1+1)=Y.ndP f.1:=by
   have:=Y.jf (l:=f::m) (f:=f) rfl;rw[PR,Tb]at this;rw[show m.length-1+1=m.length by omega];exact this
  have e3:Y.nxt (f::m) 0=Y.ndP m[0].1:=by
   unfold Y.nxt;rw[QP,Ou Vd]
  rw[e1]at hc;rw[e2]at Zn;rw[e3]at hf0;refine OI (F8 w mb (28+r) f.1 z.1 m[0].1 hc f.2 z.2 hf0 Zn Vp) ?_;rintro e w' ⟨rfl,rfl⟩;have hd:=(Oy w w).drew;obtain⟨a,b,c⟩:=(h.below hd).tl (hM.below hd) hr TV hf hz;rw[e3]at a b c;exact⟨rfl,s.wh,a,b,(Y.RfE.of hd TV).trans c,fun _ _=>rfl,_,(O9 w.drew _ _ f.1 Vp).trans hf0⟩
theorem Y.kB.marked{wh wh1:Nat->Value}{sl h:Nat}(hH:Y.kB wh R)(hk:k<6)(hs:sl<64)(h2:wh (28+(k*65+64))=.int .u64 h)(h1:h<18446744073709551616)(hw:∀i,i≠28+(k*65+sl)->wh1 i=wh i)(h3:∀s,s<64->h.testBit s=!(R (k*65+s)).isEmpty):
  Y.kB (Y.upd wh1 (28+(k*65+64)) (.int .u64 (Y.iJ h sl m.isEmpty))) (Y.upd R (k*65+sl) m):=fun k' UD=>by
 by_cases e:k'=k
 ·subst e;refine⟨_,Y.oQ h1 hs,Y.aD _ _ _,fun j hj=>?_⟩;rw[Y.mQ hs j hj];by_cases e:j=sl
  ·subst e;rw[OD rfl,Y.aD]
  ·rw[OB e,Y.aG _ _ zaa];exact h3 j hj
 ·obtain⟨g,g1,g2,g3⟩:=hH k' UD;refine⟨g,g1,?_,fun j hj=>?_⟩
  ·rw[Y.aG _ _ zaa,hw _ zaa];exact g2
  ·rw[Y.aG _ _ zaa];exact g3 j hj
theorem wZ(w:World)(lo:Y.Lo)(mb pb:Nat)(qv:Value)(s:Y.MSt)(wh0:Nat->Value)(R:Nat->List Y.Nd)(k sl:Nat)(m:List Y.Nd)(hM:Y.au w lo mb pb qv s)(h:Y.dh w lo s.wh (Y.upd R (k*65+sl) m))(hH:Y.kB wh0 R)(TV:lo<=w.heap.size)(hk:k<6)(hs:sl<64)(hw:∀i,i≠28+(k*65+sl)->s.wh i=wh0 i):
  () 163 #[(mb,28+k*65),(sl:Int)] w fun e w'=>e=.returned (.tuple #[])/\Hid (∃wh',Y.au w' lo mb pb qv { s with wh:=wh' }/\Y.WhM w' lo { s with wh:=wh' } (Y.upd R (k*65+sl) m)/\Y.Rw lo w w'/\∃V:World,V.heap=w.heap/\∃p v,w'=V.setCell p v/\p.block=mb):=by
 have hr:Y.isR (k*65+sl):=.inl zaa;obtain⟨g,h1,h2,h3⟩:=hH k hk;have hg:s.wh (28+(k*65+64))=.int .u64 g:=(hw _ zaa).trans h2;have hring:=h.ring _ hr;rw[Y.aD]at hring;refine OI (tg w mb (28+k*65) sl m g hs h1 (by rw[PJ];exact(hM.whc (28+(k*65+sl)) zaa zaa).trans (congrArg some hring)) (by rw[PJ];exact(hM.whc (28+(k*65+64)) zaa zaa).trans (congrArg some hg)) (hM.frozen _)) ?_;rintro e w' ⟨rfl,rfl⟩;obtain⟨a2,b2,c2⟩:=h.mark hM k hk (.int .u64 (Y.iJ g sl m.isEmpty)) TV;exact⟨rfl,_,a2,⟨b2,hH.marked hk hs h2 h1 hw h3⟩,c2,w.drew,rfl,_,_,rfl,rfl⟩
theorem JM(w:World)(lo:Y.Lo)(mb pb:Nat)(qv:Value)(s:Y.MSt)(R:Nat->List Y.Nd)(k sl:Nat)(f:Y.Nd)(m:List Y.Nd)(hM:Y.au w lo mb pb qv s)(hW:Y.WhM w lo s R)(TV:lo<=w.heap.size)(hk:k<6)(hs:sl<64)(hf:R (k*65+sl)=f::m):
  () 115 #[(mb,28+k*65),(sl:Int)] w fun e w'=>e=.returned (Y.ndP f.1)/\Hid (∃wh',Y.au w' lo mb pb qv { s with wh:=wh' }/\Y.WhM w' lo { s with wh:=wh' } (Y.upd R (k*65+sl) m)/\Y.Rw lo w w'/\∃v,w'.heap[f.1]?=some (.cells (Y.eN f.2 v) 215 (0,0))):=by
 have hr:Y.isR (k*65+sl):=.inl zaa;have HP:Hid (() 162 #[(mb,28+k*65+sl)] w fun e w'=>e=.returned (Y.ndP f.1)/\Hid (∃wh',Y.au w' lo mb pb qv { s with wh:=wh' }/\Y.dh w' lo wh' (Y.upd R (k*65+sl) m)/\Y.Rw lo w w'/\(∀i,i≠28+(k*65+sl)->wh' i=s.wh i)/\∃v,w'.heap[f.1]?=some (.cells (Y.eN f.2 v) 215 (0,0)))):=by
  unfold Hid;rw[PJ];exact Ji w lo mb pb qv s R _ f m hM hW.rgs TV hr hf
 have HK:Hid (∀V:World,Hid (∃wh',Y.au V lo mb pb qv { s with wh:=wh' }/\Y.dh V lo wh' (Y.upd R (k*65+sl) m)/\Y.Rw lo w V/\(∀i,i≠28+(k*65+sl)->wh' i=s.wh i)/\∃v,V.heap[f.1]?=some (.cells (Y.eN f.2 v) 215 (0,0)))->() 163 #[(mb,28+k*65),(sl:Int)] V fun e w'=>e=.returned (.tuple #[])/\Hid (∃wh',Y.au w' lo mb pb qv { s with wh:=wh' }/\Y.WhM w' lo { s with wh:=wh' } (Y.upd R (k*65+sl) m)/\Y.Rw lo w w'/\∃v,w'.heap[f.1]?=some (.cells (Y.eN f.2 v) 215 (0,0)))):=fun V hV=>by
  obtain⟨wh1,a,b,c,d,v,hv⟩:=hV.out;refine OI (wZ V lo mb pb qv { s with wh:=wh1 } s.wh R k sl m a b hW.held (Ox TV c.bel.size) hk hs d) ?_;rintro e w' ⟨rfl,x⟩;obtain⟨wh2,a2,b2,c2,V2,hV2,p,u,rfl,hp⟩:=x.out;exact⟨rfl,wh2,a2,b2,c.trans c2,v,(O9 V2 p u f.1 (fun e=>a.typ hv (by rw[<- hp];exact e.symm))).trans (by rw[hV2];exact hv)⟩
 have hs':(sl:Int)<64:=zaa;clear hM hW hf hr;go_enter func115,ntmps115;go_wp2_with(first
  |(go_at_call 162;refine OI HP.out ?_;rintro e w1 ⟨rfl,h1⟩)
  |(go_at_call 163;refine OI (HK.out _ h1) ?_;rintro e w2 ⟨rfl,h2⟩))
 go_ret;exact⟨rfl,h2⟩
theorem pD:(Tryz.prog.info? 112).map (·.size)=some 1:=zab
theorem F4:Tryz.f164.results=#[.cell 4 112]:=rfl
namespace Y
theorem RfE.II{E:TypeId->Prop}{lo:Y.Lo}(h:RfE E lo w W)(TT:lo<=w.heap.size)(hm:Mo (fun k=>w.heap.size<=k) W W'):RfE E lo w W':=by
 have T6:=h.bel.size;exact⟨⟨hm.os.trans h.bel.os,hm.tape.trans h.bel.tape,hm.output.trans h.bel.output,Ox T6 hm.size,fun k hk=>(hm.block k zaa zaa).trans (h.bel.block k hk)⟩,
  ⟨Ox h.kd.size hm.size,fun k c t f hk hn=>by
   have:=(Ov.1 hk).1;exact(hm.block k zaa zaa).trans (h.kd.aq k c t f hk hn)⟩,
  ⟨Ox h.oth.size hm.size,fun k o hk ho=>by
   have:=(Ov.1 hk).1;exact(hm.block k zaa zaa).trans (h.oth.same k o hk ho)⟩,
  fun k hk hn=>(hm.block k zaa zaa).trans (h.own k hk hn)⟩
structure Emp(w V w':World)(lo:Y.Lo)(mb pb:Nat)(qv:Value)(s:MSt)(R:Nat->List Nd)(r:Nat):Prop where
 ex:∃wh',au w' lo mb pb qv { s with wh:=wh' }/\WhM w' lo { s with wh:=wh' } (upd R r [])
 rf:Rw lo w w'
 mo:Mo (·=mb) V w'
theorem pk(l:List Nd):aM l=.pointer none\/∃b,aM l=.pointer (some ⟨b,0,none⟩):=by
 exact zer
theorem Emp.box{V w':World}{lo:Y.Lo}(h:Emp w V w' lo mb pb qv s R r)(TT:lo<=w.heap.size){v u:Value}(hg:w'.heap[g]?=some (.cells #[v] 112 (0,0)))(hgw:w.heap.size<=g)(hgV:V.heap.size<=g\/True)(hw:Below w w V):Emp w w (w'.setCell g u) lo mb pb qv s R r:=by
 obtain⟨wh',a,b⟩:=h.ex;have hm:Mo (·=g) w' (w'.setCell g u):=(Mo.refl _ _).set _ _ rfl;have hk:Kd (fun t=>t=112) w' (w'.setCell g u):=gO hm (fun k c t f hp hc=>by
  subst hp;rw[hg]at hc;cases hc
  rfl)
 refine⟨⟨wh',a.mo hm (fun e=>?_) (fun q hq e=>?_),⟨b.rgs.kd hk zac,b.held⟩⟩,h.rf.II TT (hm.mono (fun k _ hk=>zaa)),?_⟩
 ·obtain⟨arr,a1,_⟩:=a.blk;rw[e,hg]at a1;simp at a1
 ·obtain⟨c',TZ⟩:=a.que.kind q hq;rw[e,hg]at TZ;simp at TZ
 ·have h1:Mo (·=mb) w w':=⟨h.mo.os.trans hw.os,h.mo.tape.trans hw.tape,h.mo.output.trans hw.output,Ox hw.size h.mo.size,fun k hk hn=>(h.mo.block k (by have:=hw.size;omega) hn).trans (hw.block k hk)⟩;exact h1.trans' hm (fun i hi e=>zaa)
end Y
theorem E9(w V:World)(lo:Y.Lo)(mb pb:Nat)(qv:Value)(s:Y.MSt)(R:Nat->List Y.Nd)(k sl:Nat)(hM:Y.au w lo mb pb qv s)(hW:Y.WhM w lo s R)(TV:lo<=w.heap.size)(hk:k<6)(hs:sl<64)(hV:Below w w V):
  () 163 #[(mb,28+k*65),(sl:Int)] (V.setCell (mb,28+k*65+sl) (.pointer none)) fun e w'=>e=.returned (.tuple #[])/\Hid (Y.Emp w V w' lo mb pb qv s R (k*65+sl)):=by
 have hr:Y.isR (k*65+sl):=.inl zaa;have Z2:=Ox TV hV.size;rw[PJ];obtain⟨a,b,c⟩:=(hW.rgs.below hV).nil (hM.below hV) hr Z2;refine OI (wZ _ lo mb pb qv { s with wh:=Y.upd s.wh (28+(k*65+sl)) (.pointer none) } s.wh R k sl [] a b hW.held (Ox Z2 c.bel.size) hk hs (fun i hi=>Y.aG _ _ hi)) ?_;rintro e w' ⟨rfl,x⟩;obtain⟨wh2,a2,b2,c2,V2,hV2,p,u,rfl,hp⟩:=x.out;refine⟨rfl,⟨wh2,a2,b2⟩,(Y.RfE.of hV TV).trans (c.trans c2),?_⟩;have hc:=c.trans c2;refine⟨hc.bel.os,hc.bel.tape,hc.bel.output,hc.bel.size,fun j hj hn=>?_⟩;rw[O9 V2 p u j (fun e=>hn (e.trans hp)),hV2];exact O9 V _ _ j hn
theorem Dw(w:World)(lo:Y.Lo)(mb pb:Nat)(qv:Value)(s:Y.MSt)(R:Nat->List Y.Nd)(k sl:Nat)(hM:Y.au w lo mb pb qv s)(hW:Y.WhM w lo s R)(TV:lo<=w.heap.size)(hk:k<6)(hs:sl<64):
  () 164 #[(mb,28+k*65),(sl:Int)] w fun e w'=>e=.returned (.agg #[Y.aM (R (k*65+sl))])/\Hid (Y.Emp w w w' lo mb pb qv s R (k*65+sl)):=by
 have hr:Y.isR (k*65+sl):=.inl zaa;have hmb:=hM.lt;have hcv:∀V,Below w w V->V.cell? (mb,28+k*65+sl)=some (Y.aM (R (k*65+sl)))/\V.frozen? (mb,28+k*65+sl)=false:=fun V hV=>by
  rw[PJ];exact⟨((hM.below hV).whc (28+(k*65+sl)) zaa zaa).trans (congrArg some ((hW.rgs.below hV).ring _ hr)),(hM.below hV).frozen _⟩
 have VH:=Y.pk (R (k*65+sl));obtain⟨rv,US⟩:∃rv,Y.aM (R (k*65+sl))=rv:=⟨_,rfl⟩;rw[US]at hcv VH⊢;have T5:Below w w (w.alloc (.cells #[.pointer none] 112)):=(Oy _ w).alloc (Ow _) _;have UU:Below w w ((w.alloc (.cells #[.pointer none] 112)).alloc (.cells #[rv] 112)):=T5.alloc zad _;obtain⟨c1,f1⟩:=hcv _ T5;obtain⟨c2,f2⟩:=hcv _ UU;have hem:=E9 w _ lo mb pb qv s R k sl hM hW TV hk hs UU;rw[World.setCell_alloc_past _ _ _ _ zae,World.setCell_alloc_past _ _ _ _ hmb]at hem;have HM:Hid _:=hem;clear hem;have hs':(sl:Int)<64:=zaa;have HB2:Hid _:=UU;have g0:((w.alloc (.cells #[.pointer none] 112)).alloc (.cells #[rv] 112)).heap[w.heap.size]?=some (.cells #[.pointer none] 112 (0,0)):=(Pz _ _ _ zad).trans (OH w _);have g1:((w.alloc (.cells #[.pointer none] 112)).alloc (.cells #[rv] 112)).heap[w.heap.size+1]?=some (.cells #[rv] 112 (0,0)):=by
  have:=OH (w.alloc (.cells #[.pointer none] 112)) (.cells #[rv] 112);simpa using this
 have HG:Hid (∀w',Y.Emp w ((w.alloc (.cells #[.pointer none] 112)).alloc (.cells #[rv] 112)) w' lo mb pb qv s R (k*65+sl)->w'.heap[w.heap.size]?=some (.cells #[.pointer none] 112 (0,0))/\w'.heap[w.heap.size+1]?=some (.cells #[rv] 112 (0,0))):=fun w' h=>⟨(h.mo.block _ zae zaa).trans g0,(h.mo.block _ zad zaa).trans g1⟩;clear hM hW hcv US T5 UU g0 g1 hr
 rcases VH with rfl|⟨b,rfl⟩
 all_goals
  go_enter func164,ntmps164;go_wp2_with(go_at_call 163;refine OI HM.out ?_;rintro e w4 ⟨rfl,h4⟩;obtain⟨q0,q1⟩:=HG.out _ h4.out;have k1:=OA w4 _ 0 _ _ _ q1;have k0:=OA w4 _ 0 _ _ _ q0;have z0:w4.frozen? w=false:=zbk);refine ee F4 w _ _ _ _ rfl (OP w4 w 0 _ _ _ q0) underlying112 rfl pD rfl ?_;exact⟨rfl,h4.out.box TV q0 (Ow _) (.inr trivial) HB2.out⟩
theorem tM:Tryz.f116.results=#[.cell 6 112]:=rfl
theorem Cf(w:World)(lo:Y.Lo)(mb pb:Nat)(qv:Value)(s:Y.MSt)(R:Nat->List Y.Nd)(sl:Nat)(hM:Y.au w lo mb pb qv s)(hW:Y.WhM w lo s R)(TV:lo<=w.heap.size):
  () 116 #[(mb,27),(6:Int),(sl:Int)] w fun e w'=>e=.returned (.agg #[Y.aM (R 390)])/\Hid (Y.Emp w w w' lo mb pb qv s R 390):=by
 have hr:Y.isR 390:=.inr rfl;have hmb:=hM.lt;have hcv:∀V,Below w w V->V.cell? ⟨mb,418,none⟩=some (Y.aM (R 390))/\V.frozen? ⟨mb,418,none⟩=false:=fun V hV=>
  ⟨((hM.below hV).whc 418 zaa zaa).trans (congrArg some ((hW.rgs.below hV).ring _ hr)),(hM.below hV).frozen _⟩
 have VH:=Y.pk (R 390);obtain⟨rv,US⟩:∃rv,Y.aM (R 390)=rv:=⟨_,rfl⟩;rw[US]at hcv VH⊢;have T5:Below w w (w.alloc (.cells #[.pointer none] 112)):=(Oy _ w).alloc (Ow _) _;have UU:Below w w ((w.alloc (.cells #[.pointer none] 112)).alloc (.cells #[rv] 112)):=T5.alloc zad _;obtain⟨c1,f1⟩:=hcv _ T5;obtain⟨c2,f2⟩:=hcv _ UU;obtain⟨a,b,c⟩:=hW.rgs.nil hM hr TV;have HE:Hid (∀o1 o2:Obj,Y.Emp w w (((w.setCell (mb,418) (.pointer none)).alloc o1).alloc o2) lo mb pb qv s R 390):=fun o1 o2=>by
  have hb:Below (w.setCell (mb,28+390) (.pointer none)).heap.size (w.setCell (mb,28+390) (.pointer none)) (((w.setCell (mb,28+390) (.pointer none)).alloc o1).alloc o2):=((Oy _ _).alloc (Ow _) _).alloc zad _;refine⟨⟨_,a.below hb,b.below hb,fun k hk=>?_⟩,c.trans (Y.RfE.of hb (by simp;exact TV)),((Mo.refl (·=mb) w).set _ _ rfl).trans (az hb)⟩;exact zdH
 clear hM hW hcv US T5 UU hr a b c
 rcases VH with rfl|⟨q,rfl⟩
 ·go_enter func116,ntmps116;go_wp2;refine ee tM w 112 #[.pointer none] (0,0) _ rfl ?_ underlying112 rfl pD rfl ⟨rfl,HE.out _ _⟩;refine(Pz _ _ _ zad).trans ?_;have:=OH (w.setCell (mb,418) (.pointer none)) (.cells #[.pointer none] 112);simpa using this
 ·go_enter func116,ntmps116;go_wp2;refine ee tM w 112 #[q] (0,0) _ rfl ?_ underlying112 rfl pD rfl ⟨rfl,HE.out _ _⟩;refine(Pz _ _ _ zad).trans ?_;have:=OH (w.setCell (mb,418) (.pointer none)) (.cells #[q] 112);simpa using this
theorem Cg(w:World)(lo:Y.Lo)(mb pb:Nat)(qv:Value)(s:Y.MSt)(R:Nat->List Y.Nd)(k sl:Nat)(hM:Y.au w lo mb pb qv s)(hW:Y.WhM w lo s R)(TV:lo<=w.heap.size)(hk:k<6)(hs:sl<64):
  () 116 #[(mb,27),(k:Int),(sl:Int)] w fun e w'=>e=.returned (.agg #[Y.aM (R (k*65+sl))])/\Hid (Y.Emp w w w' lo mb pb qv s R (k*65+sl)):=by
 have VH:=Y.pk (R (k*65+sl));have T5:Below w w (w.alloc (.cells #[.pointer none] 112)):=(Oy _ w).alloc (Ow _) _;have HK:Hid (() 164 #[(mb,28+k*65),(sl:Int)] (w.alloc (.cells #[.pointer none] 112)) fun e w'=>e=.returned (.agg #[Y.aM (R (k*65+sl))])/\w'.heap[w.heap.size]?=some (.cells #[.pointer none] 112 (0,0))/\Hid (∀u,Y.Emp w w (w'.setCell w u) lo mb pb qv s R (k*65+sl))):=by
  refine OI (Dw _ lo mb pb qv s R k sl (hM.below T5) ⟨hW.rgs.below T5,hW.held⟩ (Ox TV T5.size) hk hs) ?_;rintro e w' ⟨rfl,h⟩;have hmb:=hM.lt;have hq:w'.heap[w.heap.size]?=some (.cells #[.pointer none] 112 (0,0)):=(h.out.mo.block _ zad zaa).trans (OH w _);have h2:Y.Emp w (w.alloc (.cells #[.pointer none] 112)) w' lo mb pb qv s R (k*65+sl):=⟨h.out.ex,(Y.RfE.of T5 TV).trans h.out.rf,h.out.mo⟩;exact⟨rfl,hq,fun u=>h2.box TV hq (Ow _) (.inr trivial) T5⟩
 obtain⟨rv,US⟩:∃rv,Y.aM (R (k*65+sl))=rv:=⟨_,rfl⟩;rw[US]at VH HK⊢;have Zs:((k:Int) == 6)=false:=zae;have UD:(k:Int)<6:=zaa;clear hM hW US T5
 rcases VH with rfl|⟨q,rfl⟩
 all_goals
  go_enter func116,ntmps116;go_wp2_with(go_at_call 164;refine OI HK.out ?_;rintro e w4 ⟨rfl,q0,h4⟩;have k0:=OA w4 _ 0 _ _ _ q0;have z0:w4.frozen? w=false:=zbk);refine ee tM w _ _ _ _ rfl (OP w4 w 0 _ _ _ q0) underlying112 rfl pD rfl ?_;exact⟨rfl,h4.out _⟩
theorem I2(w:World)(lo:Y.Lo)(mb pb:Nat)(qv:Value)(s:Y.MSt)(R:Nat->List Y.Nd)(n:Nat)(x:Y.Tn)(v:Value)(hM:Y.au w lo mb pb qv s)(hW:Y.WhM w lo s R)(TV:lo<=w.heap.size)(Uc:s.now<18446744073709551616)(hxt:x.t<18446744073709551616)(hn:w.heap[n]?=some (.cells (Y.eN x v) 215 (0,0)))(Vv:∀q,Y.isR q->∀y∈R q,y.1≠n)(TT:lo.ok n):
  () 118 #[(mb,27),n] w fun e w'=>e=.returned (.tuple #[])/\∃wh',Y.au w' lo mb pb qv { s with wh:=wh' }/\Y.WhM w' lo { s with wh:=wh' } (Y.upd R (Y.place s.now x.t) (R (Y.place s.now x.t)++[(n,x)]))/\Y.Rw lo w w'/\Mo (fun k=>k=mb\/k=n\/∃q,Y.isR q/\∃y∈R q,k=y.1) w w':=by
 have Xt:w.cell? n=some (.int .u64 x.t):=zaY;have hc27:w.cell? (mb,27)=some (.int .u64 s.now):=hM.cell 27 zac;have hsp:=pE w mb 27 s.now x.t Uc hxt hc27;have hr:=Y.gd s.now x.t;have ZZ:=hM.typ hn;have WX:∀q,Y.isR q->mb ∉ (R q).map (·.1):=fun q hq e=>by
  exact zek
 have Y6:∀q,Y.isR q->n ∉ (R q).map (·.1):=fun q hq e=>by
  obtain⟨y,hy,e⟩:=O7.1 e;exact Vv q hq y hy e
 have X4:∀(w9:World) (r:Nat),Y.isR r->w9.heap[n]?=some (.cells (Y.eN x v) 215 (0,0))->Y.dh w9 lo s.wh R->Mo (fun k=>k=mb\/k=n\/∃q,Y.isR q/\∃y∈R q,k=y.1) w9 (Y.eH w9 ⟨mb,28+r,none⟩ (R r) n):=fun w9 r hr Yb U4=>(Y.cH.push (p:=⟨mb,28+r,none⟩) (U4.nds r hr) (U4.nod r hr) Yb (Y6 r hr) ZZ (WX r hr)).2.mono (fun k _ h=>h.imp id (fun h=>h.imp id (fun⟨z,hz,e⟩=>⟨r,hr,z,Qy hz,e⟩)));have hKl:=Y.fg s.now x.t;have ZT:=Y.fK s.now x.t;have Uo:Y.place s.now x.t=if Y.aN s.now x.t=6 then 390 else Y.aN s.now x.t*65+Y.gh s.now x.t:=rfl;generalize Y.place s.now x.t=r at *;generalize Y.aN s.now x.t=K at *;generalize Y.gh s.now x.t=S at *;by_cases hK:K=6
 ·subst hK;rw[OD rfl]at Uo;subst Uo;have H:Hid (∀w9,Below w w w9->() 167 #[(mb,418),n] w9 fun e w'=>e=.returned (.tuple #[])/\∃wh',Y.au w' lo mb pb qv { s with wh:=wh' }/\Y.WhM w' lo { s with wh:=wh' } (Y.upd R 390 (R 390++[(n,x)]))/\Y.Rw lo w w'/\Mo (fun k=>k=mb\/k=n\/∃q,Y.isR q/\∃y∈R q,k=y.1) w w'):=fun w9 hb=>by
   have U7:=hM.below hb;have U4:=hW.rgs.below hb;have Yb:=(hb.block n (Ov.1 hn).1).trans hn;refine(mY w9 mb 418 (R 390) n x v ((U7.whc 418 zaa zaa).trans (congrArg some (U4.ring 390 hr))) (U7.frozen _) (U4.nds 390 hr) Yb (Y6 390 hr) ZZ (WX 390 hr)).mono ?_;rintro e w' ⟨rfl,rfl⟩;obtain⟨a,b,c⟩:=U4.push (r:=390) U7 hr (Ox TV hb.size) Yb Vv TT;refine⟨rfl,_,a,⟨b,fun k hk=>?_⟩,(Y.RfE.of hb TV).trans c,(az hb).trans (X4 w9 390 hr Yb U4)⟩;exact zdH
  clear hW hM WX Y6 Vv hn TT hr ZZ X4;exact zdn
 ·rw[OB hK]at Uo;subst Uo;have hK5:K<6:=zaa;have hKb:((K:Int) == 6)=false:=zae;have H:Hid (∀w9,Below w w w9->() 168 #[(mb,28+K*65),(S:Int),n] w9 fun e w'=>e=.returned (.tuple #[])/\∃wh',Y.au w' lo mb pb qv { s with wh:=wh' }/\Y.WhM w' lo { s with wh:=wh' } (Y.upd R (K*65+S) (R (K*65+S)++[(n,x)]))/\Y.Rw lo w w'/\Mo (fun k=>k=mb\/k=n\/∃q,Y.isR q/\∃y∈R q,k=y.1) w w'):=fun w9 hb=>by
   have U7:=hM.below hb;have U4:=hW.rgs.below hb;have Yb:=(hb.block n (Ov.1 hn).1).trans hn;obtain⟨h,h1,h2,h3⟩:=hW.held K hK5;refine(xg w9 mb (28+K*65) S (R (K*65+S)) n x v h ZT h1 zb9 (fun i=>U7.frozen i) zcb (U4.nds _ hr) Yb (Y6 _ hr) ZZ (WX _ hr)).mono ?_;rintro e w' ⟨rfl,rfl⟩;obtain⟨a,b,c⟩:=U4.push (r:=K*65+S) U7 hr (Ox TV hb.size) Yb Vv TT;rw[PJ 28 (K*65) S];obtain⟨a2,b2,c2⟩:=b.mark a K hK5 (.int .u64 (Y.iJ h S false)) (Ox TV (Ox hb.size c.bel.size));refine⟨rfl,_,a2,⟨b2,fun k hk=>?_⟩,(Y.RfE.of hb TV).trans (c.trans c2),((az hb).trans (X4 w9 (K*65+S) hr Yb U4)).trans ((az ((Oy _ _).drew)).trans ((Mo.refl _ _).set _ _ (.inl rfl)))⟩;exact zc8
  clear hW hM WX Y6 Vv hn TT hr ZZ X4;exact zdr
end
section
namespace Y
theorem Dz(a b n:Nat):(a ^^^ b)<2 ^ n↔a / 2 ^ n=b / 2 ^ n:=by
 rw[<- Nat.shiftRight_eq_div_pow,<- Nat.shiftRight_eq_div_pow];constructor
 ·intro h;refine Nat.eq_of_testBit_eq fun i=>?_;rw[RW,RW];have:=RQ (OS h (PX zac (RG n i)));rw[Nat.testBit_xor]at this;cases h1:a.testBit (n+i)<;>cases h2:b.testBit (n+i)<;>simp_all
 ·intro h;refine Nat.lt_pow_two_of_testBit _ fun i hi=>?_;have h1:(a >>> n).testBit (i-n)=(b >>> n).testBit (i-n):=by rw[h]
  rw[RW,RW,show n+(i-n)=i by omega]at h1;rw[Nat.testBit_xor,h1];simp
theorem a7{now t:Nat}(hn:now<18446744073709551616)(ht:t<18446744073709551616)(hk:k<6):aN now t<=k↔t / 64 ^ (k+1)=now / 64 ^ (k+1):=by
 have e:(64:Nat) ^ (k+1)=2 ^ (6*(k+1)):=by rw[Nat.pow_mul]
 rw[e,<- Dz];have h1:(t ^^^ now)<2 ^ (6*(k+1))↔((t ^^^ now)|||1)<2 ^ (6*(k+1)):=by
  have h2:1<2 ^ (6*(k+1)):=Nat.one_lt_two_pow zaa;constructor
  ·intro h;exact Po h h2
  ·intro h;exact Pm Nat.left_le_or h
 rw[h1];unfold aN;have hx:((t ^^^ now)|||1)<2 ^ 64:=Po (Nat.xor_lt_two_pow ht hn) zac;have hx0:(t ^^^ now)|||1≠0:=wo _;generalize(t ^^^ now)|||1=x at *;obtain⟨b1,b2,b3⟩:=SO 64 x hx hx0;have hL:Lib.bitLen x=Lib.bitLenAux 64 x:=rfl;rw[hL];generalize Lib.bitLenAux 64 x=L at *;constructor
 ·intro h;exact OS b3 (PX zac zaa)
 ·intro h;have:L-1<6*(k+1):=(Nat.pow_lt_pow_iff_right (by decide:1<2)).1 (Pm b2 h);omega
theorem fJ(now t:Nat):gh now t=t / 64 ^ aN now t % 64:=by
 unfold gh;rw[show(2:Nat) ^ (aN now t*6)=64 ^ aN now t by rw[Nat.mul_comm,Nat.pow_mul]]
theorem Km{a b c:Nat}(h1:a<=b)(h2:b<=c)(h:c / n=a / n):b / n=a / n:=by
 have:=SW (c:=n) h1;have:=SW (c:=n) h2;omega
section
variable {now a b:Nat}(hn:now<18446744073709551616)(ha:a<18446744073709551616)(hb:b<18446744073709551616)
theorem tT(hn:now<18446744073709551616)(ha:a<18446744073709551616)(hb:b<18446744073709551616)(h1:now<=a)(h2:a<=b):aN now a<=aN now b:=by
 have h6:=fg now a;by_cases hk:aN now b<6
 ·exact(a7 hn ha hk).2 (Km h1 h2 ((a7 hn hb hk).1 (Ow _)))
 ·omega
theorem tB(hn:now<18446744073709551616)(ha:a<18446744073709551616)(hb:b<18446744073709551616)(h1:now<=a)(h2:a<=b):place now a<=place now b:=by
 have hK:=tT hn ha hb h1 h2;have h6:=fg now b;have s1:=fK now a;have s2:=fK now b;unfold place;by_cases Vq:aN now b=6
 ·rw[OD Vq];split
  ·exact Ow _
  ·omega
 ·rw[OB Vq,OB zaa];by_cases hab:aN now a=aN now b
  ·have e1:=(a7 hn ha (show aN now b<6 by omega)).1 zaa;have e2:=(a7 hn hb (show aN now b<6 by omega)).1 (Ow _);have d:=SW (c:=64 ^ aN now b) h2;rw[S5,<- RX]at e1 e2;rw[<- RX]at e1 e2;rw[fJ,fJ,hab];omega
  ·omega
theorem C0(hn:now<18446744073709551616)(ha:a<18446744073709551616)(hb:b<18446744073709551616)(h1:now<=a)(h2:a<=b)(h:place now b≠place now a):place a b=place now b:=by
 have hK:=tT hn ha hb h1 h2;have h6:=fg now b;have h6':=fg a b;have hKe:aN a b=aN now b:=by
  by_cases hab:aN now a=aN now b
  ·have hl:aN now b<6:=by
    rcases QD (aN now b) 6 with h'|h'
    ·exact h'
    ·exfalso;apply h
     unfold place;rw[OD zaa,OD zaa]
   have e1:=(a7 hn ha hl).1 zaa;have e2:=(a7 hn hb hl).1 (Ow _);have h3:aN a b<=aN now b:=(a7 ha hb hl).2 (e2.trans e1.symm)
   rcases QD (aN a b) (aN now b) with h'|h'
   ·exfalso;have h4:aN a b<=aN now b-1:=zaa;have e3:=(a7 ha hb (show aN now b-1<6 by omega)).1 h4;rw[show aN now b-1+1=aN now b by omega]at e3;apply h
    unfold place;rw[OB zaa,OB zaa,fJ,fJ,hab,e3]
   ·omega
  ·have hl:aN now a<6:=zaa;have e1:∀k,aN now a<=k->k<6->a / 64 ^ (k+1)=now / 64 ^ (k+1):=fun k hk Zs=>(a7 hn ha Zs).1 hk;have e2:∀k,aN now a<=k->k<6->(aN a b<=k↔aN now b<=k):=fun k hk Zs=>by rw[a7 ha hb Zs,a7 hn hb Zs,e1 k hk Zs]
   have e3:=e2 (aN now b-1) zaa zaa
   rcases QD (aN now b) 6 with h'|h'
   ·have e4:=e2 (aN now b) zaa h';omega
   ·omega
 unfold place gh;rw[hKe]
theorem CZ(hn:now<18446744073709551616)(ha:a<18446744073709551616)(hb:b<18446744073709551616)(_:now<=a)(h2:a<=b)(h:place now b=place now a)(hr:place now a≠390):place a b<=place now a:=by
 have h6:=fg now a;have h6':=fg a b;have s1:=fK now a;have s2:=fK now b;have s3:=fK a b;have WD:aN now a≠6:=fun e=>hr (by unfold place;rw[OD e]);have Vq:aN now b≠6:=fun e=>by
  rw[<- h]at hr;exact hr (by unfold place;rw[OD e])
 unfold place at h;rw[OB WD,OB Vq]at h;have hK:aN now b=aN now a:=zaa;have hS:gh now b=gh now a:=zaa;rw[fJ,fJ,hK]at hS;have e1:=(a7 hn ha (show aN now a<6 by omega)).1 (Ow _);have e2:=(a7 hn hb (show aN now a<6 by omega)).1 zaa;rw[S5,<- RX]at e1 e2;rw[<- RX]at e1 e2;have e3:b / 64 ^ aN now a=a / 64 ^ aN now a:=zaa;by_cases h0:aN now a=0
 ·rw[h0]at e3;have:b=a:=by simpa using e3
  subst this;have hz:aN b b=0:=by
   have:=(a7 hb hb (k:=0) zac).2 rfl;omega
  unfold place;rw[OB WD,OB zaa,hz,h0,fJ,fJ,hz,h0];exact Ow _
 ·have h3:aN a b<=aN now a-1:=(a7 ha hb zaa).2 (by rw[show aN now a-1+1=aN now a by omega];exact e3);unfold place;rw[OB WD,OB zaa];omega
