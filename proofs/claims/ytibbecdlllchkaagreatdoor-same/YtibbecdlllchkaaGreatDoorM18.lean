import Derived.Test.YtibbecdlllchkaaGreatDoorM05
import Derived.Shelf.SlSortCmp.Insertion
set_option maxRecDepth 100000
set_option maxHeartbeats 8000000
namespace Go.Proofs.YtibbecdlllchkaaGreatDoor
variable {zp:Prop}
theorem zd3(h:zp:=by
 unfold aN;cases l.getLast? with
 |none=>exact .inl rfl
 |some z=>exact .inr ⟨z.1,rfl⟩):zp:=h
theorem zef(h:zp:=by
 rintro(h|h|h)
 ·exact .inr (.inl h)
 ·exact .inl h
 ·exact .inr (.inr h)):zp:=h
theorem zeU(h:zp:=by
 rw[jh rfl];have:=Bb _ _ _ hcd;simpa[asAddr] using this):zp:=h
theorem zbj(h:zp:=by simp[World.frozen?,q0]):zp:=h
theorem zby(h:zp:=by simpa using hh):zp:=h
open Tryz
variable {w W W':World}{g n mb pb r k:Nat}{m:List Y.Nd}{qv:Value}{s:Y.MSt}{R:Nat->List Y.Nd}{f:Y.Nd}
section
open Go.RowKit Go.Proofs Go.Shelf
namespace Y
def yj(a b:Nat):Int:=if a<b then -1 else if b<a then 1 else 0
end Y
theorem Gb(x:Nat)(w:World):() 280 #[.int .u64 x] w fun e w'=>e=.returned false/\w'=w:=by
 go_enter func280,ntmps280;go_wp2;go_ret;exact⟨zad,rfl⟩
theorem Ai(a b:Nat)(w:World):() 263 #[.int .u64 a,.int .u64 b] w fun e w'=>e=.returned (.int .i64 (Y.yj a b))/\w'=w:=by
 have HN:Hid (∀(x:Nat) (w:World),() 280 #[.int .u64 x] w fun e w'=>e=.returned false/\w'=w):=fun x w=>Gb x w;have h1:Hid (∀c,Y.yj a b=c↔(if a<b then -1 else if b<a then 1 else 0)=c):=fun c=>Iff.rfl
 rcases Th a b with h|h|h
 ·have ha:(a:Int)<(b:Int):=zaa;have HA:Hid (a<b):=h;clear h;go_enter func263,ntmps263;go_wp2_with(go_at_call 280;refine(HN.out _ _).mono ?_;rintro e w1 ⟨rfl,rfl⟩);go_ret;exact⟨by rw[(h1.out _).2 (PC HA.out)];rfl,rfl⟩
 ·subst h;go_enter func263,ntmps263;go_wp2_with(go_at_call 280;refine(HN.out _ _).mono ?_;rintro e w1 ⟨rfl,rfl⟩);go_ret;exact⟨by rw[(h1.out 0).2 zad];rfl,rfl⟩
 ·have ha:(b:Int)<(a:Int):=zaa;have hn:¬(a:Int)<(b:Int):=zaa;have HA:Hid (b<a):=h;clear h;go_enter func263,ntmps263;go_wp2_with(go_at_call 280;refine(HN.out _ _).mono ?_;rintro e w1 ⟨rfl,rfl⟩);go_ret;exact⟨by rw[(h1.out 1).2 (by have:=HA.out;rw[Pu zaa,PC this])];rfl,rfl⟩
theorem Ad(a b ta tb:Nat)(w:World)(ha:w.cell? a=some (.int .u64 ta))(hb:w.cell? b=some (.int .u64 tb)):
  () 262 #[a,b] w fun e w'=>e=.returned (.int .i64 (Y.yj ta tb))/\∃q,w'=w.drewN q:=by
 have HN:Hid (∀(w:World),() 263 #[.int .u64 ta,.int .u64 tb] w fun e w'=>e=.returned (.int .i64 (Y.yj ta tb))/\w'=w):=fun w=>Ai ta tb w;generalize Y.yj ta tb=ct at *;have ha':w.drew.cell? a=some (.int .u64 ta):=ha;have hb':w.drew.cell? b=some (.int .u64 tb):=hb;go_enter func262,ntmps262
 go_upto_region 1 with fail
 refine eD 8 zab zab ?_;simp only[List.take_succ_cons,List.take_zero,List.drop_succ_cons,List.drop_zero]
 repeat still_step
 refine QY ?_;go_wp2_with(go_at_call 263;refine(HN.out _).mono ?_;rintro e w1 ⟨rfl,rfl⟩);go_ret;exact⟨rfl,1,rfl⟩
end
section
namespace Y
variable {α:Type}
def Srd(f:α->Nat)(L:List α):Prop:=L.Pairwise (fun a b=>f a<=f b)
def Stb(f:α->Nat)(A B:List α):Prop:=∀k,A.filter (fun x=>f x == k)=B.filter (fun x=>f x == k)
theorem Stb.refl(f:α->Nat)(A:List α):Stb f A A:=fun _=>rfl
theorem Stb.symm{f:α->Nat}{A B:List α}(h:Stb f A B):Stb f B A:=fun k=>(h k).symm
theorem Stb.trans{f:α->Nat}{A B C:List α}(h:Stb f A B)(g:Stb f B C):Stb f A C:=fun k=>(h k).trans (g k)
theorem Stb.mem{f:α->Nat}{A B:List α}(h:Stb f A B){x:α}(hx:x∈A):x∈B:=by
 have:x∈A.filter (fun y=>f y == f x):=Q2.2 ⟨hx,zad⟩;rw[h]at this;exact(Q2.1 this).1
theorem E9{f:α->Nat}:∀{A B:List α},Srd f A->Srd f B->Stb f A B->A=B
 |[],[],_,_,_=>rfl
 |[],b::B,_,_,h=>by have:=h.symm.mem (PZ);simp at this
 |a::A,[],_,_,h=>by have:=h.mem (PZ);simp at this
 |a::A,b::B,hA,hB,h=>by
  have h1:f a<=f b:=by
   rcases QH.1 (h.symm.mem (PZ (a:=b) (l:=B))) with e|e
   ·rw[e];exact Po _
   ·exact(RF.1 hA).1 _ e
  have h2:f b<=f a:=by
   rcases QH.1 (h.mem (PZ (a:=a) (l:=A))) with e|e
   ·rw[e];exact Po _
   ·exact(RF.1 hB).1 _ e
  have e:f a=f b:=zaa;have hk:=h (f a);have Wy:=hk;rw[Rn zad,List.filter_cons_of_pos (by simp[e])]at Wy;obtain rfl:a=b:=by injection Wy
  have ht:Stb f A B:=fun k=>by
   have:=h k;by_cases hh:f a == k
   ·rw[Rn zby,Rn zby]at this;injection this
   ·rw[Rl zby,Rl zby]at this;exact this
  rw[E9 (RF.1 hA).2 (RF.1 hB).2 ht]
def qE(f:α->Nat)(x:α):List α->List α
 |[]=>[x]
 |y::L=>if f x<=f y then x::y::L else y::qE f x L
def srt(f:α->Nat):List α->List α
 |[]=>[]
 |x::L=>qE f x (srt f L)
theorem Bc{f:α->Nat}{x y:α}:∀{L:List α},y∈qE f x L↔y=x\/y∈L
 |[]=>by simp[qE]
 |z::L=>by
  unfold qE;split
  ·simp
  ·rw[QH,Bc,QH];constructor
   ·exact zef
   ·exact zef
theorem AS{f:α->Nat}{x:α}:∀{L:List α},Srd f L->Srd f (qE f x L)
 |[],_=>by simp[qE,Srd]
 |y::L,h=>by
  unfold qE;have h1:=RF.1 h;split
  ·next e=>
   refine RF.2 ⟨fun z hz=>?_,h⟩
   rcases QH.1 hz with e'|e'
   ·rw[e'];exact e
   ·exact Pr e (h1.1 z e')
  ·next e=>
   refine RF.2 ⟨fun z hz=>?_,AS h1.2⟩
   rcases Bc.1 hz with e'|e'
   ·rw[e'];omega
   ·exact h1.1 z e'
theorem AT{f:α->Nat}{x:α}:∀{L:List α},Stb f (qE f x L) (x::L)
 |[]=>fun _=>rfl
 |y::L=>fun k=>by
  unfold qE;split
  ·rfl
  ·next e=>
   have ih:=AT (f:=f) (x:=x) (L:=L) k;rw[Ts,ih];by_cases hx:f x == k<;>by_cases hy:f y == k
   ·have:=Us.1 hx;have:=Us.1 hy;omega
   ·simp[hx,hy]
   ·simp[hx,hy]
   ·simp[hx,hy]
theorem qd(f:α->Nat):∀L:List α,Srd f (srt f L)
 |[]=>List.Pairwise.nil
 |_::L=>AS (qd f L)
theorem lT(f:α->Nat):∀L:List α,Stb f (srt f L) L
 |[]=>fun _=>rfl
 |x::L=>AT.trans fun k=>by rw[Ts,lT f L k,Ts]
theorem D2{f:α->Nat}{A L:List α}(h:Srd f A)(k:Stb f A L):A=srt f L:=E9 h (qd f L) (k.trans (lT f L).symm)
theorem lI{f:α->Nat}{L:List α}{x:α}:x∈srt f L↔x∈L:=⟨(lT f L).mem,(lT f L).symm.mem⟩
theorem Fa{β:Type}(g:β->α)(f:α->Nat)(L:List β):(srt (fun x=>f (g x)) L).map g=srt f (L.map g):=by
 refine D2 ?_ fun k=>?_
 ·exact List.pairwise_map.2 (qd (fun x=>f (g x)) L)
 ·rw[Tz,Tz];exact congrArg _ (lT (fun x=>f (g x)) L k)
end Y
end
section
open Go.Sort
namespace Y
theorem MB{α:Type}{f:α->Nat}(A B:List α)(x y:α)(h:f x≠f y):Stb f (A++y::x::B) (A++x::y::B):=fun k=>by
 rw[Re,Re]
 congr 1
 by_cases hx:f x=k
 ·have hy:¬f y=k:=fun e=>h (hx.trans e.symm);simp[hx,hy]
 ·simp[List.filter_cons,hx]
variable {α:Type}[Inhabited α]
theorem Ku(d:Array α)(j:Nat)(hj:j+1<d.size):∃A B,d.toList=A++d[j]!::d[j+1]!::B/\(swp d (j+1) j).toList=A++d[j+1]!::d[j]!::B:=by
 have hl:d.toList.length=d.size:=zad;have e1:d[j]! =d.toList[j]'(zaa):=by rw[Tr d j zaa];simp
 have e2:d[j+1]! =d.toList[j+1]'(zaa):=by rw[Tr d (j+1) hj];simp
 have hd:d.toList=d.toList.take j++d[j]!::d[j+1]!::d.toList.drop (j+1+1):=by
  rw[e1,e2,<- SD (by omega:j+1<d.toList.length),<- SD (by omega:j<d.toList.length),TM]
 refine⟨_,_,hd,?_⟩;unfold swp;rw[Sy,Sy];have hA:(d.toList.take j).length=j:=by rw[QN];omega
 generalize d[j]! =x at *;generalize d[j+1]! =y at *;generalize d.toList.take j=A at *;generalize d.toList.drop (j+1+1)=B at *;rw[hd,SB _ _ zaa,show j+1-A.length=1 by omega,SB _ _ zaa,show j-A.length=0 by omega];rfl
theorem kf(lt:α->α->Bool)(a:Nat):∀(j:Nat) (d:Array α),(insInner lt a j d).size=d.size
 |0,d=>rfl
 |j+1,d=>by
  unfold insInner;split
  ·rw[kf lt a j,swp_size]
  ·rfl
theorem pB{f:α->Nat}{lt:α->α->Bool}(Vd:∀x y,lt x y=true->f y≠f x)(a:Nat):∀(j:Nat) (d:Array α),j<d.size->Stb f (insInner lt a j d).toList d.toList
 |0,d,_=>Stb.refl _ _
 |j+1,d,h=>by
  unfold insInner;split
  ·next e=>
   obtain⟨A,B,e1,e2⟩:=Ku d j h;refine(pB Vd a j _ (by rw[swp_size];omega)).trans ?_;rw[e1,e2];simp only[Bool.and_eq_true]at e;exact MB A B _ _ (Vd _ _ e.2)
  ·exact Stb.refl _ _
theorem lB{f:α->Nat}{lt:α->α->Bool}(Vd:∀x y,lt x y=true->f y≠f x)(a b:Nat):∀(n i:Nat) (d:Array α),b-i<=n->b<=d.size->Stb f (insOuter lt a b i d).toList d.toList/\(insOuter lt a b i d).size=d.size
 |0,i,d,hn,hb=>by
  rw[insOuter,Pu zaa];exact⟨Stb.refl _ _,rfl⟩
 |n+1,i,d,hn,hb=>by
  rw[insOuter];split
  ·have ih:=lB Vd a b n (i+1) (insInner lt a i d) zaa (by rw[kf];exact hb);exact⟨ih.1.trans (pB Vd a i d zaa),ih.2.trans (kf _ _ _ _)⟩
  ·exact⟨Stb.refl _ _,rfl⟩
theorem LB(f:α->Nat)(d:Array α):(insertionSort (fun x y=>decide (f x<f y)) d 0 d.size).toList=srt f d.toList:=by
 have hs:=lB (f:=f) (lt:=fun x y=>decide (f x<f y)) (fun x y h=>by simp at h;omega) 0 d.size d.size (0+1) d zaa (Po _);have ho:=(insertionSort_holds (lt:=fun x y=>decide (f x<f y)) ⟨fun x=>zad,fun x y z h1 h2=>by simp at *;omega,fun x y z h1 h2=>by simp at *;omega⟩ d 0 d.size (PK _) (Po _)).2;refine D2 ?_ hs.1;refine List.pairwise_iff_getElem.2 fun i j hi hj XH=>?_;have Vf:(insertionSort (fun x y=>decide (f x<f y)) d 0 d.size).size=d.size:=hs.2;have hj':j<d.size:=by rw[<- Vf];simpa using hj
 have h:=ho i j (PK _) XH hj';rw[Tr _ i (by rw[Vf];omega),Tr _ j (by rw[Vf];omega)]at h;simp only[decide_eq_false_iff_not,Nat.not_lt]at h;simpa using h
theorem Jl(f:α->Nat)(d:Array α):(insertionSort (fun x y=>decide (f x<f y)) d 0 d.size).size=d.size:=
 (lB (f:=f) (lt:=fun x y=>decide (f x<f y)) (fun x y h=>by simp at h;omega) 0 d.size d.size (0+1) d zaa (Po _)).2
end Y
end
section
open Go.RowKit Go.Proofs Go.Shelf
def qZ:Go.Shelf.Ren:=⟨fun|20=>298|n=>n,fun|22=>399|24=>170|25=>415|n=>n,fun|n=>n⟩
theorem LR:Go.Proofs.SlLaysF.n20 prog qZ:={
 mixed:=zab
 f20:=⟨ "slices.insertionSortCmpFunc[*charts/wheels.node[charts/run.timer]]",zac,Tryz.func298.trans (congrArg some zab)⟩
 t0:=underlying0
 a0:=Tryz.isAgg0
 z0:=Tryz.sizeOf0
 v0:=T7
 t3:=underlying3
 a3:=Ux
 z3:=Uk
 v3:=Tx
 t4:=underlying4
 a4:=SU
 z4:=SI
 v4:=R5
 t22:=underlying399
 a22:=isAgg399
 z22:=sizeOf399
 v22:=zeroValue399
 a24:=Tryz.isAgg170
 z24:=Tryz.sizeOf170
 t25:=underlying415
 a25:=isAgg415
 z25:=sizeOf415
 v25:=zeroValue415 }
namespace Y
def ndC(x:Nd):List Value:=[ndP x.1]
abbrev NdS(W:World)(base:Nat)(sv:Value)(L:List Nd):Prop:=W.ownsRow base 170 1 sv L.length (L.flatMap ndC)
theorem rU(L:List Nd):L.flatMap ndC=L.map (fun x=>ndP x.1):=by
 induction L with
 |nil=>rfl
 |cons x L ih=>rw[QB,ih];rfl
variable {α:Type}[Inhabited α]
theorem GM{enc:α->Value}{o:Nat}{d:Array α}{cur:Array Value}{t:TypeId}{fz:Nat×Nat}(h:w.heap[g]?=some (.cells cur t fz)):(Sort.putRow enc w g o d).heap[g]?=some (.cells (Sort.putCells enc o d cur) t fz):=by
 simp[Sort.putRow,Sort.mapBlock,Array.getElem?_modify,h,Sort.onCells]
theorem GN(enc:α->Value)(w:World)(g o:Nat)(d:Array α)(n:Nat):Mo (·=g) w ((Sort.putRow enc w g o d).drewN n):=⟨rfl,rfl,rfl,by show w.heap.size<=(Sort.putRow enc w g o d).heap.size;simp[Sort.putRow,Sort.mapBlock],fun k _ hk=>by
 show(Sort.putRow enc w g o d).heap[k]?=_;have VB:¬g=k:=fun e=>hk e.symm;simp[Sort.putRow,Sort.mapBlock,Array.getElem?_modify,VB]⟩
theorem IU(a b:Nat):decide (yj a b<0)=decide (a<b):=by
 unfold yj;by_cases h:a<b
 ·simp[h]
 ·by_cases h2:b<a<;>simp[h,h2]
end Y
theorem AP(w:World)(g cap:Nat)(L:List Y.Nd)(cur:Array Value)(U9:L≠[])(hl:L.length<=1000)(hg:w.heap[g]?=some (.cells cur 170 (0,0)))(hcur:∀(j:Nat) (x:Y.Nd),L[j]?=some x->cur[j]?=some (Y.ndP x.1))(hN:∀x∈L,x.1≠g/\w.cell? x.1=some (.int .u64 x.2.t)):
  () 298 #[.slice g L.length cap,(0:Int),(L.length:Int),.func (.func 262) #[] #[]] w fun e w'=>e=.returned (.tuple #[])/\(∃cur',w'.heap[g]?=some (.cells cur' 170 (0,0))/\cur'.size=cur.size/\∀(j:Nat) (x:Y.Nd),(Y.srt (fun y:Y.Nd=>y.2.t) L)[j]?=some x->cur'[j]?=some (Y.ndP x.1))/\Mo (·=g) w w':=by
 obtain⟨x0,hx0⟩:∃x,x∈L:=List.exists_mem_of_ne_nil L U9
 haveI:Inhabited { x:Y.Nd // x∈L }:=⟨⟨x0,hx0⟩⟩
 have hds:L.attach.toArray.size=L.length:=zad;have hgs:g<w.heap.size:=(Pn.1 hg).1;have hfr:∀i,w.frozen? ⟨g,i,none⟩=false:=fun i=>by simp[World.frozen?,hg]
 have hd!:∀j (hj:j<L.length),L.attach.toArray[j]! =⟨L[j],P7 hj⟩:=fun j hj=>by
  rw[Tr _ j (by rw[hds];exact hj)];simp
 have Vd:ltOf (fun(x y:{ x:Y.Nd // x∈L })=>Y.yj x.1.2.t y.1.2.t)=fun x y=>decide (x.1.2.t<y.1.2.t):=by
  funext x y;exact Y.IU _ _
 have h:=Any.insertionSortCmpFunc_one (P:=prog) (ρ:=qZ) LR (α:={ x:Y.Nd // x∈L }) (fun x=>Y.ndP x.1.1) (fun _=>rfl) (fun x y=>Y.yj x.1.2.t y.1.2.t) 262 #[] g 0 cap 0 L.length L.attach.toArray w
  (RT func262 zab rfl)
  (fun m os dk hdk x y=>by
   have hc:∀z:{ x:Y.Nd // x∈L },(sortWorld (fun x:{ x:Y.Nd // x∈L }=>Y.ndP x.1.1) w g 0 m dk os).cell? ⟨z.1.1,0,none⟩=some (.int .u64 z.1.2.t):=fun z=>by
    obtain⟨h1,h2⟩:=hN z.1 z.2;have Zb:z.1.1<w.heap.size:=PW _ _ h2;unfold sortWorld;rw[Sort.cell?_grow _ _ ⟨z.1.1,0,none⟩ (by simp[Sort.putRow,Sort.mapBlock];exact Zb),Sort.cell?_putRow_other _ _ _ _ _ _ (.inl h1)];exact h2
   exact Ad _ _ _ _ _ (hc x) (hc y))
  (fun j hj=>by
   rw[hds]at hj;rw[hd! j hj,Rz];exact⟨by rw[Pt w _ _ _ _ _ hg];exact hcur j _ (Pp hj),hfr j⟩) (PK _) (by rw[hds];exact Po _) (by rw[hds];omega)
 rw[Vd,hds]at h;refine Pw h ?_;rintro e w' ⟨rfl,n,rfl⟩;have hs:=Y.LB (fun x:{ x:Y.Nd // x∈L }=>x.1.2.t) L.attach.toArray;have hz:=Y.Jl (fun x:{ x:Y.Nd // x∈L }=>x.1.2.t) L.attach.toArray;rw[hds]at hs hz;refine⟨rfl,⟨_,Y.GM hg,by simp[Sort.putCells],fun j x hx=>?_⟩,Y.GN _ _ _ _ _ _⟩;have hm:(Sort.insertionSort (fun x y:{ x:Y.Nd // x∈L }=>decide (x.1.2.t<y.1.2.t)) L.attach.toArray 0 L.length).toList.map (·.1)=Y.srt (fun y:Y.Nd=>y.2.t) L:=by
  rw[hs,Y.Fa (fun x:{ x:Y.Nd // x∈L }=>x.1) (fun y:Y.Nd=>y.2.t)]
  congr 1
  exact List.attach_map_subtype_val L
 generalize Sort.insertionSort (fun x y:{ x:Y.Nd // x∈L }=>decide (x.1.2.t<y.1.2.t)) L.attach.toArray 0 L.length=S at *;rw[<- hm]at hx;have hjS:j<S.size:=by
  have:=(Ps.1 hx).1;simpa using this
 have hjc:j<cur.size:=(Pn.1 (hcur j _ (Pp zaa))).1;rw[Pv,Pp (by simpa using hjS)]at hx;simp only[Option.map_some,Option.some.injEq]at hx;unfold Sort.putCells;rw[Array.getElem?_mapIdx,SC hjc];simp only[Option.map_some];rw[PC ⟨PK _,zaa⟩,Nat.sub_zero,Tr _ j hjS,<- hx];simp
theorem AQ(w:World)(sv:Value)(hsv:∃a c,sv=.slice a 0 c):() 298 #[sv,(0:Int),(0:Int),.func (.func 262) #[] #[]] w fun e w'=>e=.returned (.tuple #[])/\w'=w:=by
 obtain⟨a,c,rfl⟩:=hsv;go_enter func298,ntmps298;go_wp2;refine Tp 1 ?_;rw[T4];go_wp2;go_end0;exact⟨rfl,rfl⟩
namespace Y
def NdT(W:World)(L:List Nd):Prop:=∀x∈L,(∃c,W.heap[x.1]?=some (.cells c 302 (0,0)))/\W.cell? x.1=some (.int .u64 x.2.t)
theorem cV.ndT{L:List Nd}(h:cV W L):NdT W L:=fun x hx=>by
 obtain⟨i,hi⟩:=TY hx;have:=h i x hi;exact⟨⟨_,this⟩,by rw[Pt W _ _ _ _ _ this];rfl⟩
theorem rZ{α:Type}(f:α->Nat):∀L:List α,(srt f L).length=L.length
 |[]=>rfl
 |x::L=>by
  have h:∀(M:List α),(qE f x M).length=M.length+1:=fun M=>by
   induction M with
   |nil=>rfl
   |cons y M ih=>
    unfold qE;split
    ·rfl
    ·rw[Qw,ih,Qw]
  show(qE f x (srt f L)).length=_;rw[h,rZ f L,Qw]
end Y
theorem AR(w:World)(base:Nat)(sv:Value)(L:List Y.Nd)(h:Y.NdS w base sv L)(hl:L.length<=1000)(hN:Y.NdT w L):
  () 298 #[sv,(0:Int),(L.length:Int),.func (.func 262) #[] #[]] w fun e w'=>e=.returned (.tuple #[])/\Y.NdS w' base sv (Y.srt (fun y:Y.Nd=>y.2.t) L)/\Mo (fun k=>sv.ownBlock=some k) w w':=by
 by_cases U9:L=[]
 ·subst U9;have hsv:∃a c,sv=.slice a 0 c:=by
   rcases h.2 with⟨e,_⟩|⟨g,cap,cur,e,_⟩
   ·exact⟨none,0,e⟩
   ·exact⟨_,_,e⟩
  refine Pw (AQ w sv hsv) ?_;rintro e w' ⟨rfl,rfl⟩;exact⟨rfl,h,Mo.refl _ _⟩
 ·have hlen:=Y.rZ (fun y:Y.Nd=>y.2.t) L
  rcases h.2 with⟨e,h0⟩|⟨g,cap,cur,e,hb,hg,hle,Ww,Vf,htk⟩
  ·exact absurd (RC.1 h0) U9
  ·subst e;rw[Y.rU,SK]at htk;refine Pw (AP w g cap L cur U9 hl hg (fun j x hx=>?_) (fun x hx=>⟨fun e=>?_,(hN x hx).2⟩)) ?_
   ·have hj:=(Ps.1 hx).1;have:=congrArg (fun l:List Value=>l[j]?) htk;rw[QK hj,Pv,hx,QJ]at this;exact this
   ·obtain⟨c,hc⟩:=(hN x hx).1;rw[e,hg]at hc;simp at hc
   ·rintro e w' ⟨rfl,⟨cur',Xb,hs',Ve⟩,hm⟩;refine⟨rfl,?_,hm.mono (fun k _ hk=>za7)⟩;unfold Y.NdS;rw[hlen];refine⟨by rw[Y.rU,PE,hlen,SK],.inr ⟨g,cap,cur',rfl,hb,Xb,hle,Ww,zaa,?_⟩⟩;rw[Y.rU,SK];refine RA fun j=>?_;by_cases hj:j<L.length
    ·rw[QK hj,Pv,QJ,Pp (by rw[hlen];exact hj),Ve j _ (Pp (by rw[hlen];exact hj))];rfl
    ·rw[P6 (by rw[QN];omega),P6 (by rw[PE,hlen];omega)]
theorem D3(w:World)(base:Nat)(sv:Value)(L:List Y.Nd)(h:Y.NdS w base sv L)(hl:L.length<=19)(hN:Y.NdT w L):
  () 292 #[sv,(L.length:Int),.func (.func 262) #[] #[]] w fun e w'=>e=.returned (.tuple #[])/\Y.NdS w' base sv (Y.srt (fun y:Y.Nd=>y.2.t) L)/\Mo (fun k=>sv.ownBlock=some k) w w':=by
 have HI:Hid _:=AR w base sv L h zaa hN;have h1:¬(20:Int)<=(L.length:Int):=zaa;have h2:¬(20:Int)<(L.length:Int):=zaa;generalize hn:L.length=n at *;have HL:Hid (n<=19):=hl;clear h hN hn hl;go_enter func292,ntmps292;go_wp2;refine Tp 1 ?_;rw[T4];go_wp2_with(go_at_call 298;refine Pw HI.out ?_;rintro e w1 ⟨rfl,h3⟩);refine Tp 1 ?_;rw[T4];go_wp2;go_end0;exact⟨rfl,h3⟩
theorem uw(w:World)(base:Nat)(sv:Value)(L:List Y.Nd)(h:Y.NdS w base sv L)(hl:L.length<=19)(hN:Y.NdT w L):
  () 279 #[sv,.func (.func 262) #[] #[]] w fun e w'=>e=.returned (.tuple #[])/\Y.NdS w' base sv (Y.srt (fun y:Y.Nd=>y.2.t) L)/\Mo (fun k=>sv.ownBlock=some k) w w':=by
 have HI:Hid _:=D3 w base sv L h hl hN;obtain⟨sa,sc,rfl⟩:∃a c,sv=.slice a L.length c:=by
  rcases h.2 with⟨e,h0⟩|⟨g,cap,cur,e,_⟩
  ·exact⟨none,0,by rw[e,h0]⟩
  ·exact⟨_,_,e⟩
 clear h hN;go_enter func279,ntmps279;go_wp2_with(go_at_call 292;refine Pw HI.out ?_;rintro e w1 ⟨rfl,h3⟩);go_end0;exact⟨rfl,h3⟩
attribute [local go_sem] Qu
theorem Lz:(Tryz.prog.info? 170).map (fun i=>(i.zero,i.size,i.bytes))=some (some (.pointer none),1,8):=zab
namespace Y
theorem KpM.bel(h:Below n W W'):KpM (fun k _=>n<=k) W W':=⟨h.size,fun k _ _ _ hk hn=>(h.block k zaa).trans hk⟩
end Y
theorem uZ(w:World)(Bs:Nat)(L:List Y.Nd)(Vi:(L.map (·.1)).Nodup)(hb:w.cell? Bs=some (Y.aN L))(hR:Y.cV w L)(hl:L.length<=19):
  () 291 #[.slice none 0 0,.func (.func 228) #[] #[Bs]] w fun e w'=>∃sl:U.Sl,e=.returned (.slice sl.a sl.n sl.c)/\Y.NdS w' w (.slice sl.a sl.n sl.c) L/\Below w w w':=by
 obtain⟨i0,hi,Vv,Vk,Vl⟩:=QV Lz;have Xy:Bs<w.heap.size:=PW _ _ hb;refine(P8 (n:=8)).1 ?_;refine Qv func291 rfl trivial ?_ rfl;simp only[ntmps291,List.size_toArray,List.length_cons,List.length_nil,Nat.reduceAdd,Nat.reduceSub,Array.replicate_succ,Array.replicate_zero,List.push_toArray,List.append_toArray,List.nil_append,List.cons_append];gi_wp2;have c9:=P9 w 399 (.slice none 0 0);have VG:Below w w (w.alloc (.cells #[.slice none 0 0] 399)):=(Pq _ w).alloc (Po _) _;have Vf:(w.alloc (.cells #[.slice none 0 0] 399)).heap.size=w.heap.size+1:=zad;generalize w.alloc (.cells #[.slice none 0 0] 399)=W0 at *;have hN0:Y.cV W0 L:=fun i x hx=>(VG.block x.1 (Pn.1 (hR i x hx)).1).trans (hR i x hx);refine SN rfl zaa (gf:=228) rfl trivial (RT func228 zab rfl)
  (re (8-1) zaa Bs L Vi (fun k _=>w.heap.size<=k) W0 ((VG.cell (p:=Bs) Xy).trans hb) hN0 (fun _=>zaa) (fun x hx _ h=>by
   obtain⟨i,hi⟩:=P5.1 hx;have:=(Pn.1 (hR i x hi)).1;omega)) KpM.tr (fun V l o o' _ h hc _=>KpM.put V l o o' h hc) (Pq _ _) (fun _=>rfl)
  (fun pre W=>(∃v,Boxed W w 399 v/\W.ownsRow w 170 1 v pre.length (pre.flatMap Y.ndC)/\∃sl:U.Sl,v=.slice sl.a sl.n sl.c)/\Below w w W)
  (fun _ _ _=>False)
  (Qi (QU (holdsRow_own w w.heap.size 399 170 1 (fun pre:List Y.Nd=>pre.length) (fun pre=>pre.flatMap Y.ndC) (fun _ v=>∃sl:U.Sl,v=.slice sl.a sl.n sl.c)) _) (Ru (Po _) zaa))
  (fun _ _ _ _ _ hs _ _=>hs)
  ⟨⟨_,c9,QC _ _ _ _,⟨none,0,0⟩,rfl⟩,VG⟩
  (fun x a' _=>a'={ tmps:=#[.slice none 0 0,.func (.func 228) #[] #[Bs],w,undef,.slice none 0 0,.pointer (some ⟨x.1,0,none⟩),.func (.func 228) #[] #[Bs],.pointer (some ⟨x.1,0,none⟩),undef,undef,undef,undef,undef],defers:=[] })
  (fun _ _ _ _ _ _ hs _ _=>hs)
  ?assign ?body ?done ?stop
 case assign=>
  intro l pre x W K hI hK;gi_wp2;exact hK _ _ (QP _ _) (KpM.refl _ _) hI rfl
 case body=>
  rintro l pre x a' W _ _ ⟨⟨v,h9,U5,sl,rfl⟩,XP⟩ rfl Vd;have d9:=h9.cell;have f9:=h9.frozen;have hsW:=XP.size;gi_wp2_with(gi_at_builtin;refine wpListIn_append_own _ rfl _ _ 399 rfl w 170 i0 (.pointer none) 1 8 underlying399 hi Vv Vk Vl rfl zac _ _ _ rfl (U5.alloc _) ⟨W,0,none⟩ 1 1 [x.1] rfl rfl (cell_one_new _ _ _) zap zag zaa zaf ?_;intro v' w1 Vt Pg _;obtain⟨g',cap',rfl⟩:=ownsRow_succ Vt;obtain⟨VT,YW,XN,Wy,U4⟩:=h9.appended zac U5 hsW zaa Vt Pg;have Yy:=VT.cell;have hf1:=VT.frozen);exact⟨Wy.from _,Y.KpM.bel U4,⟨_,YW,by simpa[Y.ndC,Y.ndP] using XN,⟨some ⟨g',0,none⟩,pre.length+1,cap'⟩,rfl⟩,XP.trans U4⟩
 case done=>
  rintro D ys W hD WT ⟨⟨v,h9,U5,sl,rfl⟩,XP⟩ hK;exact zde
 case stop=>
  exact zfm
theorem Ah(w:World)(Bs:Nat)(L:List Y.Nd)(Vi:(L.map (·.1)).Nodup)(hb:w.cell? Bs=some (Y.aN L))(hR:Y.cV w L)(hl:L.length<=19):
  () 278 #[.func (.func 228) #[] #[Bs]] w fun e w'=>∃sl:U.Sl,e=.returned (.slice sl.a sl.n sl.c)/\Y.NdS w' w (.slice sl.a sl.n sl.c) L/\Below w w w':=by
 have HI:Hid _:=uZ w Bs L Vi hb hR hl;clear Vi hb hR;go_enter func278,ntmps278;go_wp2_with(go_at_call 291;refine Pw HI.out ?_;rintro e w1 ⟨sl,rfl,h3⟩);go_ret;exact⟨sl,rfl,h3⟩
theorem qM(w:World)(Bs:Nat)(L:List Y.Nd)(Vi:(L.map (·.1)).Nodup)(hb:w.cell? Bs=some (Y.aN L))(hR:Y.cV w L)(hl:L.length<=19):
  () 261 #[.func (.func 228) #[] #[Bs],.func (.func 262) #[] #[]] w fun e w'=>∃sl:U.Sl,e=.returned (.slice sl.a sl.n sl.c)/\Y.NdS w' w (.slice sl.a sl.n sl.c) (Y.srt (fun y:Y.Nd=>y.2.t) L)/\Below w w w':=by
 have HI:Hid _:=Ah w Bs L Vi hb hR hl;have HS:Hid (∀(V:World) (sl:U.Sl),Hid (Y.NdS V w (.slice sl.a sl.n sl.c) L/\Below w w V)->() 279 #[.slice sl.a sl.n sl.c,.func (.func 262) #[] #[]] V fun e w'=>e=.returned (.tuple #[])/\Hid (Y.NdS w' w (.slice sl.a sl.n sl.c) (Y.srt (fun y:Y.Nd=>y.2.t) L)/\Below w w w')):=fun V sl hV=>by
  have hN:Y.cV V L:=fun i x hx=>(hV.out.2.block x.1 (Pn.1 (hR i x hx)).1).trans (hR i x hx);refine Pw (uw V w _ L hV.out.1 hl hN.ndT) ?_;rintro e w' ⟨rfl,h1,h2⟩;refine⟨rfl,h1,h2.below hV.out.2 hV.out.2.size (fun i hi e=>?_)⟩
  rcases hV.out.1.2 with⟨e',_⟩|⟨g,cap,cur,e',hb,_⟩
  ·rw[e']at e;cases e
  ·rw[e']at e;have:g=i:=by simpa[Value.ownBlock] using e
   omega
 clear Vi hb hR;go_enter func261,ntmps261;go_wp2_with(first
  |(go_at_call 278;refine Pw HI.out ?_;rintro e w1 ⟨sl,rfl,h3⟩)
  |(go_at_call 279;refine Pw (HS.out _ sl h3) ?_;rintro e w2 ⟨rfl,h4⟩))
 go_ret;exact⟨sl,rfl,h4⟩
theorem CD(w:World)(L:List Y.Nd)(Vi:(L.map (·.1)).Nodup)(hR:Y.cV w L)(hl:L.length<=19):
  () 234 #[.agg #[Y.aN L]] w fun e w'=>∃sl:U.Sl,e=.returned (.slice sl.a sl.n sl.c)/\Y.NdS w' w (.slice sl.a sl.n sl.c) (Y.srt (fun y:Y.Nd=>y.2.t) L)/\Below w w w':=by
 have WD:Y.aN L=.pointer none\/∃b,Y.aN L=.pointer (some ⟨b,0,none⟩):=by
  unfold Y.aN;cases L.getLast? with
  |none=>exact .inl rfl
  |some z=>exact .inr ⟨z.1,rfl⟩
 have HT:Hid (∀(V:World) (Bs:Nat),V.cell? ⟨Bs,0,none⟩=some (Y.aN L)->Hid (Below w w V)->() 261 #[.func (.func 228) #[] #[.pointer (some ⟨Bs,0,none⟩)],.func (.func 262) #[] #[]] V fun e w'=>∃sl:U.Sl,e=.returned (.slice sl.a sl.n sl.c)/\Hid (Y.NdS w' w (.slice sl.a sl.n sl.c) (Y.srt (fun y:Y.Nd=>y.2.t) L)/\Below w w w')):=fun V Bs hc hV=>by
  have hN:Y.cV V L:=fun i x hx=>(hV.out.block x.1 (Pn.1 (hR i x hx)).1).trans (hR i x hx);refine Pw (qM V Bs L Vi hc hN hl) ?_;rintro e w' ⟨sl,rfl,h1,h2⟩;exact⟨sl,rfl,aJ h1 hV.out.size,hV.out.trans (h2.mono hV.out.size)⟩
 have HB:Hid (∀o1 o2:Obj,Below w w ((w.alloc o1).alloc o2)):=fun o1 o2=>((Pq _ w).alloc (Po _) _).alloc zad _;clear Vi hR;obtain⟨rv,VY⟩:∃rv,Y.aN L=rv:=⟨_,rfl⟩;have HNO:Hid (∀V,() 188 #[.agg #[rv]] V fun e w'=>e=.returned (.func (.func 228) #[] #[.pointer (some ⟨V.heap.size,0,none⟩)])/\w'=V.alloc (.cells #[rv] 172)):=fun V=>nH rv V (VY▸WD);rw[VY]at HT⊢;have HC:Hid (((w.alloc (.cells #[rv] 172)).alloc (.cells #[rv] 172)).cell? ↑(w.heap.size+1)=some rv):=by
  unfold Hid;simp
 rw[VY]at WD;have HSH:Hid _:=WD;clear VY
 rcases HSH.out with rfl|⟨b,rfl⟩
 all_goals
  clear WD HSH;go_enter func234,ntmps234;go_wp2_with(first
   |(go_at_call 188;refine Pw (HNO.out _) ?_;rintro e w1 ⟨rfl,Vg⟩;rw[Vg];clear Vg w1)
   |(go_at_call 261;refine Pw (HT.out _ _ HC.out (HB.out _ _)) ?_;rintro e w2 ⟨sl,rfl,h4⟩))
  go_ret;exact⟨sl,rfl,h4⟩
attribute [local go_sem] Qu
namespace Y
def byT(R:Nat->List Nd)(r:Nat):List Nd:=srt (fun y:Nd=>y.2.t) (R r)
def zV(R:Nat->List Nd)(hv:Nat->Nat):List Nd:=(gY hv).flatMap (byT R)
theorem AA{α β:Type}{f:α->List β}{a b:List α}(h:a <+: b):a.flatMap f <+: b.flatMap f:=by
 obtain⟨t,rfl⟩:=h;rw[Qc];exact Ur _ _
theorem GW(l:List Nd):aN l=.pointer none\/∃b,aN l=.pointer (some ⟨b,0,none⟩):=by
 exact zd3
structure Hx(w:World)(mb:Nat)(R:Nat->List Nd)(hv:Nat->Nat)(B:Nat->TypeId->Prop):Prop where
 rd:∀Bs V,KpM B w V->Boxed V Bs 296 (mb,27)->Cn V Bs mb R hv
 nds:∀r,isR r->cV w (R r)
 nod:∀r,isR r->((R r).map (·.1)).Nodup
 len:∀r,isR r->(R r).length<=19
 far:∀r,isR r->∀x∈R r,∀t,¬B x.1 t
 mb':∀t,¬B mb t
 tab':∀t,¬B 5 t
 lt:∀k t,B k t->k<w.heap.size\/t=163
theorem Hx.flat{w:World}{mb:Nat}{R:Nat->List Nd}{hv:Nat->Nat}{B:Nat->TypeId->Prop}(h:Hx w mb R hv B):∀rs:List Nat,(∀q∈rs,isR q)->(rs.flatMap (byT R)).length<=19*rs.length
 |[],_=>Po _
 |q::rs,hq=>by
  have:=h.flat rs (fun x hx=>hq x (P3 _ hx));have:=h.len q (hq q (PZ ..));rw[QB,PI,Qw];unfold byT at *;rw[rZ];omega
theorem KpN.lo{B:Nat->TypeId->Prop}{m:Nat}{V V':World}(h:KpN B m V V')(hmn:m<=n):KpN B n V V':=⟨h.1,h.2.size,fun k o hk ho hc=>h.2.same k o zaa ho hc⟩
end Y
theorem JQ(n:Nat)(hn:6<=n)(Bs mb:Nat)(R:Nat->List Y.Nd)(hv:Nat->Nat)(YL:∀k,k<6->hv k<18446744073709551616)(B:Nat->TypeId->Prop)(w:World)(hN:Y.Hx w mb R hv B)(hc:Boxed w Bs 296 (mb,27))(Xy:¬B Bs 296):
  H6 Fence.wide n prog 232 #[Bs] (fun x:Y.Nd=>#[Value.pointer (some ⟨x.1,0,none⟩)]) (KpN B (w.heap.size+2)) (fun xs x=>(∃r,Y.isR r/\x∈R r)/\xs.length<=8000) (fun xs=>xs=Y.zV R hv) (fun xs=>xs <+: Y.zV R hv) w:=fun l J Jx W hW hWs hJ hJx hY h0=>by
 have hcW:=(show Boxed W Bs _ _ from(KpM.below (B:=B) hW).2 _ _ _ _ hc Xy).cell;have hn1:1<=n:=zaa;refine Qv func232 rfl trivial ?_ rfl;simp only[ntmps232,List.size_toArray,List.length_cons,List.length_nil,Nat.reduceAdd,Nat.reduceSub,Array.replicate_succ,Array.replicate_zero,List.push_toArray,List.append_toArray,List.nil_append,List.cons_append];have Yy:(W.alloc (.cells #[.func (.yield l) #[] #[]] 394)).cell? Bs=_:=o8 ((Pq _ W).alloc (Po _) _) hcW;gi_wp2_with(refine⟨trivial,?_⟩;gi_at_call 233;refine(P8.2 (xg mb 27 _)).mono ?_;rintro e w9 ⟨rfl,U1⟩;rw[U1];clear U1 w9);have Vh:Below W W ((W.alloc (.cells #[.func (.yield l) #[] #[]] 394)).alloc (.cells #[(mb,27)] 296)):=((Pq _ W).alloc (Po _) _).alloc zad _;have by1:=(P9 W 394 (.func (.yield l) #[] #[])).alloc (.cells #[(mb,27)] 296);have bx1:=P9 (W.alloc (.cells #[.func (.yield l) #[] #[]] 394)) 296 (mb,27);simp only[World.size_alloc]at bx1;have hJ1:J [] ((W.alloc (.cells #[.func (.yield l) #[] #[]] 394)).alloc (.cells #[(mb,27)] 296)):=hJ.alloc _ (hJ.alloc _ h0);have WR:((W.alloc (.cells #[.func (.yield l) #[] #[]] 394)).alloc (.cells #[(mb,27)] 296)).heap.size=W.heap.size+2:=zad;generalize(W.alloc (.cells #[.func (.yield l) #[] #[]] 394)).alloc (.cells #[(mb,27)] 296)=W1 at *;have hK1:KpM B w W1:=(KpM.below hW).tr (KpM.below Vh);have Vd:=hN.lt;have WD:=fun r=>Y.GW (R r);have hdr:∀{K:List Y.Nd->World->Prop},OwnFrom W K->∀xs A C,Below A.heap.size A C->K xs A->K xs C:=fun{K} hK xs A C hb h=>hK xs A C none h ⟨hb.os,hb.tape,hb.output,hb.size,fun k hk _=>hb.block k hk⟩ (fun r e=>zaI);refine Br rfl zaa (gf:=259) rfl trivial (RT func259 zab rfl)
  (BD (n-1) zaa (W.heap.size+1) mb R hv YL B W1 (hN.rd _ W1 hK1 bx1) (fun h=>by rcases Vd _ _ h with h|h;have:=hW.size;omega;exact absurd h zac) hN.mb' hN.tab' (fun k t h=>(Vd k t h).imp (fun h=>by have:=hW.size;omega) id))
  KpN.tr (fun V o o' h ho=>KpN.put zaa V o o' h ho) (fun _=>rfl)
  (fun rs V=>J (rs.flatMap (Y.byT R)) V/\KpN B (w.heap.size+2) W1 V) (fun rs V=>∃ys,ys <+: rs.flatMap (Y.byT R)/\Jx ys V)
  (Qi (fun rs A C row h hg hr=>hJ _ A C row h hg (fun r e=>⟨zas,(hr r e).2⟩)) (KpN.own (Po _)))
  (fun rs A C row h hg hr=>by obtain⟨ys,h1,h2⟩:=h;exact⟨ys,h1,hJx _ A C row h2 hg (fun r e=>⟨zas,(hr r e).2⟩)⟩)
  ⟨hJ1,KpN.refl _ _ _⟩
  (fun r a' V=>∃b,a'={ tmps:=#[.func (.yield l) #[] #[],.pointer (some ⟨Bs,0,none⟩),.pointer (some ⟨W.heap.size,0,none⟩),.pointer (some ⟨b,0,none⟩),undef,undef,.pointer (some ⟨mb,27,none⟩),.func (.func 259) #[] #[.pointer (some ⟨W.heap.size+1,0,none⟩)],.agg #[Y.aN (R r)],undef,undef,undef,undef,undef,undef,undef,undef,undef,undef,undef,undef],defers:=[] }/\Boxed V b 172 (Y.aN (R r))/\W1.heap.size<=b)
  (fun r a' u A C row h hg hr=>by
   obtain⟨b,e,hb,hl⟩:=h;exact⟨b,e,QU (QM (β:=Unit) b 172 (fun _=>Y.aN (R r))) _ () A C row hb hg hr,hl⟩)
  ?assign ?body ?done ?stop
 case assign=>
  intro l2 rs r V K hI hK;have hVs:=hI.2.1.1;have VK:∀o,Below V V (V.alloc o):=fun o=>(Pq _ V).alloc (Po _) _;have Wy:∀rv:Value,Y.aN (R r)=rv->K _ (V.alloc (.cells #[rv] 172)):=fun rv e=>hK _ _ ((Uz _ _).from _) (KpN.below (VK _)) ⟨hdr hJ _ _ _ (VK _) hI.1,hI.2.tr (KpN.below (VK _))⟩ ⟨V.heap.size,rfl,e▸P9 V _ _,hVs⟩;exact zdL
 case body=>
  rintro l2 rs r a' V hl ⟨rl,Xv⟩ ⟨Y1,hrsl,hrsm⟩ ⟨hJV,Za⟩ ⟨b,rfl,hb,VM⟩;have hfl:=hN.flat rs hrsm;have VX:=hb.cell;have hKw:KpM B w V:=hK1.tr Za.1;have hRV:Y.cV V (R r):=fun i x hx=>hKw.2 _ _ _ _ (hN.nds r Y1 i x hx) (hN.far r Y1 x (PD hx) _);have hbt:=CD V (R r) (hN.nod r Y1) hRV (hN.len r Y1);have ZG:1<=n-1-1:=zaa;obtain⟨L,hL⟩:∃L,Y.srt (fun y:Y.Nd=>y.2.t) (R r)=L:=⟨_,rfl⟩;have HL:Hid (Y.byT R r=L):=hL;have hLm:∀x∈L,x∈R r:=fun x hx=>by rw[<- hL]at hx;exact Y.lI.1 hx
  have hl19:L.length<=19:=by rw[<- hL,Y.rZ];exact hN.len r Y1
  rw[hL]at hbt;obtain⟨rv,VY⟩:∃rv,Y.aN (R r)=rv:=⟨_,rfl⟩;rw[VY]at VX hbt⊢;clear hL VY hRV WD;gi_wp2_with(refine⟨trivial,?_⟩;gi_at_call 234;refine(aI hbt).mono ?_;rintro e V2 ⟨⟨sa,sn,sc⟩,rfl,U5,V6⟩;dsimp only at U5⊢);have Wh:sn=L.length:=by
   rcases U5.2 with⟨e,h0⟩|⟨g,cap,cur,e,_⟩
   ·simp at e;omega
   ·simp at e;omega
  subst Wh;have Wr:∀(i:Nat) (x:Y.Nd),L[i]?=some x->∃g cur,sa=some ⟨g,0,none⟩/\V.heap.size<=g/\V2.heap[g]?=some (.cells cur 170 (0,0))/\cur[i]?=some (Y.ndP x.1):=fun i x hx=>by
   have hi:=(Ps.1 hx).1
   rcases U5.2 with⟨e,h0⟩|⟨g,cap,cur,e,VZ,hg,hle,Ww,Vf,htk⟩
   ·omega
   ·simp at e;refine⟨g,cur,e.1,VZ,hg,?_⟩;rw[Y.rU,SK]at htk;have h2:=congrArg (fun l:List Value=>l[i]?) htk;simpa[List.getElem?_take_of_lt hi,hx] using h2
  have hJ2:=hdr hJ _ _ _ V6 hJV;have hK2:KpN B (w.heap.size+2) W1 V2:=Za.tr (KpN.below V6);have hVs:=Za.1.1;have hWs2:=hW.size;clear hbt U5 VX;refine wpIn_loop (fun a' U=>∃(i:Nat) (u5 u13 u14 u15 u16 u17 u18 u19 u20:Value),a'={ tmps:=#[.func (.yield l) #[] #[],Bs,W,b,undef,u5,(mb,27),.func (.func 259) #[] #[↑(W.heap.size+1)],.agg #[rv],.agg #[rv],.slice sa L.length sc,(L.length:Int),(i:Int),u13,u14,u15,u16,u17,u18,u19,u20],defers:=[] }/\i<=L.length/\J (rs.flatMap (Y.byT R)++L.take i) U/\KpN B (w.heap.size+2) V2 U) (fun a' _=>L.length-(intOf (a'.tmps.getD 12 undef)).toNat) ?_ ?_
  ·exact⟨0,_,_,_,_,_,_,_,_,_,rfl,PK _,by simpa using hJ2,KpN.refl _ _ _⟩
  rintro a'' U ⟨i,u5,u13,u14,u15,u16,u17,u18,u19,u20,rfl,hiL,hJU,hKU⟩;have hKW1:=hK2.tr hKU;have hyc:U.cell? W=some (.func (.yield l) #[] #[]):=(Y.KpM.bx Vd hKW1.1 by1 hWs2).cell;have hKVU:KpN B (w.heap.size+2) V U:=(KpN.below V6).tr hKU;by_cases hi:i<L.length
  ·obtain⟨x,hx⟩:∃x,L[i]?=some x:=⟨_,Pp hi⟩;obtain⟨g,cur,rfl,hgV,Wv,hgc⟩:=Wr i x hx;have hgU:U.cell? (g,i)=some ↑x.1:=(Pt U _ _ _ _ _ (hKU.1.2 _ _ _ _ Wv (fun h=>by rcases Vd _ _ h with h'|h';omega;exact absurd h' zac))).trans hgc;have XJ:(i:Int)<(L.length:Int):=zaa;obtain⟨fn,tm,asg,bd,hy,hRo⟩:=hY _ x U hJU ⟨⟨r,Y1,hLm x (PD hx)⟩,by rw[PI,QN];omega⟩;have HX:Hid (rs.flatMap (Y.byT R)++L.take i++[x]=rs.flatMap (Y.byT R)++L.take (i+1)):=by
    unfold Hid;rw[Qd,dM hx]
   (try dsimp only at hy)
   gi_wp2;refine(ur nV (dP l2) hRo).mono ?_;rintro e U' (⟨rfl,hJ',VB⟩|⟨rfl,hJ',VB⟩)
   ·gi_wp2;refine⟨⟨i+1,_,_,_,_,_,_,_,_,_,rfl,zaa,by rw[<- HX.out];exact hJ',hKU.tr VB⟩,?_⟩;show L.length-((i:Int)+1).toNat<L.length-(i:Int).toNat;omega
   ·gi_wp2;have Wy:=hKVU.tr VB;refine⟨(Y.KpN.lo Wy zaa).2,Y.KpN.lo Wy zaa,_,?_,hJ'⟩;rw[HX.out,Qc,RH,HL.out];exact(Ua _).2 (List.take_prefix _ _)
  ·have hie:i=L.length:=zaa;subst hie;gi_wp2;refine⟨(Y.KpN.lo hKVU zaa).2,Y.KpN.lo hKVU zaa,?_,Za.tr hKVU⟩;rw[Qc,RH,HL.out];rw[Qy]at hJU;exact hJU
 case done=>
  rintro D rs V hD hrs ⟨hJV,Za⟩ Vm;subst hrs;gi_wp2;refine⟨zad,.inl ⟨_,_,rfl,Qn Vm,?_⟩⟩;exact⟨_,QD rfl _ _ _,⟨_,rfl⟩,.inl ⟨_,rfl,hJ.putObj _ hJV zaa Vm rfl⟩⟩
 case stop=>
  rintro D rs V hD hrs ⟨ys,WT,hJV⟩ Vm;gi_wp2;refine⟨zad,.inl ⟨_,_,rfl,Qn Vm,?_⟩⟩;exact⟨_,QD rfl _ _ _,⟨_,rfl⟩,.inr ⟨ys,WT.trans (Y.AA hrs),hJx.putObj _ hJV zaa Vm rfl⟩⟩
attribute [local go_sem] Qu
theorem uV{F:Fence}(hF:Wd F){P:Program}{ops:Array Oper}{Q:Exit->Act->World->Prop}{a:Act}{rest:List Oper}{o:Oper}(hg:o.guard=none)(Vi:∀c,o.op≠.defer c)(h:∀K:Act->World->Prop,(∀a w,wpListIn F n P ops Q rest a w->K a w)->o.wp P a w K Q):wpListIn F n P ops Q (o::rest) a w:=
 wpListIn_plain hg fun K hK=>⟨fun _ _=>hF.fn _,by
  rw[Oper.semAt_eq _ _ _ Vi];exact Fj hF _ (h K hK)⟩
theorem DC(mb o:Nat)(w:World):() 190 #[(mb,o)] w fun e w'=>e=.returned (.func (.func 232) #[] #[w])/\w'=w.alloc (.cells #[(mb,o)] 296):=by
 go_enter func190,ntmps190;exact zfr
theorem Bb(V:World)(g:Nat)(v:Value)(h:V.cell? g=some v):(loadVar 170 ⟨g,0,none⟩).run prog V=.ok v V:=by
 simp[loadVar,Sem.run_bind,Tryz.isAgg170,go_sem,h]
namespace Y
def CV(L:List Nd):Value:=match L.head? with|some x=>ndP x.1|none=>.pointer none
end Y
theorem FX(w:World)(mb:Nat)(R:Nat->List Y.Nd)(hv:Nat->Nat)(YL:∀k,k<6->hv k<18446744073709551616)(hN:∀W0,Below w w W0->W0.heap.size=w.heap.size+2->Y.Hx W0 mb R hv (fun k _=>k=w.heap.size)):
  () 129 #[(mb,27)] w fun e w'=>e=.returned (Y.CV (Y.zV R hv))/\Below w w w':=by
 refine(P8 (n:=9)).1 ?_;refine Qv func129 rfl trivial ?_ rfl;simp only[ntmps129,List.size_toArray,List.length_cons,List.length_nil,Nat.reduceAdd,Nat.reduceSub,Array.replicate_succ,Array.replicate_zero,List.push_toArray,List.append_toArray,List.nil_append,List.cons_append];gi_wp2_with(refine⟨trivial,?_⟩;gi_at_call 190;refine(P8.2 (DC mb 27 _)).mono ?_;rintro e w9 ⟨rfl,U1⟩;rw[U1];clear U1 w9);have b0:=(P9 w 170 (.pointer none)).alloc (.cells #[(mb,27)] 296);have b1:=P9 (w.alloc (.cells #[.pointer none] 170)) 296 (mb,27);simp only[World.size_alloc]at b1;have VG:Below w w ((w.alloc (.cells #[.pointer none] 170)).alloc (.cells #[(mb,27)] 296)):=((Pq _ w).alloc (Po _) _).alloc zad _;have Y2:((w.alloc (.cells #[.pointer none] 170)).alloc (.cells #[(mb,27)] 296)).heap.size=w.heap.size+2:=zad;generalize(w.alloc (.cells #[.pointer none] 170)).alloc (.cells #[(mb,27)] 296)=W0 at *;refine Br rfl zaa (gf:=232) rfl trivial (RT func232 zab rfl)
  (JQ 8 zaa (w.heap.size+1) mb R hv YL (fun k _=>k=w.heap.size) W0 (hN W0 VG Y2) b1 zaa)
  KpN.tr (fun V o o' h ho=>KpN.put zaa V o o' h ho) (fun _=>rfl)
  (fun xs V=>(xs=[]/\Boxed V w 170 (.pointer none))/\Below w w V)
  (fun xs V=>(∃x:Y.Nd,xs=[x]/\Boxed V w 170 (Y.ndP x.1))/\Below w w V)
  (Qi (Qi (ownFrom_pure _ _) (QU (QM _ _ _) _)) (Ru (Po _) zaa))
  (Qi (fun xs A C row h hg hr=>by
   obtain⟨x,e,hb⟩:=h;exact⟨x,e,QU (QM (β:=Unit) w.heap.size 170 (fun _=>Y.ndP x.1)) _ () A C row hb hg hr⟩) (Ru (Po _) zaa))
  ⟨⟨rfl,b0⟩,VG⟩
  (fun x a' _=>a'={ tmps:=#[(mb,27),undef,w,.pointer (some ⟨x.1,0,none⟩),(mb,27),.func (.func 232) #[] #[↑(w.heap.size+1)],.pointer (some ⟨x.1,0,none⟩),undef],defers:=[] })
  (fun _ _ _ _ _ _ hs _ _=>hs) ?assign ?body ?done ?stop
 case assign=>
  intro l xs x V K hI hK;gi_wp2;exact hK _ _ (QP _ _) (KpN.refl _ _ _) hI rfl
 case body=>
  rintro l xs x a' V hl _ _ ⟨⟨rfl,VP⟩,hB⟩ rfl;have hc:=VP.cell;have hf:=VP.frozen;gi_wp2;exact⟨(Qz _ _ _).from _,KpN.set _ _ _ (fun _=>rfl),⟨x,rfl,VP.set _⟩,hB.setCell (p:=w) (Po _) _⟩
 case done=>
  rintro D xs V hD WE ⟨⟨rfl,VP⟩,hB⟩ Vm;have hc:=VP.cell;have hf:=VP.frozen;have Vq:=VP.set (.pointer none);gi_wp2;refine⟨zad,.inl ⟨_,_,rfl,Qn (w:=V.setCell w (.pointer none)) ((Qg V _ _ D (by show D≠w.heap.size;omega)).trans Vm),?_⟩⟩;have VL:Below w w ((V.setCell w (.pointer none)).putObj D (.deferred none)):=(hB.setCell (p:=w) (Po _) _).trans (R3 (w:=w) (Po _) _ D _ _ zaa ((Qg V _ _ D (by show D≠w.heap.size;omega)).trans Vm) rfl rfl);have hcd:((V.setCell w (.pointer none)).putObj D (.deferred none)).cell? w=some (.pointer none):=(PN (Qs (by show w.heap.size≠D;omega))).trans Vq.cell;refine⟨.pointer none,?_,by rw[<- WE];rfl,VL⟩;exact zeU
 case stop=>
  rintro D xs V hD Xq ⟨⟨x,rfl,VP⟩,hB⟩ Vm;gi_wp2;refine⟨zad,.inl ⟨_,_,rfl,Qn Vm,?_⟩⟩;have hcd:(V.putObj D (.deferred none)).cell? w=some (Y.ndP x.1):=(PN (Qs (by show w.heap.size≠D;omega))).trans VP.cell;refine⟨Y.ndP x.1,?_,?_,hB.trans (R3 (w:=w) (Po _) _ D _ _ zaa Vm rfl rfl)⟩
  ·exact zeU
  ·obtain⟨t,ht⟩:=Xq;unfold Y.CV;rw[<- ht];rfl
namespace Y
theorem du.nil{lo:Y.Lo}(hM:aw W lo mb pb qv s)(h:du W lo s.wh R)(hr:isR r)(Vb:lo<=W.heap.size):
  aw (W.setCell (mb,28+r) (.pointer none)) lo mb pb qv { s with wh:=upd s.wh (28+r) (.pointer none) }/\du (W.setCell (mb,28+r) (.pointer none)) lo (upd s.wh (28+r) (.pointer none)) (upd R r [])/\Rw lo W (W.setCell (mb,28+r) (.pointer none)):=by
 have Xv:=hr.lt;have hm:Mo (·=mb) W (W.setCell (mb,28+r) (.pointer none)):=(Mo.refl _ _).set _ _ rfl;have hR:Rm lo W (W.setCell (mb,28+r) (.pointer none)):=RfE.mo hm (fun j hj=>by
  obtain⟨arr,a1,_⟩:=hM.blk;subst hj;exact⟨hM.lo',arr,_,_,a1,rfl⟩) Vb
 refine⟨hM.E7 (28+r) _ zaa zaa,?_,Kg hR⟩;have h2:=h.kd hR.kd (by unfold Md;decide);have Vs:∀q x,x∈upd R r [] q->x∈R q:=fun q x hx=>by
  by_cases e:q=r
  ·subst e;rw[aE]at hx;cases hx
  ·rw[aH _ _ e]at hx;exact hx
 refine⟨fun q hq=>?_,fun q hq=>?_,fun q hq x hx=>h2.low q hq x (Vs q x hx),fun p q hp hq hpq x hx y hy=>h2.dis p q hp hq hpq x (Vs p x hx) y (Vs q y hy),fun q hq=>?_⟩
 ·by_cases e:q=r
  ·subst e;rw[aE,aE];rfl
  ·rw[aH _ _ e,aH _ _ zaa];exact h.ring q hq
 ·by_cases e:q=r
  ·subst e;rw[aE];exact cV.nil _
  ·rw[aH _ _ e];exact h2.nds q hq
 ·by_cases e:q=r
  ·subst e;rw[aE];exact UT
  ·rw[aH _ _ e];exact h2.nod q hq
theorem N5{i:Nat}(hi:i+1<m.length):nxt m i=nxt (f::m) (i+1):=by
 unfold nxt;rw[RW,Pp hi]
theorem du.tl{lo:Y.Lo}(hM:aw W lo mb pb qv s)(h:du W lo s.wh R)(hr:isR r)(Vb:lo<=W.heap.size){z:Nd}(hf:R r=f::m)(hz:m.getLast?=some z):
  aw (W.setCell (z.1,3) (nxt (f::m) 0)) lo mb pb qv s/\du (W.setCell (z.1,3) (nxt (f::m) 0)) lo s.wh (upd R r m)/\Rw lo W (W.setCell (z.1,3) (nxt (f::m) 0)):=by
 have U9:m≠[]:=fun e=>zaZ;have Wk:0<m.length:=Ry.2 U9;have Xa:m[m.length-1]?=some z:=zaA;have hn:=h.nds r hr;rw[hf]at hn;have hzn:=hn (m.length-1+1) z (by rw[RW];exact Xa);have hm:Mo (·=z.1) W (W.setCell (z.1,3) (nxt (f::m) 0)):=(Mo.refl _ _).set _ _ rfl;have Z0:z∈R r:=by rw[hf];exact P3 _ (PD Xa)
 have hR:Rw lo W (W.setCell (z.1,3) (nxt (f::m) 0)):=RfE.mo hm (fun j hj=>by
  subst hj;exact⟨h.low r hr z Z0,_,_,_,hzn,.inr rfl⟩) Vb
 have Vi:=h.nod r hr;rw[hf,Q7,Ta]at Vi;have Vs:∀q x,x∈upd R r m q->x∈R q:=fun q x hx=>by
  by_cases e:q=r
  ·subst e;rw[aE]at hx;rw[hf];exact P3 _ hx
  ·rw[aH _ _ e]at hx;exact hx
 refine⟨hM.mo hm (fun e=>hM.typ hzn e) (fun g hg e=>?_),⟨fun q hq=>?_,fun q hq=>?_,fun q hq x hx=>h.low q hq x (Vs q x hx),fun p q hp hq hpq x hx y hy=>h.dis p q hp hq hpq x (Vs p x hx) y (Vs q y hy),fun q hq=>?_⟩,hR⟩
 ·obtain⟨c',Ve⟩:=hM.que.kind g hg;rw[e,hzn]at Ve;simp at Ve
 ·by_cases e:q=r
  ·subst e;rw[aE,h.ring q hq,hf];unfold aN;rw[List.getLast?_cons,hz];rfl
  ·rw[aH _ _ e];exact h.ring q hq
 ·by_cases e:q=r
  ·subst e;rw[aE];intro i x hx;have hi:=(Ps.1 hx).1;by_cases ei:i=m.length-1
   ·subst ei;rw[Xa]at hx;cases hx
    rw[show nxt m (m.length-1)=nxt (f::m) 0 by
     rw[jG (Pp Wk)];unfold nxt;rw[RW,Pp Wk]]
    exact PR W z.1 3 _ _ _ hzn
   ·rw[N5 (f:=f) (m:=m) (i:=i) zaa];refine(Qg W _ _ x.1 (fun e'=>ei ?_)).trans (hn (i+1) x (by rw[RW];exact hx));have e1:(m.map (·.1))[i]?=(m.map (·.1))[m.length-1]?:=by rw[Pv,Pv,hx,Xa];simp only[Option.map_some];rw[e']
    have XJ:i<(m.map (·.1)).length:=zbw;have hj':m.length-1<(m.map (·.1)).length:=zaf;rw[Pp XJ,Pp hj']at e1;have ea:=Vi.2.idxOf_getElem i XJ;have eb:=Vi.2.idxOf_getElem (m.length-1) hj';rw[Qh e1]at ea;omega
  ·rw[aH _ _ e];exact(h.nds q hq).mo hm (fun x hx=>h.dis q r hq hr e x hx z Z0)
 ·by_cases e:q=r
  ·subst e;rw[aE];exact Vi.2
  ·rw[aH _ _ e];exact h.nod q hq
end Y
theorem GX(w:World)(c o fb:Nat)(hc:w.cell? (c,o)=some (Y.ndP fb))(Xj:w.frozen? (c,o)=false)(x:Y.Tn)(hn:w.heap[fb]?=some (.cells (Y.eU x (Y.ndP fb)) 302 (0,0))):
  () 225 #[(c,o)] w fun e w'=>e=.returned (Y.ndP fb)/\w'=w.setCell (c,o) (.pointer none):=by
 have n3:w.cell? (fb,3)=some (Y.ndP fb):=zaX;have heq:=ji w fb fb ⟨_,hn⟩ ⟨_,hn⟩;rw[show decide (fb=fb)=true by simp]at heq;unfold Y.ndP at hc n3⊢;clear hn;go_enter func225,ntmps225;go_wp2;go_ret;exact⟨rfl,rfl⟩
theorem GY(w:World)(c o fb zb nb:Nat)(hc:w.cell? (c,o)=some (Y.ndP zb))(x y:Y.Tn)(hn:w.heap[fb]?=some (.cells (Y.eU x (Y.ndP nb)) 302 (0,0)))(hz:w.heap[zb]?=some (.cells (Y.eU y (Y.ndP fb)) 302 (0,0)))(U9:fb≠zb):
  () 225 #[(c,o)] w fun e w'=>e=.returned (Y.ndP fb)/\w'=w.drew.setCell (zb,3) (Y.ndP nb):=by
 have n3:w.cell? (fb,3)=some (Y.ndP nb):=zaX;have z3:w.cell? (zb,3)=some (Y.ndP fb):=by rw[Pt w _ _ _ _ _ hz];rfl
 have zf:w.drew.frozen? (zb,3)=false:=by show w.frozen? _=_;simp[World.frozen?,hz]
 have heq:=ji w fb zb ⟨_,hn⟩ ⟨_,hz⟩;rw[show decide (fb=zb)=false by simp[U9]]at heq;unfold Y.ndP at hc n3 z3⊢;have Ve:w.drew.cell? (c,o)=_:=hc;have n3':w.drew.cell? (fb,3)=_:=n3;have z3':w.drew.cell? (zb,3)=_:=z3;clear hn hz U9;go_enter func225,ntmps225
 go_upto_region 4 with fail
 refine eD 8 zab zab ?_;simp only[List.take_succ_cons,List.take_zero,List.drop_succ_cons,List.drop_zero]
 repeat still_step
 refine QY ?_;go_wp2;go_ret;exact⟨rfl,rfl⟩
theorem Kj(w:World)(lo:Y.Lo)(mb pb:Nat)(qv:Value)(s:Y.MSt)(R:Nat->List Y.Nd)(r:Nat)(f:Y.Nd)(m:List Y.Nd)(hM:Y.aw w lo mb pb qv s)(h:Y.du w lo s.wh R)(Vb:lo<=w.heap.size)(hr:Y.isR r)(hf:R r=f::m):
  () 225 #[(mb,28+r)] w fun e w'=>e=.returned (Y.ndP f.1)/\Hid (∃wh',Y.aw w' lo mb pb qv { s with wh:=wh' }/\Y.du w' lo wh' (Y.upd R r m)/\Y.Rw lo w w'/\(∀i,i≠28+r->wh' i=s.wh i)/\∃v,w'.heap[f.1]?=some (.cells (Y.eU f.2 v) 302 (0,0))):=by
 have Xv:=hr.lt;have hn:=h.nds r hr;have hc:=(hM.whc (28+r) zaa zaa).trans (congrArg some (h.ring r hr));rw[hf]at hn hc;have hf0:=hn 0 f rfl;cases hz:m.getLast? with
 |none=>
  have hm:m=[]:=R7.1 hz;subst hm;refine Pw (GX w mb (28+r) f.1 hc (hM.frozen _) f.2 hf0) ?_;rintro e w' ⟨rfl,rfl⟩;obtain⟨a,b,c⟩:=h.nil hM hr Vb;exact⟨rfl,_,a,b,c,fun i hi=>Y.aH _ _ hi,_,(Qg w _ _ f.1 (fun e=>hM.typ hf0 e.symm)).trans hf0⟩
 |some z=>
  have U9:m≠[]:=fun e=>zaZ;have Wk:0<m.length:=Ry.2 U9;have Xa:m[m.length-1]?=some z:=zaA;have hzn:=hn (m.length-1+1) z (by rw[RW];exact Xa);have Vi:=h.nod r hr;rw[hf,Q7,Ta]at Vi;have Xj:f.1≠z.1:=fun e=>Vi.1 (P0.2 ⟨z,PD Xa,e.symm⟩);have e1:Y.aN (f::m)=Y.ndP z.1:=by unfold Y.aN;rw[List.getLast?_cons,hz];rfl
  have e2:Y.nxt (f::m) (m.length-1+1)=Y.ndP f.1:=by
   have:=Y.jG (l:=f::m) (f:=f) rfl;rw[Qw,Un]at this;rw[show m.length-1+1=m.length by omega];exact this
  have e3:Y.nxt (f::m) 0=Y.ndP m[0].1:=by
   unfold Y.nxt;rw[RW,Pp Wk]
  rw[e1]at hc;rw[e2]at hzn;rw[e3]at hf0;refine Pw (GY w mb (28+r) f.1 z.1 m[0].1 hc f.2 z.2 hf0 hzn Xj) ?_;rintro e w' ⟨rfl,rfl⟩;have hd:=(Pq w w).drew;obtain⟨a,b,c⟩:=(h.below hd).tl (hM.below hd) hr Vb hf hz;rw[e3]at a b c;exact⟨rfl,s.wh,a,b,(Y.RfE.of hd Vb).trans c,fun _ _=>rfl,_,(Qg w.drew _ _ f.1 Xj).trans hf0⟩
theorem Y.kZ.marked{wh wh1:Nat->Value}{sl h:Nat}(hH:Y.kZ wh R)(hk:k<6)(hs:sl<64)(h2:wh (28+(k*65+64))=.int .u64 h)(h1:h<18446744073709551616)(hw:∀i,i≠28+(k*65+sl)->wh1 i=wh i)(h3:∀s,s<64->h.testBit s=!(R (k*65+s)).isEmpty):
  Y.kZ (Y.upd wh1 (28+(k*65+64)) (.int .u64 (Y.iY h sl m.isEmpty))) (Y.upd R (k*65+sl) m):=fun k' VB=>by
 by_cases e:k'=k
 ·subst e;refine⟨_,Y.pJ h1 hs,Y.aE _ _ _,fun j hj=>?_⟩;rw[Y.nE hs j hj];by_cases e:j=sl
  ·subst e;rw[PC rfl,Y.aE]
  ·rw[Pu e,Y.aH _ _ zaa];exact h3 j hj
 ·obtain⟨g,g1,g2,g3⟩:=hH k' VB;refine⟨g,g1,?_,fun j hj=>?_⟩
  ·rw[Y.aH _ _ zaa,hw _ zaa];exact g2
  ·rw[Y.aH _ _ zaa];exact g3 j hj
theorem xG(w:World)(lo:Y.Lo)(mb pb:Nat)(qv:Value)(s:Y.MSt)(wh0:Nat->Value)(R:Nat->List Y.Nd)(k sl:Nat)(m:List Y.Nd)(hM:Y.aw w lo mb pb qv s)(h:Y.du w lo s.wh (Y.upd R (k*65+sl) m))(hH:Y.kZ wh0 R)(Vb:lo<=w.heap.size)(hk:k<6)(hs:sl<64)(hw:∀i,i≠28+(k*65+sl)->s.wh i=wh0 i):
  () 226 #[(mb,28+k*65),(sl:Int)] w fun e w'=>e=.returned (.tuple #[])/\Hid (∃wh',Y.aw w' lo mb pb qv { s with wh:=wh' }/\Y.WhM w' lo { s with wh:=wh' } (Y.upd R (k*65+sl) m)/\Y.Rw lo w w'/\∃V:World,V.heap=w.heap/\∃p v,w'=V.setCell p v/\p.block=mb):=by
 have hr:Y.isR (k*65+sl):=.inl zaa;obtain⟨g,h1,h2,h3⟩:=hH k hk;have hg:s.wh (28+(k*65+64))=.int .u64 g:=(hw _ zaa).trans h2;have hring:=h.ring _ hr;rw[Y.aE]at hring;refine Pw (tL w mb (28+k*65) sl m g hs h1 (by rw[QG];exact(hM.whc (28+(k*65+sl)) zaa zaa).trans (congrArg some hring)) (by rw[QG];exact(hM.whc (28+(k*65+64)) zaa zaa).trans (congrArg some hg)) (hM.frozen _)) ?_;rintro e w' ⟨rfl,rfl⟩;obtain⟨a2,b2,c2⟩:=h.mark hM k hk (.int .u64 (Y.iY g sl m.isEmpty)) Vb;exact⟨rfl,_,a2,⟨b2,hH.marked hk hs h2 h1 hw h3⟩,c2,w.drew,rfl,_,_,rfl,rfl⟩
theorem KL(w:World)(lo:Y.Lo)(mb pb:Nat)(qv:Value)(s:Y.MSt)(R:Nat->List Y.Nd)(k sl:Nat)(f:Y.Nd)(m:List Y.Nd)(hM:Y.aw w lo mb pb qv s)(hW:Y.WhM w lo s R)(Vb:lo<=w.heap.size)(hk:k<6)(hs:sl<64)(hf:R (k*65+sl)=f::m):
  () 186 #[(mb,28+k*65),(sl:Int)] w fun e w'=>e=.returned (Y.ndP f.1)/\Hid (∃wh',Y.aw w' lo mb pb qv { s with wh:=wh' }/\Y.WhM w' lo { s with wh:=wh' } (Y.upd R (k*65+sl) m)/\Y.Rw lo w w'/\∃v,w'.heap[f.1]?=some (.cells (Y.eU f.2 v) 302 (0,0))):=by
 have hr:Y.isR (k*65+sl):=.inl zaa;have HP:Hid (() 225 #[(mb,28+k*65+sl)] w fun e w'=>e=.returned (Y.ndP f.1)/\Hid (∃wh',Y.aw w' lo mb pb qv { s with wh:=wh' }/\Y.du w' lo wh' (Y.upd R (k*65+sl) m)/\Y.Rw lo w w'/\(∀i,i≠28+(k*65+sl)->wh' i=s.wh i)/\∃v,w'.heap[f.1]?=some (.cells (Y.eU f.2 v) 302 (0,0)))):=by
  unfold Hid;rw[QG];exact Kj w lo mb pb qv s R _ f m hM hW.rgs Vb hr hf
 have HK:Hid (∀V:World,Hid (∃wh',Y.aw V lo mb pb qv { s with wh:=wh' }/\Y.du V lo wh' (Y.upd R (k*65+sl) m)/\Y.Rw lo w V/\(∀i,i≠28+(k*65+sl)->wh' i=s.wh i)/\∃v,V.heap[f.1]?=some (.cells (Y.eU f.2 v) 302 (0,0)))->() 226 #[(mb,28+k*65),(sl:Int)] V fun e w'=>e=.returned (.tuple #[])/\Hid (∃wh',Y.aw w' lo mb pb qv { s with wh:=wh' }/\Y.WhM w' lo { s with wh:=wh' } (Y.upd R (k*65+sl) m)/\Y.Rw lo w w'/\∃v,w'.heap[f.1]?=some (.cells (Y.eU f.2 v) 302 (0,0)))):=fun V hV=>by
  obtain⟨wh1,a,b,c,d,v,hv⟩:=hV.out;refine Pw (xG V lo mb pb qv { s with wh:=wh1 } s.wh R k sl m a b hW.held (Pr Vb c.bel.size) hk hs d) ?_;rintro e w' ⟨rfl,x⟩;obtain⟨wh2,a2,b2,c2,V2,hV2,p,u,rfl,hp⟩:=x.out;exact⟨rfl,wh2,a2,b2,c.trans c2,v,(Qg V2 p u f.1 (fun e=>a.typ hv (by rw[<- hp];exact e.symm))).trans (by rw[hV2];exact hv)⟩
 have hs':(sl:Int)<64:=zaa;clear hM hW hf hr;go_enter func186,ntmps186;go_wp2_with(first
  |(go_at_call 225;refine Pw HP.out ?_;rintro e w1 ⟨rfl,h1⟩)
  |(go_at_call 226;refine Pw (HK.out _ h1) ?_;rintro e w2 ⟨rfl,h2⟩))
 go_ret;exact⟨rfl,h2⟩
theorem p9:(Tryz.prog.info? 172).map (·.size)=some 1:=zab
theorem GU:Tryz.f227.results=#[.cell 4 172]:=rfl
namespace Y
theorem RfE.JK{E:TypeId->Prop}{lo:Y.Lo}(h:RfE E lo w W)(U8:lo<=w.heap.size)(hm:Mo (fun k=>w.heap.size<=k) W W'):RfE E lo w W':=by
 have Vf:=h.bel.size;exact⟨⟨hm.os.trans h.bel.os,hm.tape.trans h.bel.tape,hm.output.trans h.bel.output,Pr Vf hm.size,fun k hk=>(hm.block k zaa zaa).trans (h.bel.block k hk)⟩,
  ⟨Pr h.kd.size hm.size,fun k c t f hk hn=>by
   have:=(Pn.1 hk).1;exact(hm.block k zaa zaa).trans (h.kd.aq k c t f hk hn)⟩,
  ⟨Pr h.oth.size hm.size,fun k o hk ho=>by
   have:=(Pn.1 hk).1;exact(hm.block k zaa zaa).trans (h.oth.same k o hk ho)⟩,
  fun k hk hn=>(hm.block k zaa zaa).trans (h.own k hk hn)⟩
structure Emp(w V w':World)(lo:Y.Lo)(mb pb:Nat)(qv:Value)(s:MSt)(R:Nat->List Nd)(r:Nat):Prop where
 ex:∃wh',aw w' lo mb pb qv { s with wh:=wh' }/\WhM w' lo { s with wh:=wh' } (upd R r [])
 rf:Rw lo w w'
 mo:Mo (·=mb) V w'
theorem pW(l:List Nd):aN l=.pointer none\/∃b,aN l=.pointer (some ⟨b,0,none⟩):=by
 exact zd3
theorem Emp.box{V w':World}{lo:Y.Lo}(h:Emp w V w' lo mb pb qv s R r)(U8:lo<=w.heap.size){v u:Value}(hg:w'.heap[g]?=some (.cells #[v] 172 (0,0)))(hgw:w.heap.size<=g)(hgV:V.heap.size<=g\/True)(hw:Below w w V):Emp w w (w'.setCell g u) lo mb pb qv s R r:=by
 obtain⟨wh',a,b⟩:=h.ex;have hm:Mo (·=g) w' (w'.setCell g u):=(Mo.refl _ _).set _ _ rfl;have hk:Kd (fun t=>t=172) w' (w'.setCell g u):=gS hm (fun k c t f hp hc=>by
  subst hp;rw[hg]at hc;cases hc
  rfl)
 refine⟨⟨wh',a.mo hm (fun e=>?_) (fun q hq e=>?_),⟨b.rgs.kd hk zac,b.held⟩⟩,h.rf.JK U8 (hm.mono (fun k _ hk=>zaa)),?_⟩
 ·obtain⟨arr,a1,_⟩:=a.blk;rw[e,hg]at a1;simp at a1
 ·obtain⟨c',Ve⟩:=a.que.kind q hq;rw[e,hg]at Ve;simp at Ve
 ·have h1:Mo (·=mb) w w':=⟨h.mo.os.trans hw.os,h.mo.tape.trans hw.tape,h.mo.output.trans hw.output,Pr hw.size h.mo.size,fun k hk hn=>(h.mo.block k (by have:=hw.size;omega) hn).trans (hw.block k hk)⟩;exact h1.trans' hm (fun i hi e=>zaa)
end Y
theorem FU(w V:World)(lo:Y.Lo)(mb pb:Nat)(qv:Value)(s:Y.MSt)(R:Nat->List Y.Nd)(k sl:Nat)(hM:Y.aw w lo mb pb qv s)(hW:Y.WhM w lo s R)(Vb:lo<=w.heap.size)(hk:k<6)(hs:sl<64)(hV:Below w w V):
  () 226 #[(mb,28+k*65),(sl:Int)] (V.setCell (mb,28+k*65+sl) (.pointer none)) fun e w'=>e=.returned (.tuple #[])/\Hid (Y.Emp w V w' lo mb pb qv s R (k*65+sl)):=by
 have hr:Y.isR (k*65+sl):=.inl zaa;have hlV:=Pr Vb hV.size;rw[QG];obtain⟨a,b,c⟩:=(hW.rgs.below hV).nil (hM.below hV) hr hlV;refine Pw (xG _ lo mb pb qv { s with wh:=Y.upd s.wh (28+(k*65+sl)) (.pointer none) } s.wh R k sl [] a b hW.held (Pr hlV c.bel.size) hk hs (fun i hi=>Y.aH _ _ hi)) ?_;rintro e w' ⟨rfl,x⟩;obtain⟨wh2,a2,b2,c2,V2,hV2,p,u,rfl,hp⟩:=x.out;refine⟨rfl,⟨wh2,a2,b2⟩,(Y.RfE.of hV Vb).trans (c.trans c2),?_⟩;have hc:=c.trans c2;refine⟨hc.bel.os,hc.bel.tape,hc.bel.output,hc.bel.size,fun j hj hn=>?_⟩;rw[Qg V2 p u j (fun e=>hn (e.trans hp)),hV2];exact Qg V _ _ j hn
theorem Ek(w:World)(lo:Y.Lo)(mb pb:Nat)(qv:Value)(s:Y.MSt)(R:Nat->List Y.Nd)(k sl:Nat)(hM:Y.aw w lo mb pb qv s)(hW:Y.WhM w lo s R)(Vb:lo<=w.heap.size)(hk:k<6)(hs:sl<64):
  () 227 #[(mb,28+k*65),(sl:Int)] w fun e w'=>e=.returned (.agg #[Y.aN (R (k*65+sl))])/\Hid (Y.Emp w w w' lo mb pb qv s R (k*65+sl)):=by
 have hr:Y.isR (k*65+sl):=.inl zaa;have hmb:=hM.lt;have hcv:∀V,Below w w V->V.cell? (mb,28+k*65+sl)=some (Y.aN (R (k*65+sl)))/\V.frozen? (mb,28+k*65+sl)=false:=fun V hV=>by
  rw[QG];exact⟨((hM.below hV).whc (28+(k*65+sl)) zaa zaa).trans (congrArg some ((hW.rgs.below hV).ring _ hr)),(hM.below hV).frozen _⟩
 have WD:=Y.pW (R (k*65+sl));obtain⟨rv,VY⟩:∃rv,Y.aN (R (k*65+sl))=rv:=⟨_,rfl⟩;rw[VY]at hcv WD⊢;have Vh:Below w w (w.alloc (.cells #[.pointer none] 172)):=(Pq _ w).alloc (Po _) _;have V6:Below w w ((w.alloc (.cells #[.pointer none] 172)).alloc (.cells #[rv] 172)):=Vh.alloc zad _;obtain⟨c1,f1⟩:=hcv _ Vh;obtain⟨c2,f2⟩:=hcv _ V6;have hem:=FU w _ lo mb pb qv s R k sl hM hW Vb hk hs V6;rw[World.setCell_alloc_past _ _ _ _ zaf,World.setCell_alloc_past _ _ _ _ hmb]at hem;have HM:Hid _:=hem;clear hem;have hs':(sl:Int)<64:=zaa;have ZU:Hid _:=V6;have g0:((w.alloc (.cells #[.pointer none] 172)).alloc (.cells #[rv] 172)).heap[w.heap.size]?=some (.cells #[.pointer none] 172 (0,0)):=(QS _ _ _ zad).trans (PG w _);have g1:((w.alloc (.cells #[.pointer none] 172)).alloc (.cells #[rv] 172)).heap[w.heap.size+1]?=some (.cells #[rv] 172 (0,0)):=by
  have:=PG (w.alloc (.cells #[.pointer none] 172)) (.cells #[rv] 172);simpa using this
 have HG:Hid (∀w',Y.Emp w ((w.alloc (.cells #[.pointer none] 172)).alloc (.cells #[rv] 172)) w' lo mb pb qv s R (k*65+sl)->w'.heap[w.heap.size]?=some (.cells #[.pointer none] 172 (0,0))/\w'.heap[w.heap.size+1]?=some (.cells #[rv] 172 (0,0))):=fun w' h=>⟨(h.mo.block _ zaf zaa).trans g0,(h.mo.block _ zad zaa).trans g1⟩;clear hM hW hcv VY Vh V6 g0 g1 hr
 rcases WD with rfl|⟨b,rfl⟩
 all_goals
  go_enter func227,ntmps227;go_wp2_with(go_at_call 226;refine Pw HM.out ?_;rintro e w4 ⟨rfl,h4⟩;obtain⟨q0,q1⟩:=HG.out _ h4.out;have k1:=Pt w4 _ 0 _ _ _ q1;have k0:=Pt w4 _ 0 _ _ _ q0;have z0:w4.frozen? w=false:=zbj);refine eh GU w _ _ _ _ rfl (PR w4 w 0 _ _ _ q0) underlying172 rfl p9 rfl ?_;exact⟨rfl,h4.out.box Vb q0 (Po _) (.inr trivial) ZU.out⟩
theorem um:Tryz.f187.results=#[.cell 6 172]:=rfl
theorem CQ(w:World)(lo:Y.Lo)(mb pb:Nat)(qv:Value)(s:Y.MSt)(R:Nat->List Y.Nd)(sl:Nat)(hM:Y.aw w lo mb pb qv s)(hW:Y.WhM w lo s R)(Vb:lo<=w.heap.size):
  () 187 #[(mb,27),(6:Int),(sl:Int)] w fun e w'=>e=.returned (.agg #[Y.aN (R 390)])/\Hid (Y.Emp w w w' lo mb pb qv s R 390):=by
 have hr:Y.isR 390:=.inr rfl;have hmb:=hM.lt;have hcv:∀V,Below w w V->V.cell? ⟨mb,418,none⟩=some (Y.aN (R 390))/\V.frozen? ⟨mb,418,none⟩=false:=fun V hV=>
  ⟨((hM.below hV).whc 418 zaa zaa).trans (congrArg some ((hW.rgs.below hV).ring _ hr)),(hM.below hV).frozen _⟩
 have WD:=Y.pW (R 390);obtain⟨rv,VY⟩:∃rv,Y.aN (R 390)=rv:=⟨_,rfl⟩;rw[VY]at hcv WD⊢;have Vh:Below w w (w.alloc (.cells #[.pointer none] 172)):=(Pq _ w).alloc (Po _) _;have V6:Below w w ((w.alloc (.cells #[.pointer none] 172)).alloc (.cells #[rv] 172)):=Vh.alloc zad _;obtain⟨c1,f1⟩:=hcv _ Vh;obtain⟨c2,f2⟩:=hcv _ V6;obtain⟨a,b,c⟩:=hW.rgs.nil hM hr Vb;have HE:Hid (∀o1 o2:Obj,Y.Emp w w (((w.setCell (mb,418) (.pointer none)).alloc o1).alloc o2) lo mb pb qv s R 390):=fun o1 o2=>by
  have hb:Below (w.setCell (mb,28+390) (.pointer none)).heap.size (w.setCell (mb,28+390) (.pointer none)) (((w.setCell (mb,28+390) (.pointer none)).alloc o1).alloc o2):=((Pq _ _).alloc (Po _) _).alloc zad _;refine⟨⟨_,a.below hb,b.below hb,fun k hk=>?_⟩,c.trans (Y.RfE.of hb (by simp;exact Vb)),((Mo.refl (·=mb) w).set _ _ rfl).trans (az hb)⟩;exact zdm
 clear hM hW hcv VY Vh V6 hr a b c
 rcases WD with rfl|⟨q,rfl⟩
 ·go_enter func187,ntmps187;go_wp2;refine eh um w 172 #[.pointer none] (0,0) _ rfl ?_ underlying172 rfl p9 rfl ⟨rfl,HE.out _ _⟩;refine(QS _ _ _ zad).trans ?_;have:=PG (w.setCell (mb,418) (.pointer none)) (.cells #[.pointer none] 172);simpa using this
 ·go_enter func187,ntmps187;go_wp2;refine eh um w 172 #[q] (0,0) _ rfl ?_ underlying172 rfl p9 rfl ⟨rfl,HE.out _ _⟩;refine(QS _ _ _ zad).trans ?_;have:=PG (w.setCell (mb,418) (.pointer none)) (.cells #[q] 172);simpa using this
theorem CR(w:World)(lo:Y.Lo)(mb pb:Nat)(qv:Value)(s:Y.MSt)(R:Nat->List Y.Nd)(k sl:Nat)(hM:Y.aw w lo mb pb qv s)(hW:Y.WhM w lo s R)(Vb:lo<=w.heap.size)(hk:k<6)(hs:sl<64):
  () 187 #[(mb,27),(k:Int),(sl:Int)] w fun e w'=>e=.returned (.agg #[Y.aN (R (k*65+sl))])/\Hid (Y.Emp w w w' lo mb pb qv s R (k*65+sl)):=by
 have WD:=Y.pW (R (k*65+sl));have Vh:Below w w (w.alloc (.cells #[.pointer none] 172)):=(Pq _ w).alloc (Po _) _;have HK:Hid (() 227 #[(mb,28+k*65),(sl:Int)] (w.alloc (.cells #[.pointer none] 172)) fun e w'=>e=.returned (.agg #[Y.aN (R (k*65+sl))])/\w'.heap[w.heap.size]?=some (.cells #[.pointer none] 172 (0,0))/\Hid (∀u,Y.Emp w w (w'.setCell w u) lo mb pb qv s R (k*65+sl))):=by
  refine Pw (Ek _ lo mb pb qv s R k sl (hM.below Vh) ⟨hW.rgs.below Vh,hW.held⟩ (Pr Vb Vh.size) hk hs) ?_;rintro e w' ⟨rfl,h⟩;have hmb:=hM.lt;have hq:w'.heap[w.heap.size]?=some (.cells #[.pointer none] 172 (0,0)):=(h.out.mo.block _ zad zaa).trans (PG w _);have h2:Y.Emp w (w.alloc (.cells #[.pointer none] 172)) w' lo mb pb qv s R (k*65+sl):=⟨h.out.ex,(Y.RfE.of Vh Vb).trans h.out.rf,h.out.mo⟩;exact⟨rfl,hq,fun u=>h2.box Vb hq (Po _) (.inr trivial) Vh⟩
 obtain⟨rv,VY⟩:∃rv,Y.aN (R (k*65+sl))=rv:=⟨_,rfl⟩;rw[VY]at WD HK⊢;have XS:((k:Int) == 6)=false:=zaf;have VB:(k:Int)<6:=zaa;clear hM hW VY Vh
 rcases WD with rfl|⟨q,rfl⟩
 all_goals
  go_enter func187,ntmps187;go_wp2_with(go_at_call 227;refine Pw HK.out ?_;rintro e w4 ⟨rfl,q0,h4⟩;have k0:=Pt w4 _ 0 _ _ _ q0;have z0:w4.frozen? w=false:=zbj);refine eh um w _ _ _ _ rfl (PR w4 w 0 _ _ _ q0) underlying172 rfl p9 rfl ?_;exact⟨rfl,h4.out _⟩
theorem J5(w:World)(lo:Y.Lo)(mb pb:Nat)(qv:Value)(s:Y.MSt)(R:Nat->List Y.Nd)(n:Nat)(x:Y.Tn)(v:Value)(hM:Y.aw w lo mb pb qv s)(hW:Y.WhM w lo s R)(Vb:lo<=w.heap.size)(Vr:s.now<18446744073709551616)(hxt:x.t<18446744073709551616)(hn:w.heap[n]?=some (.cells (Y.eU x v) 302 (0,0)))(WC:∀q,Y.isR q->∀y∈R q,y.1≠n)(U8:lo.ok n):
  () 189 #[(mb,27),n] w fun e w'=>e=.returned (.tuple #[])/\∃wh',Y.aw w' lo mb pb qv { s with wh:=wh' }/\Y.WhM w' lo { s with wh:=wh' } (Y.upd R (Y.place s.now x.t) (R (Y.place s.now x.t)++[(n,x)]))/\Y.Rw lo w w'/\Mo (fun k=>k=mb\/k=n\/∃q,Y.isR q/\∃y∈R q,k=y.1) w w':=by
 have hn0:w.cell? n=some (.int .u64 x.t):=zaX;have hc27:w.cell? (mb,27)=some (.int .u64 s.now):=hM.cell 27 zac;have hsp:=qb w mb 27 s.now x.t Vr hxt hc27;have hr:=Y.gD s.now x.t;have hmn:=hM.typ hn;have Ym:∀q,Y.isR q->mb ∉ (R q).map (·.1):=fun q hq e=>by
  exact zdW
 have hnr:∀q,Y.isR q->n ∉ (R q).map (·.1):=fun q hq e=>by
  obtain⟨y,hy,e⟩:=P0.1 e;exact WC q hq y hy e
 have Zw:∀(w9:World) (r:Nat),Y.isR r->w9.heap[n]?=some (.cells (Y.eU x v) 302 (0,0))->Y.du w9 lo s.wh R->Mo (fun k=>k=mb\/k=n\/∃q,Y.isR q/\∃y∈R q,k=y.1) w9 (Y.eL w9 ⟨mb,28+r,none⟩ (R r) n):=fun w9 r hr ZH Wg=>(Y.cV.push (p:=⟨mb,28+r,none⟩) (Wg.nds r hr) (Wg.nod r hr) ZH (hnr r hr) hmn (Ym r hr)).2.mono (fun k _ h=>h.imp id (fun h=>h.imp id (fun⟨z,hz,e⟩=>⟨r,hr,z,RD hz,e⟩)));have hKl:=Y.fs s.now x.t;have YK:=Y.fR s.now x.t;have VI:Y.place s.now x.t=if Y.aP s.now x.t=6 then 390 else Y.aP s.now x.t*65+Y.gF s.now x.t:=rfl;generalize Y.place s.now x.t=r at *;generalize Y.aP s.now x.t=K at *;generalize Y.gF s.now x.t=S at *;by_cases hK:K=6
 ·subst hK;rw[PC rfl]at VI;subst VI;have H:Hid (∀w9,Below w w w9->() 230 #[(mb,418),n] w9 fun e w'=>e=.returned (.tuple #[])/\∃wh',Y.aw w' lo mb pb qv { s with wh:=wh' }/\Y.WhM w' lo { s with wh:=wh' } (Y.upd R 390 (R 390++[(n,x)]))/\Y.Rw lo w w'/\Mo (fun k=>k=mb\/k=n\/∃q,Y.isR q/\∃y∈R q,k=y.1) w w'):=fun w9 hb=>by
   have Wn:=hM.below hb;have Wg:=hW.rgs.below hb;have ZH:=(hb.block n (Pn.1 hn).1).trans hn;refine(nN w9 mb 418 (R 390) n x v ((Wn.whc 418 zaa zaa).trans (congrArg some (Wg.ring 390 hr))) (Wn.frozen _) (Wg.nds 390 hr) ZH (hnr 390 hr) hmn (Ym 390 hr)).mono ?_;rintro e w' ⟨rfl,rfl⟩;obtain⟨a,b,c⟩:=Wg.push (r:=390) Wn hr (Pr Vb hb.size) ZH WC U8;refine⟨rfl,_,a,⟨b,fun k hk=>?_⟩,(Y.RfE.of hb Vb).trans c,(az hb).trans (Zw w9 390 hr ZH Wg)⟩;exact zdm
  clear hW hM Ym hnr WC hn U8 hr hmn Zw;exact zc2
 ·rw[Pu hK]at VI;subst VI;have hK5:K<6:=zaa;have hKb:((K:Int) == 6)=false:=zaf;have H:Hid (∀w9,Below w w w9->() 231 #[(mb,28+K*65),(S:Int),n] w9 fun e w'=>e=.returned (.tuple #[])/\∃wh',Y.aw w' lo mb pb qv { s with wh:=wh' }/\Y.WhM w' lo { s with wh:=wh' } (Y.upd R (K*65+S) (R (K*65+S)++[(n,x)]))/\Y.Rw lo w w'/\Mo (fun k=>k=mb\/k=n\/∃q,Y.isR q/\∃y∈R q,k=y.1) w w'):=fun w9 hb=>by
   have Wn:=hM.below hb;have Wg:=hW.rgs.below hb;have ZH:=(hb.block n (Pn.1 hn).1).trans hn;obtain⟨h,h1,h2,h3⟩:=hW.held K hK5;refine(xI w9 mb (28+K*65) S (R (K*65+S)) n x v h YK h1 zb8 (fun i=>Wn.frozen i) zca (Wg.nds _ hr) ZH (hnr _ hr) hmn (Ym _ hr)).mono ?_;rintro e w' ⟨rfl,rfl⟩;obtain⟨a,b,c⟩:=Wg.push (r:=K*65+S) Wn hr (Pr Vb hb.size) ZH WC U8;rw[QG 28 (K*65) S];obtain⟨a2,b2,c2⟩:=b.mark a K hK5 (.int .u64 (Y.iY h S false)) (Pr Vb (Pr hb.size c.bel.size));refine⟨rfl,_,a2,⟨b2,fun k hk=>?_⟩,(Y.RfE.of hb Vb).trans (c.trans c2),((az hb).trans (Zw w9 (K*65+S) hr ZH Wg)).trans ((az ((Pq _ _).drew)).trans ((Mo.refl _ _).set _ _ (.inl rfl)))⟩;exact zcP
  clear hW hM Ym hnr WC hn U8 hr hmn Zw;exact zc6
end
section
namespace Y
theorem Ep(a b n:Nat):(a ^^^ b)<2 ^ n↔a / 2 ^ n=b / 2 ^ n:=by
 rw[<- Nat.shiftRight_eq_div_pow,<- Nat.shiftRight_eq_div_pow];constructor
 ·intro h;refine Nat.eq_of_testBit_eq fun i=>?_;rw[S4,S4];have:=TH (PY h (Rc zac (Sc n i)));rw[Nat.testBit_xor]at this;cases h1:a.testBit (n+i)<;>cases h2:b.testBit (n+i)<;>simp_all
 ·intro h;refine Nat.lt_pow_two_of_testBit _ fun i hi=>?_;have h1:(a >>> n).testBit (i-n)=(b >>> n).testBit (i-n):=by rw[h]
  rw[S4,S4,show n+(i-n)=i by omega]at h1;rw[Nat.testBit_xor,h1];simp
theorem bk{now t:Nat}(hn:now<18446744073709551616)(ht:t<18446744073709551616)(hk:k<6):aP now t<=k↔t / 64 ^ (k+1)=now / 64 ^ (k+1):=by
 have e:(64:Nat) ^ (k+1)=2 ^ (6*(k+1)):=by rw[Nat.pow_mul]
 rw[e,<- Ep];have h1:(t ^^^ now)<2 ^ (6*(k+1))↔((t ^^^ now)|||1)<2 ^ (6*(k+1)):=by
  have h2:1<2 ^ (6*(k+1)):=Nat.one_lt_two_pow zaa;constructor
  ·intro h;exact Qt h h2
  ·intro h;exact Qq Nat.left_le_or h
 rw[h1];unfold aP;have hx:((t ^^^ now)|||1)<2 ^ 64:=Qt (Nat.xor_lt_two_pow ht hn) zac;have hx0:(t ^^^ now)|||1≠0:=wS _;generalize(t ^^^ now)|||1=x at *;obtain⟨b1,b2,b3⟩:=TW 64 x hx hx0;have hL:Lib.bitLen x=Lib.bitLenAux 64 x:=rfl;rw[hL];generalize Lib.bitLenAux 64 x=L at *;constructor
 ·intro h;exact PY b3 (Rc zac zaa)
 ·intro h;have:L-1<6*(k+1):=(Nat.pow_lt_pow_iff_right (by decide:1<2)).1 (Qq b2 h);omega
theorem fQ(now t:Nat):gF now t=t / 64 ^ aP now t % 64:=by
 unfold gF;rw[show(2:Nat) ^ (aP now t*6)=64 ^ aP now t by rw[Nat.mul_comm,Nat.pow_mul]]
theorem Lj{a b c:Nat}(h1:a<=b)(h2:b<=c)(h:c / n=a / n):b / n=a / n:=by
 have:=T5 (c:=n) h1;have:=T5 (c:=n) h2;omega
section
variable {now a b:Nat}(hn:now<18446744073709551616)(ha:a<18446744073709551616)(hb:b<18446744073709551616)
theorem ux(hn:now<18446744073709551616)(ha:a<18446744073709551616)(hb:b<18446744073709551616)(h1:now<=a)(h2:a<=b):aP now a<=aP now b:=by
 have h6:=fs now a;by_cases hk:aP now b<6
 ·exact(bk hn ha hk).2 (Lj h1 h2 ((bk hn hb hk).1 (Po _)))
 ·omega
theorem ue(hn:now<18446744073709551616)(ha:a<18446744073709551616)(hb:b<18446744073709551616)(h1:now<=a)(h2:a<=b):place now a<=place now b:=by
 have hK:=ux hn ha hb h1 h2;have h6:=fs now b;have s1:=fR now a;have s2:=fR now b;unfold place;by_cases Z3:aP now b=6
 ·rw[PC Z3];split
  ·exact Po _
  ·omega
 ·rw[Pu Z3,Pu zaa];by_cases hab:aP now a=aP now b
  ·have e1:=(bk hn ha (show aP now b<6 by omega)).1 zaa;have e2:=(bk hn hb (show aP now b<6 by omega)).1 (Po _);have d:=T5 (c:=64 ^ aP now b) h2;rw[Uj,<- S5]at e1 e2;rw[<- S5]at e1 e2;rw[fQ,fQ,hab];omega
  ·omega
theorem DO(hn:now<18446744073709551616)(ha:a<18446744073709551616)(hb:b<18446744073709551616)(h1:now<=a)(h2:a<=b)(h:place now b≠place now a):place a b=place now b:=by
 have hK:=ux hn ha hb h1 h2;have h6:=fs now b;have h6':=fs a b;have hKe:aP a b=aP now b:=by
  by_cases hab:aP now a=aP now b
  ·have hl:aP now b<6:=by
    rcases Rr (aP now b) 6 with h'|h'
    ·exact h'
    ·exfalso;apply h
     unfold place;rw[PC zaa,PC zaa]
   have e1:=(bk hn ha hl).1 zaa;have e2:=(bk hn hb hl).1 (Po _);have h3:aP a b<=aP now b:=(bk ha hb hl).2 (e2.trans e1.symm)
   rcases Rr (aP a b) (aP now b) with h'|h'
   ·exfalso;have h4:aP a b<=aP now b-1:=zaa;have e3:=(bk ha hb (show aP now b-1<6 by omega)).1 h4;rw[show aP now b-1+1=aP now b by omega]at e3;apply h
    unfold place;rw[Pu zaa,Pu zaa,fQ,fQ,hab,e3]
   ·omega
  ·have hl:aP now a<6:=zaa;have e1:∀k,aP now a<=k->k<6->a / 64 ^ (k+1)=now / 64 ^ (k+1):=fun k hk XS=>(bk hn ha XS).1 hk;have e2:∀k,aP now a<=k->k<6->(aP a b<=k↔aP now b<=k):=fun k hk XS=>by rw[bk ha hb XS,bk hn hb XS,e1 k hk XS]
   have e3:=e2 (aP now b-1) zaa zaa
   rcases Rr (aP now b) 6 with h'|h'
   ·have e4:=e2 (aP now b) zaa h';omega
   ·omega
 unfold place gF;rw[hKe]
theorem DN(hn:now<18446744073709551616)(ha:a<18446744073709551616)(hb:b<18446744073709551616)(_:now<=a)(h2:a<=b)(h:place now b=place now a)(hr:place now a≠390):place a b<=place now a:=by
 have h6:=fs now a;have h6':=fs a b;have s1:=fR now a;have s2:=fR now b;have s3:=fR a b;have X4:aP now a≠6:=fun e=>hr (by unfold place;rw[PC e]);have Z3:aP now b≠6:=fun e=>by
  rw[<- h]at hr;exact hr (by unfold place;rw[PC e])
 unfold place at h;rw[Pu X4,Pu Z3]at h;have hK:aP now b=aP now a:=zaa;have hS:gF now b=gF now a:=zaa;rw[fQ,fQ,hK]at hS;have e1:=(bk hn ha (show aP now a<6 by omega)).1 (Po _);have e2:=(bk hn hb (show aP now a<6 by omega)).1 zaa;rw[Uj,<- S5]at e1 e2;rw[<- S5]at e1 e2;have e3:b / 64 ^ aP now a=a / 64 ^ aP now a:=zaa;by_cases h0:aP now a=0
 ·rw[h0]at e3;have:b=a:=by simpa using e3
  subst this;have hz:aP b b=0:=by
   have:=(bk hb hb (k:=0) zac).2 rfl;omega
  unfold place;rw[Pu X4,Pu zaa,hz,h0,fQ,fQ,hz,h0];exact Po _
 ·have h3:aP a b<=aP now a-1:=(bk ha hb zaa).2 (by rw[show aP now a-1+1=aP now a by omega];exact e3);unfold place;rw[Pu X4,Pu zaa];omega
