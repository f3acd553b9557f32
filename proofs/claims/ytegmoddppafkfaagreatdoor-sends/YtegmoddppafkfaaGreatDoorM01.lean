import Derived.Test.YtegmoddppafkfaaGreatDoorM00
import Derived.StillTailTactics
import Derived.RangeFuncCalls
import Derived.OrdersHeld
import Derived.Deep.RegionHeld
set_option maxRecDepth 100000
set_option maxHeartbeats 8000000
namespace Go.Proofs.YtegmoddppafkfaaGreatDoor
section
open Go.RowKit
namespace Ref
structure Act where
 how:ByteArray
 event:ByteArray
 id:ByteArray
 delay:Int
def A6 (a:Act):List Value:=[.string a.how,.string a.event,.string a.id,.int .u64 a.delay]
def cDo:List UInt8:=[100,111]
def eh:List UInt8:=[114,97,105,115,101]
def eG:List UInt8:=[99,97,110,99,101,108]
def kq:List UInt8:=[115,101,110,100]
def cAs:List UInt8:=[97,115]
def at' (l:List ByteArray) (i:Nat):ByteArray:=l.getD i ByteArray.empty
def og (l:List ByteArray):Option (Act×Nat) :=
 if l.length<3 then none
 else if (at' l 0).toList == cDo then
  if (at' l 1).toList == eh then if called (at' l 2) then some (⟨at' l 1,at' l 2,ByteArray.empty,0⟩,3) else none
  else if (at' l 1).toList == eG then if called (at' l 2) then some (⟨at' l 1,ByteArray.empty,at' l 2,0⟩,3) else none
  else if (at' l 1).toList == kq then
   if l.length<4 then none
   else if decide (4<l.length)&&((at' l 4).toList == cAs) then
    if l.length<6 then none
    else if called (at' l 2)&&bF (at' l 3)&&called (at' l 5) then some (⟨at' l 1,at' l 2,at' l 5,dG (at' l 3)⟩,6) else none
   else if called (at' l 2)&&bF (at' l 3) then some (⟨at' l 1,at' l 2,ByteArray.empty,dG (at' l 3)⟩,4) else none
  else none
 else none
def jz:Nat→List ByteArray→Option (List Act)
 | _,[]=>some []
 | 0,_::_=>none
 | f+1,x::r =>
  match og (x::r) with
  | none=>none
  | some (a,n)=>match jz f ((x::r).drop n) with
   | none=>none
   | some r'=>some (a::r')
def aj (l:List ByteArray):Option (List Act):=jz l.length l
theorem ni {l:List ByteArray} {a:Act} {n:Nat} (h:og l=some (a,n)):3≤n∧n≤l.length:=by
 unfold og at h
 repeat' split at h
 all_goals cases h
 all_goals omega
theorem om:∀ (f g:Nat) (l:List ByteArray),l.length≤f→l.length≤g→jz f l=jz g l
 | f,g,[],_,_=>by cases f <;> cases g <;> rfl
 | 0,_,x::r,h,_=>by simp at h
 | _+1,0,x::r,_,h=>by simp at h
 | f+1,g+1,x::r,hf,hg=>by
  simp only [jz]
  cases h:og (x::r) with
  | none=>rfl
  | some p =>
   obtain ⟨a,n⟩:=p
   have hb:=ni h
   simp only
   rw [om f g ((x::r).drop n) (by simp at hf ⊢;omega) (by simp at hg ⊢;omega)]
end Ref
def lenOf:Value→Nat | .slice _ n _=>n | _=>0
def oe (w:World) (b off:Nat) (l:List ByteArray):Prop:=∀ i,i<l.length→w.cell? ⟨b,off+i,none⟩=some (.string (Ref.at' l i))
theorem oe.drop {w:World} {b off:Nat} {l:List ByteArray} (h:oe w b off l) (n:Nat):oe w b (off+n) (l.drop n):=by
 intro i hi
 have:=h (n+i) (by simp at hi;omega)
 rw [Nat.add_assoc,this]
 simp [Ref.at',List.getElem?_drop]
theorem oe.below {w w':World} {b off B:Nat} {l:List ByteArray} (h:oe w b off l) (hb:Below B w w') (hB:b<B):oe w' b off l :=
 fun i hi=>by rw [hb.cell (p:=⟨b,off+i,none⟩) hB];exact h i hi
namespace Ref
structure Move where
 event:ByteArray
 to:ByteArray
 after:Bool
 delay:Int
 aj:List Act
 line:Int
structure State where
 word:ByteArray
 name:ByteArray
 deep:Bool
 up:Int
 depth:Int
 line:Int
 moves:List Move
 enter:List Act
 leave:List Act
 has0:Int
 has1:Int
structure nH where
 kind:Int
 word:ByteArray
 name:ByteArray
 deep:Bool
 sline:Int
 m:Move
 aj:List Act
theorem Ai {w:World} {base size n:Nat} {e:TypeId} {v:Value} {xs:List Value} (h:w.ownsRow base e size v n xs):∃ a k c,v = .slice a k c:=by
 rcases h.2 with ⟨h0,_⟩ | ⟨g,cap,cur,hv,_⟩
 ·exact ⟨_,_,_,h0⟩
 ·exact ⟨_,_,_,hv⟩
def cTo:List UInt8:=[116,111]
def yO (l:List ByteArray):Option (ByteArray×List Act) :=
 if decide (0<l.length)&&((at' l 0).toList == cTo) then
  if l.length<2 then none
  else if plain (at' l 1) then (aj (l.drop 2)).map (at' l 1,·) else none
 else (aj l).map (ByteArray.empty,·)
end Ref
end
section
open Go.RowKit
open Go.PlainAid (bt get_bt bt_nonneg bt_le bt_end)
namespace Ref
def kP:Move:=⟨ByteArray.empty,ByteArray.empty,false,0,[],0⟩
def gG:nH:=⟨0,ByteArray.empty,ByteArray.empty,false,0,kP,[]⟩
def bW:List UInt8:=[115,116,97,116,101]
def aM:List UInt8:=[112,97,114,97,108,108,101,108]
def bV:List UInt8:=[102,105,110,97,108]
def aX:List UInt8:=[104,105,115,116,111,114,121]
def yz:List UInt8:=[100,101,101,112]
def cOn:List UInt8:=[111,110]
def gz:List UInt8:=[97,102,116,101,114]
def jD:List UInt8:=[101,110,116,101,114]
def mC:List UInt8:=[108,101,97,118,101]
def is (l:List ByteArray) (i:Nat) (c:List UInt8):Bool:=(at' l i).toList == c
def qK (l:List ByteArray):Bool:=decide (l.length=3)&&is l 2 yz
def said (l:List ByteArray) (ln:Nat):nH :=
 if l.length<2 then gG
 else if is l 0 bW||(is l 0 aM||is l 0 bV) then
  if decide (l.length=2)&&plain (at' l 1) then ⟨115,at' l 0,at' l 1,false,ln,kP,[]⟩ else gG
 else if is l 0 aX then
  if plain (at' l 1)&&(decide (l.length=2)||qK l) then ⟨115,at' l 0,at' l 1,qK l,ln,kP,[]⟩ else gG
 else if is l 0 cOn then
  match yO (l.drop 2) with
  | none=>gG
  | some (to,A)=>if bG (at' l 1) then ⟨109,ByteArray.empty,ByteArray.empty,false,0,⟨at' l 1,to,false,0,A,ln⟩,[]⟩ else gG
 else if is l 0 gz then
  match yO (l.drop 2) with
  | none=>gG
  | some (to,A)=>if bF (at' l 1) then ⟨109,ByteArray.empty,ByteArray.empty,false,0,⟨bB++dec ln,to,true,dG (at' l 1),A,ln⟩,[]⟩ else gG
 else if is l 0 jD||is l 0 mC then
  match aj (l.drop 1) with
  | none=>gG
  | some A=>⟨bt (at' l 0) 0,ByteArray.empty,ByteArray.empty,false,0,kP,A⟩
 else gG
end Ref
end
end Go.Proofs.YtegmoddppafkfaaGreatDoor
namespace Go.Proofs.YtegmoddppafkfaaGreatDoor
section
open Go.RowKit
namespace Ref
structure Sl where
 a:Option Addr
 n:Nat
 c:Nat
def Sl.v (s:Sl):Value := .slice s.a s.n s.c
def Sl.nil:Sl:=⟨none,0,0⟩
structure SV where
 s:State
 vm:Sl
 ve:Sl
 vl:Sl
structure MV where
 m:Move
 v:Sl
def Ed (x:MV):List Value:=[.string x.m.event,.string x.m.to,.bool x.m.after,.int .u64 x.m.delay,.slice x.v.a x.v.n x.v.c,.int .i64 x.m.line]
theorem lx {α:Type} {f:α→List Value} {n:Nat} (hf:∀ x,(f x).length=n):∀ (X:List α) (i j:Nat),j<n→∀ (h:i<X.length),(X.flatMap f)[i*n+j]?=(f X[i])[j]?
 | [],i,j,_,h=>by simp at h
 | x::X,0,j,hj,_=>by
  rw [List.flatMap_cons,Nat.zero_mul,Nat.zero_add,List.getElem?_append_left (by rw [hf];exact hj)];rfl
 | x::X,i+1,j,hj,h=>by
  rw [List.flatMap_cons,Nat.succ_mul,List.getElem?_append_right (by rw [hf];omega),hf]
  rw [show i*n+n+j-n=i*n+j from by omega,lx hf X i j hj (by simpa using h)]
  rfl
theorem iN {α:Type} {f:α→List Value} {n:Nat} (hf:∀ x,(f x).length=n):∀ (X:List α),(X.flatMap f).length=X.length*n
 | []=>by simp
 | x::X=>by rw [List.flatMap_cons,List.length_append,hf,iN hf X,List.length_cons,Nat.succ_mul,Nat.add_comm]
def GW (n:ByteArray) (x:SV):Bool:=x.s.name.toList == n.toList
def place (X:List SV) (n:ByteArray):Int:=match X.findIdx? (GW n) with | some i=>(i:Int) | none => -1
def sV (a:Act):Bool:=bJ a.event bB||bJ a.id bB
def dH (A:List Act):Bool:=A.any sV
end Ref
def Row {α:Type} (w:World) (e:TypeId) (size:Nat) (f:α→List Value) (v:Value) (X:List α):Prop:=w.ownsRow 0 e size v X.length (X.flatMap f)
theorem Row.cell {α:Type} {w:World} {e:TypeId} {n:Nat} {f:α→List Value} {g cap:Nat} {X:List α} (hf:∀ x,(f x).length=n) (h:Row w e n f (.slice (some ⟨g,0,none⟩) X.length cap) X) {i j:Nat} (hj:j<n) (hi:i<X.length) :
  w.cell? ⟨g,i*n+j,none⟩=(f X[i])[j]?:=by
 have hlt:i*n+j<X.length*n:=by
  have:(i+1)*n≤X.length*n:=Nat.mul_le_mul_right n hi
  rw [Nat.succ_mul] at this;omega
 rw [h.cellAt (i*n+j) hlt,Ref.lx hf X i j hj hi]
end
section
open Go.RowKit Go.Proofs Go.Shelf
attribute [local go_sem] Oper.semAt_some
namespace Pg
structure PS where
 kind:Int
 name:ByteArray
 done:ByteArray
 owner:Int
 parts:Nat
 inside:Nat
 around:Nat
 wth:Nat
 enter:Ref.Sl
 leave:Ref.Sl
structure PS.Sm (p:PS):Prop where
 hp:p.parts<4294967296
 hi:p.inside<4294967296
 ha:p.around<4294967296
 hw:p.wth<4294967296
structure pV (W:World) (b i:Nat) (p:PS):Prop where
 c0:W.cell? ⟨b,i*10,none⟩=some (.int .i64 p.kind)
 c1:W.cell? ⟨b,i*10+1,none⟩=some (.string p.name)
 c2:W.cell? ⟨b,i*10+2,none⟩=some (.string p.done)
 c3:W.cell? ⟨b,i*10+3,none⟩=some (.int .i64 p.owner)
 c4:W.cell? ⟨b,i*10+4,none⟩=some (.int .u32 p.parts)
 c5:W.cell? ⟨b,i*10+5,none⟩=some (.int .u32 p.inside)
 c6:W.cell? ⟨b,i*10+6,none⟩=some (.int .u32 p.around)
 c7:W.cell? ⟨b,i*10+7,none⟩=some (.int .u32 p.wth)
 c8:W.cell? ⟨b,i*10+8,none⟩=some p.enter.v
 c9:W.cell? ⟨b,i*10+9,none⟩=some p.leave.v
theorem pV.below {W W':World} {B b i:Nat} {p:PS} (h:pV W b i p) (hB:Below B W W') (hb:b<B):pV W' b i p where
 c0:=(hB.cell (p:=⟨b,_,none⟩) hb).trans h.c0
 c1:=(hB.cell (p:=⟨b,_,none⟩) hb).trans h.c1
 c2:=(hB.cell (p:=⟨b,_,none⟩) hb).trans h.c2
 c3:=(hB.cell (p:=⟨b,_,none⟩) hb).trans h.c3
 c4:=(hB.cell (p:=⟨b,_,none⟩) hb).trans h.c4
 c5:=(hB.cell (p:=⟨b,_,none⟩) hb).trans h.c5
 c6:=(hB.cell (p:=⟨b,_,none⟩) hb).trans h.c6
 c7:=(hB.cell (p:=⟨b,_,none⟩) hb).trans h.c7
 c8:=(hB.cell (p:=⟨b,_,none⟩) hb).trans h.c8
 c9:=(hB.cell (p:=⟨b,_,none⟩) hb).trans h.c9
structure dh (W:World) (pb b cap:Nat) (ps:List PS):Prop where
 row:W.cell? ⟨pb,0,none⟩=some (.slice (some ⟨b,0,none⟩) ps.length cap)
 at':∀ (i:Nat) (p:PS),ps[i]?=some p→pV W b i p
 sm:∀ (i:Nat) (p:PS),ps[i]?=some p→p.Sm
 len:ps.length≤24
theorem dh.below {W W':World} {B pb b cap:Nat} {ps:List PS} (h:dh W pb b cap ps) (hB:Below B W W') (hp:pb<B) (hb:b<B):dh W' pb b cap ps where
 row:=(hB.cell (p:=⟨pb,_,none⟩) hp).trans h.row
 at':=fun i p hi=>(h.at' i p hi).below hB hb
 sm:=h.sm
 len:=h.len
end Pg
theorem BI (w:World) (pb b cap:Nat) (ps:List Pg.PS) (i j:Nat) (p:Pg.PS) (hP:Pg.dh w pb b cap ps) (hi:ps[i]?=some p) (hj:j<32):Calls Tryz.prog 261 #[.pointer (some ⟨pb,0,none⟩),.int .i64 i,.int .i64 j] w fun e w'=>e = .returned (.bool (p.around.testBit j))∧w'=w:=by
 have hil:i<ps.length:=(List.getElem?_eq_some_iff.1 hi).1
 have hlen:=hP.len
 have h0:=hP.row
 have h6:=(hP.at' i p hi).c6
 have hsm:=(hP.sm i p hi).ha
 go_enter Tryz.func261,Tryz.ntmps261
 go_wp2_with (go_at_call 236;refine (yF p.around j _ hj hsm).mono ?_;rintro e w9 ⟨rfl,hw9⟩;rw [hw9];clear hw9 w9)
 go_ret
 exact ⟨rfl,rfl⟩
namespace Pg
def sj (ps:List PS) (i:Nat):Nat:=match ps[i]? with | some p=>p.around | none=>0
def sL (ps:List PS) (o:Nat) (l:List Nat):Nat:=l.foldl (fun o i=>o&&&(4294967295-sj ps i)) o
theorem zT (ps:List PS) (o:Nat) (l:List Nat) (i:Nat):sL ps o (l++[i])=sL ps o l&&&(4294967295-sj ps i):=by
 unfold sL;rw [List.foldl_append];rfl
theorem sM (ps:List PS):∀ (l:List Nat) (o:Nat),o<4294967296→sL ps o l<4294967296
 | [],_,h=>h
 | _::l,_,h=>sM ps l _ (Nat.lt_of_le_of_lt Nat.and_le_left h)
def aQ {s:Nat}:List (In s)→List Nat
 | []=>[]
 | x::l=>x.1::aQ l
theorem cB {s:Nat}:∀ l:List (In s),aQ l=l.map (·.1)
 | []=>rfl
 | x::l=>by rw [aQ,cB l];rfl
theorem ed {s:Nat} (l:List (In s)) (x:In s):aQ (l++[x])=aQ l++[x.1]:=by
 rw [cB,cB,List.map_append];rfl
def inn (ps:List PS) (s:Nat):Nat:=sL ps s (els s)
theorem KpT.tr {A B C:World} (h:KpT A B) (k:KpT B C):KpT A C:=fun x=>k (h x)
theorem KpT.of {n:Nat} {A B:World} (h:Below n A B) (hn:1<n):KpT A B:=fun x j hj=>(h.cell (p:=⟨1,j,none⟩) hn).trans (x j hj)
end Pg
theorem sN (n:Nat) (hn:3≤n) (w:World) (pb b cap:Nat) (ps:List Pg.PS) (s:Nat) (hs:s<4294967296) (hin:∀ i,i∈Pg.els s→i<ps.length) (hP:Pg.dh w pb b cap ps) (hpb:pb<w.heap.size) (hb:b<w.heap.size)
  (hg:1<w.heap.size) (hT:TabAt 1 Lib.deBruijn32tab w) :
  CallsIn Fence.wide n Tryz.prog 159 #[.pointer (some ⟨pb,0,none⟩),.int .u32 s] w fun e w'=>e = .returned (.int .u32 (Pg.inn ps s))∧Below w.heap.size w w':=by
 have h1:1≤n:=by omega
 refine callsIn_of_wp_marks Tryz.func159 rfl trivial ?_ rfl
 simp only [Tryz.ntmps159,List.size_toArray,List.length_cons,List.length_nil,Nat.reduceAdd,Nat.reduceSub,Array.replicate_succ,Array.replicate_zero,List.push_toArray,List.append_toArray,List.nil_append,List.cons_append]
 gi_wp2_with (refine ⟨trivial,?_⟩;gi_at_call 150;refine (callsIn_wide.2 (dQ s _)).mono ?_;rintro e w9 ⟨rfl,hw9⟩;rw [hw9];clear hw9 w9)
 have c0:=Boxed.new w 137 (.pointer (some ⟨pb,0,none⟩))
 have c1:=Boxed.new (w.alloc (.cells #[.pointer (some ⟨pb,0,none⟩)] 137)) 139 (.int .u32 s)
 have c2:=Boxed.new ((w.alloc (.cells #[.pointer (some ⟨pb,0,none⟩)] 137)).alloc (.cells #[.int .u32 s] 139)) 139 (.int .u32 s)
 simp only [World.size_alloc] at c1 c2
 have hB0:Below w.heap.size w (((w.alloc (.cells #[.pointer (some ⟨pb,0,none⟩)] 137)).alloc (.cells #[.int .u32 s] 139)).alloc (.cells #[.int .u32 s] 139)):=(((Below.refl _ w).alloc (Nat.le_refl _) _).alloc (by simp) _).alloc (by simp;omega) _
 refine wpIn_rangeFunc_ownF rfl h1 (gf:=187) (lb:=#[.pointer (some ⟨w.heap.size+1+1,0,none⟩)]) rfl trivial (enters_of Tryz.func187 (by kernel_rfl) rfl)
  (iy (n-1) (by omega) (w.heap.size+1+1) s hs _ (by simp) (by simp) c2.cell (Pg.KpT.of hB0 hg hT)) Pg.KpT.tr (fun W l o o' hl h hc hw=>Pg.KpT.of (belowK_b (n₀:=w.heap.size) (Nat.le_trans (Nat.le_add_right _ 3) (by simp)) W l o o' hl h hc hw) hg) (Below.refl _ _) (fun _=>rfl)
  (fun pre W=>(Boxed W w.heap.size 137 (.pointer (some ⟨pb,0,none⟩))∧Boxed W (w.heap.size+1) 139 (.int .u32 (Pg.sL ps s (Pg.aQ pre))))∧Below w.heap.size w W)
  (fun _ _ _=>False)
  (OwnFrom.and (OwnFrom.and (Own.from (boxed_own _ _ _) _) (Own.from (boxed_own _ _ _) _)) (ownFrom_below (Nat.le_refl _) (by simp;omega)))
  (fun _ _ _ _ _ hs _ _=>hs)
  ⟨⟨(c0.alloc _).alloc _,c1.alloc _⟩,hB0⟩
  (fun x=>{ tmps:=#[.pointer (some ⟨pb,0,none⟩),.int .u32 s,.pointer (some ⟨w.heap.size,0,none⟩),undef,.int .u32 0,.pointer (some ⟨w.heap.size+1,0,none⟩),.int .i64 x.1,.int .u32 s,.int .u32 s,.func (.func 187) #[] #[.pointer (some ⟨w.heap.size+1+1,0,none⟩)],.int .i64 x.1,undef,undef,undef,undef,undef,undef,undef,undef,undef,undef,undef],defers:=[] }) ?assign ?body ?done ?stop
 case assign =>
  intro l x W K hK
  gi_wp2
  exact hK
 case body =>
  rintro l pre x W ⟨⟨hp,hc⟩,hB⟩ _
  have hpc:=hp.cell
  have hcc:=hc.cell
  have hcf:=hc.frozen
  have hxl:=hin x.1 x.2
  obtain ⟨p,hpx⟩:∃ p,ps[x.1]?=some p:=⟨_,List.getElem?_eq_getElem hxl⟩
  have hP':=hP.below hB hpb hb
  have h0:=hP'.row
  have h6:=(hP'.at' x.1 p hpx).c6
  have hlen:=hP.len
  have hsm:=(hP.sm x.1 p hpx).ha
  have hlt:=Pg.sM ps (Pg.aQ pre) s hs
  have har:Pg.sj ps x.1=p.around:=by unfold Pg.sj;rw [hpx]
  have ha:=u32_andNot_nat _ _ hlt hsm
  have hsn:=Pg.zT ps s (Pg.aQ pre) x.1
  rw [har,← Pg.ed] at hsn
  have hB':∀ v,Below w.heap.size w ((W.drew).setCell ⟨w.heap.size+1,0,none⟩ v):=fun v=>(hB.trans ((Below.refl _ W).drew)).setCell (p:=⟨w.heap.size+1,0,none⟩) (by simp) _
  have hko:∀ v,KeepsOthers W ((W.drew).setCell ⟨w.heap.size+1,0,none⟩ v):=fun v=>(KeepsOthers.drew W).trans (KeepsOthers.setCell _ _ _)
  have hkp:∀ v,Pg.KpT W ((W.drew).setCell ⟨w.heap.size+1,0,none⟩ v):=fun v=>Pg.KpT.of (((Below.refl w.heap.size W).drew).setCell (p:=⟨w.heap.size+1,0,none⟩) (by simp) _) hg
  have hbp:∀ v,Boxed ((W.drew).setCell ⟨w.heap.size+1,0,none⟩ v) w.heap.size 137 (.pointer (some ⟨pb,0,none⟩)):=fun v=>Boxed.kept (W:=W.drew) (show Boxed W.drew _ _ _ from hp) (grownBy_setCell' _ _ _) (by simp)
  have hbc:Boxed ((W.drew).setCell ⟨w.heap.size+1,0,none⟩ (.int .u32 ((Pg.sL ps s (Pg.aQ pre)&&&(4294967295-p.around):Nat):Int))) (w.heap.size+1) 139 (.int .u32 (Pg.sL ps s (Pg.aQ (pre++[x])))):=by
   rw [hsn]
   exact Boxed.set (W:=W.drew) _ (show Boxed W.drew _ _ _ from hc)
  clear hsn har hp hc hP hP'
  gi_wp2
  gi_region
  all_goals gi_wp2
  all_goals exact ⟨hko _,hkp _,⟨hbp _,hbc⟩,hB' _⟩
 case done =>
  rintro D ys W hD hys ⟨⟨_,hc⟩,hB⟩ hK
  have hc:=hc.cell
  rw [Pg.cB,hys] at hc
  gi_wp2
  refine ⟨by simp,.inl ⟨_,_,rfl,run_takeDeferred hK,?_⟩⟩
  exact ⟨_,results_tmp rfl _ _ _,rfl,hB.trans (belowK_b (w:=w) (Nat.le_refl _) W D _ _ (by simp at hD;omega) hK rfl rfl)⟩
 case stop =>
  rintro D c pre W _ _ h _
  exact h.elim
end
section
open Go
theorem lX {k n:Nat} {P:Program} {row:String} {args:Array Value} {w:World} {R:Value→World→Prop} (h:Rows P row args w R):RowsIn (Fence.wide.inRound k) n P row args w R :=
 fun c cs _=>let ⟨v,w',r,s⟩:=h c cs;⟨v,w',r,stepsIn_wide.2 s⟩
theorem aC {k n:Nat} {P:Program} {f:FuncId} {args:Array Value} {w:World} {R:Ending→World→Prop} (h:Calls P f args w R):CallsIn (Fence.wide.inRound k) n P f args w R :=
 CallsIn.inRound k (callsIn_wide.2 h)
theorem yf {k n:Nat} {P:Program} {o:Oper} {a:Act} {N N':Act→World→Prop} {Q:Exit→Act→World→Prop} (hN:∀ a w,N a w→N' a w):∀ r:Result Next,o.upon P a N Q r→o.uponIn (Fence.wide.inRound k) n P a N' Q r:=by
 have hd:∀ x:Prop,((Fence.wide.inRound k).depth.isSome=true→x):=fun x h=>by cases h
 intro r h
 cases r with
 | ok v w' =>
  cases v <;> first
   | exact hN _ _ h
   | exact ⟨hd _,lX (Rows.mono h fun _ _ hx=>hN _ _ hx)⟩
   | exact h.elim
   | skip
  exact ⟨hd _,aC (Calls.mono h fun e w'' hx=>by
   cases e
   ·exact hN _ _ hx
   ·exact hx
   ·exact hx)⟩
 | halt x w'=>cases x <;> first | exact h | exact h.elim
def jh (ops:Array Oper):Bool:=ops.all fun o=>match o.op with | .defer _=>false | _=>true
theorem lO {ops:Array Oper} (h:jh ops=true) {i:Nat} {o:Oper} (ho:ops[i]?=some o) (c:_):o.op≠Op.defer c:=by
 intro he
 have hm:o∈ops:=Array.mem_of_getElem? ho
 have:=Array.all_eq_true_iff_forall_mem.1 h o hm
 rw [he] at this
 exact Bool.noConfusion this
theorem j9 {k n:Nat} {P:Program} {ops:Array Oper} {Q:Exit→Act→World→Prop} (hnd:jh ops=true) (hL:¬ LetsOut Q):∀ (l:List Nat) (a:Act) (w:World),wpOps P ops Q l a w→wpOpsIn (Fence.wide.inRound k) n P ops Q l a w
 | [],_,_,h=>h
 | i::l,a,w,h=>by
  unfold wpOps at h
  unfold wpOpsIn
  cases ho:ops[i]? with
  | none =>
   simp only [ho] at h
   exact j9 hnd hL l a w h
  | some o =>
   simp only [ho] at h
   simp only
   split
   ·rename_i hw
    rw [if_pos hw] at h
    rcases h with h | ⟨_,h⟩
    ·refine ⟨fun _ _=>trivial,?_⟩
     rw [Oper.semAt_eq _ _ _ (fun c=>lO hnd ho c)]
     exact yf (fun a w hx=>j9 hnd hL l a w hx) _ h
    ·exact absurd h hL
   ·rename_i hw
    rw [if_neg hw] at h
    exact ⟨fun _ _=>trivial,j9 hnd hL l _ w h⟩
theorem ju {k n id:Nat} {P:Program} {ops:Array Oper} {Q:Exit→Act→World→Prop} {a:Act} {w:World} (hm:P.follows .mixedOrders=true) (hnd:jh ops=true) (hL:¬ LetsOut Q)
  (h:wpAny P .any ops Q ops.size (Array.replicate ops.size false) a { w with drawn:=w.drawn+1 }):(Code.region id ops true).wpIn (Fence.wide.inRound k) n P Q a w :=
 wpIn_region_draw fun t=>by
  simp only [Region.schedule,hm,Bool.true_or,if_true]
  exact j9 hnd hL _ _ _ (wpAny_sound ops.size t _ a _ h)
theorem dy {k n id:Nat} {P:Program} {ops:Array Oper} {Q:Exit→Act→World→Prop} {S:World→Prop} {a:Act} {w:World} (hm:P.follows .mixedOrders=true) (hnd:jh ops=true) (hL:¬ LetsOut Q) (hS:S w.drew)
  (h:S w.drew→wpAnyH P .any ops Q S ops.size (Array.replicate ops.size false) a w.drew):(Code.region id ops true).wpIn (Fence.wide.inRound k) n P Q a w :=
 ju hm hnd hL (wpAny_of_held _ _ _ _ (h hS))
theorem lU {P:Program} {md:Region.Mode} {ops:Array Oper} {Q:Exit→Act→World→Prop} {S:World→Prop} {fuel:Nat} {listed:Array Bool} {a:Act} {w:World} {i:Nat} {o:Oper} {rs:List Nat} (ho:ops[i]?=some o) (hw:Region.wanted o (yielded ops a.tmps)=true)
  (h:∀ K':Act→World→Prop,Shut (∀ a w,S w→(S w→wpAnyH P md ops Q S fuel (listed.setIfInBounds i true) a w)→K' a w)→Oper.wp P o a w K' Q)
  (hs:AllReadyH P md ops Q S fuel listed a w rs):AllReadyH P md ops Q S fuel listed a w (i::rs) :=
 AllReadyH.cons ho (fun K hK=>by rw [if_pos hw];exact h K hK) hs
end
section
open Go.RowKit Go.Proofs Go.Shelf
attribute [local go_sem] Oper.semAt_some
namespace Pg
def ki (ps:List PS) (i:Nat):Nat:=match ps[i]? with | some p=>p.wth | none=>0
def mO (ps:List PS) (i:Nat):Nat:=match ps[i]? with | some p=>p.inside | none=>0
def G9 (ps:List PS) (ow:Nat) (l:List Nat):Nat:=l.foldl (fun o i=>o|||(ki ps i|||(sj ps i&&&mO ps ow))) 0
theorem Ck {a b:Nat} (ha:a<4294967296) (hb:b<4294967296):a|||b<4294967296:=Nat.or_lt_two_pow (n:=32) ha hb
theorem sh {a b:Nat} (ha:a<4294967296):a&&&b<4294967296:=Nat.lt_of_le_of_lt Nat.and_le_left ha
end Pg
namespace Pg
theorem zc {ps:List PS} (h:∀ (i:Nat) (p:PS),ps[i]?=some p→p.Sm) (i:Nat):ki ps i<4294967296:=by
 unfold ki
 split
 ·rename_i p hp;exact (h i p hp).hw
 ·omega
def FK (ps:List PS) (ow s:Nat):Nat:=if s=0 then ki ps ow&&&(4294967295-2 ^ ow) else G9 ps ow (els s)
end Pg
theorem p6 (w:World) (pb b cap:Nat) (ps:List Pg.PS) (s:Nat) (hs:s<4294967296) (hin:∀ i,i∈Pg.els s→i<ps.length) (hP:Pg.dh w pb b cap ps) (hpb:pb<w.heap.size) (hb:b<w.heap.size)
  (hg:1<w.heap.size) (hT:TabAt 1 Lib.deBruijn32tab w) :
  Calls Tryz.prog 159 #[.pointer (some ⟨pb,0,none⟩),.int .u32 s] w fun e w'=>e = .returned (.int .u32 (Pg.inn ps s))∧Below w.heap.size w w' :=
 callsIn_wide.1 (sN 3 (by omega) w pb b cap ps s hs hin hP hpb hb hg hT)
attribute [local go_sem] Oper.semAt_some
def qZ (Q:Exit→Act→World→Prop):Exit→Act→World→Prop
 | .normal,a,w=>Q .normal a w
 | .ret,_,_=>False
 | .exit _,_,_=>False
 | .goto _,_,_=>False
 | .panic _,_,_=>False
 | .outgrown,_,_=>False
theorem mq {c:Code} {P:Program} {Q:Exit→Act→World→Prop} {a:Act} {w:World} (h:c.wp P (qZ Q) a w):c.wp P Q a w:=fun b k cs=>by
 obtain ⟨e,a',w',q,r⟩:=h b k cs
 cases e <;> first | exact q.elim | exact ⟨_,_,_,q,r⟩
namespace Pg
def ny (ps:List PS) (i:Nat):Int:=match ps[i]? with | some p=>p.kind | none=>1
def dom (ps:List PS) (i j:Nat):Nat:=match (els (sj ps i&&&sj ps j)).reverse.find? (fun k=>ny ps k == 0) with | some k=>mO ps k | none=>2 ^ ps.length-1
theorem DI {f:Nat→Bool} {l q:List Nat} {i:Nat} (h:q++[i] <+: l) (hq:∀ j∈q,f j=false) (hi:f i=true):l.find? f=some i:=by
 obtain ⟨t,rfl⟩:=h
 rw [List.append_assoc,List.find?_append]
 have:q.find? f=none:=List.find?_eq_none.2 fun x hx=>by rw [hq x hx];decide
 rw [this]
 simp [hi]
end Pg
theorem zy (n:Nat) (hn:3≤n) (w:World) (pb b cap:Nat) (ps:List Pg.PS) (i j:Nat) (p q:Pg.PS) (hpi:ps[i]?=some p) (hqj:ps[j]?=some q) (hin:∀ i,i∈Pg.els (p.around&&&q.around)→i<ps.length) (hP:Pg.dh w pb b cap ps) (hpb:pb<w.heap.size) (hb:b<w.heap.size) :
  CallsIn Fence.wide n Tryz.prog 195 #[.pointer (some ⟨pb,0,none⟩),.int .i64 i,.int .i64 j] w fun e w'=>e = .returned (.int .u32 (Pg.dom ps i j))∧Below w.heap.size w w':=by
 have h1:1≤n:=by omega
 have hil:i<ps.length:=(List.getElem?_eq_some_iff.1 hpi).1
 have hjl:j<ps.length:=(List.getElem?_eq_some_iff.1 hqj).1
 have hlen:=hP.len
 have sp:=(hP.sm i p hpi).ha
 have sq:=(hP.sm j q hqj).ha
 have ha1:=u32_and_nat _ _ sp sq
 have hs:p.around&&&q.around<4294967296:=Pg.sh sp
 refine callsIn_of_wp_marks Tryz.func195 rfl trivial ?_ rfl
 simp only [Tryz.ntmps195,List.size_toArray,List.length_cons,List.length_nil,Nat.reduceAdd,Nat.reduceSub,Array.replicate_succ,Array.replicate_zero,List.push_toArray,List.append_toArray,List.nil_append,List.cons_append]
 gi_wp2
 have c0:=Boxed.new w 137 (.pointer (some ⟨pb,0,none⟩))
 have c1:=Boxed.new (w.alloc (.cells #[.pointer (some ⟨pb,0,none⟩)] 137)) 139 (.int .u32 0)
 simp only [World.size_alloc] at c1
 have c0:=c0.alloc (.cells #[.int .u32 0] 139)
 have hB0:Below w.heap.size w ((w.alloc (.cells #[.pointer (some ⟨pb,0,none⟩)] 137)).alloc (.cells #[.int .u32 0] 139)):=((Below.refl _ w).alloc (Nat.le_refl _) _).alloc (by simp) _
 obtain ⟨W0,hW0⟩:∃ W0,(w.alloc (.cells #[.pointer (some ⟨pb,0,none⟩)] 137)).alloc (.cells #[.int .u32 0] 139)=W0:=⟨_,rfl⟩
 have hsz:W0.heap.size=w.heap.size+1+1:=by rw [← hW0];simp
 rw [hW0] at c0 c1 hB0 ⊢
 have hP0:=hP.below hB0 hpb hb
 refine wpIn_wide.2 (mq ?_)
 refine wp_region_held_drew (S:=(fun V=>V.cell? ⟨w.heap.size,0,none⟩=some (.pointer (some ⟨pb,0,none⟩))∧V.cell? ⟨pb,0,none⟩=some (.slice (some ⟨b,0,none⟩) ps.length cap)∧V.cell? ⟨b,i*10+6,none⟩=some (.int .u32 p.around)∧V.cell? ⟨b,j*10+6,none⟩=some (.int .u32 q.around))) (by kernel_rfl) ⟨c0.cell,hP0.row,(hP0.at' i p hpi).c6,(hP0.at' j q hqj).c6⟩ (fun hHeld => ?_)
 refine tH 0 (.pointer (some ⟨pb,0,none⟩)) rfl hHeld ?_
 refine tH 1 (.pointer (some ⟨pb,0,none⟩)) rfl hHeld ?_
 refine tH 2 (.pointer (some ⟨pb,0,none⟩)) rfl hHeld ?_
 refine tH 3 (.slice (some ⟨b,0,none⟩) ps.length cap) rfl hHeld ?_
 refine tH 4 (.int .i64 i) rfl hHeld ?_
 refine tH 5 (.pointer (some ⟨b,i*10,none⟩)) rfl hHeld ?_
 refine tH 6 (.pointer (some ⟨b,i*10+6,none⟩)) rfl hHeld ?_
 refine tH 7 (.int .u32 p.around) rfl hHeld ?_
 refine tH 8 (.pointer (some ⟨pb,0,none⟩)) rfl hHeld ?_
 refine tH 9 (.pointer (some ⟨pb,0,none⟩)) rfl hHeld ?_
 refine tH 10 (.pointer (some ⟨pb,0,none⟩)) rfl hHeld ?_
 refine tH 11 (.slice (some ⟨b,0,none⟩) ps.length cap) rfl hHeld ?_
 refine tH 12 (.int .i64 j) rfl hHeld ?_
 refine tH 13 (.pointer (some ⟨b,j*10,none⟩)) rfl hHeld ?_
 refine tH 14 (.pointer (some ⟨b,j*10+6,none⟩)) rfl hHeld ?_
 refine tH 15 (.int .u32 q.around) rfl hHeld ?_
 refine tH 16 (.int .u32 ((p.around&&&q.around:Nat):Int)) rfl hHeld ?_
 refine zH 17 rfl fun K hK => ?_
 go_simp
 refine (lh _ _).mono ?_
 rintro e w9 ⟨rfl,rfl⟩
 have hB1:Below w.heap.size w (W0.drew.alloc (.cells #[.int .u32 ((p.around&&&q.around:Nat):Int)] 139)):=(hB0.trans (Below.refl _ W0).drew).alloc (by simp [hsz];omega) _
 have d0:=Boxed.alloc (W:=W0.drew) (show Boxed W0.drew _ _ _ from c0) (.cells #[.int .u32 ((p.around&&&q.around:Nat):Int)] 139)
 have d1:=Boxed.alloc (W:=W0.drew) (show Boxed W0.drew _ _ _ from c1) (.cells #[.int .u32 ((p.around&&&q.around:Nat):Int)] 139)
 have d2:=Boxed.new W0.drew 139 (.int .u32 ((p.around&&&q.around:Nat):Int))
 have hsz':W0.drew.heap.size=w.heap.size+1+1:=hsz
 rw [hsz'] at d2 ⊢
 have hP1:=hP.below hB1 hpb hb
 refine hK.out _ _ ⟨d0.cell,hP1.row,(hP1.at' i p hpi).c6,(hP1.at' j q hqj).c6⟩ (fun hHeld => ?_)
 clear hK K hHeld
 refine wpAnyH_done (by kernel_rfl) ?_ _
 unfold qZ
 gi_wp2
 obtain ⟨W1,hW1⟩:∃ W1,(W0.alloc (.cells #[.int .u32 ((p.around&&&q.around:Nat):Int)] 139)).drew=W1:=⟨_,rfl⟩
 have hW1':W0.drew.alloc (.cells #[.int .u32 ((p.around&&&q.around:Nat):Int)] 139)=W1:=hW1
 have hsz1:W1.heap.size=w.heap.size+1+1+1:=by rw [← hW1',World.size_alloc,hsz']
 rw [hW1'] at d0 d1 d2 hB1 hP1
 rw [hW1]
 clear hW1 hW1' hW0 hB0 hP0 c0 c1 hsz hsz'
 have hdm:Pg.dom ps i j=match (Pg.els (p.around&&&q.around)).reverse.find? (fun k=>Pg.ny ps k == 0) with | some k=>Pg.mO ps k | none=>2 ^ ps.length-1:=by
  unfold Pg.dom Pg.sj;rw [hpi,hqj]
 generalize hsd:p.around&&&q.around=s at *
 refine wpIn_rangeFunc_ownF rfl h1 (gf:=264) (lb:=#[.pointer (some ⟨w.heap.size+1+1,0,none⟩)]) rfl trivial (enters_of Tryz.func264 (by kernel_rfl) rfl)
  (jC (n-1) (by omega) (w.heap.size+1+1) s hs _ (by omega) d2.cell) (fun _ _=>trivial) (fun _ _ _ _ _ _ _ _=>trivial) (Below.refl _ _) (fun _=>rfl)
  (fun pre W=>((∀ k∈Pg.aQ pre,(Pg.ny ps k == 0)=false)∧Boxed W w.heap.size 137 (.pointer (some ⟨pb,0,none⟩))∧Boxed W (w.heap.size+1) 139 (.int .u32 0))∧Below w.heap.size w W)
  (fun c pre W=>((c = .ret∧∃ (l:List Nat) (k:Nat),Pg.aQ pre=l++[k]∧(∀ k∈l,(Pg.ny ps k == 0)=false)∧(Pg.ny ps k == 0)=true)∧∃ k,(Pg.aQ pre).getLast?=some k∧Boxed W (w.heap.size+1) 139 (.int .u32 (Pg.mO ps k)))∧Below w.heap.size w W)
  (OwnFrom.and (OwnFrom.and (fun _ _ _ _ h _ _=>h) (OwnFrom.and (Own.from (boxed_own _ _ _) _) (Own.from (boxed_own _ _ _) _))) (ownFrom_below (Nat.le_refl _) (by omega)))
  (fun c=>OwnFrom.and (OwnFrom.and (fun _ _ _ _ h _ _=>h) (fun s0 A B row h hg hr=>by
   obtain ⟨k,hk,hb⟩:=h
   exact ⟨k,hk,(Own.from (boxed_own (w.heap.size+1) 139 (fun _:Unit => .int .u32 (Pg.mO ps k))) _) () A B row hb hg hr⟩)) (ownFrom_below (Nat.le_refl _) (by omega)))
  ⟨⟨fun k hk=>(by cases hk),d0,d1⟩,hB1⟩
  (fun x=>{ tmps:=#[.pointer (some ⟨pb,0,none⟩),.int .i64 i,.int .i64 j,.pointer (some ⟨w.heap.size,0,none⟩),undef,undef,.pointer (some ⟨w.heap.size+1,0,none⟩),.int .i64 x.1,.pointer (some ⟨pb,0,none⟩),.pointer (some ⟨pb,0,none⟩),.pointer (some ⟨pb,0,none⟩),.slice (some ⟨b,0,none⟩) ps.length cap,.int .i64 i,.pointer (some ⟨b,i*10,none⟩),.pointer (some ⟨b,i*10+6,none⟩),.int .u32 p.around,.pointer (some ⟨pb,0,none⟩),.pointer (some ⟨pb,0,none⟩),.pointer (some ⟨pb,0,none⟩),.slice (some ⟨b,0,none⟩) ps.length cap,.int .i64 j,.pointer (some ⟨b,j*10,none⟩),.pointer (some ⟨b,j*10+6,none⟩),.int .u32 q.around,.int .u32 s,.func (.func 264) #[] #[.pointer (some ⟨w.heap.size+1+1,0,none⟩)],.int .i64 x.1,undef,undef,undef,undef,undef,undef,undef,undef,undef,undef,undef,undef,undef,undef,undef,undef,undef,undef,undef,undef,undef,undef,undef,undef],defers:=[] }) ?assign ?body ?done ?stop
 case assign =>
  intro l x W K hK
  gi_wp2
  exact hK
 case body =>
  rintro l pre x W ⟨⟨hne,hp,hr⟩,hB⟩ _
  have hxl:=hin x.1 x.2
  obtain ⟨px,hpx⟩:∃ p,ps[x.1]?=some p:=⟨_,List.getElem?_eq_getElem hxl⟩
  have hPW:=hP.below hB hpb hb
  have hpc:=hp.cell
  have hrc:=hr.cell
  have hrf:=hr.frozen
  have hrow:=hPW.row
  have k0:=(hPW.at' x.1 px hpx).c0
  have k5:=(hPW.at' x.1 px hpx).c5
  have hkA:Pg.ny ps x.1=px.kind:=by unfold Pg.ny;rw [hpx]
  have hiA:Pg.mO ps x.1=px.inside:=by unfold Pg.mO;rw [hpx]
  have hv:=Pg.ed pre x
  have hset:Boxed (W.setCell ⟨w.heap.size+1,0,none⟩ (.int .u32 px.inside)) (w.heap.size+1) 139 (.int .u32 (Pg.mO ps x.1)):=by
   rw [hiA]
   exact Boxed.set _ hr
  have hBs:∀ v,Below w.heap.size w (W.setCell ⟨w.heap.size+1,0,none⟩ v):=fun v=>hB.setCell (p:=⟨w.heap.size+1,0,none⟩) (by simp) _
  gi_wp2
  ·rename_i hk
   exact ⟨KeepsOthers.setCell _ _ _,⟨⟨rfl,Pg.aQ pre,x.1,hv,hne,by rw [hkA];exact hk⟩,x.1,by rw [hv];simp,hset⟩,hBs _⟩
  ·rename_i hk
   refine ⟨KeepsOthers.refl _,trivial,⟨?_,hp,hr⟩,hB⟩
   intro k hm
   rw [hv] at hm
   rcases List.mem_append.1 hm with h | h
   ·exact hne k h
   ·rw [List.mem_singleton.1 h,hkA];exact hk
 case done =>
  rintro D ys W hD hys ⟨⟨hne,hp,hr⟩,hB⟩ hK
  rw [Pg.cB,hys] at hne
  have hfn:(Pg.els s).reverse.find? (fun k=>Pg.ny ps k == 0)=none:=List.find?_eq_none.2 fun k hk=>by rw [hne k hk];decide
  rw [hfn] at hdm
  have hPW:=hP.below hB hpb hb
  have hpc:=hp.cell
  have hrc:=hr.cell
  have hrf:=hr.frozen
  have hrow:=hPW.row
  have hone:=fun w=>ji ps.length w (by omega)
  have hm1:=Nat.two_pow_pos ps.length
  have hm2:=fy (i:=ps.length) (by omega)
  generalize 2 ^ ps.length=m at *
  have hsub:((m:Int)-1)=((m-1:Nat):Int):=by omega
  gi_wp2_with (refine ⟨trivial,?_⟩;gi_at_call 151;refine (callsIn_wide.2 (hone _)).mono ?_;rintro e w9 ⟨rfl,hw9⟩;rw [hw9];clear hw9 w9)
  have hK':=(KeepsOthers.setCell W ⟨w.heap.size+1,0,none⟩ (.int .u32 ((m-1:Nat):Int))).same D _ hK rfl
  refine ⟨by simp,.inl ⟨_,_,rfl,run_takeDeferred hK',?_⟩⟩
  have hc5:=cell_kept (Boxed.set (.int .u32 ((m-1:Nat):Int)) hr).cell (grownBy_putObj' _ D (.deferred none)) (fun r e=>by cases e;exact ⟨_,hK',rfl⟩)
  refine ⟨.int .u32 ((m-1:Nat):Int),?_,by rw [hdm],(hB.setCell (p:=⟨w.heap.size+1,0,none⟩) (by simp) _).trans (belowK_b (w:=w) (Nat.le_refl _) _ D _ _ (by omega) hK' rfl rfl)⟩
  simp [results,Tryz.f195,go_sem,hc5]
 case stop =>
  rintro D c pre W hD hpre ⟨⟨⟨rfl,l,k,hl,hq,hk⟩,k',hk',hr⟩,hB⟩ hK
  rw [hl] at hk'
  have hkk:k=k':=by simpa using hk'
  subst hkk
  rw [← Pg.cB,hl] at hpre
  rw [Pg.DI hpre hq hk] at hdm
  gi_wp2
  refine ⟨by simp,.inl ⟨_,_,rfl,run_takeDeferred hK,?_⟩⟩
  have hc5:=cell_kept hr.cell (grownBy_putObj' _ D (.deferred none)) (fun r e=>by cases e;exact ⟨_,hK,rfl⟩)
  refine ⟨.int .u32 (Pg.mO ps k),?_,rfl,hB.trans (belowK_b (w:=w) (Nat.le_refl _) W D _ _ (by omega) hK rfl rfl)⟩
  simp [results,Tryz.f195,go_sem,hc5]
end
end Go.Proofs.YtegmoddppafkfaaGreatDoor
namespace Go.Proofs.YtegmoddppafkfaaGreatDoor
section
open Go.RowKit Go.Proofs Go.Shelf
attribute [local go_sem] Oper.semAt_some
namespace Pg
theorem ew {W W':World} (h:Below W.heap.size W W'):KeepsOthers W W':=⟨h.size,fun k _ hk _=>(h.block k (Array.getElem?_eq_some_iff.1 hk).1).trans hk⟩
end Pg
end
end Go.Proofs.YtegmoddppafkfaaGreatDoor
