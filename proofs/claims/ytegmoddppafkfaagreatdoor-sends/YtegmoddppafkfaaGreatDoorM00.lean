import Derived.Test.YtegmoddppafkfaaGreatDoorProg
import Derived.WalkKit
import Derived.WalkLawsBesides
import Derived.WalkSpells
import Derived.Deep.MidRow
import Derived.Deep.WholeRow
import Derived.StillTailTactics
import Derived.OrdersHeld
import Derived.Deep.RegionHeld
import Derived.Outline
import Derived.PlainAid
import Derived.Deep.Light
import Derived.Lib.Strings
import Derived.Lib.ItoaNum
import Derived.Lib.ParseIntB
import Derived.Shelf.Small.Bits
import Derived.Shelf.Spec.TrailingZeros
import Derived.Ground.NamesProg
import Derived.Ground.Names7Prog
import Derived.Laws.BitsAllLaws
import Derived.RangeFuncNested
import Derived.RangeFuncBound
import Derived.RangeFuncCalls
import Derived.RangeFuncLeaves
import Derived.Shelf.Abstract
import Derived.Shelf.RegionOpen
import Derived.OwnWalkIn
import Derived.TacticsInMore
import Derived.LoopNIn
import Derived.LoopIn
import Derived.Deep.LoopGhost
import Derived.RegionTactic
set_option maxRecDepth 100000
set_option maxHeartbeats 8000000
namespace Go.Proofs.YtegmoddppafkfaaGreatDoor
section
open Go.RowKit
variable {P:Program}
structure fQ (g:Nat) (w w':World):Prop where
 os:w'.os=w.os
 tape:w'.tape=w.tape
 output:w'.output=w.output
 size:w'.heap.size=w.heap.size
 block:∀ k,k≠g→w'.heap[k]?=w.heap[k]?
theorem fQ.below {g B:Nat} {a w w':World} (h:fQ g w w') (hb:Below B a w) (hB:B≤g):Below B a w' :=
 hb.trans ⟨h.os,h.tape,h.output,by rw [h.size];exact Nat.le_refl _,fun k hk=>h.block k (by omega)⟩
theorem fQ.cell {g:Nat} {w w':World} (h:fQ g w w') {p:Addr} (hp:p.block≠g):w'.cell? p=w.cell? p:=World.cell?_of_block (w:=w) (h.block p.block hp)
theorem il (w:World) (g:Nat) (cs:Array Value):fQ g w (w.setRow g cs):=⟨rfl,rfl,rfl,setRow_size w g cs,fun k hk=>setRow_other w g k cs hk⟩
theorem ae (w:World) (g o:Nat) (v:Value):fQ g w (w.setCell ⟨g,o,none⟩ v):=⟨rfl,rfl,rfl,by simp [World.setCell],fun k hk=>Below.heap_setCell _ _ _ _ hk⟩
theorem fQ.Ef {g:Nat} {w w':World} (h:fQ g w.drew w'):fQ g w w':=⟨h.os,h.tape,h.output,h.size,h.block⟩
theorem jm {w:World} {g:Nat} {c:Array Value} {t:TypeId} {fz:Nat×Nat} (hg:w.heap[g]?=some (.cells c t fz)):w.rangeAt g 0 c.toList:=by
 intro j v hj
 rw [Nat.zero_add,cell_of_row w g j c t fz hg]
 simpa using hj
theorem ud {cells:Array Value} (h:cells.toList.all (·.oneCell')=true):cells.all (·.oneCell')=true:=by
 rw [Array.all_eq_true_iff_forall_mem]
 intro v hv
 exact List.all_eq_true.1 h v (by simpa using hv)
theorem js {op:Oper} {a:Act} {w:World} {K:Act→World→Prop} {Q:Exit→Act→World→Prop} (ty:TypeId) (x y:Operand) (ho:op.op = .store ty x y)
  (g:Nat) (t:TypeId) (c cells:Array Value) (hx:a.eval x = .pointer (some ⟨g,0,none⟩)) (hy:a.eval y = .agg cells)
  (hg:w.heap[g]?=some (.cells c t (0,0))) (hi:(P.info? ty).map (·.size)=some cells.size) (hs:c.size=cells.size) (h1:cells.toList.all (·.oneCell')=true)
  (h:K (a.put op.dst undef) (w.setRow g cells)):op.wp P a w K Q:=by
 unfold Oper.wp execOp
 simp only [ho,hx,hy,Instr.storeAt,Instr.sureAddr,Sem.run_bind,Sem.run_pure,Result.andThen_ok,run_storeVar_row w g t ty c cells hg hi hs (ud h1)]
 exact h
theorem ee {ops:Array Oper} {rest:List Oper} {op:Oper} {a:Act} {w:World} {Q:Exit→Act→World→Prop} (hgd:op.guard=none) (ty:TypeId) (x y:Operand) (ho:op.op = .store ty x y)
  (g:Nat) (t:TypeId) (c cells:Array Value) (hx:a.eval x = .pointer (some ⟨g,0,none⟩)) (hy:a.eval y = .agg cells)
  (hg:w.heap[g]?=some (.cells c t (0,0))) (hi:(P.info? ty).map (·.size)=some cells.size) (hs:c.size=cells.size) (h1:cells.toList.all (·.oneCell')=true)
  (h:wpList P ops Q rest (a.put op.dst undef) (w.setRow g cells)):wpList P ops Q (op::rest) a w :=
 wpList_plain hgd fun _ hK=>js ty x y ho g t c cells hx hy hg hi hs h1 (hK _ _ h)
theorem aG {ops:Array Oper} {rest:List Oper} {op:Oper} {a:Act} {w:World} {Q:Exit→Act→World→Prop} (hgd:op.guard=none) (ty:TypeId) (x y:Operand) (ho:op.op = .store ty x y)
  (t:TypeId) (c cells:Array Value) (hx:a.eval x = .pointer (some ⟨w.heap.size,0,none⟩)) (hy:a.eval y = .agg cells)
  (hi:(P.info? ty).map (·.size)=some cells.size) (hs:c.size=cells.size) (h1:cells.toList.all (·.oneCell')=true)
  (h:wpList P ops Q rest (a.put op.dst undef) (w.alloc (.cells cells t))):wpList P ops Q (op::rest) a (w.alloc (.cells c t)) :=
 ee hgd ty x y ho w.heap.size t c cells hx hy (heap_alloc_new w _) hi hs h1 (by rw [World.setRow_alloc_new];exact h)
theorem gb {fn:Func} {p:Tmp} {ty:TypeId} (h:fn.results=#[.cell p ty]) (tmps:Array Value) (P:Program) (w:World) :
  (results fn tmps).run P w=((asAddr (tmps.getD p undef)).run P w).andThen fun a w₁=>(loadVar ty a).run P w₁:=by
 simp only [results,h]
 simp [Sem.run_bind,Result.andThen]
theorem dt {fn:Func} {p:Tmp} {ty:TypeId} {R:Ending→World→Prop} {a:Act} {w:World} (h:fn.results=#[.cell p ty]) (g:Nat) (t:TypeId) (c:Array Value) (fz:Nat×Nat) (d:TypeDesc)
  (hp:a.tmps.getD p undef = .pointer (some ⟨g,0,none⟩)) (hg:w.heap[g]?=some (.cells c t fz)) (hu:P.underlying ty=some d) (hd:d.isRow=true) (hi:(P.info? ty).map (·.size)=some c.size)
  (hdf:a.defers=[]) (hR:R (.returned (.agg c)) w):bodyPost P fn R .ret a w:=by
 refine bodyPost_ret (v := .agg c) ?_ hdf hR
 rw [gb h,hp]
 have:=run_loadVar_mid (P:=P) w g 0 ty c.toList d (jm hg) hu hd (by simpa using hi)
 simpa [asAddr] using this
theorem dS {id:Nat} {Q:Exit→Act→World→Prop} {a:Act} {w:World} {l:List Oper} (n:Nat) (hm:P.follows .mixedOrders=true) (hB:Region.lexTailB .any l.toArray n=true)
  (h:wpStill P l.toArray w.drew (fun a'=>wpList P l.toArray Q (l.drop n) a' w.drew) (l.take n) a):(Code.region id l.toArray true).wp P Q a w :=
 wp_region_still_tail n hm hB h
theorem aI {base base' size n:Nat} {e:TypeId} {v:Value} {xs:List Value} {w:World} (h:w.ownsRow base e size v n xs) (hb:base'≤base):w.ownsRow base' e size v n xs:=by
 refine ⟨h.1,?_⟩
 rcases h.2 with h' | ⟨k,cap,cur,hv,hb',r⟩
 ·exact .inl h'
 ·exact .inr ⟨k,cap,cur,hv,by omega,r⟩
theorem b8 (w:World) (o p:Obj):((w.alloc o).alloc p).heap[w.heap.size+1]?=some p:=by
 have:=heap_alloc_new (w.alloc o) p
 rwa [World.size_alloc] at this
theorem gn (w:World) (o p:Obj):((w.alloc o).alloc p).heap[w.heap.size]?=some o:=by
 rw [Below.heap_alloc _ _ _ (by simp)];exact heap_alloc_new w o
theorem gN {P:Program} {md:Region.Mode} {ops:Array Oper} {Q:Exit→Act→World→Prop} {S:World→Prop} {i:Nat} {oi:Oper} {v:Value} {d:Option Tmp} {fuel:Nat} {listed:Array Bool} {a:Act} {w:World} (hi:ops[i]?=some oi) (hd:oi.dst=d)
  (hs:Region.noSelect ops=true) (hf:Region.free md ops listed i=true) (hr:(Region.ready md ops listed).contains i=true)
  (hQ:∀ c a w,Q (.panic c) (a.put d v) w→Q (.panic c) a w) (hy:YieldsIf P ops S oi v a) (hS:S w)
  (h:wpAnyH P md ops Q S fuel (listed.setIfInBounds i true) (a.put d v) w):wpAnyH P md ops Q S (fuel+1) listed a w:=by
 subst hd
 exact wpAnyH_take hi hs hf hr hQ hy hS h
section
variable {P:Program} {md:Region.Mode} {ops:Array Oper} {Q:Exit→Act→World→Prop} {S:World→Prop} {oi:Oper} {fuel:Nat} {listed:Array Bool} {a:Act} {w:World}
theorem tH (i:Nat) (v:Value) (hi:ops[i]?=some oi) (hS:S w) (h:wpAnyH P md ops Q S fuel (listed.setIfInBounds i true) (a.put oi.dst v) w) (hs:Region.noSelect ops=true:=by kernel_rfl) (hf:Region.free md ops listed i=true:=by kernel_rfl) (hr:(Region.ready md ops listed).contains i=true:=by kernel_rfl) (hQ:∀ c a w,Q (.panic c) (a.put oi.dst v) w→Q (.panic c) a w:=by exact fun _ _ _ h=>h) (hy:YieldsIf P ops S oi v a:=by exact Or.inl ⟨by rfl,fun w hSw=>by (try dsimp only at hSw);go_simp;(try with_reducible rfl)⟩):wpAnyH P md ops Q S (fuel+1) listed a w:=wpAnyH_take hi hs hf hr hQ hy hS h
theorem tG (i:Nat) (v:Value) (hi:ops[i]?=some oi) (hS:S w) (h:wpAnyH P md ops Q S fuel (listed.setIfInBounds i true) (a.put oi.dst v) w) (hs:Region.noSelect ops=true:=by kernel_rfl) (hf:Region.free md ops listed i=true:=by kernel_rfl) (hr:(Region.ready md ops listed).contains i=true:=by kernel_rfl) (hQ:∀ c a w,Q (.panic c) (a.put oi.dst v) w→Q (.panic c) a w:=by exact fun _ _ _ h=>h) (hy:YieldsIf P ops S oi v a:=by exact Or.inl ⟨by kernel_rfl,fun w hSw=>by (try dsimp only at hSw);go_simp;(try with_reducible rfl)⟩):wpAnyH P md ops Q S (fuel+1) listed a w:=wpAnyH_take hi hs hf hr hQ hy hS h
theorem tD (d:Option Tmp) (i:Nat) (v:Value) (hi:ops[i]?=some oi) (hS:S w) (h:wpAnyH P md ops Q S fuel (listed.setIfInBounds i true) (a.put d v) w) (hd:oi.dst=d:=by rfl) (hs:Region.noSelect ops=true:=by kernel_rfl) (hf:Region.free md ops listed i=true:=by kernel_rfl) (hr:(Region.ready md ops listed).contains i=true:=by kernel_rfl) (hQ:∀ c a w,Q (.panic c) (a.put d v) w→Q (.panic c) a w:=by exact fun _ _ _ h=>h) (hy:YieldsIf P ops S oi v a:=by exact Or.inl ⟨by rfl,fun w hSw=>by (try dsimp only at hSw);go_simp;(try with_reducible rfl)⟩):wpAnyH P md ops Q S (fuel+1) listed a w:=gN hi hd hs hf hr hQ hy hS h
theorem tU (d:Option Tmp) (i:Nat) (hi:ops[i]?=some oi) (hS:S w) (h:wpAnyH P md ops Q S fuel (listed.setIfInBounds i true) (a.put d undef) w) (hd:oi.dst=d:=by rfl) (hs:Region.noSelect ops=true:=by kernel_rfl) (hf:Region.free md ops listed i=true:=by kernel_rfl) (hr:(Region.ready md ops listed).contains i=true:=by kernel_rfl) (hQ:∀ c a w,Q (.panic c) (a.put d undef) w→Q (.panic c) a w:=by exact fun _ _ _ h=>h) (hy:YieldsIf P ops S oi undef a:=by exact Or.inr ⟨by kernel_rfl,rfl⟩):wpAnyH P md ops Q S (fuel+1) listed a w:=gN hi hd hs hf hr hQ hy hS h
theorem tA (i:Nat) (v:Value) (hi:ops[i]?=some oi) (h:wpAny P md ops Q fuel (listed.setIfInBounds i true) (a.put oi.dst v) w) (hs:Region.noSelect ops=true:=by kernel_rfl) (hf:Region.free md ops listed i=true:=by kernel_rfl) (hr:(Region.ready md ops listed).contains i=true:=by kernel_rfl) (hQ:∀ c a w,Q (.panic c) (a.put oi.dst v) w→Q (.panic c) a w:=by exact fun _ _ _ h=>h) (hy:Yields P ops oi v a:=by exact Or.inl ⟨by rfl,fun w=>by go_simp⟩):wpAny P md ops Q (fuel+1) listed a w:=wpAny_take hi hs hf hr hQ hy h
theorem yH (rs:List Nat) (h:AllReadyH P md ops Q S fuel listed a w rs) (hr:Region.ready md ops listed=rs:=by kernel_rfl) (hne:rs≠[]:=by simp):wpAnyH P md ops Q S (fuel+1) listed a w:=wpAnyH_ready hr hne h
theorem zH (i:Nat) (ho:ops[i]?=some oi) (h:∀ K':Act→World→Prop,Shut (∀ a w,S w→(S w→wpAnyH P md ops Q S fuel (listed.setIfInBounds i true) a w)→K' a w)→if Region.wanted oi (yielded ops a.tmps)=true then Oper.wp P oi a w K' Q else K' (a.put oi.dst undef) w) (hr:Region.ready md ops listed=[i]:=by kernel_rfl):wpAnyH P md ops Q S (fuel+1) listed a w:=wpAnyH_ready hr (by simp) (AllReadyH.cons ho h AllReadyH.nil)
theorem yA (rs:List Nat) (h:AllReady P md ops Q fuel listed a w rs) (hr:Region.ready md ops listed=rs:=by kernel_rfl) (hne:rs≠[]:=by simp):wpAny P md ops Q (fuel+1) listed a w:=wpAny_ready hr hne h
theorem zA (i:Nat) (ho:ops[i]?=some oi) (h:∀ K':Act→World→Prop,(∀ a w,wpAny P md ops Q fuel (listed.setIfInBounds i true) a w→K' a w)→if Region.wanted oi (yielded ops a.tmps)=true then Oper.wp P oi a w K' Q else K' (a.put oi.dst undef) w) (hr:Region.ready md ops listed=[i]:=by kernel_rfl):wpAny P md ops Q (fuel+1) listed a w:=wpAny_ready hr (by simp) (AllReady.cons ho h AllReady.nil)
end
end
end Go.Proofs.YtegmoddppafkfaaGreatDoor
namespace Go.Proofs.YtegmoddppafkfaaGreatDoor
section
open Go.RowKit
open Go.PlainAid (bt get_bt bt_nonneg bt_le bt_end)
namespace Ref
theorem yx (a b:ByteArray):(a.toList == b.toList)=decide (a=b):=by
 rw [Bool.eq_iff_iff]
 simp only [beq_iff_eq,decide_eq_true_eq,Lib.toList_data]
 constructor
 ·intro h
  cases a;cases b
  simp only at h
  congr 1
  exact Array.ext' h
 ·intro h;rw [h]
def bJ (s t:ByteArray):Bool:=decide (t.size≤s.size)&&decide (s.extract 0 t.size=t)
def lr (a b:Int):Int:=if a=0∨b<a then b else a
def small (x:Int):Bool:=decide (97≤x)&&decide (x≤122)
def more (x:Int):Bool:=decide (x=95)||(decide (48≤x)&&decide (x≤57))
def gU (s:ByteArray) (i:Nat):Bool:=small (bt s i)||(decide (i≠0)&&more (bt s i))
def plain (s:ByteArray):Bool:=(List.range s.size).all (gU s)&&(decide (0<s.size)&&decide (s.size≤8))
end Ref
namespace Ref
theorem zk {n:Nat} {p:Nat→Bool} (h:∀ j,j<n→p j=true):(List.range n).all p=true:=by
 rw [List.all_eq_true];intro x hx;exact h x (List.mem_range.1 hx)
theorem qh {n k:Nat} {p:Nat→Bool} (hk:k<n) (h:p k=false):(List.range n).all p=false:=by
 rw [List.all_eq_false];exact ⟨k,List.mem_range.2 hk,by simp [h]⟩
theorem qY (s:ByteArray):gU s 0=small (bt s 0):=by simp [gU]
theorem tj {s:ByteArray} {k:Nat} (h:Hid (∀ j,j<k→gU s j=true)) (hk:gU s k=true):∀ j,j<k+1→gU s j=true:=by
 intro j hj
 by_cases e:j=k
 ·rw [e];exact hk
 ·exact h.out j (by omega)
end Ref
namespace Ref
theorem yS {a b:ByteArray} (h:a=b):Ending.returned (.string a) = .returned (.string b):=by rw [h]
def dec (n:Nat):ByteArray:=⟨(Lib.decDigits n).toArray⟩
def Gv:ByteArray:=⟨#[48,49,50,51,52,53,54,55,56,57]⟩
theorem CZ:∀ i:Fin 10,(Gv.extract i.val (i.val+1)).data=#[UInt8.ofNat (48+i.val)]:=by decide +kernel
theorem y7 {i:Nat} (h:i<10):Gv.extract i (i+1)=⟨#[UInt8.ofNat (48+i)]⟩:=ByteArray.ext (CZ ⟨i,h⟩)
theorem mH {n:Nat} (h:n<10):dec n=⟨#[UInt8.ofNat (48+n)]⟩:=by
 unfold dec;rw [Lib.decDigits_one h]
theorem yC {n:Nat} (h:¬ n<10):dec n=dec (n / 10)++⟨#[UInt8.ofNat (48+n % 10)]⟩:=by
 unfold dec
 conv=>lhs;rw [Lib.decDigits,dif_neg h]
 apply ByteArray.ext
 simp
theorem uv:∀ (k n:Nat),n<10 ^ (k+1)→(dec n).size≤k+1
 | 0,n,h=>by rw [mH (by simpa using h)];exact Nat.le_refl 1
 | k+1,n,h=>by
  by_cases h9:n<10
  ·rw [mH h9];exact Nat.le_add_left 1 (k+1)
  ·rw [yC h9,ByteArray.size_append']
   have:=uv k (n / 10) (by rw [Nat.pow_succ] at h;omega)
   have e:(ByteArray.mk #[UInt8.ofNat (48+n % 10)]).size=1:=rfl
   omega
theorem iZ {n:Nat} (h:n≤18446744073709551615):(dec n).size≤20:=uv 19 n (by omega)
end Ref
namespace Ref
def iP (x:Int):Bool:=decide (48≤x)&&decide (x≤57)
def val (s:ByteArray):Nat→Nat
 | 0=>0
 | k+1=>val s k*10+((bt s k).toNat-48)
def m64 (n:Nat):Int:=IntKind.u64.wrap n
def Ag:ByteArray:=⟨#[49,56,52,52,54,55,52,52,48,55,51,55,48,57,53,53,49,54,49,53]⟩
def oA (s:ByteArray):Bool:=s.toList.isEmpty||(decide (1<s.size)&&decide (bt s 0=48))||decide (20<s.size)||(decide (s.size=20)&&(!Op.bytesLess s.toList Ag.toList && !(s.toList == Ag.toList)))
def bF (s:ByteArray):Bool:=(List.range s.size).all (fun i=>iP (bt s i)) && !oA s
theorem isEmpty_eq (s:ByteArray):s.toList.isEmpty=decide (s.size=0):=by
 rw [Lib.toList_data,Bool.eq_iff_iff,List.isEmpty_iff,decide_eq_true_eq]
 exact ⟨fun h=>by show s.data.size=0;rw [← Array.length_toList,h];rfl,fun h=>List.eq_nil_of_length_eq_zero (by rw [Array.length_toList];exact h)⟩
def dG (s:ByteArray):Int:=if bF s then m64 (val s s.size) else 0
end Ref
namespace Num
def isD (c:UInt8):Bool:=decide (48≤c.toNat)&&decide (c.toNat≤57)
def num (acc:Nat) (l:List UInt8):Nat:=l.foldl (fun a c=>a*10+(c.toNat-48)) acc
theorem jS (acc:Nat) (c:UInt8) (r:List UInt8):num acc (c::r)=num (acc*10+(c.toNat-48)) r:=by unfold num;rw [List.foldl_cons]
theorem FC (l:List UInt8):∀ acc:Nat,acc≤num acc l:=by
 induction l with
 | nil=>exact fun acc=>Nat.le_refl _
 | cons c r ih =>
  intro acc
  have h1:=ih (acc*10+(c.toNat-48))
  rw [jS]
  exact Nat.le_trans (Nat.le_trans (Nat.le_mul_of_pos_right acc (by decide)) (Nat.le_add_right _ _)) h1
theorem jk:∀ (l:List UInt8) (acc:Nat),l.all isD=true→acc≤18446744073709551615→Lib.parseUintM 18446744073709551615 acc l=if num acc l≤18446744073709551615 then .ok (num acc l) else .range
 | [],acc,_,h=>by rw [Lib.parseUintM,if_pos (show num acc []≤_ from h)];rfl
 | c::r,acc,hd,h=>by
  rw [List.all_cons,Bool.and_eq_true] at hd
  have hc:48≤c.toNat∧c.toNat≤57:=by simpa [isD] using hd.1
  have hg:=FC r (acc*10+(c.toNat-48))
  rw [Lib.parseUintM,if_pos hc,jS]
  by_cases h1:1844674407370955162≤acc
  ·rw [if_pos h1,if_neg (by omega)]
  ·rw [if_neg h1]
   by_cases h2:18446744073709551615<acc*10+(c.toNat-48)
   ·rw [if_pos h2,if_neg (by omega)]
   ·rw [if_neg h2,jk r _ hd.2 (by omega)]
theorem vD {M u:Nat}:∀ (l:List UInt8) (acc:Nat),Lib.parseUintM M acc l = .ok u→l.all isD=true
 | [],_,_=>rfl
 | c::r,acc,h=>by
  rw [Lib.parseUintM] at h
  by_cases hc:48≤c.toNat∧c.toNat≤57
  ·rw [if_pos hc] at h
   split at h
   ·cases h
   ·split at h
    ·cases h
    ·rw [List.all_cons,vD r _ h,Bool.and_true];simp [isD,hc]
  ·rw [if_neg hc] at h;cases h
theorem tf:∀ (l:List UInt8) (acc:Nat),num acc l=acc*10 ^ l.length+num 0 l
 | [],acc=>by simp [num]
 | c::r,acc=>by
  rw [jS,jS,tf r (acc*10+(c.toNat-48)),tf r (0*10+(c.toNat-48)),List.length_cons,Nat.pow_succ,Nat.add_mul,Nat.zero_mul,Nat.zero_add,Nat.mul_assoc,Nat.mul_comm 10 (10 ^ r.length),Nat.add_assoc]
theorem lQ (c:UInt8) (r:List UInt8):num 0 (c::r)=(c.toNat-48)*10 ^ r.length+num 0 r:=by
 rw [jS,tf,Nat.zero_mul,Nat.zero_add]
theorem tg:∀ l:List UInt8,l.all isD=true→num 0 l<10 ^ l.length
 | [],_=>by decide
 | c::r,hd=>by
  rw [List.all_cons,Bool.and_eq_true] at hd
  have hc:48≤c.toNat∧c.toNat≤57:=by simpa [isD] using hd.1
  have ih:=tg r hd.2
  rw [lQ,List.length_cons,Nat.pow_succ]
  have h9:(c.toNat-48)*10 ^ r.length≤9*10 ^ r.length:=Nat.mul_le_mul_right _ (by omega)
  omega
theorem yQ:∀ a b:List UInt8,a.all isD=true→b.all isD=true→a.length=b.length→(num 0 a<num 0 b↔Op.bytesLess a b=true)∧(num 0 a=num 0 b↔a=b)
 | [],[],_,_,_=>⟨by simp [num,Op.bytesLess],by simp⟩
 | [],_::_,_,_,h=>by simp at h
 | _::_,[],_,_,h=>by simp at h
 | x::p,y::q,ha,hb,h=>by
  rw [List.all_cons,Bool.and_eq_true] at ha hb
  have hx:48≤x.toNat∧x.toNat≤57:=by simpa [isD] using ha.1
  have hy:48≤y.toNat∧y.toNat≤57:=by simpa [isD] using hb.1
  have hl:p.length=q.length:=by simpa using h
  have ih:=yQ p q ha.2 hb.2 hl
  have lp:=tg p ha.2
  have lq:=tg q hb.2
  rw [lQ,lQ,← hl]
  rw [← hl] at lq
  rcases Nat.lt_trichotomy x.toNat y.toNat with h1 | h1 | h1
  ·have hm:(x.toNat-48+1)*10 ^ p.length≤(y.toNat-48)*10 ^ p.length:=Nat.mul_le_mul_right _ (by omega)
   rw [Nat.add_mul,Nat.one_mul] at hm
   have hlt:x<y:=UInt8.lt_iff_toNat_lt.2 h1
   refine ⟨⟨fun _=>by simp [Op.bytesLess,hlt],fun _=>by omega⟩,⟨fun e=>by omega,fun e => ?_⟩⟩
   cases e;omega
  ·have hxy:x=y:=UInt8.toNat_inj.1 h1
   subst hxy
   refine ⟨⟨fun e => ?_,fun e => ?_⟩,⟨fun e => ?_,fun e => ?_⟩⟩
   ·have:=ih.1.1 (by omega)
    simp [Op.bytesLess,this]
   ·have:Op.bytesLess p q=true:=by simpa [Op.bytesLess] using e
    have:=ih.1.2 this;omega
   ·rw [ih.2.1 (by omega)]
   ·cases e;rfl
  ·have hm:(y.toNat-48+1)*10 ^ p.length≤(x.toNat-48)*10 ^ p.length:=Nat.mul_le_mul_right _ (by omega)
   rw [Nat.add_mul,Nat.one_mul] at hm
   have hlt:¬ x<y:=fun h=>by have:=UInt8.lt_iff_toNat_lt.1 h;omega
   have hne:¬ x=y:=fun e=>by rw [e] at h1;omega
   refine ⟨⟨fun e=>by omega,fun e => ?_⟩,⟨fun e=>by omega,fun e => ?_⟩⟩
   ·simp [Op.bytesLess,hlt,hne] at e
   ·cases e;omega
theorem su {s:ByteArray} {k:Nat} (h:k<s.data.toList.length):bt s k=((s.data.toList[k]).toNat:Int):=by
 have h':k<s.size:=by simpa using h
 rw [← get_bt s k h'];rfl
theorem qL (s:ByteArray):(List.range s.size).all (fun i=>Ref.iP (bt s i))=s.data.toList.all isD:=by
 rw [Bool.eq_iff_iff,List.all_eq_true,List.all_eq_true]
 have hsz:s.size=s.data.toList.length:=by simp
 constructor
 ·intro h c hc
  obtain ⟨k,hk,rfl⟩:=List.mem_iff_getElem.1 hc
  have:=h k (List.mem_range.2 (by omega))
  rw [su hk] at this
  simp only [Ref.iP,Bool.and_eq_true,decide_eq_true_eq] at this
  simp only [isD,Bool.and_eq_true,decide_eq_true_eq];omega
 ·intro h i hi
  rw [List.mem_range] at hi
  have hk:i<s.data.toList.length:=by omega
  have:=h _ (List.getElem_mem hk)
  rw [su hk]
  simp only [isD,Bool.and_eq_true,decide_eq_true_eq] at this
  simp only [Ref.iP,Bool.and_eq_true,decide_eq_true_eq];omega
theorem C6 (s:ByteArray):∀ k,k≤s.size→Ref.val s k=num 0 (s.data.toList.take k)
 | 0,_=>rfl
 | k+1,h=>by
  have hsz:s.size=s.data.toList.length:=by simp
  have hk:k<s.data.toList.length:=by omega
  rw [Ref.val,C6 s k (by omega),List.take_succ_eq_append_getElem hk,su hk]
  unfold num
  rw [List.foldl_append]
  simp
theorem EB (s:ByteArray):Ref.val s s.size=num 0 s.data.toList:=by
 rw [C6 s s.size (Nat.le_refl _)]
 congr 1
 exact List.take_of_length_le (by simp)
theorem xE {l:List UInt8} (hd:l.all isD=true) (hl:1<l.length) (h0:∀ c,l.head?=some c→¬ c.toNat=48):10 ^ (l.length-1)≤num 0 l:=by
 cases l with
 | nil=>simp at hl
 | cons c r =>
  rw [List.all_cons,Bool.and_eq_true] at hd
  have hc:48≤c.toNat∧c.toNat≤57:=by simpa [isD] using hd.1
  have:=h0 c rfl
  rw [lQ,List.length_cons,Nat.add_sub_cancel]
  have hm:1*10 ^ r.length≤(c.toNat-48)*10 ^ r.length:=Nat.mul_le_mul_right _ (by omega)
  omega
theorem B4:num 0 Ref.Ag.data.toList=18446744073709551615:=by decide
theorem vA (s:ByteArray) (h:¬ (1<s.size∧bt s 0=48)):(∀ u,Lib.parseUintB 64 s.data.toList = .ok u→Ref.bF s=true∧Ref.dG s=(u:Nat))∧((∀ u,Lib.parseUintB 64 s.data.toList ≠ .ok u)→Ref.bF s=false):=by
 have hsz:s.size=s.data.toList.length:=by simp
 have hlist:s.toList=s.data.toList:=Lib.toList_data s
 by_cases hd:s.data.toList.all isD=true
 ·by_cases he:s.size=0
  ·have hnil:s.data.toList=[]:=List.eq_nil_of_length_eq_zero (by omega)
   refine ⟨fun u hu => ?_,fun _ => ?_⟩
   ·rw [Lib.parseUintB,if_pos hnil] at hu;cases hu
   ·rw [Ref.bF,Ref.oA,Ref.isEmpty_eq,decide_eq_true he,Bool.true_or,Bool.true_or,Bool.true_or,Bool.not_true,Bool.and_false]
  ·have hne:¬ s.data.toList=[]:=fun e=>he (by rw [hsz,e];rfl)
   have hp:Lib.parseUintB 64 s.data.toList=if num 0 s.data.toList≤18446744073709551615 then .ok (num 0 s.data.toList) else .range:=by
    rw [Lib.parseUintB,if_neg hne]
    exact jk _ 0 hd (by decide)
   have hbad:Ref.oA s=decide (18446744073709551615<num 0 s.data.toList):=by
    rw [Ref.oA,Ref.isEmpty_eq,decide_eq_false he,Bool.false_or]
    have h1:(decide (1<s.size)&&decide (bt s 0=48))=false:=by
     rw [Bool.and_eq_false_iff]
     by_cases h1:1<s.size
     ·exact .inr (decide_eq_false fun h2=>h ⟨h1,h2⟩)
     ·exact .inl (decide_eq_false h1)
    rw [h1,Bool.false_or]
    rcases Nat.lt_trichotomy s.size 20 with h2 | h2 | h2
    ·rw [decide_eq_false (show ¬ 20<s.size by omega),decide_eq_false (show ¬ s.size=20 by omega),Bool.false_and,Bool.false_or]
     symm
     apply decide_eq_false
     have:=tg _ hd
     have hpw:(10:Nat) ^ s.data.toList.length≤10 ^ 19:=Nat.pow_le_pow_right (by decide) (by omega)
     have:(10:Nat) ^ 19=10000000000000000000:=by decide
     omega
    ·rw [decide_eq_false (show ¬ 20<s.size by omega),decide_eq_true h2,Bool.true_and,Bool.false_or,hlist,Lib.toList_data Ref.Ag]
     have hx:=yQ s.data.toList Ref.Ag.data.toList hd (by decide) (by rw [← hsz,h2];rfl)
     rw [B4] at hx
     rw [Bool.eq_iff_iff,Bool.and_eq_true,decide_eq_true_eq,Bool.not_eq_true',Bool.not_eq_true']
     constructor
     ·rintro ⟨ha,hb⟩
      have h3:¬ num 0 s.data.toList<18446744073709551615:=fun e=>by rw [hx.1.1 e] at ha;cases ha
      have h4:¬ num 0 s.data.toList=18446744073709551615:=fun e=>by rw [hx.2.1 e] at hb;simp at hb
      omega
     ·intro hlt
      constructor
      ·cases hb:Op.bytesLess s.data.toList Ref.Ag.data.toList with
       | false=>rfl
       | true=>have:=hx.1.2 hb;omega
      ·rw [beq_eq_false_iff_ne];intro e;have:=hx.2.2 e;omega
    ·rw [decide_eq_true h2,Bool.true_or]
     symm
     apply decide_eq_true
     have hh:∀ c,s.data.toList.head?=some c→¬ c.toNat=48:=by
      intro c hc e
      refine h ⟨by omega,?_⟩
      have hk:0<s.data.toList.length:=by omega
      rw [su hk]
      rw [List.head?_eq_getElem?,List.getElem?_eq_getElem hk] at hc
      cases hc
      omega
     have h3:=xE hd (by omega) hh
     have hpw:(10:Nat) ^ 20≤10 ^ (s.data.toList.length-1):=Nat.pow_le_pow_right (by decide) (by omega)
     have:(10:Nat) ^ 20=100000000000000000000:=by decide
     omega
   have hok:Ref.bF s = !decide (18446744073709551615<num 0 s.data.toList):=by rw [Ref.bF,qL,hd,hbad,Bool.true_and]
   refine ⟨fun u hu => ?_,fun hu => ?_⟩
   ·rw [hp] at hu
    by_cases hle:num 0 s.data.toList≤18446744073709551615
    ·rw [if_pos hle] at hu
     cases hu
     have h1:Ref.bF s=true:=by rw [hok,decide_eq_false (by omega)];rfl
     refine ⟨h1,?_⟩
     rw [Ref.dG,h1,if_pos rfl,EB,Ref.m64,IntKind.wrap_u64]
     omega
    ·rw [if_neg hle] at hu;cases hu
   ·rw [hok]
    by_cases hle:num 0 s.data.toList≤18446744073709551615
    ·exact absurd (by rw [hp,if_pos hle]) (hu (num 0 s.data.toList))
    ·rw [decide_eq_true (by omega)];rfl
 ·have hf:Ref.bF s=false:=by rw [Ref.bF,qL,Bool.eq_false_iff.2 hd,Bool.false_and]
  refine ⟨fun u hu => ?_,fun _=>hf⟩
  exfalso
  rw [Lib.parseUintB] at hu
  split at hu
  ·cases hu
  ·exact hd (vD _ _ hu)
end Num
end
section
open Go.RowKit Go.Proofs Go.Shelf
def Tryz.uY:Go.Shelf.Ren:=⟨fun | 128=>284 | n=>n,fun | 51=>138 | 3=>3 | 4=>4 | 46=>389 | 5=>5 | 9=>9 | n=>n,fun | n=>n⟩
theorem Tryz.DU:Go.Proofs.Lays.n128 Tryz.prog Tryz.uY:={
 mixed:=by kernel_rfl
 f128:=Tryz.func284.trans (congrArg some (by kernel_rfl))
 t3:=Tryz.underlying3
 a3:=Tryz.isAgg3
 z3:=Tryz.sizeOf3
 v3:=Tryz.zeroValue3
 t4:=Tryz.underlying4
 a4:=Tryz.isAgg4
 z4:=Tryz.sizeOf4
 v4:=Tryz.zeroValue4
 t5:=Tryz.underlying5
 a5:=Tryz.isAgg5
 z5:=Tryz.sizeOf5
 v5:=Tryz.zeroValue5
 t9:=Tryz.underlying9
 a9:=Tryz.isAgg9
 z9:=Tryz.sizeOf9
 v9:=Tryz.zeroValue9
 t46:=Tryz.underlying389
 a46:=Tryz.isAgg389
 z46:=Tryz.sizeOf389
 v46:=Tryz.zeroValue389
 t51:=Tryz.underlying138
 a51:=Tryz.isAgg138
 z51:=Tryz.sizeOf138
 v51:=Tryz.zeroValue138 }
def Tryz.sP:Go.Shelf.Ren:=⟨fun | 28=>188 | n=>n,fun | 27=>138 | 3=>3 | 4=>4 | 25=>389 | 53=>394 | 0=>0 | 5=>5 | n=>n,fun | 0=>1 | n=>n⟩
theorem Tryz.BO:Go.Proofs.Lays7.n28 Tryz.prog Tryz.sP:={
 mixed:=by kernel_rfl
 f28:=Tryz.func188.trans (congrArg some (by kernel_rfl))
 t0:=Tryz.underlying0
 a0:=Tryz.isAgg0
 z0:=Tryz.sizeOf0
 v0:=Tryz.zeroValue0
 i0:=by kernel_rfl
 t3:=Tryz.underlying3
 a3:=Tryz.isAgg3
 z3:=Tryz.sizeOf3
 v3:=Tryz.zeroValue3
 i3:=by kernel_rfl
 t4:=Tryz.underlying4
 a4:=Tryz.isAgg4
 z4:=Tryz.sizeOf4
 v4:=Tryz.zeroValue4
 i4:=by kernel_rfl
 t5:=Tryz.underlying5
 a5:=Tryz.isAgg5
 z5:=Tryz.sizeOf5
 v5:=Tryz.zeroValue5
 i5:=by kernel_rfl
 t25:=Tryz.underlying389
 a25:=Tryz.isAgg389
 z25:=Tryz.sizeOf389
 v25:=Tryz.zeroValue389
 i25:=by kernel_rfl
 t27:=Tryz.underlying138
 a27:=Tryz.isAgg138
 z27:=Tryz.sizeOf138
 v27:=Tryz.zeroValue138
 i27:=by kernel_rfl
 t53:=Tryz.underlying394
 a53:=Tryz.isAgg394
 z53:=Tryz.sizeOf394
 v53:=Tryz.zeroValue394
 i53:=by kernel_rfl
 g0:=by kernel_rfl }
theorem fy {i:Nat} (hi:i<32):(2:Nat) ^ i<4294967296:=by
 have:=Nat.pow_lt_pow_right (a:=2) (by decide) hi
 omega
theorem jq (i:Nat):(2:Int) ^ i=((2 ^ i:Nat):Int):=(Int.natCast_pow 2 i).symm
theorem Ey {i:Nat} (hi:i<32):(2:Int) ^ i % 4294967296=((2 ^ i:Nat):Int):=by
 rw [jq]
 exact Int.emod_eq_of_lt (Int.natCast_nonneg _) (by have:=fy hi;exact Int.ofNat_lt.2 this)
theorem ji (i:Nat) (w:World) (hi:i<32):Calls Tryz.prog 151 #[.int .i64 i] w fun e w'=>e = .returned (.int .u32 ((2 ^ i:Nat):Int))∧w'=w:=by
 have e:=Ey hi
 go_enter Tryz.func151,Tryz.ntmps151
 go_wp2
 rw [e]
 go_ret
 exact ⟨rfl,rfl⟩
theorem Dt (s i:Nat):((s&&&2 ^ i:Nat) != 0)=s.testBit i:=by
 cases h:s.testBit i
 ·have:s&&&2 ^ i=0:=by
   apply Nat.eq_of_testBit_eq
   intro j
   rw [Nat.testBit_and,Nat.testBit_two_pow,Nat.zero_testBit]
   by_cases hj:i=j
   ·subst hj;rw [h];rfl
   ·simp [hj]
  rw [this];rfl
 ·have h1:(s&&&2 ^ i).testBit i=true:=by rw [Nat.testBit_and,Nat.testBit_two_pow,h];simp
  rw [bne_iff_ne]
  intro h0
  rw [h0,Nat.zero_testBit] at h1
  exact absurd h1 (by decide)
theorem Bb {s i:Nat} (hi:i<32) (hs:s<4294967296):(bits BinOp.and IntKind.u32 (s:Int) ((2:Int) ^ i) != 0)=s.testBit i:=by
 rw [jq,bits_and_u32_nat s _ hs (fy hi),← Dt]
 cases h:(s&&&2 ^ i)
 ·rfl
 ·simp;omega
theorem yF (s:Nat) (i:Nat) (w:World) (hi:i<32) (hs:s<4294967296):Calls Tryz.prog 236 #[.int .u32 s,.int .i64 i] w fun e w'=>e = .returned (.bool (s.testBit i))∧w'=w:=by
 have e:=Bb hi hs
 go_enter Tryz.func236,Tryz.ntmps236
 go_wp2_with (go_at_call 151;refine (ji i _ hi).mono ?_;rintro e w9 ⟨rfl,hw9⟩;rw [hw9];clear hw9 w9)
 go_ret
 exact ⟨rfl,rfl⟩
theorem BN (s:Nat) (w:World) (hs:s<4294967296):Calls Tryz.prog 265 #[.int .u32 s] w fun e w'=>e = .returned (.int .i64 ((Lib.bitLen s:Int)-1))∧w'=w:=by
 have hb:=Lib.bitLen_le s 32 (by decide) (by omega)
 go_enter Tryz.func265,Tryz.ntmps265
 go_wp2_with (go_at_call 284;refine (Any.bits_Len32 Tryz.DU s _ (by omega) (by omega)).mono ?_;rintro e w9 ⟨rfl,hw9⟩;rw [hw9];clear hw9 w9)
 go_ret
 exact ⟨rfl,rfl⟩
theorem FT (s:Nat) (w:World) (hs:s<4294967296) (hT:TabAt 1 Lib.deBruijn32tab w):Calls Tryz.prog 188 #[.int .u32 s] w fun e w'=>e = .returned (.int .i64 (Lib.ctz 32 s))∧w'=w :=
 Any7.bits_TrailingZeros32 Tryz.BO s hs w fun _=>hT
namespace Pg
def els (s:Nat):List Nat:=(List.range 32).filter s.testBit
theorem lK {s i:Nat}:i∈els s↔i<32∧s.testBit i=true:=by
 unfold els
 rw [List.mem_filter,List.mem_range]
theorem i7 {p q:Nat→Bool} {k:Nat} (hp:p k=true) (hlt:∀ j,j<k→p j=false) (hq:∀ j,q j=(p j&&decide (j≠k))):∀ n,k<n→(List.range n).filter p=k::(List.range n).filter q
 | 0,h=>absurd h (Nat.not_lt_zero _)
 | n+1,h=>by
  rw [List.range_succ,List.filter_append,List.filter_append]
  by_cases hk:k<n
  ·rw [i7 hp hlt hq n hk,List.cons_append]
   have:q n=p n:=by rw [hq];simp;omega
   simp only [List.filter_cons,List.filter_nil,this]
  ·have hkn:k=n:=by omega
   subst hkn
   have e1:(List.range k).filter p=[]:=by
    rw [List.filter_eq_nil_iff];intro a ha;rw [hlt a (List.mem_range.1 ha)];decide
   have e2:(List.range k).filter q=[]:=by
    rw [List.filter_eq_nil_iff];intro a ha;rw [hq,hlt a (List.mem_range.1 ha)];simp
   have e3:q k=false:=by rw [hq];simp
   rw [e1,e2]
   simp [hp,e3]
theorem nt {p q:Nat→Bool} {k:Nat} (hp:p k=true) (hgt:∀ j,k<j→p j=false) (hq:∀ j,q j=(p j&&decide (j≠k))):∀ n,k<n→(List.range n).filter p=(List.range n).filter q++[k]
 | 0,h=>absurd h (Nat.not_lt_zero _)
 | n+1,h=>by
  rw [List.range_succ,List.filter_append,List.filter_append]
  by_cases hk:k<n
  ·rw [nt hp hgt hq n hk]
   have e1:p n=false:=hgt n hk
   have e2:q n=false:=by rw [hq,e1];rfl
   simp [e1,e2]
  ·have hkn:k=n:=by omega
   subst hkn
   have e3:q k=false:=by rw [hq];simp
   have e4:(List.range k).filter p=(List.range k).filter q:=by
    apply List.filter_congr
    intro a ha
    have:=List.mem_range.1 ha
    rw [hq];simp;omega
   rw [e4]
   simp [hp,e3]
theorem fG:els 0=[]:=by decide +kernel
theorem BW {s:Nat} (h0:s≠0) (hs:s<4294967296):Lib.ctz 32 s<32∧s.testBit (Lib.ctz 32 s)=true∧(∀ j,j<Lib.ctz 32 s→s.testBit j=false)∧∀ j,(s&&&(s-1)).testBit j=(s.testBit j&&decide (j≠Lib.ctz 32 s)):=by
 obtain ⟨m,hm,hk⟩:=Lib.ctzFrom_spec 32 s (Nat.pos_of_ne_zero h0) hs
 have he:Lib.ctz 32 s=Lib.ctzFrom 32 s:=by unfold Lib.ctz;rw [if_neg h0]
 rw [he]
 generalize Lib.ctzFrom 32 s=k at hm hk
 have hp:=Nat.two_pow_pos k
 have e1:s=2 ^ k*(2*m+1)+0:=by omega
 have e2:s-1=2 ^ k*(2*m)+(2 ^ k-1):=by
  have:2 ^ k*(2*m+1)=2 ^ k*(2*m)+2 ^ k:=by rw [Nat.mul_add,Nat.mul_one]
  omega
 have t1:∀ j,s.testBit j=if j<k then false else (2*m+1).testBit (j-k):=by
  intro j
  rw [e1,Nat.testBit_two_pow_mul_add _ hp,Nat.zero_testBit]
 have t2:∀ j,(s-1).testBit j=if j<k then (2 ^ k-1).testBit j else (2*m).testBit (j-k):=by
  intro j
  rw [e2,Nat.testBit_two_pow_mul_add _ (by omega)]
 refine ⟨hk,?_,?_,?_⟩
 ·rw [t1,if_neg (by omega),Nat.sub_self,Nat.testBit_zero]
  simp
 ·intro j hj
  rw [t1,if_pos hj]
 ·intro j
  rw [Nat.testBit_and,t1,t2]
  by_cases hj:j<k
  ·rw [if_pos hj,if_pos hj];rfl
  ·rw [if_neg hj,if_neg hj]
   by_cases hjk:j=k
   ·subst hjk
    rw [Nat.sub_self,Nat.testBit_zero,Nat.testBit_zero]
    simp
   ·obtain ⟨i,hi⟩:∃ i,j-k=i+1:=⟨j-k-1,by omega⟩
    rw [hi,Nat.testBit_succ,Nat.testBit_succ,show (2*m+1) / 2=m by omega,show 2*m / 2=m by omega]
    simp [hjk]
theorem zB {s:Nat} (h0:s≠0) (hs:s<4294967296):els s=Lib.ctz 32 s::els (s&&&(s-1)):=by
 obtain ⟨a,b,c,d⟩:=BW h0 hs
 exact i7 b c d 32 a
theorem j2 {s:Nat} (h0:s≠0) (hs:s<4294967296):1≤Lib.bitLen s∧Lib.bitLen s-1<32∧s.testBit (Lib.bitLen s-1)=true∧(∀ j,Lib.bitLen s-1<j→s.testBit j=false)∧∀ j,(s&&&(4294967295-2 ^ (Lib.bitLen s-1))).testBit j=(s.testBit j&&decide (j≠Lib.bitLen s-1)):=by
 have hb:=Lib.bitLen_le s 32 (by decide) (by omega)
 obtain ⟨a,b,c⟩:=Lib.bitLenAux_bounds 64 s (by omega) h0
 have he:Lib.bitLenAux 64 s=Lib.bitLen s:=rfl
 rw [he] at a b c
 generalize Lib.bitLen s=L at *
 obtain ⟨k,rfl⟩:∃ k,L=k+1:=⟨L-1,by omega⟩
 simp only [Nat.add_sub_cancel] at b ⊢
 have hgt:∀ j,k<j→s.testBit j=false:=fun j hj=>Nat.testBit_lt_two_pow (Nat.lt_of_lt_of_le c (Nat.pow_le_pow_right (by decide) hj))
 refine ⟨by omega,by omega,Nat.testBit_of_two_pow_le_and_two_pow_add_one_gt b c,hgt,?_⟩
 intro j
 rw [Nat.testBit_and]
 by_cases hj:j<32
 ·have:(4294967295-2 ^ k).testBit j=decide (j≠k):=by
   have h2:=fy (i:=k) (by omega)
   rw [show 4294967295-2 ^ k=2 ^ 32-(2 ^ k+1) by omega,Nat.testBit_two_pow_sub_succ (by omega),Nat.testBit_two_pow]
   simp [hj,eq_comm]
  rw [this]
 ·rw [hgt j (by omega)];rfl
theorem BB {s:Nat} (h0:s≠0) (hs:s<4294967296):els s=els (s&&&(4294967295-2 ^ (Lib.bitLen s-1)))++[Lib.bitLen s-1]:=by
 obtain ⟨_,a,b,c,d⟩:=j2 h0 hs
 exact nt b c d 32 a
end Pg
attribute [local go_sem] Oper.semAt_some
namespace Pg
abbrev In (s:Nat):Type:={ i:Nat // i∈els s }
def KpT (W W':World):Prop:=TabAt 1 Lib.deBruijn32tab W→TabAt 1 Lib.deBruijn32tab W'
theorem rI {t:Nat} (h0:t≠0):t&&&(t-1)<t:=Nat.lt_of_le_of_lt Nat.and_le_right (by omega)
theorem GC {t:Nat} (h0:t≠0) (ht:t<4294967296):bits BinOp.and IntKind.u32 (t:Int) ((t:Int)-1)=((t&&&(t-1):Nat):Int):=by
 rw [show (t:Int)-1=((t-1:Nat):Int) by omega,bits_and_u32_nat t _ ht (by omega)]
end Pg
theorem uL (n:Nat) (hn:1≤n) (l Bs s:Nat) (hs:s<4294967296) (J Jx:List (Pg.In s)→World→Prop)
  (hY:∀ pre x W,J pre W→pre.length<32→YieldAt Fence.wide (n-1) Tryz.prog l #[.int .i64 (x.1:Int)] W fun e W' =>
   (e = .returned (.bool true)∧J (pre++[x]) W'∧Pg.KpT W W')∨(e = .returned (.bool false)∧Jx (pre++[x]) W'))
  (W:World) (hBs:W.cell? ⟨Bs,0,none⟩=some (.int .u32 s)) (hT:TabAt 1 Lib.deBruijn32tab W) (h0:J [] W) :
  CallsIn Fence.wide n Tryz.prog 187 #[.func (.yield l) #[] #[],.pointer (some ⟨Bs,0,none⟩)] W fun e W'=>(∃ v,e = .returned v) ∧
   ((∃ ys,ys.map (·.1)=Pg.els s∧J ys W')∨(∃ pre,pre.map (·.1) <+: Pg.els s∧Jx pre W')):=by
 refine callsIn_of_wp Tryz.func187 rfl trivial ?_ rfl
 simp only [Tryz.ntmps187,List.size_toArray,List.length_cons,List.length_nil,Nat.reduceAdd,Nat.reduceSub,Array.replicate_succ,Array.replicate_zero,List.push_toArray,List.append_toArray,List.nil_append,List.cons_append]
 gi_wp2
 gi_loopw [3] (fun i wr=>∃ (t:Nat) (pre:List (Pg.In s)),i = .int .u32 t∧t<4294967296∧Pg.els s=pre.map (·.1)++Pg.els t∧J pre wr∧TabAt 1 Lib.deBruijn32tab wr)
  (fun i _=>(intOf i).toNat)
 case atStart=>exact ⟨s,[],rfl,hs,rfl,h0,hT⟩
 case round =>
  obtain ⟨t,pre,rfl,ht,he,hJs,hTr⟩:=hrel
  by_cases hz:t=0
  ·subst hz
   gi_wp2
   go_end0
   rw [Pg.fG,List.append_nil] at he
   exact ⟨⟨_,rfl⟩,.inl ⟨pre,he.symm,hJs⟩⟩
  ·have hf:=Pg.zB hz ht
   have hm:Lib.ctz 32 t∈Pg.els s:=by rw [he,hf];simp
   have hle:pre.length<32:=by
    have h1:(Pg.els s).length≤32:=by
     have:=List.length_filter_le s.testBit (List.range 32)
     rw [List.length_range] at this
     exact this
    rw [he,hf] at h1
    simp at h1
    omega
   obtain ⟨fn,tmps,assign,body,hy,hR⟩:=hY pre ⟨Lib.ctz 32 t,hm⟩ wr hJs hle
   dsimp only at hy
   have ha:=Pg.GC hz ht
   have hz':((t:Int) == 0)=false:=by simp;omega
   have hlt:=Pg.rI hz
   have htz:=FT t wr ht hTr
   gi_wp2_with (refine ⟨trivial,?_⟩;gi_at_call 188;refine (callsIn_wide.2 htz).mono ?_;clear htz;rintro e w9 ⟨rfl,hw9⟩;rw [hw9];clear hw9 w9)
   have hE:Pg.els s=(pre++[(⟨Lib.ctz 32 t,hm⟩:Pg.In s)]).map (·.1)++Pg.els (t&&&(t-1)):=he.trans (by rw [hf,List.map_append,List.append_assoc];rfl)
   refine hR.mono ?_
   rintro e W3 (⟨rfl,hJ3,hk3⟩ | ⟨rfl,hJx3⟩)
   ·gi_wp2
    go_roundw
    case rel=>exact ⟨t&&&(t-1),pre++[⟨Lib.ctz 32 t,hm⟩],rfl,by omega,hE,hJ3,hk3 hTr⟩
    case measure=>simp only [intOf];omega
   ·gi_wp2
    refine bodyPost_ret (results_none rfl _ _ _) rfl ?_
    exact ⟨⟨_,rfl⟩,.inr ⟨_,⟨_,hE.symm⟩,hJx3⟩⟩
theorem iy (n:Nat) (hn:1≤n) (Bs s:Nat) (hs:s<4294967296) (w:World) (hBs:Bs<w.heap.size) (hg:1<w.heap.size) (hc:w.cell? ⟨Bs,0,none⟩=some (.int .u32 s)) (hT:TabAt 1 Lib.deBruijn32tab w) :
  SeqStopsK Fence.wide n Tryz.prog 187 #[.pointer (some ⟨Bs,0,none⟩)] (fun x:Pg.In s=>#[Value.int .i64 (x.1:Int)]) Pg.KpT (fun ys=>ys.map (·.1)=Pg.els s) (fun pre=>pre.map (·.1) <+: Pg.els s) 32 w:=fun l J Jx W hW _ _ hY h0=>by
 have hc':=(hW.cell (p:=⟨Bs,0,none⟩) hBs).trans hc
 exact uL n hn l Bs s hs J Jx hY W hc' (fun j hj=>(hW.cell (p:=⟨1,j,none⟩) hg).trans (hT j hj)) h0
theorem dQ (s:Nat) (w:World):Calls Tryz.prog 150 #[.int .u32 s] w fun e w'=>e = .returned (.func (.func 187) #[] #[.pointer (some ⟨w.heap.size,0,none⟩)])∧w'=w.alloc (.cells #[.int .u32 s] 139):=by
 go_enter Tryz.func150,Tryz.ntmps150
 go_wp2
 go_ret
 exact ⟨rfl,rfl⟩
theorem lh (s:Nat) (w:World):Calls Tryz.prog 237 #[.int .u32 s] w fun e w'=>e = .returned (.func (.func 264) #[] #[.pointer (some ⟨w.heap.size,0,none⟩)])∧w'=w.alloc (.cells #[.int .u32 s] 139):=by
 go_enter Tryz.func237,Tryz.ntmps237
 go_wp2
 go_ret
 exact ⟨rfl,rfl⟩
namespace Pg
theorem qu {t:Nat} (h0:t≠0) (ht:t<4294967296):t&&&(4294967295-2 ^ (Lib.bitLen t-1))<t:=by
 obtain ⟨_,_,b,_,d⟩:=j2 h0 ht
 refine Nat.lt_of_le_of_ne Nat.and_le_left fun he => ?_
 have:=d (Lib.bitLen t-1)
 rw [he,b] at this
 simp at this
theorem Dq {t:Nat} (h0:t≠0) (ht:t<4294967296):bits BinOp.andNot IntKind.u32 (t:Int) ((2:Int) ^ (Lib.bitLen t-1))=((t&&&(4294967295-2 ^ (Lib.bitLen t-1)):Nat):Int):=by
 obtain ⟨_,a,_⟩:=j2 h0 ht
 rw [jq,u32_andNot_nat t _ ht (fy a)]
end Pg
theorem sr (n:Nat) (hn:1≤n) (l Bs s:Nat) (hs:s<4294967296) (J Jx:List (Pg.In s)→World→Prop)
  (hY:∀ pre x W,J pre W→pre.length<32→YieldAt Fence.wide (n-1) Tryz.prog l #[.int .i64 (x.1:Int)] W fun e W' =>
   (e = .returned (.bool true)∧J (pre++[x]) W'∧True)∨(e = .returned (.bool false)∧Jx (pre++[x]) W'))
  (W:World) (hBs:W.cell? ⟨Bs,0,none⟩=some (.int .u32 s)) (h0:J [] W) :
  CallsIn Fence.wide n Tryz.prog 264 #[.func (.yield l) #[] #[],.pointer (some ⟨Bs,0,none⟩)] W fun e W'=>(∃ v,e = .returned v) ∧
   ((∃ ys,ys.map (·.1)=(Pg.els s).reverse∧J ys W')∨(∃ pre,pre.map (·.1) <+: (Pg.els s).reverse∧Jx pre W')):=by
 refine callsIn_of_wp Tryz.func264 rfl trivial ?_ rfl
 simp only [Tryz.ntmps264,List.size_toArray,List.length_cons,List.length_nil,Nat.reduceAdd,Nat.reduceSub,Array.replicate_succ,Array.replicate_zero,List.push_toArray,List.append_toArray,List.nil_append,List.cons_append]
 gi_wp2
 gi_loopw [3] (fun i wr=>∃ (t:Nat) (pre:List (Pg.In s)),i = .int .u32 t∧t<4294967296∧(Pg.els s).reverse=pre.map (·.1)++(Pg.els t).reverse∧J pre wr)
  (fun i _=>(intOf i).toNat)
 case atStart=>exact ⟨s,[],rfl,hs,rfl,h0⟩
 case round =>
  obtain ⟨t,pre,rfl,ht,he,hJs⟩:=hrel
  by_cases hz:t=0
  ·subst hz
   gi_wp2
   go_end0
   rw [Pg.fG,List.reverse_nil,List.append_nil] at he
   exact ⟨⟨_,rfl⟩,.inl ⟨pre,he.symm,hJs⟩⟩
  ·obtain ⟨hb1,hb2,_⟩:=Pg.j2 hz ht
   have hf:=congrArg List.reverse (Pg.BB hz ht)
   rw [List.reverse_append] at hf
   have ha:=Pg.Dq hz ht
   have hlt:=Pg.qu hz ht
   have hla:=fun w=>BN t w ht
   generalize Lib.bitLen t=L at *
   obtain ⟨k,rfl⟩:∃ k,L=k+1:=⟨L-1,by omega⟩
   have hk:((k+1:Nat):Int)-1=(k:Int):=by omega
   simp only [hk] at hla
   simp only [Nat.add_sub_cancel] at hf ha hlt hb2
   have hm:k∈Pg.els s:=by rw [← List.mem_reverse,he,hf];simp
   have hle:pre.length<32:=by
    have h1:(Pg.els s).reverse.length≤32:=by
     have:=List.length_filter_le s.testBit (List.range 32)
     rw [List.length_range] at this
     rw [List.length_reverse]
     exact this
    rw [he,hf] at h1
    simp at h1
    omega
   have hE:(Pg.els s).reverse=(pre++[(⟨k,hm⟩:Pg.In s)]).map (·.1)++(Pg.els (t&&&(4294967295-2 ^ k))).reverse:=he.trans (by rw [hf,List.map_append,List.append_assoc];rfl)
   obtain ⟨fn,tmps,assign,body,hy,hR⟩:=hY pre ⟨k,hm⟩ wr hJs hle
   dsimp only at hy
   have hz':((t:Int) == 0)=false:=by simp;omega
   generalize t&&&(4294967295-2 ^ k)=t' at *
   gi_wp2_with (refine ⟨trivial,?_⟩;gi_at_call 265;refine (callsIn_wide.2 (hla _)).mono ?_;rintro e w9 ⟨rfl,hw9⟩;rw [hw9];clear hw9 w9)
   refine hR.mono ?_
   rintro e W3 (⟨rfl,hJ3,hk3⟩ | ⟨rfl,hJx3⟩)
   ·gi_wp2_with (first
     | (refine ⟨trivial,?_⟩;gi_at_call 265;refine (callsIn_wide.2 (hla _)).mono ?_;rintro e w9 ⟨rfl,hw9⟩;rw [hw9];clear hw9 w9)
     | (refine ⟨trivial,?_⟩;gi_at_call 151;refine (callsIn_wide.2 (ji k _ hb2)).mono ?_;rintro e w9 ⟨rfl,hw9⟩;rw [hw9];clear hw9 w9))
    go_roundw
    case rel=>exact ⟨t',pre++[⟨k,hm⟩],rfl,by omega,hE,hJ3⟩
    case measure=>simp only [intOf];omega
   ·gi_wp2
    refine bodyPost_ret (results_none rfl _ _ _) rfl ?_
    exact ⟨⟨_,rfl⟩,.inr ⟨_,⟨_,hE.symm⟩,hJx3⟩⟩
theorem jC (n:Nat) (hn:1≤n) (Bs s:Nat) (hs:s<4294967296) (w:World) (hBs:Bs<w.heap.size) (hc:w.cell? ⟨Bs,0,none⟩=some (.int .u32 s)) :
  SeqStopsK Fence.wide n Tryz.prog 264 #[.pointer (some ⟨Bs,0,none⟩)] (fun x:Pg.In s=>#[Value.int .i64 (x.1:Int)]) (fun _ _=>True) (fun ys=>ys.map (·.1)=(Pg.els s).reverse) (fun pre=>pre.map (·.1) <+: (Pg.els s).reverse) 32 w:=fun l J Jx W hW _ _ hY h0 =>
 sr n hn l Bs s hs J Jx hY W ((hW.cell (p:=⟨Bs,0,none⟩) hBs).trans hc) h0
end
section
open Go.RowKit
open Go.PlainAid (bt get_bt bt_nonneg bt_le bt_end)
namespace Ref
theorem gI {w:World} {base size n:Nat} {e:TypeId} {v:Value} {xs:List Value} (h:w.ownsRow base e size v n xs) (hn:0<n):∃ g cap,v = .slice (some ⟨g,0,none⟩) n cap:=by
 rcases h.2 with ⟨_,h0⟩ | ⟨g,cap,cur,hv,_⟩
 ·omega
 ·exact ⟨g,cap,hv⟩
def cD (s:ByteArray) (c:Int):Nat→List ByteArray
 | 0=>[ByteArray.empty]
 | k+1=>if bt s k=c then cD s c k++[ByteArray.empty] else (cD s c k).set ((cD s c k).length-1) ((cD s c k)[(cD s c k).length-1]?.getD ByteArray.empty++s.extract k (k+1))
def cut (s:ByteArray) (c:Int):List ByteArray:=cD s c s.size
theorem j1 (s:ByteArray) (c:Int):∀ k,0<(cD s c k).length
 | 0=>by simp [cD]
 | k+1=>by
  have:=j1 s c k
  unfold cD
  split <;> simp
  exact this
theorem ur (s:ByteArray) (c:Int):∀ k,(cD s c k).length≤k+1
 | 0=>by simp [cD]
 | k+1=>by
  have:=ur s c k
  unfold cD
  split <;> simp <;> omega
theorem sU {l:List ByteArray} {i B:Nat} {y:ByteArray} (h:∀ x∈l,x.size≤B) (hy:y.size≤B):∀ x∈l.set i y,x.size≤B:=by
 intro x hx
 rcases List.mem_or_eq_of_mem_set hx with h' | h'
 ·exact h x h'
 ·rw [h'];exact hy
theorem mX {s:ByteArray} {k:Nat} (h:k<s.size):(s.extract k (k+1)).size=1:=by simp;omega
theorem nq (s:ByteArray) (c:Int):∀ k,k≤s.size→∀ x∈cD s c k,x.size≤k
 | 0,_=>by simp [cD]
 | k+1,hk=>by
  have ih:=nq s c k (by omega)
  unfold cD
  split
  ·intro x hx
   rcases List.mem_append.1 hx with h | h
   ·have:=ih x h;omega
   ·rw [List.mem_singleton.1 h];exact Nat.zero_le _
  ·refine sU (fun x hx=>by have:=ih x hx;omega) ?_
   rw [ByteArray.size_append',mX (by omega)]
   have hp:=j1 s c k
   rw [List.getElem?_eq_getElem (by omega)]
   have:=ih _ (List.getElem_mem (show (cD s c k).length-1<(cD s c k).length by omega))
   simp only [Option.getD_some]
   omega
theorem Dx {s:ByteArray} {c:Int} {k:Nat} (h:bt s k=c):cD s c (k+1)=cD s c k++[ByteArray.empty]:=by rw [cD,if_pos h]
theorem Fh {s:ByteArray} {c:Int} {k:Nat} (h:¬ bt s k=c):cD s c (k+1)=(cD s c k).set ((cD s c k).length-1) ((cD s c k)[(cD s c k).length-1]?.getD ByteArray.empty++s.extract k (k+1)):=by rw [cD,if_neg h]
end Ref
namespace Ref
def bB:ByteArray:=⟨#[97,102,116,101,114,46]⟩
def iQ:ByteArray:=⟨#[100,111,110,101,46]⟩
def jN (s:ByteArray):Bool:=bJ s bB&&(bF (s.extract 6 s.size)&&(decide (0<dG (s.extract 6 s.size))&&decide (dG (s.extract 6 s.size)≤1500)))
def called (s:ByteArray):Bool:=plain s||jN s
def bG (s:ByteArray):Bool:=called s||(bJ s iQ&&plain (s.extract 5 s.size))
theorem nj {s t:ByteArray} (h:bJ s t=true):t.size≤s.size:=by
 simp [bJ] at h;exact h.1
end Ref
end
end Go.Proofs.YtegmoddppafkfaaGreatDoor
