import Derived.Test.YtegmoddppafkfaaGreatDoorM00
import Derived.Test.YtegmoddppafkfaaGreatDoorM01
import Derived.Test.YtegmoddppafkfaaGreatDoorM02
import Derived.Test.YtegmoddppafkfaaGreatDoorM03
import Derived.Test.YtegmoddppafkfaaGreatDoorM07
import Derived.Deep.AppendLies
import Derived.BigQuiet
import Derived.OrdersIn
import Derived.StillTail
import Derived.TacticsIn
set_option maxRecDepth 100000
set_option maxHeartbeats 8000000
namespace Go.Proofs.YtegmoddppafkfaaGreatDoor
section
open Go.RowKit
def QAt (w:World) (lo:Nat) (v:Value) (L:List ByteArray):Prop :=
 (v = .slice none 0 0∧L=[])∨∃ g off cap cur,v = .slice (some ⟨g,off,none⟩) L.length cap∧lo≤g∧w.heap[g]?=some (.cells cur 9 (0,0))∧L.length≤cap∧cap≤maxLen∧(0<cap→off+cap≤cur.size)∧∀ j,j<L.length→cur[off+j]?=some (.string (L.getD j ByteArray.empty))
theorem QAt.nil (w:World) (lo:Nat):QAt w lo (.slice none 0 0) [] := .inl ⟨rfl,rfl⟩
theorem QAt.form {w:World} {lo:Nat} {v:Value} {L:List ByteArray} (h:QAt w lo v L):∃ a c,v = .slice a L.length c:=by
 rcases h with ⟨rfl,rfl⟩ | ⟨g,off,cap,cur,rfl,_⟩
 ·exact ⟨none,0,rfl⟩
 ·exact ⟨_,_,rfl⟩
theorem QAt.mo {P:Nat→Prop} {w w':World} {lo:Nat} {v:Value} {L:List ByteArray} (h:QAt w lo v L) (hm:Mo P w w') (hn:∀ g,v.ownBlock=some g→¬ P g):QAt w' lo v L:=by
 rcases h with h | ⟨g,off,cap,cur,rfl,h1,h2,h3⟩
 ·exact .inl h
 ·exact .inr ⟨g,off,cap,cur,rfl,h1,by rw [hm.block g (Array.getElem?_eq_some_iff.1 h2).1 (hn g rfl)];exact h2,h3⟩
theorem QAt.lt {w:World} {lo:Nat} {v:Value} {L:List ByteArray} (h:QAt w lo v L):∀ g,v.ownBlock=some g→lo≤g∧g<w.heap.size:=by
 intro g hg
 rcases h with ⟨rfl,_⟩ | ⟨g',off,cap,cur,rfl,h1,h2,_⟩
 ·cases hg
 ·cases hg;exact ⟨h1,(Array.getElem?_eq_some_iff.1 h2).1⟩
theorem QAt.kind {w:World} {lo:Nat} {v:Value} {L:List ByteArray} (h:QAt w lo v L):∀ g,v.ownBlock=some g→∃ c,w.heap[g]?=some (.cells c 9 (0,0)):=by
 intro g hg
 rcases h with ⟨rfl,_⟩ | ⟨g',off,cap,cur,rfl,h1,h2,_⟩
 ·cases hg
 ·cases hg;exact ⟨_,h2⟩
theorem QAt.head {w:World} {lo:Nat} {v:Value} {x:ByteArray} {L:List ByteArray} (h:QAt w lo v (x::L)):∃ g off cap,v = .slice (some ⟨g,off,none⟩) (L.length+1) (cap+1)∧L.length≤cap∧cap+1≤maxLen∧w.cell? ⟨g,off,none⟩=some (.string x) ∧
  ∀ off',(off'=off+1∨cap=0)→QAt w lo (.slice (some ⟨g,off',none⟩) L.length cap) L:=by
 rcases h with ⟨_,h⟩ | ⟨g,off,cap,cur,rfl,h1,h2,h3,h4,h5,h6⟩
 ·cases h
 ·simp only [List.length_cons] at h3 h6
  obtain ⟨cap,rfl⟩:∃ k,cap=k+1:=⟨cap-1,by omega⟩
  refine ⟨g,off,cap,rfl,by omega,h4,?_,fun off' ho => .inr ⟨g,off',cap,cur,rfl,h1,h2,by omega,by omega,?_,?_⟩⟩
  ·have:=h6 0 (by omega)
   simp only [Nat.add_zero,List.getD_cons_zero] at this
   simp [World.cell?,h2,this]
  ·intro hc;have:=h5 (by omega);omega
  ·intro j hj
   have:=h6 (j+1) (by omega)
   rcases ho with rfl | rfl
   ·rw [show off+1+j=off+(j+1) by omega,this];simp
   ·omega
section
variable {P:Program} (w:World)
theorem kY (t ty e:TypeId) (i:TypeInfo) (ht:P.underlying t=some (.slice e)) (hi:P.info? e=some i)
  (g off sLen sCap:Nat) (cur:Array Value) (hg:w.heap[g]?=some (.cells cur e (0,0)))
  (a:Addr) (m c:Nat) (news:List Value) (hl:news.length=m*i.size) (hnews:∀ j u,news[j]?=some u→w.cell? (a.add j)=some u) (h1:∀ u∈news,u.oneCell'=true)
  (hroom:sLen+m≤sCap) (hfit:off+sLen*i.size+news.length≤cur.size) :
  (Builtin.append_ #[t,t] ty #[.slice (some ⟨g,off,none⟩) sLen sCap,.slice (some a) m c]).run P w =
   .ok (.slice (some ⟨g,off,none⟩) (sLen+m) sCap) (w.setRow g (cur.toList.take (off+sLen*i.size)++news++cur.toList.drop (off+sLen*i.size+news.length)).toArray):=by
 have hf:=run_firstCells_some (P:=P) w i.size m a m c news hl hnews
 have hst:=run_storeCells_at P g (off+sLen*i.size) e news 0 cur w hg (by simpa using hfit) h1
 simp only [Nat.add_zero] at hst
 simp [Builtin.append_,run_underlying ht,sizeOf,typeInfo,hi,Builtin.lenOf,hroom,hf,Addr.add_lit,hst]
theorem tB (t ty:TypeId) (i:TypeInfo) (z:Value) (bytes:Nat) (ht:P.underlying t=some (.slice 9)) (hi:P.info? 9=some i) (hz:i.zero=some z)
  (hsize:i.size=1) (hby:i.bytes=bytes) (hzs:z.cells.size=1) (lo:Nat) (v:Value) (L:List ByteArray) (hq:QAt w lo v L)
  (a:Addr) (c:Nat) (x:ByteArray) (hnews:w.cell? a=some (.string x)) (hsp:a.spot=none)
  (h63:L.length+1≤maxLen) (hbytes:(L.length+1)*bytes≤140737488355328) (hbase:lo≤w.heap.size) :
  ∃ v' w',(Builtin.append_ #[t,t] ty #[v,.slice (some a) 1 c]).run P w = .ok v' w'∧QAt w' lo v' (L++[x])∧w.grownBy w' v.ownBlock∧(v'.ownBlock=v.ownBlock∨v'.ownBlock=some w.heap.size):=by
 subst hby
 have hsmall:L.length+1≤9223372036854775807:=by simp only [maxLen] at h63;omega
 have hn:∀ j u,[Value.string x][j]?=some u→w.cell? (a.add j)=some u:=by
  intro j u hj
  cases j with
  | zero=>simp at hj;subst hj;obtain ⟨b,o,s⟩:=a;subst hsp;simpa [Addr.add_lit] using hnews
  | succ j=>simp at hj
 have hl:[Value.string x].length=1*i.size:=by rw [hsize];rfl
 have h1:∀ u∈[Value.string x],u.oneCell'=true:=by intro u hu;simp at hu;subst hu;rfl
 have grown:∀ (old:Nat),∀ (row:Option Nat),
   QAt (w.drew.alloc (.cells ((L.map Value.string).toArray++[Value.string x].toArray++Builtin.zeroCells z.cells (grownCap w (L.length+1) old 9-(L.length+1))) 9)) lo
    (.slice (some ⟨w.heap.size,0,none⟩) (L.length+1) (grownCap w (L.length+1) old 9)) (L++[x]) ∧
   w.grownBy (w.drew.alloc (.cells ((L.map Value.string).toArray++[Value.string x].toArray++Builtin.zeroCells z.cells (grownCap w (L.length+1) old 9-(L.length+1))) 9)) row:=by
  intro old row
  have hge:=grownCap_ge w (L.length+1) old 9
  have hcm:grownCap w (L.length+1) old 9≤maxLen:=grownCap_le_maxLen w (L.length+1) old 9 h63
  refine ⟨.inr ⟨w.heap.size,0,_,_,by simp,hbase,heap_alloc_new w.drew _,by simpa using hge,hcm,?_,?_⟩,⟨rfl,rfl,rfl,by simp,fun k hk _=>Below.heap_alloc w.drew _ k hk⟩⟩
  ·intro _
   simp only [Array.size_append,List.size_toArray,List.length_map,List.length_cons,List.length_nil,size_zeroCells,hzs]
   omega
  ·intro j hj
   simp only [List.length_append,List.length_cons,List.length_nil] at hj
   rw [Nat.zero_add,Array.getElem?_append_left (by simp;omega)]
   by_cases h:j<L.length
   ·rw [Array.getElem?_append_left (by simpa using h)]
    simp [List.getD,List.getElem?_append_left h,h]
   ·obtain rfl:j=L.length:=by omega
    rw [Array.getElem?_append_right (by simp)]
    simp [List.getD]
 rcases hq with ⟨rfl,rfl⟩ | ⟨g,off,cap,cur,rfl,hbg,hg,hnc,hcm,hcs,hcur⟩
 ·have hr:=run_append_nil (P:=P) w t ty 9 i z ht hi hz a 1 c [.string x] hl hn (by omega) (by omega) (by have hb:=hbytes;simp at hb;omega)
  have hgr:=grown 0 (Value.ownBlock (.slice none 0 0))
  simp only [List.length_nil,Nat.zero_add,List.map_nil,List.nil_append,Array.empty_append] at hgr ⊢
  exact ⟨_,_,hr,hgr.1,hgr.2,.inr rfl⟩
 ·by_cases hroom:L.length+1≤cap
  ·have hcs:=hcs (by omega)
   have hr:=kY (P:=P) w t ty 9 i ht hi g off L.length cap cur hg a 1 c [.string x] hl hn h1 hroom (by rw [hsize];simp;omega)
   rw [hsize,Nat.mul_one] at hr
   refine ⟨_,_,hr,.inr ⟨g,off,cap,_,by simp,hbg,setRow_heap w g cur _ _ _ hg,by simpa using hroom,hcm,?_,?_⟩,⟨rfl,rfl,rfl,by simp,fun k _ hk=>setRow_other w g k _ (fun e=>hk (by simp [Value.ownBlock,e]))⟩,.inl rfl⟩
   ·intro _
    simp only [List.size_toArray,List.length_append,List.length_take,List.length_drop,Array.length_toList,List.length_cons,List.length_nil]
    omega
   ·intro j hj
    simp only [List.length_append,List.length_cons,List.length_nil] at hj
    rw [List.getElem?_toArray,List.append_assoc]
    by_cases h:j<L.length
    ·rw [List.getElem?_append_left (by simp;omega),List.getElem?_take_of_lt (by omega),Array.getElem?_toList,hcur j h]
     simp [List.getD,List.getElem?_append_left h]
    ·obtain rfl:j=L.length:=by omega
     have hmin:(cur.toList.take (off+L.length)).length=off+L.length:=by simp;omega
     rw [List.getElem?_append_right (by rw [hmin];omega),hmin,Nat.sub_self]
     simp [List.getD]
  ·have holds:∀ j u,(L.map Value.string)[j]?=some u→w.cell? ((⟨g,off,none⟩:Addr).add j)=some u:=by
    intro j u hu
    have hj:j<L.length:=by simpa using (List.getElem?_eq_some_iff.1 hu).1
    have:=hcur j hj
    simp [List.getElem?_eq_getElem hj] at hu
    subst hu
    simp [Addr.add_lit,World.cell?,hg,this,List.getD,hj]
   have hr:=run_append_grow (P:=P) w t ty 9 i z ht hi hz ⟨g,off,none⟩ L.length cap (L.map Value.string) (by simp [hsize]) holds a 1 c [.string x] hl hn (by omega) (by omega) (growslice_fits (by omega) hbytes)
   have hgr:=grown cap (Value.ownBlock (.slice (some ⟨g,off,none⟩) L.length cap))
   exact ⟨_,_,hr,hgr.1,hgr.2,.inr rfl⟩
theorem nN {ops:Array Oper} {rest:List Oper} {o:Oper} {a:Act} {Q:Exit→Act→World→Prop} (hgd:o.guard=none) (s x:Operand) (t:TypeId)
  (ho:o.op = .call { callee := .builtin .append,args:=#[s,x],argTypes:=#[t,t] })
  (i:TypeInfo) (z:Value) (bytes:Nat) (ht:P.underlying t=some (.slice 9)) (hi:P.info? 9=some i) (hz:i.zero=some z)
  (hsize:i.size=1) (hby:i.bytes=bytes) (hzs:z.cells.size=1) (lo:Nat) (v:Value) (L:List ByteArray) (hs:a.eval s=v) (hq:QAt w lo v L)
  (ad:Addr) (c:Nat) (y:ByteArray) (hx:a.eval x = .slice (some ad) 1 c) (hnews:w.cell? ad=some (.string y)) (hsp:ad.spot=none)
  (h63:L.length+1≤maxLen) (hbytes:(L.length+1)*bytes≤140737488355328) (hbase:lo≤w.heap.size)
  (h:∀ v' w',QAt w' lo v' (L++[y])→w.grownBy w' v.ownBlock→(v'.ownBlock=v.ownBlock∨v'.ownBlock=some w.heap.size)→wpList P ops Q rest (a.put o.dst v') w'):wpList P ops Q (o::rest) a w:=by
 refine wpList_plain hgd fun K hK => ?_
 obtain ⟨v',w',hr,h2,h3,h4⟩:=tB (P:=P) w t o.type i z bytes ht hi hz hsize hby hzs lo v L hq ad c y hnews hsp h63 hbytes hbase
 unfold Oper.wp execOp
 simp only [ho,resolve,invoke,builtin,Sem.run_bind,Sem.run_pure,Result.andThen_ok,List.map_toArray,List.map_cons,List.map_nil,hs,hx,hr]
 exact hK _ _ (h v' w' h2 h3 h4)
end
end
section
open Go.RowKit Go.Proofs Go.Shelf
namespace Pg
structure MSt where
 act:Nat
 kept:Nat→Nat
 q:List ByteArray
 now:Nat
 wh:Nat→Value
 fin:Value
def e8 (pb:Nat) (qv:Value) (s:MSt) (i:Nat):Value :=
 if i=0 then .pointer (some ⟨pb,0,none⟩) else if i=1 then .int .u32 s.act else if i<26 then .int .u32 (s.kept (i-2)) else if i=26 then qv else if i=27 then .int .u64 s.now else if i<419 then s.wh i else s.fin
structure ak (W:World) (lo mb pb:Nat) (qv:Value) (s:MSt):Prop where
 blk:∃ arr:Array Value,W.heap[mb]?=some (.cells arr 152 (0,0))∧arr.size=420∧∀ i,i<420→arr[i]?=some (e8 pb qv s i)
 que:QAt W lo qv s.q
 lo':lo≤mb
theorem ak.lt {W:World} {lo mb pb:Nat} {qv:Value} {s:MSt} (h:ak W lo mb pb qv s):mb<W.heap.size:=by
 obtain ⟨arr,h1,_⟩:=h.blk;exact (Array.getElem?_eq_some_iff.1 h1).1
theorem ak.cell {W:World} {lo mb pb:Nat} {qv:Value} {s:MSt} (h:ak W lo mb pb qv s) (i:Nat) (hi:i<420):W.cell? ⟨mb,i,none⟩=some (e8 pb qv s i):=by
 obtain ⟨arr,h1,h2,h3⟩:=h.blk
 rw [cell_of_row W _ _ _ _ _ h1];exact h3 i hi
theorem ak.frozen {W:World} {lo mb pb:Nat} {qv:Value} {s:MSt} (h:ak W lo mb pb qv s) (i:Nat):W.frozen? ⟨mb,i,none⟩=false:=by
 obtain ⟨arr,h1,h2,h3⟩:=h.blk
 simp [World.frozen?,h1]
theorem ak.qne {W:World} {lo mb pb:Nat} {qv:Value} {s:MSt} (h:ak W lo mb pb qv s):qv.ownBlock≠some mb:=fun e=>by
 obtain ⟨arr,h1,_⟩:=h.blk
 obtain ⟨c,hc⟩:=h.que.kind mb e
 rw [h1] at hc
 simp at hc
theorem ak.mo {P:Nat→Prop} {W W':World} {lo mb pb:Nat} {qv:Value} {s:MSt} (h:ak W lo mb pb qv s) (hm:Mo P W W') (h1:¬ P mb) (h2:∀ g,qv.ownBlock=some g→¬ P g):ak W' lo mb pb qv s where
 blk:=by
  obtain ⟨arr,a,b,c⟩:=h.blk
  exact ⟨arr,(hm.block mb (Array.getElem?_eq_some_iff.1 a).1 h1).trans a,b,c⟩
 que:=h.que.mo hm h2
 lo':=h.lo'
theorem ak.below {W W':World} {lo mb pb:Nat} {qv:Value} {s:MSt} (h:ak W lo mb pb qv s) (hb:Below W.heap.size W W'):ak W' lo mb pb qv s:=h.mo (P:=fun _=>False) (aq hb) (fun h=>h) (fun _ _ h=>h)
theorem ak.set {W:World} {lo mb pb:Nat} {qv:Value} {s:MSt} (h:ak W lo mb pb qv s) (i:Nat) (v:Value) (s':MSt) (hi:i<420) (hq:s'.q=s.q) (hc:∀ j,j<420→e8 pb qv s' j=if j=i then v else e8 pb qv s j):ak (W.setCell ⟨mb,i,none⟩ v) lo mb pb qv s' where
 blk:=by
  obtain ⟨arr,a,b,c⟩:=h.blk
  refine ⟨arr.setIfInBounds i v,heap_setCell_same W mb i _ _ v a,by simp [b],fun j hj => ?_⟩
  rw [hc j hj]
  by_cases e:j=i
  ·subst e
   rw [if_pos rfl,Array.getElem?_setIfInBounds_self_of_lt (by omega)]
  ·rw [if_neg e,Array.getElem?_setIfInBounds_ne (fun x=>e x.symm)]
   exact c j hj
 que:=by
  rw [hq]
  exact h.que.mo ((Mo.refl (· = mb) W).set ⟨mb,i,none⟩ v rfl) (fun g hg e=>h.qne (e ▸ hg))
 lo':=h.lo'
end Pg
theorem Tryz.sK:(Tryz.prog.info? 9).map (fun i=>(i.zero,i.size,i.bytes))=some (some (.string ⟨#[]⟩),1,16):=by kernel_rfl
theorem xp (w:World) (lo mb pb:Nat) (qv:Value) (s:Pg.MSt) (m lv:Nat) (h:Pg.ak w lo mb pb qv s) (ha:s.act<4294967296) (hl:lv<4294967296) (hm:w.cell? ⟨m,1,none⟩=some (.int .u32 lv)) :
  Calls Tryz.prog 191 #[.pointer (some ⟨mb,0,none⟩),.pointer (some ⟨m,0,none⟩)] w fun e w'=>e = .returned (.int .u32 ((lv&&&s.act:Nat):Int))∧Below w.heap.size w w':=by
 have h1:w.cell? ⟨mb,1,none⟩=some (.int .u32 s.act):=h.cell 1 (by decide)
 have hand:=u32_and_nat _ _ hl ha
 clear h
 go_enter Tryz.func191,Tryz.ntmps191
 go_wp2
 go_quiet (fail)
 go_wp2
 go_ret
 exact ⟨rfl,below_drewN (Below.refl _ _) _⟩
namespace Pg
def cG (t:TypeId):Prop:=t=152∨t=9∨t=250
def Gt (t:TypeId):Prop:=t=152∨t=9
structure RfE (E:TypeId→Prop) (lo:Nat) (w w':World):Prop where
 bel:Below lo w w'
 kd:Kd E w w'
 oth:KeepsOthers w w'
abbrev Rf:Nat→World→World→Prop:=RfE cG
abbrev Rq:Nat→World→World→Prop:=RfE Gt
def lZ (t:TypeId):Prop:=t=152∨t=250
abbrev Rw:Nat→World→World→Prop:=RfE lZ
def Eb (t:TypeId):Prop:=t=152
abbrev Rm:Nat→World→World→Prop:=RfE Eb
theorem RfE.refl {E:TypeId→Prop} (lo:Nat) (w:World):RfE E lo w w:=⟨Below.refl _ _,bC (Below.refl _ _),KeepsOthers.refl _⟩
theorem RfE.trans {E:TypeId→Prop} {lo:Nat} {a b c:World} (h:RfE E lo a b) (k:RfE E lo b c):RfE E lo a c:=⟨h.bel.trans k.bel,h.kd.trans k.kd,h.oth.trans k.oth⟩
theorem RfE.of {E:TypeId→Prop} {lo:Nat} {a b:World} (h:Below a.heap.size a b) (hl:lo≤a.heap.size):RfE E lo a b:=⟨h.mono hl,bC h,ew h⟩
theorem RfE.mo {E:TypeId→Prop} {lo:Nat} {P:Nat→Prop} {a b:World} (h:Mo P a b) (hl:∀ k,P k→lo≤k∧∃ c t f,a.heap[k]?=some (.cells c t f)∧E t) (hs:lo≤a.heap.size):RfE E lo a b where
 bel:=⟨h.os,h.tape,h.output,h.size,fun k hk=>h.block k (by omega) (fun hp=>by have:=(hl k hp).1;omega)⟩
 kd:=gE h (fun k c t f hp hc=>by
  obtain ⟨_,c',t',f',h1,h2⟩:=hl k hp
  rw [hc] at h1
  cases h1
  exact h2)
 oth:=⟨h.size,fun k o hk ho=>h.block k (Array.getElem?_eq_some_iff.1 hk).1 (fun hp=>by
  obtain ⟨_,c',t',f',h1,h2⟩:=hl k hp
  rw [hk] at h1
  cases h1
  cases ho) |>.trans hk⟩
theorem RfE.wide {E F:TypeId→Prop} {lo:Nat} {a b:World} (h:RfE E lo a b) (hE:∀ t,E t→F t):RfE F lo a b:=⟨h.bel,h.kd.mono hE,h.oth⟩
theorem rA {lo:Nat} {a b:World} (h:Rw lo a b):Rf lo a b:=h.wide fun _ h=>h.elim .inl (fun h => .inr (.inr h))
theorem Cy {lo:Nat} {a b:World} (h:Rm lo a b):Rw lo a b:=h.wide fun _ h => .inl h
theorem vL {lo:Nat} {a b:World} (h:Rq lo a b):Rf lo a b:=h.wide fun _ h=>h.elim .inl (fun h => .inr (.inl h))
end Pg
theorem As (w:World) (lo mb pb:Nat) (qv:Value) (s:Pg.MSt) (ev:ByteArray) (h:Pg.ak w lo mb pb qv s) (hlo:lo≤w.heap.size) (hql:s.q.length≤4398046511104) :
  Calls Tryz.prog 131 #[.pointer (some ⟨mb,0,none⟩),.string ev] w fun e w'=>e = .returned (.tuple #[])∧∃ qv',Pg.ak w' lo mb pb qv' { s with q:=s.q++[ev] }∧Pg.Rq lo w w':=by
 obtain ⟨i0,hi,hz0,hz1,hz2⟩:=info_parts Tryz.sK
 have h26:w.cell? ⟨mb,26,none⟩=some qv:=h.cell 26 (by decide)
 have hba:Below w.heap.size w (w.alloc (.cells #[.string ev] 9)):=(Below.refl _ _).alloc (Nat.le_refl _) _
 have hnew:(w.alloc (.cells #[.string ev] 9)).cell? ⟨w.heap.size,0,none⟩=some (.string ev):=cell_of_row _ _ 0 _ _ (0,0) (heap_alloc_new w _)
 have hMa:=h.below hba
 obtain ⟨qa,qc,rfl⟩:=h.que.form
 have hfin:∀ v5 w5,QAt w5 lo v5 (s.q++[ev])→(w.alloc (.cells #[.string ev] 9)).grownBy w5 (Value.ownBlock (.slice qa s.q.length qc))→(∃ c,w5.heap[mb]?=some (.cells c 152 (0,0))∧w5.cell? ⟨mb,26,none⟩=some (.slice qa s.q.length qc)∧w5.frozen? ⟨mb,26,none⟩=false)∧Pg.ak (w5.setCell ⟨mb,26,none⟩ v5) lo mb pb v5 { s with q:=s.q++[ev] }∧Pg.Rq lo w (w5.setCell ⟨mb,26,none⟩ v5):=fun v5 w5 hq5 hg5=>by
  obtain ⟨arr,a1,a2,a3⟩:=hMa.blk
  have hmbl:=hMa.lt
  have a5:w5.heap[mb]?=some (.cells arr 152 (0,0)):=(hg5.block mb hmbl (fun e=>hMa.qne e.symm)).trans a1
  refine ⟨⟨arr,a5,by rw [cell_of_row _ _ _ _ _ _ a5];exact a3 26 (by decide),by simp [World.frozen?,a5]⟩,⟨⟨arr.setIfInBounds 26 v5,heap_setCell_same w5 mb 26 _ _ v5 a5,by simp [a2],fun j hj => ?_⟩,hq5.mo ((Mo.refl (· = mb) w5).set ⟨mb,26,none⟩ v5 rfl) (fun g hg e => ?_),h.lo'⟩,?_⟩
  ·by_cases e:j=26
   ·subst e
    rw [Array.getElem?_setIfInBounds_self_of_lt (by omega)]
    rfl
   ·rw [Array.getElem?_setIfInBounds_ne (fun x=>e x.symm),a3 j hj]
    simp [Pg.e8,e]
  ·obtain ⟨c,hc⟩:=hq5.kind g hg
   rw [show g=mb from e,a5] at hc
   simp at hc
  ·refine (Pg.RfE.of hba hlo).trans ((Pg.RfE.mo (P:=fun k=>Value.ownBlock (.slice qa s.q.length qc)=some k) ⟨hg5.os,hg5.tape,hg5.output,hg5.size,fun k hk hn=>hg5.block k hk (fun e=>hn e.symm)⟩ (fun k hk => ?_) (Nat.le_trans hlo hba.size)).trans (Pg.RfE.mo (P:=(· = mb)) ((Mo.refl (· = mb) w5).set ⟨mb,26,none⟩ v5 rfl) (fun k hk => ?_) (Nat.le_trans hlo (Nat.le_trans hba.size hg5.size))))
   ·obtain ⟨c,hc⟩:=hMa.que.kind k hk
    exact ⟨(hMa.que.lt k hk).1,c,_,_,hc,.inr rfl⟩
   ·subst hk
    exact ⟨h.lo',arr,_,_,a5,.inl rfl⟩
 have HF:Hid _:=hfin
 have HQ:Hid (QAt (w.alloc (.cells #[.string ev] 9)) lo (.slice qa s.q.length qc) s.q):=hMa.que
 clear hfin hMa h hba
 go_enter Tryz.func131,Tryz.ntmps131
 go_wp2_with (show wpList _ _ _ (Oper.mk (some 11) _ _ _ _ _::_) _ _;refine nN _ rfl _ _ 31 rfl i0 _ 16 Tryz.underlying31 hi hz0 hz1 hz2 rfl lo _ _ rfl HQ.out ⟨w.heap.size,0,none⟩ 1 ev rfl hnew rfl (by unfold maxLen;omega) (by omega) (by simp;omega) ?_;intro v5 w5 hq5 hg5 hat5;obtain ⟨⟨c5,b5,d5,f5⟩,hM5,hR5⟩:=HF.out v5 w5 hq5 hg5;obtain ⟨a6,c6,rfl⟩:=hq5.form)
 go_end0
 rw [List.length_append,List.length_singleton] at hM5 hR5
 exact ⟨rfl,_,hM5,hR5⟩
namespace Pg
def eJ (e:Nat):Value:=if e=0 then .nilIface else .iface 47 (.int .i64 e)
end Pg
theorem iD (w:World) (lo mb pb:Nat) (qv:Value) (s:Pg.MSt) (e0:Nat) (h:Pg.ak w lo mb pb qv s) (he:s.fin=Pg.eJ e0) (he0:e0=0∨e0=5∨e0=6) :
  Calls Tryz.prog 98 #[.pointer (some ⟨mb,0,none⟩)] w fun e w'=>e = .returned (if e0=6 then Pg.eJ 6 else .nilIface)∧w'=w:=by
 have h5:w.cell? ⟨mb,419,none⟩=some s.fin:=h.cell 419 (by decide)
 rw [he] at h5
 clear h he
 have q0:∀ w:World,(binOp .eql 101 .nilIface (.iface 47 (.int .i64 6))).run Tryz.prog w = .ok (.bool false) w:=fun w=>by kernel_rfl
 have q5:∀ w:World,(binOp .eql 101 (.iface 47 (.int .i64 5)) (.iface 47 (.int .i64 6))).run Tryz.prog w = .ok (.bool false) w:=fun w=>by kernel_rfl
 have q6:∀ w:World,(binOp .eql 101 (.iface 47 (.int .i64 6)) (.iface 47 (.int .i64 6))).run Tryz.prog w = .ok (.bool true) w:=fun w=>by kernel_rfl
 rcases he0 with rfl | rfl | rfl
 all_goals
  unfold Pg.eJ at *
  simp only [Nat.reduceEqDiff,↓reduceIte] at h5 ⊢
  go_enter Tryz.func98,Tryz.ntmps98
  go_wp2
  go_ret
  exact ⟨rfl,rfl⟩
theorem yP (w:World) (lo mb pb:Nat) (qv:Value) (s:Pg.MSt) (h:Pg.ak w lo mb pb qv s) :
  Calls Tryz.prog 45 #[.pointer (some ⟨mb,0,none⟩)] w fun e w'=>e = .returned (.int .u64 s.now)∧w'=w:=by
 have h27:w.cell? ⟨mb,27,none⟩=some (.int .u64 s.now):=h.cell 27 (by decide)
 clear h
 have hw:Calls Tryz.prog 66 #[.pointer (some ⟨mb,27,none⟩)] w fun e w'=>e = .returned (.int .u64 s.now)∧w'=w:=by
  go_enter Tryz.func66,Tryz.ntmps66
  go_wp2
  go_ret
  exact ⟨rfl,rfl⟩
 go_enter Tryz.func45,Tryz.ntmps45
 go_wp2_with (go_at_call 66;refine hw.mono ?_;rintro e w9 ⟨rfl,hw9⟩;rw [hw9];clear hw9 w9)
 go_ret
 exact ⟨rfl,rfl⟩
namespace Pg
def upd {α:Type} (f:Nat→α) (i:Nat) (v:α):Nat→α:=fun j=>if j=i then v else f j
theorem aw {α:Type} (f:Nat→α) (i:Nat) (v:α):upd f i v i=v:=if_pos rfl
theorem aB {α:Type} (f:Nat→α) {i j:Nat} (v:α) (h:j≠i):upd f i v j=f j:=if_neg h
def isR (r:Nat):Prop:=(r<390∧r % 65≠64)∨r=390
theorem isR.lt {r:Nat} (h:isR r):r<391:=by rcases h with h | h <;> omega
structure b7 (W:World) (lo:Nat) (wh:Nat→Value) (R:Nat→List Nd):Prop where
 ring:∀ r,isR r→wh (28+r)=aD (R r)
 nds:∀ r,isR r→bI W (R r)
 low:∀ r,isR r→∀ x∈R r,lo≤x.1
 dis:∀ r q,isR r→isR q→r≠q→∀ x∈R r,∀ y∈R q,x.1≠y.1
 nod:∀ r,isR r→((R r).map (·.1)).Nodup
def iV (wh:Nat→Value) (R:Nat→List Nd):Prop:=∀ k,k<6→∃ h:Nat,h<18446744073709551616∧wh (28+(k*65+64)) = .int .u64 h∧∀ s,s<64→h.testBit s = !(R (k*65+s)).isEmpty
theorem b7.kd {E:TypeId→Prop} {W W':World} {lo:Nat} {wh:Nat→Value} {R:Nat→List Nd} (h:b7 W lo wh R) (hk:Kd E W W') (hE:¬ E 250):b7 W' lo wh R :=
 ⟨h.ring,fun r hr i x hx=>(hk.ay _ _ _ _ (h.nds r hr i x hx) hE).trans (h.nds r hr i x hx),h.low,h.dis,h.nod⟩
theorem b7.below {W W':World} {lo:Nat} {wh:Nat→Value} {R:Nat→List Nd} (h:b7 W lo wh R) (hb:Below W.heap.size W W'):b7 W' lo wh R:=h.kd (bC (E:=fun _=>False) hb) (fun h=>h)
theorem ak.yU {W:World} {lo mb pb:Nat} {qv:Value} {s:MSt} (h:ak W lo mb pb qv s) (i:Nat) (v:Value) (h1:28≤i) (h2:i<419):ak (W.setCell ⟨mb,i,none⟩ v) lo mb pb qv { s with wh:=upd s.wh i v } :=
 h.set i v _ (by omega) rfl fun j hj=>by
  by_cases e:j=i
  ·subst e
   rw [if_pos rfl]
   unfold e8
   rw [if_neg (by omega),if_neg (by omega),if_neg (by omega),if_neg (by omega),if_neg (by omega),if_pos h2]
   exact aw _ _ _
  ·rw [if_neg e]
   unfold e8
   dsimp only
   rw [aB _ _ e]
theorem ak.typ {W:World} {lo mb pb:Nat} {qv:Value} {s:MSt} (h:ak W lo mb pb qv s) {n:Nat} {c:Array Value} {f:Nat×Nat} (hn:W.heap[n]?=some (.cells c 250 f)):mb≠n:=fun e=>by
 obtain ⟨arr,a1,_⟩:=h.blk
 rw [e,hn] at a1
 simp at a1
theorem b7.push {W:World} {lo mb pb:Nat} {qv:Value} {s:MSt} {R:Nat→List Nd} {r n:Nat} {x:Tn} {v:Value} (hM:ak W lo mb pb qv s) (h:b7 W lo s.wh R) (hr:isR r) (hls:lo≤W.heap.size) (hn:W.heap[n]?=some (.cells (dL x v) 250 (0,0))) (hnl:∀ q,isR q→∀ y∈R q,y.1≠n) (hlo:lo≤n) :
  ak (dD W ⟨mb,28+r,none⟩ (R r) n) lo mb pb qv { s with wh:=upd s.wh (28+r) (ndP n) }∧b7 (dD W ⟨mb,28+r,none⟩ (R r) n) lo (upd s.wh (28+r) (ndP n)) (upd R r (R r++[(n,x)]))∧Rw lo W (dD W ⟨mb,28+r,none⟩ (R r) n):=by
 have hty:∀ q,isR q→∀ y∈R q,mb≠y.1:=fun q hq y hy=>by
  obtain ⟨i,hi⟩:=List.mem_iff_getElem?.1 hy
  exact hM.typ (h.nds q hq i y hi)
 have hnr:n ∉ (R r).map (·.1):=fun e=>by
  obtain ⟨y,hy,e⟩:=List.mem_map.1 e
  exact hnl r hr y hy e
 have hmr:mb ∉ (R r).map (·.1):=fun e=>by
  obtain ⟨y,hy,e⟩:=List.mem_map.1 e
  exact hty r hr y hy e.symm
 obtain ⟨p1,p2⟩:=(h.nds r hr).push (p:=⟨mb,28+r,none⟩) (h.nod r hr) hn hnr (hM.typ hn) hmr
 have hrl:=hr.lt
 have hzr:∀ z,(R r).getLast?=some z→z∈R r:=fun z hz=>List.mem_of_getLast? hz
 have hnode:∀ q,isR q→∀ y∈R q,∃ c,W.heap[y.1]?=some (.cells c 250 (0,0)):=fun q hq y hy=>by
  obtain ⟨i,hi⟩:=List.mem_iff_getElem?.1 hy
  exact ⟨_,h.nds q hq i y hi⟩
 refine ⟨?_,⟨fun q hq => ?_,fun q hq => ?_,fun q hq y hy => ?_,fun q q' hq hq' hne y hy z hz => ?_,fun q hq => ?_⟩,RfE.mo p2 (fun k hk => ?_) hls⟩
 ·have hq:∀ g,qv.ownBlock=some g→∀ c,W.heap[g]?≠some (.cells c 250 (0,0)):=fun g hg c e=>by
   obtain ⟨c',hc'⟩:=hM.que.kind g hg
   rw [e] at hc'
   simp at hc'
  unfold dD
  cases hz:(R r).getLast? with
  | none =>
   exact (hM.mo (P:=(· = n)) ((Mo.refl _ W).set ⟨n,3,none⟩ _ rfl) (fun e=>hM.typ hn e) (fun g hg e=>hq g hg _ (e ▸ hn))).yU (28+r) _ (by omega) (by omega)
  | some z =>
   obtain ⟨cz,hcz⟩:=hnode r hr z (hzr z hz)
   exact (hM.mo (P:=fun k=>k=n∨k=z.1) (((Mo.refl _ W).set ⟨n,3,none⟩ _ (.inl rfl)).set ⟨z.1,3,none⟩ _ (.inr rfl)) (fun e=>e.elim (fun e=>hM.typ hn e) (fun e=>hM.typ hcz e)) (fun g hg e=>e.elim (fun e=>hq g hg _ (e ▸ hn)) (fun e=>hq g hg _ (e ▸ hcz)))).yU (28+r) _ (by omega) (by omega)
 ·by_cases e:q=r
  ·subst e
   rw [aw,aw,kW]
  ·rw [aB _ _ e,aB _ _ (by omega)]
   exact h.ring q hq
 ·by_cases e:q=r
  ·subst e
   rw [aw]
   exact p1
  ·rw [aB _ _ e]
   refine (h.nds q hq).mo p2 (fun y hy hk => ?_)
   rcases hk with hk | hk | ⟨z,hz,hk⟩
   ·exact hty q hq y hy hk.symm
   ·exact hnl q hq y hy hk
   ·exact h.dis q r hq hr e y hy z (hzr z hz) hk
 ·by_cases e:q=r
  ·subst e
   rw [aw] at hy
   rcases List.mem_append.1 hy with hy | hy
   ·exact h.low q hq y hy
   ·rw [List.mem_singleton.1 hy];exact hlo
  ·rw [aB _ _ e] at hy
   exact h.low q hq y hy
 ·by_cases e:q=r
  ·subst e
   rw [aw] at hy
   rw [aB _ _ (Ne.symm hne)] at hz
   rcases List.mem_append.1 hy with hy | hy
   ·exact h.dis q q' hq hq' hne y hy z hz
   ·rw [List.mem_singleton.1 hy];exact fun e=>hnl q' hq' z hz e.symm
  ·rw [aB _ _ e] at hy
   by_cases e':q'=r
   ·subst e'
    rw [aw] at hz
    rcases List.mem_append.1 hz with hz | hz
    ·exact h.dis q q' hq hq' hne y hy z hz
    ·rw [List.mem_singleton.1 hz];exact fun e=>hnl q hq y hy e
   ·rw [aB _ _ e'] at hz
    exact h.dis q q' hq hq' hne y hy z hz
 ·by_cases e:q=r
  ·subst e
   rw [aw,List.map_append,List.nodup_append]
   refine ⟨h.nod q hq,by simp,fun a ha b hb => ?_⟩
   simp only [List.map_cons,List.map_nil,List.mem_singleton] at hb
   subst hb
   exact fun e=>hnr (e ▸ ha)
  ·rw [aB _ _ e]
   exact h.nod q hq
 ·rcases hk with hk | hk | ⟨z,hz,hk⟩
  ·obtain ⟨arr,a1,_⟩:=hM.blk
   subst hk
   exact ⟨hM.lo',arr,_,_,a1,.inl rfl⟩
  ·subst hk
   exact ⟨hlo,_,_,_,hn,.inr rfl⟩
  ·obtain ⟨cz,hcz⟩:=hnode r hr z (hzr z hz)
   subst hk
   exact ⟨h.low r hr z (hzr z hz),_,_,_,hcz,.inr rfl⟩
theorem b7.mark {W:World} {lo mb pb:Nat} {qv:Value} {s:MSt} {R:Nat→List Nd} (hM:ak W lo mb pb qv s) (h:b7 W lo s.wh R) (k:Nat) (hk:k<6) (v:Value) (hls:lo≤W.heap.size) :
  ak (W.drew.setCell ⟨mb,28+k*65+64,none⟩ v) lo mb pb qv { s with wh:=upd s.wh (28+(k*65+64)) v }∧b7 (W.drew.setCell ⟨mb,28+k*65+64,none⟩ v) lo (upd s.wh (28+(k*65+64)) v) R∧Rw lo W (W.drew.setCell ⟨mb,28+k*65+64,none⟩ v):=by
 have hd:=(Below.refl W.heap.size W).drew
 have hMd:=hM.below hd
 have hm:Mo (· = mb) W.drew (W.drew.setCell ⟨mb,28+k*65+64,none⟩ v):=(Mo.refl _ _).set _ _ rfl
 have hR:Rm lo W.drew (W.drew.setCell ⟨mb,28+k*65+64,none⟩ v):=RfE.mo hm (fun j hj=>by
  obtain ⟨arr,a1,_⟩:=hM.blk
  subst hj
  exact ⟨hM.lo',arr,_,_,a1,rfl⟩) hls
 refine ⟨hMd.yU (28+(k*65+64)) v (by omega) (by omega),?_,(RfE.of hd hls).trans (Cy hR)⟩
 have h2:=(h.below hd).kd hR.kd (by unfold Eb;decide)
 refine ⟨fun r hr => ?_,h2.nds,h2.low,h2.dis,h2.nod⟩
 rw [aB _ _ ?_]
 ·exact h.ring r hr
 ·rcases hr with ⟨a,b⟩ | rfl <;> omega
end Pg
end
section
open Go
def Wd (F:Fence):Prop:=F=Fence.wide∨∃ k,F=Fence.wide.inRound k
theorem gi:Wd Fence.wide := .inl rfl
theorem bU (k:Nat):Wd (Fence.wide.inRound k) := .inr ⟨k,rfl⟩
theorem Wd.depth {F:Fence} (h:Wd F) (x:Prop):F.depth.isSome=true→x:=by
 rcases h with rfl | ⟨k,rfl⟩ <;> exact fun h=>by cases h
theorem Wd.fn {F:Fence} (h:Wd F) (f:FuncId):F.fn f:=by
 rcases h with rfl | ⟨k,rfl⟩ <;> exact trivial
theorem Wd.rows {F:Fence} (hF:Wd F) {n:Nat} {P:Program} {row:String} {args:Array Value} {w:World} {R:Value→World→Prop} (h:Rows P row args w R):RowsIn F n P row args w R:=by
 rcases hF with rfl | ⟨k,rfl⟩
 ·exact fun c cs _=>let ⟨v,w',r,s⟩:=h c cs;⟨v,w',r,stepsIn_wide.2 s⟩
 ·exact lX h
theorem Wd.calls {F:Fence} (hF:Wd F) {n:Nat} {P:Program} {f:FuncId} {args:Array Value} {w:World} {R:Ending→World→Prop} (h:Calls P f args w R):CallsIn F n P f args w R:=by
 rcases hF with rfl | ⟨k,rfl⟩
 ·exact callsIn_wide.2 h
 ·exact aC h
theorem za {F:Fence} (hF:Wd F) {n:Nat} {P:Program} {o:Oper} {a:Act} {N:Act→World→Prop} {Q:Exit→Act→World→Prop}:∀ r:Result Next,o.upon P a N Q r→o.uponIn F n P a N Q r:=by
 intro r h
 cases r with
 | ok v w' =>
  cases v <;> first
   | exact h
   | exact ⟨hF.depth _,hF.rows (Rows.mono h fun _ _ hx=>hx)⟩
   | exact h.elim
   | skip
  exact ⟨hF.depth _,hF.calls (Calls.mono h fun e w'' hx=>by
   cases e
   ·exact hx
   ·exact hx
   ·exact hx)⟩
 | halt x w'=>cases x <;> first | exact h | exact h.elim
theorem xF {F:Fence} (hF:Wd F) {n i:Nat} {P:Program} {ops:Array Oper} {Q:Exit→Act→World→Prop} {a:Act} {w:World} {K:Act→Prop} {K':Act→World→Prop} (hnd:jh ops=true) (h:∀ a,K a→K' a w) (hh:stOp P ops w i K a):wpOpIn F n P ops Q i K' a w:=by
 unfold stOp at hh
 unfold wpOpIn
 split
 ·rename_i ho
  simp only [ho] at hh
  exact h _ hh
 ·rename_i o ho
  simp only [ho] at hh
  split
  ·rename_i hw
   rw [if_pos hw] at hh
   refine ⟨fun _ _=>hF.fn _,?_⟩
   rw [Oper.semAt_eq _ _ _ (fun c=>lO hnd ho c)]
   exact za hF _ (Oper.wp_of_still h hh)
  ·rename_i hw
   rw [if_neg hw] at hh
   exact ⟨fun _ _=>hF.fn _,h _ hh⟩
theorem kn {F:Fence} (hF:Wd F) {n m g:Nat} {P:Program} {md:Region.Mode} {ops:Array Oper} {Q:Exit→Act→World→Prop} {w:World} {L:Array Bool→Act→Prop} (hnd:jh ops=true) (hL:∀ listed a,L listed a→wpAnyIn F n P md ops Q g listed a w) :
  ∀ (f:Nat) (listed:Array Bool) (a:Act),wpAnyL P md ops w m L f listed a→wpAnyIn F n P md ops Q (f+g) listed a w
 | 0,listed,a,h=>by rw [Nat.zero_add];exact hL _ _ h
 | f+1,listed,a,h=>by
  rw [show f+1+g=(f+g)+1 by omega]
  exact ⟨fun h0=>absurd h0 h.1,fun i hi=>xF hF hnd (fun a' h'=>kn hF hnd hL f _ a' h') (h.2 i hi).2⟩
theorem lg {F:Fence} {n:Nat} {P:Program} {md:Region.Mode} {ops:Array Oper} {Q:Exit→Act→World→Prop}:∀ (l:List Oper) (k:Nat) (listed:Array Bool) (a:Act) (w:World),(∀ j,l[j]?=ops[k+j]?)→Region.seqB md ops l.length k listed=true→wpListIn F n P ops Q l a w→wpAnyIn F n P md ops Q l.length listed a w
 | [],_,_,_,_,_,hB,h=>⟨by simpa [Region.seqB] using hB,h⟩
 | o::l,k,listed,a,w,hl,hB,h=>by
  have h0:ops[k]?=some o:=by simpa using (hl 0).symm
  simp only [List.length_cons,Region.seqB,Bool.and_eq_true,decide_eq_true_eq] at hB
  refine ⟨fun h1=>(by rw [hB.1] at h1;cases h1),fun i hi => ?_⟩
  rw [hB.1] at hi
  obtain rfl:i=k:=by simpa using hi
  have hw:wpOpIn F n P ops Q i (wpListIn F n P ops Q l) a w:=by unfold wpOpIn;simp only [h0];exact h
  exact wpOpIn_mono (fun a' w' h'=>lg l (i+1) _ a' w' (fun j=>by have:=hl (j+1);simpa [Nat.add_assoc,Nat.add_comm 1 j] using this) hB.2 h') hw
theorem aE {F:Fence} (hF:Wd F) {n id:Nat} {P:Program} {Q:Exit→Act→World→Prop} {a:Act} {w:World} {l:List Oper} (m:Nat) (hm:P.follows .mixedOrders=true) (hB:Region.lexTailB .any l.toArray m=true) (hnd:jh l.toArray=true)
  (h:wpStill P l.toArray w.drew (fun a'=>wpListIn F n P l.toArray Q (l.drop m) a' w.drew) (l.take m) a):(Code.region id l.toArray true).wpIn F n P Q a w:=by
 simp only [Region.lexTailB,Bool.and_eq_true,decide_eq_true_eq] at hB
 obtain ⟨⟨⟨⟨hsel,hn⟩,hs⟩,hc⟩,hlex⟩:=hB
 have hml:m<l.length:=by simpa using hn
 have htl:(l.take m).length=m:=List.length_take_of_le (by omega)
 have hdl:(l.drop m).length=l.toArray.size-m:=by simp
 have H:=wpAnyL_lex (md := .any) (g:=l.toArray.size-m) hsel hs hc hn (l.take m) 0 (Array.replicate l.toArray.size false) a (fun j hj=>by
  rw [htl] at hj
  simp [hj]) (by simpa using htl) ⟨by simp,fun j oj _ hl=>(by rw [getD_replicate_false] at hl;cases hl),fun t _ ht=>getD_in (by simpa using ht) (getD_replicate_false _ _)⟩ (by rw [htl];exact hlex) h
 refine wpIn_region_any hm ?_
 have R:=kn hF hnd (fun listed a' hL=>by
  have T:=lg (F:=F) (n:=n) (P:=P) (md := .any) (ops:=l.toArray) (Q:=Q) (l.drop m) m listed a' w.drew (fun j=>by simp [List.getElem?_drop]) (by rw [hdl];exact hL.1) hL.2
  rwa [hdl] at T) _ _ _ H
 rw [htl,show m+(l.toArray.size-m)=l.toArray.size by omega] at R
 exact R
end
section
open Go.RowKit Go.Proofs Go.Shelf
attribute [local go_sem] Oper.semAt_some
theorem kX {F F':Fence} (hF:Wd F) (hF':Wd F') {m m':Nat} {P:Program} {l:Nat} {f:FuncId} {tmps:Array Value} {assign body:Code} {w:World} {R:Ending→World→Prop} (h:RoundIn F m P l f tmps assign body w R):RoundIn F' m' P l f tmps assign body w R:=by
 rcases hF with rfl | ⟨k,rfl⟩ <;> rcases hF' with rfl | ⟨k',rfl⟩ <;> exact ⟨trivial,fun c cs _=>h.2 c cs (fun d hd=>by cases hd)⟩
theorem fB {w:World} {p:Addr} {v:Value} (h:w.cell? p=some v):p.block<w.heap.size:=by
 unfold World.cell? at h
 split at h
 ·rename_i c e f hb
  exact (Array.getElem?_eq_some_iff.1 hb).1
 ·cases h
namespace Pg
def jV (hv:Nat→Nat) (k:Nat):List Nat:=(eu (hv k)).map (k*65 + ·)
def gQ (hv:Nat→Nat) (k:Nat):List Nat:=(List.range k).flatMap (jV hv)
def eU (hv:Nat→Nat):List Nat:=gQ hv 6++[390]
theorem iU (hv:Nat→Nat) (k:Nat):gQ hv (k+1)=gQ hv k++jV hv k:=by
 unfold gQ
 rw [List.range_succ,List.flatMap_append]
 simp
structure wu (V:World) (Bs mb:Nat) (R:Nat→List Nd) (hv:Nat→Nat):Prop where
 box:V.cell? ⟨Bs,0,none⟩=some (.pointer (some ⟨mb,27,none⟩))
 held:∀ k,k<6→V.cell? ⟨mb,28+k*65+64,none⟩=some (.int .u64 (hv k))
 ring:∀ k s,k<6→s<64→V.cell? ⟨mb,28+k*65+s,none⟩=some (aD (R (k*65+s)))
 out:V.cell? ⟨mb,418,none⟩=some (aD (R 390))
 tab:TabAt 2 Lib.deBruijn64tab V
theorem wu.kp {B:Nat→Prop} {V V':World} {Bs mb:Nat} {R:Nat→List Nd} {hv:Nat→Nat} (h:wu V Bs mb R hv) (hk:KpM B V V') (h1:¬ B Bs) (h2:¬ B mb) (h3:¬ B 2):wu V' Bs mb R hv :=
 ⟨hk.cell h.box h1,fun k hk'=>hk.cell (h.held k hk') h2,fun k s h4 h5=>hk.cell (h.ring k s h4 h5) h2,hk.cell h.out h2,Pg.KpM.tab hk h3 h.tab⟩
structure RgF (l Bs By:Nat) (k:Nat) (a:Act) (Ds:List Nat):Prop where
 tm:∃ u3 u4 u6 u7 u8 u9 u10 u11 u12 u13 u14 u15 u16 u17 u18 u19 u20 u21 u22 u23 u24 u25 u26 u27,a.tmps=#[.func (.yield l) #[] #[],.pointer (some ⟨Bs,0,none⟩),.pointer (some ⟨By,0,none⟩),u3,u4,.int .i64 k,u6,u7,u8,u9,u10,u11,u12,u13,u14,u15,u16,u17,u18,u19,u20,u21,u22,u23,u24,u25,u26,u27,undef,undef,undef,undef,undef,undef]
 df:a.defers=marks Ds
end Pg
theorem Cw (n:Nat) (hn:4≤n) (Bs mb:Nat) (R:Nat→List Pg.Nd) (hv:Nat→Nat) (hvl:∀ k,k<6→hv k<18446744073709551616) (B:Nat→Prop) (w:World) (hR:Pg.wu w Bs mb R hv) (h1:¬ B Bs) (h2:¬ B mb) (h3:¬ B 2) (hB:∀ k,B k→k<w.heap.size) :
  AX Fence.wide n Tryz.prog 182 #[.pointer (some ⟨Bs,0,none⟩)] (fun r:Nat=>#[Value.agg #[Pg.aD (R r)]]) (KpN B (w.heap.size+2)) (fun _ _=>True) (fun _ r=>Pg.isR r) (fun xs=>xs=Pg.eU hv) w:=fun l J W hW hWs hJ _ hY h0=>by
 have hRW:=hR.kp (B:=B) (KpM.below hW) h1 h2 h3
 have hW1:KpM B W (W.alloc (.cells #[.func (.yield l) #[] #[]] 350)):=KpM.below ((Below.refl _ W).alloc (Nat.le_refl _) _)
 have hy1:(W.alloc (.cells #[.func (.yield l) #[] #[]] 350)).cell? ⟨W.heap.size,0,none⟩=some (.func (.yield l) #[] #[]):=cell_of_row _ _ 0 _ _ (0,0) (heap_alloc_new W _)
 have hJ1:J [] (W.alloc (.cells #[.func (.yield l) #[] #[]] 350)):=hJ.alloc _ h0
 have hs1:W.heap.size+1=(W.alloc (.cells #[.func (.yield l) #[] #[]] 350)).heap.size:=by simp
 refine callsIn_of_wp_marks Tryz.func182 rfl trivial ?_ rfl
 simp only [Tryz.ntmps182,List.size_toArray,List.length_cons,List.length_nil,Nat.reduceAdd,Nat.reduceSub,Array.replicate_succ,Array.replicate_zero,List.push_toArray,List.append_toArray,List.nil_append,List.cons_append]
 gi_wp2
 have hR1:=hRW.kp hW1 h1 h2 h3
 generalize W.alloc (.cells #[.func (.yield l) #[] #[]] 350)=W1 at *
 refine wpIn_loop (fun a' w'=>∃ k Ds,Pg.RgF l Bs W.heap.size k a' Ds∧k≤6∧J (Pg.gQ hv k) w'∧KpN B (w.heap.size+2) W1 w'∧Ds.Nodup∧∀ D∈Ds,W1.heap.size≤D∧w'.heap[D]?=some (.deferred (some []))) (fun a' _=>6-(intOf (a'.tmps.getD 5 undef)).toNat) ?_ ?_
 ·exact ⟨0,[],⟨⟨_,_,_,_,_,_,_,_,_,_,_,_,_,_,_,_,_,_,_,_,_,_,_,_,rfl⟩,rfl⟩,by omega,hJ1,KpN.refl _ _ _,List.nodup_nil,fun D hD=>by cases hD⟩
 rintro ⟨tm,df⟩ wr ⟨k,Ds,⟨⟨u3,u4,u6,u7,u8,u9,u10,u11,u12,u13,u14,u15,u16,u17,u18,u19,u20,u21,u22,u23,u24,u25,u26,u27,htm⟩,hdf⟩,hk6,hJk,hKk,hnd,hDs⟩
 dsimp only at htm hdf
 subst htm hdf
 have hRr:=hR1.kp hKk.1 h1 h2 h3
 have hyr:=hKk.1.cell hy1 (fun h=>by have:=hB W.heap.size h;omega)
 have hn1:1≤n:=by omega
 have hgr:∀ V:World,V.grownBy V.drew none:=fun V=>⟨rfl,rfl,rfl,Nat.le_refl _,fun _ _ _=>rfl⟩
 have hJd:∀ xs V,J xs V→J xs V.drew:=fun xs V h=>hJ xs V V.drew none h (hgr V) (fun r e=>by cases e)
 by_cases hk:k=6
 ·subst hk
  have hob:wr.drew.cell? ⟨Bs,0,none⟩=_:=hRr.box
  have hoo:wr.drew.cell? ⟨mb,418,none⟩=_:=hRr.out
  have hoy:wr.drew.cell? ⟨W.heap.size,0,none⟩=_:=hyr
  obtain ⟨fn,tmps,assign,body,hy,hRo⟩:=hY (Pg.gQ hv 6) 390 wr.drew (hJd _ _ hJk) (.inr rfl)
  have hrv:∃ v,Pg.aD (R 390)=v:=⟨_,rfl⟩
  obtain ⟨rv,hrv⟩:=hrv
  rw [hrv] at hoo hy
  (try dsimp only at hy)
  gi_wp2
  refine aE gi 5 (by kernel_rfl) (by kernel_rfl) (by kernel_rfl) ?_
  simp only [List.take_succ_cons,List.take_zero,List.drop_succ_cons,List.drop_zero]
  repeat still_step
  refine wpStill_nil ?_
  gi_wp2
  refine hRo.mono ?_
  rintro e V' ⟨rfl,hJ',hk'⟩
  gi_wp2
  refine eZ (fun V=>J (Pg.eU hv) V) Ds V' hnd (fun D hD=>hk'.2.same D _ (by have:=(hDs D hD).1;omega) (hDs D hD).2 rfl) (fun D V hD hV hd=>hJ.putObj _ hV (by have:=(hDs D hD).1;omega) hd rfl) (fun V hV => ?_) hJ'
  exact ⟨_,results_none rfl _ _ _,⟨_,rfl⟩,_,rfl,hV⟩
 ·have hk5:k<6:=by omega
  have hk5':((k:Int)<6):=by omega
  have hob:(wr.alloc (.cells #[.int .i64 k] 3)).drew.cell? ⟨Bs,0,none⟩=some (.pointer (some ⟨mb,27,none⟩)):=(KpM.below (B:=fun _=>False) ((Below.refl _ wr).alloc (Nat.le_refl _) _)).cell hRr.box (fun h=>h)
  have hok:(wr.alloc (.cells #[.int .i64 k] 3)).drew.cell? ⟨wr.heap.size,0,none⟩=some (.int .i64 k):=cell_of_row _ _ 0 _ _ (0,0) (heap_alloc_new wr _)
  gi_wp2
  refine aE gi 5 (by kernel_rfl) (by kernel_rfl) (by kernel_rfl) ?_
  simp only [List.take_succ_cons,List.take_zero,List.drop_succ_cons,List.drop_zero]
  repeat still_step
  refine wpStill_nil ?_
  gi_wp2_with (refine ⟨trivial,?_⟩;gi_at_call 183;refine (callsIn_wide.2 (iA mb (28+k*65) _)).mono ?_;rintro e w9 ⟨rfl,hw9⟩;rw [hw9];clear hw9 w9)
  have hW3b:Below wr.heap.size wr (((wr.alloc (.cells #[.int .i64 k] 3)).alloc (.cells #[.pointer (some ⟨mb,28+k*65,none⟩)] 363)).drew):=(((Below.refl _ wr).alloc (Nat.le_refl _) _).alloc (by simp) _).drew
  have hJ3:J (Pg.gQ hv k) (((wr.alloc (.cells #[.int .i64 k] 3)).alloc (.cells #[.pointer (some ⟨mb,28+k*65,none⟩)] 363)).drew):=hJd _ _ (hJ.alloc _ (hJ.alloc _ hJk))
  have ck:(((wr.alloc (.cells #[.int .i64 k] 3)).alloc (.cells #[.pointer (some ⟨mb,28+k*65,none⟩)] 363)).drew).cell? ⟨wr.heap.size,0,none⟩=some (.int .i64 k):=cell_of_row _ _ 0 _ _ (0,0) (show ((wr.alloc (.cells #[.int .i64 k] 3)).alloc _).heap[wr.heap.size]?=some _ from (Below.heap_alloc _ _ _ (by simp)).trans (heap_alloc_new wr _))
  have ch:(((wr.alloc (.cells #[.int .i64 k] 3)).alloc (.cells #[.pointer (some ⟨mb,28+k*65,none⟩)] 363)).drew).cell? ⟨wr.heap.size+1,0,none⟩=some (.pointer (some ⟨mb,28+k*65,none⟩)):=by
   have e:(wr.alloc (.cells #[.int .i64 k] 3)).heap.size=wr.heap.size+1:=by simp
   rw [← e]
   exact cell_of_row _ _ 0 _ _ (0,0) (show ((wr.alloc (.cells #[.int .i64 k] 3)).alloc _).heap[(wr.alloc (.cells #[.int .i64 k] 3)).heap.size]?=some _ from heap_alloc_new _ _)
  have hs3:(((wr.alloc (.cells #[.int .i64 k] 3)).alloc (.cells #[.pointer (some ⟨mb,28+k*65,none⟩)] 363)).drew).heap.size=wr.heap.size+2:=by simp
  generalize ((wr.alloc (.cells #[.int .i64 k] 3)).alloc (.cells #[.pointer (some ⟨mb,28+k*65,none⟩)] 363)).drew=W3 at *
  have hK3:KpN B (w.heap.size+2) W1 W3:=hKk.tr (KpN.below hW3b)
  have hR3:=hR1.kp hK3.1 h1 h2 h3
  have hy3:=hK3.1.cell hy1 (fun h=>by have:=hB W.heap.size h;omega)
  have hws:=hKk.1.1
  have hG3:2<W3.heap.size:=fB (hR3.tab 0 (by decide))
  have hmb3:mb<W3.heap.size:=fB hR3.out
  refine wpIn_rangeFunc_ownH rfl hn1 (gf:=229) rfl trivial (enters_of Tryz.func229 (by kernel_rfl) rfl)
   (kJ (n-1) (by omega) (wr.heap.size+1) mb (28+k*65) (hv k) (hvl k hk5) (fun A C=>TabAt 2 Lib.deBruijn64tab A→TabAt 2 Lib.deBruijn64tab C) (fun _ _ h=>h) W3 (by omega) hmb3 hG3 ch (hR3.held k hk5) hR3.tab)
   (fun h k x=>k (h x)) (fun V l o o' hl h hc hw x j hj=>((belowK_b (n₀:=W3.heap.size) (Nat.le_refl _) V l o o' hl h hc hw).cell (p:=⟨2,j,none⟩) hG3).trans (x j hj)) (Below.refl _ _) (fun _=>rfl)
   (fun ys V=>J (Pg.gQ hv k++ys.map (fun x=>k*65+x.1)) V∧KpN B (w.heap.size+2) W3 V) (fun _ _ _=>False)
   (OwnFrom.and (fun ys A C row h hg hr=>hJ _ A C row h hg (fun r e=>⟨by have:=(hr r e).1;omega,(hr r e).2⟩)) (KpN.own (Nat.le_refl _)))
   (fun _ _ _ _ _ hs _ _=>hs) ⟨by simpa using hJ3,KpN.refl _ _ _⟩
   (fun x a' _=>a'={ tmps:=#[.func (.yield l) #[] #[],.pointer (some ⟨Bs,0,none⟩),.pointer (some ⟨W.heap.size,0,none⟩),.pointer (some ⟨wr.heap.size,0,none⟩),.int .i64 x.1,.int .i64 k,.bool true,.int .i64 k,.pointer (some ⟨mb,27,none⟩),.int .i64 k,.pointer (some ⟨mb,27,none⟩),.pointer (some ⟨mb,28,none⟩),.pointer (some ⟨mb,28+k*65,none⟩),.func (.func 229) #[] #[.pointer (some ⟨wr.heap.size+1,0,none⟩)],.int .i64 x.1,u15,u16,u17,u18,u19,u20,u21,u22,u23,u24,u25,u26,u27,undef,undef,undef,undef,undef,undef],defers:=[] })
   (fun _ _ _ _ _ _ hs _ _=>hs) ?assign ?body ?done ?stop
  case assign =>
   intro l2 pre x V K hI hK
   gi_wp2
   exact hK _ _ (KeepsFrom.refl _ _) (fun h=>h) hI rfl
  case body =>
   rintro l2 pre x a' V hl ⟨rl,hrl⟩ ⟨hJV,hKV⟩ rfl hpl
   obtain ⟨hx64,hxb⟩:=Pg.fu.1 x.2
   have hKV1:=hK3.tr hKV
   have hRV:=hR1.kp hKV1.1 h1 h2 h3
   have hir:Pg.isR (k*65+x.1) := .inl (by omega)
   have vb:V.drew.cell? ⟨Bs,0,none⟩=_:=hRV.box
   have vy:V.drew.cell? ⟨W.heap.size,0,none⟩=_:=hKV1.1.cell hy1 (fun h=>by have:=hB W.heap.size h;omega)
   have vk:V.drew.cell? ⟨wr.heap.size,0,none⟩=_:=hKV.1.cell ck (fun h=>by have:=hB wr.heap.size h;omega)
   have vr:V.drew.cell? ⟨mb,28+k*65+x.1,none⟩=_:=hRV.ring k x.1 hk5 hx64
   obtain ⟨fn,tmps,assign,body,hy,hRo⟩:=hY _ (k*65+x.1) V.drew (hJd _ _ hJV) hir
   obtain ⟨rv,hrv⟩:∃ v,Pg.aD (R (k*65+x.1))=v:=⟨_,rfl⟩
   rw [hrv] at vr hy
   (try dsimp only at hy)
   have hx64':((x.1:Int)<64):=by omega
   have hd1:1≤n-1-1:=by omega
   gi_wp2
   refine aE (bU l2) 10 (by kernel_rfl) (by kernel_rfl) (by kernel_rfl) ?_
   simp only [List.take_succ_cons,List.take_zero,List.drop_succ_cons,List.drop_zero]
   repeat still_step
   refine wpStill_nil ?_
   gi_wp2
   refine (kX gi (bU l2) hRo).mono ?_
   rintro e V' ⟨rfl,hJ',hk'⟩
   have hk2:KpN B (w.heap.size+2) V V':=(KpN.below (Below.refl _ V).drew).tr hk'
   gi_wp2
   exact ⟨⟨hk2.2.size,fun i o hi ho hc=>hk2.2.same i o (by omega) ho hc⟩,Pg.KpM.tab hk2.1 h3,by rw [List.map_append,← List.append_assoc];exact hJ',hKV.tr hk2⟩
  case done =>
   rintro D ys V hD hys ⟨hJV,hKV⟩ hdef
   have hJn:J (Pg.gQ hv (k+1)) V:=by
    rw [Pg.iU]
    unfold Pg.jV
    rw [← hys,List.map_map]
    exact hJV
   have hK1:=hK3.tr hKV
   have hnd':(D::Ds).Nodup:=List.nodup_cons.2 ⟨fun h=>by
    have:=(Array.getElem?_eq_some_iff.1 (hDs D h).2).1
    omega,hnd⟩
   have hD':∀ E∈D::Ds,W1.heap.size≤E∧V.heap[E]?=some (.deferred (some [])):=fun E hE=>by
    rcases List.mem_cons.1 hE with rfl | hE
    ·exact ⟨by omega,hdef⟩
    ·obtain ⟨e1,e2⟩:=hDs E hE
     have e3:=(hW3b.block E (Array.getElem?_eq_some_iff.1 e2).1).trans e2
     exact ⟨e1,hKV.2.same E _ (by omega) e3 rfl⟩
   gi_wp2
   refine ⟨⟨k+1,D::Ds,⟨⟨_,_,_,_,_,_,_,_,_,_,_,_,_,_,_,_,_,_,_,_,_,_,_,_,rfl⟩,rfl⟩,by omega,hJn,hK1,hnd',hD'⟩,?_⟩
   show 6-((k:Int)+1).toNat<6-(k:Int).toNat
   omega
  case stop =>
   rintro D c pre V _ _ h _
   exact h.elim
end
end Go.Proofs.YtegmoddppafkfaaGreatDoor
