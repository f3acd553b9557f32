import Derived.Test.YtegmoddppafkfaaGreatDoorM00
import Derived.Test.YtegmoddppafkfaaGreatDoorM04
import Derived.Maps.OwnSet
import Derived.Laws.MakeOwn
import Derived.Deep.LoopGhost
import Derived.Deep.MidRow
import Derived.Maps.RangeWalk
set_option maxRecDepth 100000
set_option maxHeartbeats 8000000
namespace Go.Proofs.YtegmoddppafkfaaGreatDoor
section
open Go.RowKit Go.Proofs Go.Shelf
namespace Pg
def lW (N:Nat):Value→Option (DataW Nat×List MemPlace)
 | .slice (some ⟨g,0,none⟩) n c=>if n=N∧c=N then some (.lit (.int .i64 g),[]) else none
 | .slice none 0 0=>some (.lit (.int .i64 (-1)),[])
 | _=>none
theorem CB (N g:Nat):lW N (.slice (some ⟨g,0,none⟩) N N)=some (.lit (.int .i64 g),[]):=by simp [lW]
theorem vK {N g:Nat} {v:Value} {ps:List MemPlace} (h:lW N v=some (.lit (.int .i64 g),ps)):v = .slice (some ⟨g,0,none⟩) N N:=by
 unfold lW at h
 split at h
 ·split at h
  ·rename_i hn
   obtain ⟨rfl,rfl⟩:=hn
   simp at h
   have:_=g:=Int.ofNat.inj h.1
   rw [this]
  ·cases h
 ·simp at h
 ·cases h
theorem CA {N:Nat} {v:Value} {ps:List MemPlace} (h:lW N v=some (.lit (.int .i64 (-1)),ps)):v = .slice none 0 0:=by
 unfold lW at h
 split at h
 ·split at h
  ·simp at h
  ·cases h
 ·rfl
 ·cases h
def ky (ev:ByteArray):Lit := .string ev.data.toList
theorem xi {a b:ByteArray} (h:a≠b):ky a≠ky b:=by
 intro e
 unfold ky at e
 simp at e
 exact h (ByteArray.ext (Array.ext' (by rw [e])))
def dO (W:World) (N mb n:Nat) (M:ByteArray→Option Nat):Prop:=∃ D,W.ownsMap Tryz.prog 9 (lW N) mb n D∧∀ ev,match M ev with
 | none=>Go.Maps.has D (ky ev)=false
 | some g=>Go.Maps.has D (ky ev)=true∧∀ z,D.atKey (ky ev) z = .lit (.int .i64 g)
theorem dO.mo {W W':World} {P:Nat→Prop} {N mb n:Nat} {M:ByteArray→Option Nat} (h:dO W N mb n M) (hm:Mo P W W') (hn:¬ P mb):dO W' N mb n M:=by
 obtain ⟨D,⟨es,clock,hb,r⟩,hM⟩:=h
 exact ⟨D,⟨es,clock,(hm.block mb (Array.getElem?_eq_some_iff.1 hb).1 hn).trans hb,r⟩,hM⟩
theorem dO.lt {W:World} {N mb n:Nat} {M:ByteArray→Option Nat} (h:dO W N mb n M):mb<W.heap.size:=by
 obtain ⟨D,hD,_⟩:=h;exact hD.lt
theorem dO.kind {W:World} {N mb n:Nat} {M:ByteArray→Option Nat} (h:dO W N mb n M):∃ es clock,W.heap[mb]?=some (.map es clock):=by
 obtain ⟨D,⟨es,clock,hb,_⟩,_⟩:=h;exact ⟨es,clock,hb⟩
theorem zX:Go.Maps.Keyed Tryz.prog 9:=Go.Maps.string_keyed Tryz.underlying9
theorem EC (w:World):(zeroValue 314).run Tryz.prog w = .ok (.slice none 0 0) w:=by kernel_rfl
theorem DR {ev:ByteArray} (h:ev.size≤1000000):keyOf Tryz.prog 9 (.string ev)=some (ky ev):=Go.WideMaps.keyOf_string_mk Tryz.underlying9 (by unfold maxLen;omega)
theorem dO.look {W:World} {N mb n:Nat} {M:ByteArray→Option Nat} (h:dO W N mb n M) {ev:ByteArray} (hs:ev.size≤1000000) :
  (Instr.lookup 256 (.map (some mb)) (.string ev) true).run Tryz.prog W = .ok (match M ev with | none => .tuple #[.slice none 0 0,.bool false] | some g => .tuple #[.slice (some ⟨g,0,none⟩) N N,.bool true]) W:=by
 obtain ⟨D,hD,hM⟩:=h
 obtain ⟨v,ps,hrun,hv⟩:=hD.look_ok zX Tryz.underlying256 (EC W) (zd := .lit (.int .i64 (-1))) (zp:=[]) rfl (DR hs)
 rw [hrun]
 have:=hM ev
 cases hm:M ev with
 | none =>
  rw [hm] at this
  rw [this]
  rw [Go.Maps.atKey_of_not_has this] at hv
  rw [CA hv]
 | some g =>
  rw [hm] at this
  rw [this.1]
  rw [this.2] at hv
  rw [vK hv]
theorem dO.put {W:World} {N mb n:Nat} {M:ByteArray→Option Nat} (h:dO W N mb n M) (hn:n≤1000000) {ev:ByteArray} (hs:ev.size≤1000000) (g:Nat) :
  ∃ w',(Instr.mapUpdate 256 (.map (some mb)) (.string ev) (.slice (some ⟨g,0,none⟩) N N)).run Tryz.prog W = .ok () w'∧dO w' N mb (n+1) (fun e=>if e=ev then some g else M e)∧W.grownBy w' (some mb):=by
 obtain ⟨D,hD,hM⟩:=h
 obtain ⟨w',hrun,hD',hg⟩:=hD.update zX Tryz.underlying256 (by unfold maxLen;omega) (DR hs) (CB N g)
 refine ⟨w',hrun,⟨_,hD',fun e => ?_⟩,hg⟩
 have hI:=hD.isMap
 dsimp only
 by_cases he:e=ev
 ·subst he
  rw [if_pos rfl]
  exact ⟨Go.Maps.has_put_same hI (show WideAt.IsKeyLit (.string _) from trivial) _,fun z=>Go.Maps.atKey_put_same hI (show WideAt.IsKeyLit (.string _) from trivial) _ _⟩
 ·rw [if_neg he]
  have:=hM e
  have hk:=xi he
  cases hm:M e with
  | none=>rw [hm] at this;rw [Go.Maps.has_put_other hk];exact this
  | some g'=>rw [hm] at this;refine ⟨by rw [Go.Maps.has_put_other hk];exact this.1,fun z=>by rw [Go.Maps.atKey_put_other hk];exact this.2 z⟩
def cC (W:World) (g:Nat) (L:List (Option Nat)):Prop:=W.heap[g]?=some (.cells (L.map fun m=>Value.pointer (m.map fun b=>(⟨b,0,none⟩:Addr))).toArray 316 (0,0))
theorem cC.lt {W:World} {g:Nat} {L:List (Option Nat)} (h:cC W g L):g<W.heap.size:=(Array.getElem?_eq_some_iff.1 h).1
theorem cC.cell {W:World} {g:Nat} {L:List (Option Nat)} (h:cC W g L) {i:Nat} {m:Option Nat} (hi:L[i]?=some m):W.cell? ⟨g,i,none⟩=some (.pointer (m.map fun b=>(⟨b,0,none⟩:Addr))):=by
 rw [cell_of_row W _ _ _ _ _ h];simp [hi]
theorem cC.frozen {W:World} {g:Nat} {L:List (Option Nat)} (h:cC W g L) {i:Nat}:W.frozen? ⟨g,i,none⟩=false:=by
 simp [World.frozen?,show W.heap[g]?=_ from h]
theorem cC.set {W:World} {g:Nat} {L:List (Option Nat)} (h:cC W g L) (i:Nat) (m:Option Nat):cC (W.setCell ⟨g,i,none⟩ (.pointer (m.map fun b=>(⟨b,0,none⟩:Addr)))) g (L.set i m):=by
 unfold cC
 rw [heap_setCell_same W g i _ _ _ h]
 simp [List.map_set]
end Pg
theorem Tryz.j3:(Tryz.prog.info? 316).map (fun i=>(i.zero,i.size,i.bytes))=some (some (.pointer none),1,8):=by kernel_rfl
theorem BY (n:Nat):madeCells (Value.pointer none).cells n=((List.replicate n (none:Option Nat)).map fun m=>Value.pointer (m.map fun b=>(⟨b,0,none⟩:Addr))).toArray:=by
 apply Array.ext
 ·simp [size_madeCells]
 ·intro i h1 h2
  simp [madeCells,Value.cells,Nat.mod_one]
theorem tF (n:Nat) (hn:n≤4096) (w:World):(Instr.makeSlice 314 (.int .i64 n) (.int .i64 n)).run Tryz.prog w = .ok (.slice (some ⟨w.heap.size,0,none⟩) n n) (w.alloc (.cells ((List.replicate n (none:Option Nat)).map fun m=>Value.pointer (m.map fun b=>(⟨b,0,none⟩:Addr))).toArray 316)):=by
 obtain ⟨i0,hi,hz0,hz1,hz2⟩:=info_parts Tryz.j3
 have h:=run_makeSlice (P:=Tryz.prog) w 314 316 i0 (.pointer none) Tryz.underlying314 hi hz0 .i64 .i64 n n (by omega) (Int.le_refl _) (by rw [hz1];simp;omega) (by rw [hz2];omega) (by omega)
 rw [h,hz1]
 simp only [Int.toNat_natCast,Nat.mul_one]
 rw [BY]
namespace Pg
def Di (w:World) (N mb n:Nat) (M:ByteArray→Option Nat) (ev:ByteArray) (e:Ending) (w':World):Prop :=
 ∃ g,e = .returned (.slice (some ⟨g,0,none⟩) N N)∧((M ev=some g∧w'=w)∨(M ev=none∧w.heap.size≤g∧dO w' N mb (n+1) (fun x=>if x=ev then some g else M x)∧cC w' g (List.replicate N none)∧Mo (· = mb) w w'))
end Pg
theorem Ep (w:World) (pb b cap N:Nat) (hv:Value) (fin mb n:Nat) (M:ByteArray→Option Nat) (ev:ByteArray) (hB:Pg.di w pb b N cap hv fin (.map (some mb))) (hM:Pg.dO w N mb n M) (hn:n≤1000000) (hev:ev.size≤1000000) (hN:N≤24) :
  Calls Tryz.prog 160 #[.pointer (some ⟨pb,0,none⟩),.string ev] w (Pg.Di w N mb n M ev):=by
 have h3:w.cell? ⟨pb,3,none⟩=some (.map (some mb)):=by rw [cell_of_row w _ _ _ _ _ hB];rfl
 have h0:w.cell? ⟨pb,0,none⟩=some (.slice (some ⟨b,0,none⟩) N cap):=by rw [cell_of_row w _ _ _ _ _ hB];rfl
 have hpb:pb<w.heap.size:=(Array.getElem?_eq_some_iff.1 hB).1
 have hl:=hM.look hev
 cases hm:M ev with
 | some g =>
  rw [hm] at hl
  dsimp only at hl
  have hfin:∀ r,r=Ending.returned (.slice (some ⟨g,0,none⟩) N N)→Pg.Di w N mb n M ev r w:=fun r hr=>⟨g,hr,.inl ⟨hm,rfl⟩⟩
  clear hm hM
  go_enter Tryz.func160,Tryz.ntmps160
  go_wp2
  go_ret
  exact hfin _ rfl
 | none =>
  rw [hm] at hl
  dsimp only at hl
  have hmk:=tF N (by omega) w
  have hBa:=(Below.refl w.heap.size w).alloc (Nat.le_refl _) (.cells ((List.replicate N (none:Option Nat)).map fun m=>Value.pointer (m.map fun b=>(⟨b,0,none⟩:Addr))).toArray 316)
  obtain ⟨w',hput,hM',hg⟩:=(hM.mo (P:=fun _=>False) (aq hBa) (fun h=>h)).put hn hev w.heap.size
  have h3a:=(hBa.cell (p:=⟨pb,3,none⟩) hpb).trans h3
  have hrow:Pg.cC (w.alloc (.cells ((List.replicate N (none:Option Nat)).map fun m=>Value.pointer (m.map fun b=>(⟨b,0,none⟩:Addr))).toArray 316)) w.heap.size (List.replicate N none):=heap_alloc_new w _
  have hfin:∀ r,r=Ending.returned (.slice (some ⟨w.heap.size,0,none⟩) N N)→Pg.Di w N mb n M ev r w':=fun r hr=>by
   have hmb:=hM.lt
   refine ⟨_,hr,.inr ⟨hm,Nat.le_refl _,hM',?_,?_⟩⟩
   ·exact (hg.block _ hrow.lt (by simp;omega)).trans hrow
   ·exact (aq hBa).trans' ⟨hg.os,hg.tape,hg.output,hg.size,fun k hk hn=>hg.block k hk (fun e=>hn (by cases e;rfl))⟩ (fun k _ h=>h)
  clear hm hM hM' hrow hg
  obtain ⟨W1,hW1⟩:∃ W,w.alloc (.cells ((List.replicate N (none:Option Nat)).map fun m=>Value.pointer (m.map fun b=>(⟨b,0,none⟩:Addr))).toArray 316)=W:=⟨_,rfl⟩
  rw [hW1] at hmk hBa hput h3a
  clear hW1
  go_enter Tryz.func160,Tryz.ntmps160
  go_wp2
  go_ret
  exact hfin _ rfl
namespace Pg
theorem pV.range {W:World} {b i:Nat} {p:PS} (h:pV W b i p):W.rangeAt b (i*10) p.cells:=fun j v hv=>by
 match j,hv with
 | 0,hv=>cases hv;exact h.c0
 | 1,hv=>cases hv;exact h.c1
 | 2,hv=>cases hv;exact h.c2
 | 3,hv=>cases hv;exact h.c3
 | 4,hv=>cases hv;exact h.c4
 | 5,hv=>cases hv;exact h.c5
 | 6,hv=>cases hv;exact h.c6
 | 7,hv=>cases hv;exact h.c7
 | 8,hv=>cases hv;exact h.c8
 | 9,hv=>cases hv;exact h.c9
 | j+10,hv=>cases hv
def oN (ps:List PS) (L:List (Option Nat)) (i:Nat):List (Option Nat):=match L[i]?,ps[i]? with
 | some none,some p=>if p.owner == -1 then L else L.set i (L.getD p.owner.toNat none)
 | _,_=>L
def dR (ps:List PS) (L:List (Option Nat)):Nat→List (Option Nat)
 | 0=>L
 | k+1=>oN ps (dR ps L k) k
theorem wX (ps:List PS) (L:List (Option Nat)) (i:Nat):(oN ps L i).length=L.length:=by
 unfold oN
 split
 ·split <;> simp
 ·rfl
theorem lz (ps:List PS) (L:List (Option Nat)):∀ k,(dR ps L k).length=L.length
 | 0=>rfl
 | k+1=>by rw [dR,wX,lz ps L k]
end Pg
theorem mN (w:World) (pb b cap:Nat) (ps:List Pg.PS) (g:Nat) (L:List (Option Nat)) (hL:L.length=ps.length) (how:∀ (i:Nat) (p:Pg.PS),ps[i]?=some p→p.owner = -1∨∃ o:Nat,p.owner=o∧o<i)
  (hP:Pg.dh w pb b cap ps) (hpb:pb<w.heap.size) (hb:b<w.heap.size) (n1:pb≠g) (n2:b≠g) (hR:Pg.cC w g L) :
  Calls Tryz.prog 163 #[.pointer (some ⟨pb,0,none⟩),.slice (some ⟨g,0,none⟩) ps.length ps.length] w fun e w'=>e = .returned (.tuple #[])∧Pg.cC w' g (Pg.dR ps L ps.length)∧Mo (· = g) w w':=by
 have hlen:=hP.len
 have h0:=hP.row
 have HP:Hid _:=hP
 have HOW:Hid _:=how
 have HR:Hid _:=hR
 clear hP how hR
 go_enter Tryz.func163,Tryz.ntmps163
 go_wp2
 go_loopg [11] ps.length (fun q i wr=>∃ k:Nat,q=ps.length-k∧k≤ps.length∧i = .int .i64 k∧Pg.cC wr g (Pg.dR ps L k)∧Mo (· = g) w wr)
 case atStart=>exact ⟨0,rfl,Nat.zero_le _,rfl,HR.out,Mo.refl _ _⟩
 case round =>
  obtain ⟨k,hq,hk,rfl,hrow,hmo⟩:=hrel
  clear h0
  by_cases hkn:k<ps.length
  ·obtain ⟨p,hp⟩:∃ p,ps[k]?=some p:=⟨_,List.getElem?_eq_getElem hkn⟩
   have hs:=hmo.size
   have hPk:=HP.out.mo hmo hpb hb n1 n2
   have hrng:=(hPk.at' k p hp).range
   have hlk:(Pg.dR ps L k).length=ps.length:=by rw [Pg.lz,hL]
   obtain ⟨m,hm⟩:∃ m,(Pg.dR ps L k)[k]?=some m:=⟨_,List.getElem?_eq_getElem (by omega)⟩
   have hB5:=(Below.refl wr.heap.size wr).alloc (Nat.le_refl _) (.cells p.cells.toArray 253)
   have s5:=heap_alloc_new wr (.cells p.cells.toArray 253)
   have hrow5:Pg.cC (wr.alloc (.cells p.cells.toArray 253)) g (Pg.dR ps L k):=(hB5.block g hrow.lt).trans hrow
   have hmo5:=hmo.trans (aq hB5)
   have c5:(wr.alloc (.cells p.cells.toArray 253)).cell? ⟨wr.heap.size,3,none⟩=some (.int .i64 p.owner):=by rw [cell_of_row _ _ _ _ _ _ s5];rfl
   have cm:=hrow5.cell hm
   have HN:Hid (Pg.dR ps L (k+1)=match (generalizing:=false) m with | none=>(if p.owner == -1 then Pg.dR ps L k else (Pg.dR ps L k).set k ((Pg.dR ps L k).getD p.owner.toNat none)) | some _=>Pg.dR ps L k):=by
    unfold Hid
    rw [Pg.dR,Pg.oN,hm,hp]
    cases m <;> rfl
   obtain ⟨W5,hW5⟩:∃ W,wr.alloc (.cells p.cells.toArray 253)=W:=⟨_,rfl⟩
   have hst:∀ {ops:Array Oper} {rest:List Oper} {op:Oper} {a:Act} {Q:Exit→Act→World→Prop},op.guard=none→op.op = .store 253 (.tmp 5) (.tmp 15)→a.eval (.tmp 5) = .pointer (some ⟨wr.heap.size,0,none⟩)→a.eval (.tmp 15) = .agg p.cells.toArray→wpList Tryz.prog ops Q rest (a.put op.dst undef) W5→wpList Tryz.prog ops Q (op::rest) a (wr.alloc (.cells #[.int .i64 0,.string ⟨#[]⟩,.string ⟨#[]⟩,.int .i64 0,.int .u32 0,.int .u32 0,.int .u32 0,.int .u32 0,.slice none 0 0,.slice none 0 0] 253)):=fun h1 h2 h3 h4 h5=>aG h1 253 (.tmp 5) (.tmp 15) h2 253 _ p.cells.toArray h3 h4 Tryz.eN rfl (by simp [Pg.PS.cells,Value.oneCell',Ref.Sl.v]) (by rw [hW5];exact h5)
   rw [hW5] at hrow5 hmo5 c5 cm
   clear hW5 s5 hB5 hrow hmo hPk hm
   have hkl:k<ps.length:=hkn
   cases m with
   | some mb =>
    have HN:Hid (Pg.dR ps L (k+1)=Pg.dR ps L k):=HN.out
    dsimp only [Option.map] at cm
    go_wp2_with (first
     | (refine wpList_load_mid rfl 253 (.tmp 14) rfl b (k*10) rfl _ _ hrng Tryz.underlying253 rfl Tryz.eN ?_)
     | (refine hst rfl rfl rfl rfl ?_)
     | fail)
    go_roundg (ps.length-(k+1))
    case measure=>omega
    case rel=>exact ⟨k+1,rfl,by omega,by go_num,by rw [HN.out];exact hrow5,hmo5⟩
   | none =>
    dsimp only [Option.map] at cm
    rcases HOW.out k p hp with ho | ⟨o,ho,hok⟩
    ·have HN:Hid (Pg.dR ps L (k+1)=Pg.dR ps L k):=by have:=HN.out;rw [ho] at this;exact this
     rw [ho] at c5
     go_wp2_with (first
      | (refine wpList_load_mid rfl 253 (.tmp 14) rfl b (k*10) rfl _ _ hrng Tryz.underlying253 rfl Tryz.eN ?_)
      | (refine hst rfl rfl rfl rfl ?_)
      | fail)
     go_roundg (ps.length-(k+1))
     case measure=>omega
     case rel=>exact ⟨k+1,rfl,by omega,by go_num,by rw [HN.out];exact hrow5,hmo5⟩
    ·obtain ⟨mo,hmo⟩:∃ mo,(Pg.dR ps L k)[o]?=some mo:=⟨_,List.getElem?_eq_getElem (by omega)⟩
     have HN:Hid (Pg.dR ps L (k+1)=(Pg.dR ps L k).set k mo):=by
      have:=HN.out
      rw [ho] at this
      simp only [Int.toNat_natCast] at this
      rw [if_neg (by simp)] at this
      unfold Hid
      rw [this,List.getD_eq_getElem?_getD,hmo];rfl
     rw [ho] at c5
     have co:=hrow5.cell hmo
     have fz:=hrow5.frozen (i:=k)
     have hrow6:=hrow5.set k mo
     have hmo6:=hmo5.set ⟨g,k,none⟩ (.pointer (mo.map fun b=>(⟨b,0,none⟩:Addr))) rfl
     have hon:((o:Int) != -1)=true:=by simp
     obtain ⟨vo,hvo⟩:∃ v,mo.map (fun b=>(⟨b,0,none⟩:Addr))=v:=⟨_,rfl⟩
     rw [hvo] at co hrow6 hmo6
     clear ho
     go_wp2_with (first
      | (refine wpList_load_mid rfl 253 (.tmp 14) rfl b (k*10) rfl _ _ hrng Tryz.underlying253 rfl Tryz.eN ?_)
      | (refine hst rfl rfl rfl rfl ?_)
      | fail)
     go_roundg (ps.length-(k+1))
     case measure=>omega
     case rel=>exact ⟨k+1,rfl,by omega,by go_num,by rw [HN.out];exact hrow6,hmo6⟩
  ·obtain rfl:k=ps.length:=by omega
   go_wp2
   go_end0
   exact ⟨rfl,hrow,hmo⟩
namespace Pg
structure MV where
 event:ByteArray
 after:Bool
 delay:Int
 dest:ByteArray
 aj:Ref.Sl
def MV.cells (m:MV):List Value:=[.string m.event,.bool m.after,.int .u64 m.delay,.string m.dest,.slice m.aj.a m.aj.n m.aj.c]
structure PM where
 own:Nat
 lv:Nat
 aj:Ref.Sl
 en:En
def dF (W:World) (pb b m:Nat) (x:PM):Prop:=∃ fv,W.heap[m]?=some (.cells #[.int .i64 x.own,.int .u32 x.lv,.slice x.aj.a x.aj.n x.aj.c,fv] 319 (0,0))∧pU W pb b x.en fv
def vW (t:TypeId):Prop:=t=319∨t=139∨t=137∨t=307∨t=3
theorem dF.kd {E:TypeId→Prop} {W W':World} {pb b m:Nat} {x:PM} (h:dF W pb b m x) (hk:Kd E W W') (hE:∀ t,vW t→¬ E t):dF W' pb b m x:=by
 obtain ⟨fv,h1,h2⟩:=h
 refine ⟨fv,(hk.ay _ _ _ _ h1 (hE _ (.inl rfl))).trans h1,h2.ay (fun B t u ht hb=>hk.boxed hb (hE t (.inr ht)))⟩
def jx (W:World) (pb b:Nat):Option (Option Nat)→Option (Option PM)→Prop
 | some (some m),some (some x)=>dF W pb b m x
 | some none,some none=>True
 | none,none=>True
 | _,_=>False
theorem jx.imp {W W':World} {pb b:Nat} {x:Option (Option Nat)} {y:Option (Option PM)} (h:jx W pb b x y) (hi:∀ m z,x=some (some m)→dF W pb b m z→dF W' pb b m z):jx W' pb b x y:=by
 match x,y,h with
 | some (some m),some (some z),h=>exact hi m z rfl h
 | some none,some none,_=>trivial
 | none,none,_=>trivial
structure Tab (W:World) (pb b N mb n:Nat) (T:ByteArray→Option (List (Option PM))) (M:ByteArray→Option Nat) (L:Nat→List (Option Nat)):Prop where
 map:dO W N mb n M
 nope:∀ ev,M ev=none→T ev=none
 row:∀ ev g,M ev=some g→cC W g (L g)∧(L g).length=N∧∃ row,T ev=some row∧row.length=N∧∀ i:Nat,jx W pb b ((L g)[i]?) (row[i]?)
 inj:∀ e e' g,M e=some g→M e'=some g→e=e'
theorem Tab.kd {E:TypeId→Prop} {P:Nat→Prop} {W W':World} {pb b N mb n:Nat} {T:ByteArray→Option (List (Option PM))} {M:ByteArray→Option Nat} {L:Nat→List (Option Nat)} (h:Tab W pb b N mb n T M L) (hk:Kd E W W') (hE:∀ t,vW t→¬ E t) (hR:¬ E 316) (hm:Mo P W W') (hn:¬ P mb):Tab W' pb b N mb n T M L where
 map:=h.map.mo hm hn
 nope:=h.nope
 row:=fun ev g hg=>by
  obtain ⟨h1,h2,row,h3,h4,h5⟩:=h.row ev g hg
  exact ⟨(hk.ay _ _ _ _ h1 hR).trans h1,h2,row,h3,h4,fun i=>(h5 i).imp (fun m z _ hz=>hz.kd hk hE)⟩
 inj:=h.inj
theorem Tab.below {W W':World} {pb b N mb n:Nat} {T:ByteArray→Option (List (Option PM))} {M:ByteArray→Option Nat} {L:Nat→List (Option Nat)} (h:Tab W pb b N mb n T M L) (hb:Below W.heap.size W W'):Tab W' pb b N mb n T M L :=
 h.kd (E:=fun _=>False) (P:=fun _=>False) (bC hb) (fun _ _ h=>h) (fun h=>h) (aq hb) (fun h=>h)
theorem Tab.Gs {W W':World} {pb b N mb n:Nat} {T:ByteArray→Option (List (Option PM))} {M:ByteArray→Option Nat} {L:Nat→List (Option Nat)} (h:Tab W pb b N mb n T M L) {ev:ByteArray} {e:Ending} (hr:Di W N mb n M ev e W') :
  ∃ g M' L' n',e = .returned (.slice (some ⟨g,0,none⟩) N N)∧n'≤n+1∧M' ev=some g∧Mo (· = mb) W W'∧(∀ x y,M' x=some y→M x=some y∨W.heap.size≤y)∧Tab W' pb b N mb n' (fun x=>if x=ev then some ((T ev).getD (List.replicate N none)) else T x) M' L':=by
 obtain ⟨g,he,⟨hm,hw⟩ | ⟨hm,hg,hM',hrow,hmo⟩⟩:=hr
 ·subst hw
  obtain ⟨_,_,row,h3,_,_⟩:=h.row ev g hm
  have:(fun x=>if x=ev then some ((T ev).getD (List.replicate N none)) else T x)=T:=by
   funext x
   by_cases hx:x=ev
   ·rw [if_pos hx,hx,h3];rfl
   ·rw [if_neg hx]
  exact ⟨g,M,L,n,he,by omega,hm,Mo.refl _ _,fun _ _ h => .inl h,by rw [this];exact h⟩
 ·have hkd:Kd (fun _=>False) W W':=gE hmo (fun k c t f hk hc=>by
   obtain ⟨es,clock,hmb⟩:=h.map.kind
   rw [hk,hmb] at hc;cases hc)
  have hT:=h.nope ev hm
  refine ⟨g,fun x=>if x=ev then some g else M x,fun x=>if x=g then List.replicate N none else L x,n+1,he,Nat.le_refl _,if_pos rfl,hmo,fun x y hxy => ?_,?_⟩
  ·dsimp only at hxy
   by_cases hx:x=ev
   ·rw [if_pos hx] at hxy;cases hxy;exact .inr hg
   ·rw [if_neg hx] at hxy;exact .inl hxy
  refine ⟨hM',fun e hn => ?_,fun e g' hg' => ?_,fun e e' g' h1 h2 => ?_⟩
  ·by_cases hx:e=ev
   ·simp [hx] at hn
   ·simp only [if_neg hx] at hn ⊢
    exact h.nope e hn
  ·by_cases hx:e=ev
   ·subst hx
    simp at hg'
    subst hg'
    simp only [if_true]
    refine ⟨hrow,by simp,_,rfl,by rw [hT];simp,fun i => ?_⟩
    rw [hT]
    by_cases hi:i<N
    ·simp [hi,jx]
    ·simp [hi,jx]
   ·simp only [if_neg hx] at hg' ⊢
    obtain ⟨h1,h2,row,h3,h4,h5⟩:=h.row e g' hg'
    have hne:g'≠g:=by have:=h1.lt;omega
    simp only [if_neg hne]
    exact ⟨(hkd.ay _ _ _ _ h1 (fun h=>h)).trans h1,h2,row,h3,h4,fun i=>(h5 i).imp (fun m z _ hz=>hz.kd hkd (fun _ _ h=>h))⟩
  ·by_cases hx:e=ev
   ·by_cases hy:e'=ev
    ·rw [hx,hy]
    ·simp only [if_pos hx,if_neg hy] at h1 h2
     obtain ⟨h3,_⟩:=h.row e' g' h2
     have:=h3.lt
     simp at h1
     omega
   ·by_cases hy:e'=ev
    ·simp only [if_neg hx,if_pos hy] at h1 h2
     obtain ⟨h3,_⟩:=h.row e g' h1
     have:=h3.lt
     simp at h2
     omega
    ·simp only [if_neg hx,if_neg hy] at h1 h2
     exact h.inj e e' g' h1 h2
theorem Tab.set {W W':World} {pb b N mb n g i q:Nat} {T:ByteArray→Option (List (Option PM))} {M:ByteArray→Option Nat} {L:Nat→List (Option Nat)} (h:Tab W pb b N mb n T M L) {ev:ByteArray} (hM:M ev=some g) (hi:i<N) {row:List (Option PM)} (hrw:T ev=some row) (x:PM) (hk:Kd (fun t=>t=316) W W') (hm:Mo (· = g) W W') (hrow:cC W' g ((L g).set i (some q))) (hq:dF W' pb b q x) :
  Tab W' pb b N mb n (fun y=>if y=ev then some (row.set i (some x)) else T y) M (fun y=>if y=g then (L g).set i (some q) else L y):=by
 obtain ⟨h1,h2,row',h3,h4,h5⟩:=h.row ev g hM
 rw [hrw] at h3
 cases h3
 have hE:∀ t,vW t→¬ t=316:=by rintro t (rfl | rfl | rfl | rfl | rfl) <;> decide
 have hmbg:mb≠g:=by
  obtain ⟨es,clock,hmb⟩:=h.map.kind
  intro e
  rw [e,show W.heap[g]?=_ from h1] at hmb
  cases hmb
 refine ⟨h.map.mo hm hmbg,fun e hn => ?_,fun e g' hg' => ?_,h.inj⟩
 ·have hx:e≠ev:=fun hx=>by rw [hx,hM] at hn;cases hn
  rw [if_neg hx]
  exact h.nope e hn
 ·by_cases hx:e=ev
  ·subst hx
   rw [hM] at hg'
   cases hg'
   simp only [if_true]
   refine ⟨hrow,by simp [h2],_,rfl,by simp [h4],fun j => ?_⟩
   by_cases hj:j=i
   ·subst hj
    rw [List.getElem?_set_self (by omega),List.getElem?_set_self (by omega)]
    exact hq
   ·rw [List.getElem?_set_ne (fun e=>hj e.symm),List.getElem?_set_ne (fun e=>hj e.symm)]
    exact (h5 j).imp (fun m z _ hz=>hz.kd hk hE)
  ·have hgg:g'≠g:=fun e'=>hx (h.inj e ev g (by rw [← e'];exact hg') hM)
   simp only [if_neg hx,if_neg hgg]
   obtain ⟨k1,k2,row',k3,k4,k5⟩:=h.row e g' hg'
   exact ⟨(hm.block g' k1.lt hgg).trans k1,k2,row',k3,k4,fun j=>(k5 j).imp (fun m z _ hz=>hz.kd hk hE)⟩
end Pg
namespace Pg
def gV (W:World) (ib n:Nat) (F:ByteArray→Option Nat):Prop:=∃ D:DataW Nat,W.ownsMap Tryz.prog 9 (plainElem Tryz.prog 3) ib n D∧∀ nm,match F nm with
 | none=>Go.Maps.has D (ky nm)=false
 | some g=>∀ z,D.atKey (ky nm) z = .lit (.int .i64 g)
theorem gV.mo {W W':World} {P:Nat→Prop} {ib n:Nat} {F:ByteArray→Option Nat} (h:gV W ib n F) (hm:Mo P W W') (hn:¬ P ib):gV W' ib n F:=by
 obtain ⟨D,⟨es,clock,hb,r⟩,hM⟩:=h
 exact ⟨D,⟨es,clock,(hm.block ib (Array.getElem?_eq_some_iff.1 hb).1 hn).trans hb,r⟩,hM⟩
theorem Gz (w:World):(zeroValue 3).run Tryz.prog w = .ok (.int .i64 0) w:=by kernel_rfl
theorem gV.made (w:World):gV (w.alloc (.map #[] 0)) w.heap.size 0 (fun _=>none):=⟨_,World.ownsMap_made w _ _ _,fun _=>rfl⟩
theorem gV.look {W:World} {ib n g:Nat} {F:ByteArray→Option Nat} (h:gV W ib n F) {nm:ByteArray} (hs:nm.size≤1000000) (hF:F nm=some g) :
  (Instr.lookup 228 (.map (some ib)) (.string nm) false).run Tryz.prog W = .ok (.int .i64 g) W:=by
 obtain ⟨D,hD,hM⟩:=h
 obtain ⟨c,hrun,hat,_⟩:=hD.lookup_int zX Tryz.underlying228 Tryz.underlying3 (Gz W) (DR hs)
 have:=hM nm
 rw [hF] at this
 rw [this] at hat
 rw [hrun]
 simp at hat
 rw [hat]
theorem gV.put {W:World} {ib n:Nat} {F:ByteArray→Option Nat} (h:gV W ib n F) (hn:n≤1000000) {nm:ByteArray} (hs:nm.size≤1000000) (g:Nat) (hg:g≤1000000) :
  ∃ w',(Instr.mapUpdate 228 (.map (some ib)) (.string nm) (.int .i64 g)).run Tryz.prog W = .ok () w'∧gV w' ib (n+1) (fun e=>if e=nm then some g else F e)∧W.grownBy w' (some ib):=by
 obtain ⟨D,hD,hM⟩:=h
 obtain ⟨w',hrun,hD',hg⟩:=hD.update zX Tryz.underlying228 (by unfold maxLen;omega) (DR hs) (plainElem_int Tryz.underlying3 (a:=(g:Int)) (WalkArith.wf_i64 (by omega)))
 refine ⟨w',hrun,⟨_,hD',fun e => ?_⟩,hg⟩
 have hI:=hD.isMap
 dsimp only
 by_cases he:e=nm
 ·subst he
  rw [if_pos rfl]
  exact fun z=>Go.Maps.atKey_put_same hI (show WideAt.IsKeyLit (.string _) from trivial) _ _
 ·rw [if_neg he]
  have:=hM e
  have hk:=xi he
  cases hm:F e with
  | none=>rw [hm] at this;rw [Go.Maps.has_put_other hk];exact this
  | some g'=>rw [hm] at this;exact fun z=>by rw [Go.Maps.atKey_put_other hk];exact this z
structure ChM (W:World) (cb cg cc:Nat) (X:List MS) (V:Nat→List MV):Prop where
 ptr:W.heap[cb]?=some (.cells #[.slice (some ⟨cg,0,none⟩) X.length cc] 232 (0,0))
 blk:∃ c fz,W.heap[cg]?=some (.cells c 242 fz)
 at':∀ (i:Nat) (x:MS),X[i]?=some x→W.rangeAt cg (i*8) x.arr.toList
 mv:∀ (i:Nat) (x:MS),X[i]?=some x→x.vm.n=(V i).length∧((V i).length=0∨∃ gm c fz,x.vm.a=some ⟨gm,0,none⟩∧(V i).length≤x.vm.c∧W.heap[gm]?=some (.cells c 295 fz)∧∀ (j:Nat) (m:MV),(V i)[j]?=some m→W.rangeAt gm (j*5) m.cells)
def GF (t:TypeId):Prop:=t=232∨t=242∨t=295
theorem ChM.kd {E:TypeId→Prop} {W W':World} {cb cg cc:Nat} {X:List MS} {V:Nat→List MV} (h:ChM W cb cg cc X V) (hk:Kd E W W') (hE:∀ t,GF t→¬ E t):ChM W' cb cg cc X V where
 ptr:=(hk.ay _ _ _ _ h.ptr (hE _ (.inl rfl))).trans h.ptr
 blk:=by
  obtain ⟨c,fz,hc⟩:=h.blk
  exact ⟨c,fz,(hk.ay _ _ _ _ hc (hE _ (.inr (.inl rfl)))).trans hc⟩
 at':=fun i x hx j v hv=>by
  obtain ⟨c,fz,hc⟩:=h.blk
  exact (World.cell?_of_block (a:=⟨cg,_,none⟩) (hk.ay _ _ _ _ hc (hE _ (.inr (.inl rfl))))).trans (h.at' i x hx j v hv)
 mv:=fun i x hx=>by
  obtain ⟨h1,h2 | ⟨gm,c,fz,h2,h3,h4,h5⟩⟩:=h.mv i x hx
  ·exact ⟨h1,.inl h2⟩
  ·have hb:=hk.ay _ _ _ _ h4 (hE _ (.inr (.inr rfl)))
   exact ⟨h1,.inr ⟨gm,c,fz,h2,h3,hb.trans h4,fun j m hm k v hv=>(World.cell?_of_block (a:=⟨gm,_,none⟩) hb).trans (h5 j m hm k v hv)⟩⟩
theorem ChM.below {W W':World} {cb cg cc:Nat} {X:List MS} {V:Nat→List MV} (h:ChM W cb cg cc X V) (hb:Below W.heap.size W W'):ChM W' cb cg cc X V:=h.kd (E:=fun _=>False) (bC hb) (fun _ _ h=>h)
def dr (X:List MS):Nat→ByteArray→Option Nat
 | 0=>fun _=>none
 | k+1=>match X[k]? with
  | some x=>fun nm=>if nm=x.name then some k else dr X k nm
  | none=>dr X k
end Pg
theorem Tryz.dT:(Tryz.prog.info? 242).map (·.size)=some 8:=by kernel_rfl
theorem Tryz.rC:(Tryz.prog.info? 295).map (·.size)=some 5:=by kernel_rfl
namespace Pg
def oO (ps:List PS) (L:List (Option PM)) (i:Nat):List (Option PM):=match L[i]?,ps[i]? with
 | some none,some p=>if p.owner == -1 then L else L.set i (L.getD p.owner.toNat none)
 | _,_=>L
def kK (ps:List PS) (L:List (Option PM)):Nat→List (Option PM)
 | 0=>L
 | k+1=>oO ps (kK ps L k) k
theorem wY (ps:List PS) (L:List (Option PM)) (i:Nat):(oO ps L i).length=L.length:=by
 unfold oO
 split
 ·split <;> simp
 ·rfl
theorem oP (ps:List PS) (L:List (Option PM)):∀ k,(kK ps L k).length=L.length
 | 0=>rfl
 | k+1=>by rw [kK,wY,oP ps L k]
theorem jx.getD {W:World} {pb b:Nat} {L:List (Option Nat)} {R:List (Option PM)} (h:∀ i:Nat,jx W pb b (L[i]?) (R[i]?)) (o:Nat):jx W pb b (some (L.getD o none)) (some (R.getD o none)):=by
 have:=h o
 rw [List.getD_eq_getElem?_getD,List.getD_eq_getElem?_getD]
 match hL:L[o]?,hR:R[o]? with
 | none,none=>trivial
 | none,some y=>rw [hL,hR] at this;cases y <;> exact this.elim
 | some x,none=>rw [hL,hR] at this;cases x <;> exact this.elim
 | some x,some y=>rw [hL,hR] at this;exact this
theorem BE {W:World} {pb b:Nat} (ps:List PS) {L:List (Option Nat)} {R:List (Option PM)} (hl:L.length=R.length) (h:∀ i:Nat,jx W pb b (L[i]?) (R[i]?)):∀ k,∀ i:Nat,jx W pb b ((dR ps L k)[i]?) ((kK ps R k)[i]?)
 | 0,i=>h i
 | k+1,i=>by
  have ih:=BE ps hl h k
  have l1:=lz ps L k
  have l2:=oP ps R k
  rw [dR,kK]
  unfold oN oO
  have hk:=ih k
  match hL:(dR ps L k)[k]?,hR:(kK ps R k)[k]?,hp:ps[k]? with
  | none,none,_=>exact ih i
  | none,some y,_=>rw [hL,hR] at hk;cases y <;> exact hk.elim
  | some x,none,_=>rw [hL,hR] at hk;cases x <;> exact hk.elim
  | some (some m),some none,_=>rw [hL,hR] at hk;exact hk.elim
  | some none,some (some z),_=>rw [hL,hR] at hk;exact hk.elim
  | some (some m),some (some z),_=>exact ih i
  | some none,some none,none=>exact ih i
  | some none,some none,some p =>
   dsimp only
   by_cases ho:(p.owner == -1)=true
   ·rw [if_pos ho,if_pos ho];exact ih i
   ·rw [if_neg ho,if_neg ho]
    have hkl:=(List.getElem?_eq_some_iff.1 hL).1
    have hkr:=(List.getElem?_eq_some_iff.1 hR).1
    by_cases hi:i=k
    ·subst hi
     rw [List.getElem?_set_self hkl,List.getElem?_set_self hkr]
     exact jx.getD ih _
    ·rw [List.getElem?_set_ne (fun e=>hi e.symm),List.getElem?_set_ne (fun e=>hi e.symm)]
     exact ih i
theorem BL {key:Value} {kl:Lit} (h:keyOf Tryz.prog 9 key=some kl):∃ s:ByteArray,key = .string s∧kl=ky s:=by
 cases key <;> simp [keyOf,Tryz.underlying9,mapKey] at h
 obtain ⟨_,rfl⟩:=h
 exact ⟨_,rfl,rfl⟩
theorem yK {a b:ByteArray} (h:a≠b):(ky a).sameKey (ky b)=false:=by
 cases hs:(ky a).sameKey (ky b)
 ·rfl
 ·exact absurd (WideAt.sameKey_eq hs) (xi h)
theorem DT (a:ByteArray):(ky a).sameKey (ky a)=true:=WideAt.sameKey_self (show WideAt.IsKeyLit (.string _) from trivial)
theorem Tab.Ft {W W':World} {pb b N mb n:Nat} {T:ByteArray→Option (List (Option PM))} {M:ByteArray→Option Nat} {L:Nat→List (Option Nat)} (ps:List PS) (h:Tab W pb b N mb n T M L) (hM:dO W' N mb n M) (hm:Mo (fun j=>∃ ev,M ev=some j) W W') (hr:∀ ev g,M ev=some g→cC W' g (dR ps (L g) N)) :
  Tab W' pb b N mb n (fun ev=>(T ev).map fun row=>kK ps row N) M (fun g=>dR ps (L g) N):=by
 have hkd:Kd (fun t=>t=316) W W':=gE hm (fun k c t f hk hc=>by
  obtain ⟨ev,he⟩:=hk
  obtain ⟨h1,_⟩:=h.row ev k he
  rw [show W.heap[k]?=_ from h1] at hc
  simp at hc
  exact hc.2.1.symm)
 have hE:∀ t,vW t→¬ t=316:=by rintro t (rfl | rfl | rfl | rfl | rfl) <;> decide
 refine ⟨hM,fun ev hn=>by rw [h.nope ev hn];rfl,fun ev g hg => ?_,h.inj⟩
 obtain ⟨h1,h2,row,h3,h4,h5⟩:=h.row ev g hg
 refine ⟨hr ev g hg,by rw [lz];exact h2,kK ps row N,by rw [h3];rfl,by rw [oP];exact h4,?_⟩
 exact BE ps (by omega) (fun i=>(h5 i).imp (fun m z _ hz=>hz.kd hkd hE)) N
def E6 (W:World) (pb b:Nat) (ps:List PS) (N:Nat) (T0:ByteArray→Option (List (Option PM))) (M:ByteArray→Option Nat) (L:Nat→List (Option Nat)):Prop:=∃ L0:Nat→List (Option Nat),∀ ev g,M ev=some g→L g=dR ps (L0 g) N∧∃ row0,T0 ev=some row0∧∀ i:Nat,jx W pb b ((L0 g)[i]?) (row0[i]?)
theorem Tab.once {W W':World} {pb b N mb n:Nat} {T:ByteArray→Option (List (Option PM))} {M:ByteArray→Option Nat} {L:Nat→List (Option Nat)} (ps:List PS) (h:Tab W pb b N mb n T M L) (hm:Mo (fun j=>∃ ev,M ev=some j) W W'):E6 W' pb b ps N T M (fun g=>dR ps (L g) N):=by
 have hkd:Kd (fun t=>t=316) W W':=gE hm (fun k c t f hk hc=>by
  obtain ⟨ev,he⟩:=hk
  obtain ⟨h1,_⟩:=h.row ev k he
  rw [show W.heap[k]?=_ from h1] at hc
  simp at hc
  exact hc.2.1.symm)
 have hE:∀ t,vW t→¬ t=316:=by rintro t (rfl | rfl | rfl | rfl | rfl) <;> decide
 refine ⟨L,fun ev g hg=>⟨rfl,?_⟩⟩
 obtain ⟨h1,h2,row,h3,h4,h5⟩:=h.row ev g hg
 exact ⟨row,h3,fun i=>(h5 i).imp (fun m z _ hz=>hz.kd hkd hE)⟩
end Pg
end
end Go.Proofs.YtegmoddppafkfaaGreatDoor
