import Derived.Test.YtegmoddppafkfaaGreatDoorM00
import Derived.Test.YtegmoddppafkfaaGreatDoorM06
import Derived.LaidEql
import Derived.Maps.AppendAt
set_option maxRecDepth 100000
set_option maxHeartbeats 8000000
namespace Go.Proofs.YtegmoddppafkfaaGreatDoor
section
open Go.RowKit Go.Proofs Go.Shelf
theorem Tryz.wZ:(Tryz.prog.info? 253).map (fun i=>(i.zero,i.size,i.bytes))=some (some (.agg #[.int .i64 0,.string ⟨#[]⟩,.string ⟨#[]⟩,.int .i64 0,.int .u32 0,.int .u32 0,.int .u32 0,.int .u32 0,.slice none 0 0,.slice none 0 0]),10,112):=by kernel_rfl
theorem nL (n:Nat) (hn:n≤4096) (w:World):(Instr.makeSlice 254 (.int .i64 n) (.int .i64 n)).run Tryz.prog w = .ok (.slice (some ⟨w.heap.size,0,none⟩) n n) (w.alloc (.cells (madeCells Pg.zPS.cells.toArray (n*10)) 253)):=by
 obtain ⟨i0,hi,hz0,hz1,hz2⟩:=info_parts Tryz.wZ
 have h:=run_makeSlice (P:=Tryz.prog) w 254 253 i0 _ Tryz.underlying254 hi hz0 .i64 .i64 n n (by omega) (Int.le_refl _) (by rw [hz1];simp;omega) (by rw [hz2];omega) (by omega)
 rw [h,hz1]
 simp only [Int.toNat_natCast]
 rfl
namespace Pg
theorem bl.made {W:World} {pb b n:Nat} (hn:n≤24) (hb:W.heap[b]?=some (.cells (madeCells zPS.cells.toArray (n*10)) 253 (0,0))) (hp:W.cell? ⟨pb,0,none⟩=some (.slice (some ⟨b,0,none⟩) n n)) (hne:pb≠b):bl W pb b n (List.replicate n zPS) where
 row:=by rw [List.length_replicate];exact hp
 at':=fun i p hi k v hv=>by
  have hil:i<n:=by have:=(List.getElem?_eq_some_iff.1 hi).1;simpa using this
  have hpz:p=zPS:=by rw [List.getElem?_replicate,if_pos hil] at hi;exact (Option.some.inj hi).symm
  subst hpz
  have hk:k<10:=by have:=(List.getElem?_eq_some_iff.1 hv).1;simpa [PS.cells] using this
  refine ⟨?_,by simp [World.frozen?,hb]⟩
  rw [cell_of_row W _ _ _ _ _ hb]
  have hlt:i*10+k<n*10:=by omega
  have hsz:zPS.cells.toArray.size=10:=rfl
  rw [madeCells,Array.getElem?_map,Array.getElem?_range,if_pos hlt]
  have e:(i*10+k) % 10=k:=by omega
  simp only [Option.map_some,hsz,e]
  have hv':zPS.cells.toArray[k]?=some v:=by simpa using hv
  rw [getElem!_pos _ k (by rw [hsz];exact hk)]
  rw [Array.getElem?_eq_getElem (by rw [hsz];exact hk)] at hv'
  exact hv'
 len:=by rw [List.length_replicate];exact hn
 ne:=hne
def oK (X:List MS):Nat→List (Nat×Nat)
 | 0=>[]
 | k+1=>match X[k]? with | some x=>(if isH x.kind then oK X k++[(k,x.owner.toNat)] else oK X k) | none=>oK X k
structure ze (W:World) (pb:Nat) (ps:List PS) (X:List MS) (k:Nat) (H:List HV):Prop where
 idx:H.map (fun h=>(h.idx,h.own))=oK X k
 ay:∀ h∈H,∃ x po,X[h.idx]?=some x∧ps[h.own]?=some po∧mw W pb (decide (x.kind=4)) po h.ay
theorem ze.kd {E:TypeId→Prop} {W W':World} {pb:Nat} {ps:List PS} {X:List MS} {k:Nat} {H:List HV} (h:ze W pb ps X k H) (hk:Kd E W W') (h1:¬ E 253) (h2:¬ E 137):ze W' pb ps X k H where
 idx:=h.idx
 ay:=fun y hy=>by
  obtain ⟨x,po,a,b,c⟩:=h.ay y hy
  exact ⟨x,po,a,b,c.kd hk h1 h2⟩
theorem oL (X:List MS):∀ k,(oK X k).length≤k
 | 0=>Nat.le_refl _
 | k+1=>by
  have:=oL X k
  rw [oK]
  split
  ·split
   ·simp;omega
   ·omega
  ·omega
def psF (X:List MS):List PS:=dV (bu X X.length) X.length
def Dg (w w':World) (pb:Nat) (X:List MS) (V:Nat→List MV):Prop:=∃ b mb hv H n M L,Below w.heap.size w w'∧di w' pb b X.length X.length (.slice (Ref.Sl.a hv) hv.n hv.c) (bQ X X.length) (.map (some mb))∧dh w' pb b X.length (psF X)∧w'.ownsRow 0 313 3 (.slice hv.a hv.n hv.c) H.length (H.flatMap HV.cells)∧ze w' pb (psF X) X X.length H∧Tab w' pb b X.length mb n (fun ev=>(dW (psF X) (dr X X.length) V X.length ev).map fun row=>kK (psF X) row X.length) M L∧E6 w' pb b (psF X) X.length (dW (psF X) (dr X X.length) V X.length) M L
end Pg
theorem Ee (w:World) (cb cg cc:Nat) (X:List Pg.MS) (V:Nat→List Pg.MV) (hC:Pg.ChM w cb cg cc X V) (hX:X.length≤24) (hnm:∀ (i:Nat) (x:Pg.MS),X[i]?=some x→x.name.size≤1000000) (hox:∀ (i:Nat) (x:Pg.MS),X[i]?=some x→x.owner = -1) (hhx:∀ (i:Nat) (x:Pg.MS),X[i]?=some x→Pg.isH x.kind=false)
  (hg:1<w.heap.size) (hT:TabAt 1 Lib.deBruijn32tab w) (hgk:∃ c t fz,w.heap[1]?=some (.cells c t fz)) (hV:∀ i,(V i).length≤30000) (hev:∀ i,∀ m∈V i,m.event.size≤1000000∧m.dest.size≤1000000∧(m.dest.toList.isEmpty=false→∃ d,Pg.dr X X.length m.dest=some d∧d<X.length)) :
  Calls Tryz.prog 75 #[.pointer (some ⟨cb,0,none⟩)] w fun e w'=>∃ pb,e = .returned (.pointer (some ⟨pb,0,none⟩))∧Pg.Dg w w' pb X V:=by
 have hcb:w.cell? ⟨cb,0,none⟩=some (.slice (some ⟨cg,0,none⟩) X.length cc):=by
  rw [cell_of_row _ _ _ _ _ _ hC.ptr];rfl
 have hcl:cb<w.heap.size:=(Array.getElem?_eq_some_iff.1 hC.ptr).1
 have hmk:=nL X.length (by omega) w
 have hmm:=@run_makeMap Tryz.prog
 obtain ⟨Z,hZ⟩:∃ Z,madeCells Pg.zPS.cells.toArray (X.length*10)=Z:=⟨_,rfl⟩
 rw [hZ] at hmk
 have HZ:Hid (madeCells Pg.zPS.cells.toArray (X.length*10)=Z):=hZ
 have HC:Hid (Pg.ChM w cb cg cc X V):=hC
 have HNM:Hid _:=hnm
 have HOX:Hid _:=hox
 have HHX:Hid _:=hhx
 have HGK:Hid _:=hgk
 have HT:Hid (TabAt 1 Lib.deBruijn32tab w):=hT
 have HV:Hid _:=hV
 have HEV:Hid _:=hev
 clear hC hnm hox hhx hgk hT hV hev hZ
 go_enter Tryz.func75,Tryz.ntmps75
 go_upto_region 2 with fail
 have hB1:Below w.heap.size w (((w.alloc (.cells Z 253)).alloc (.map #[] 0)).alloc (.cells #[.slice (some ⟨w.heap.size,0,none⟩) X.length X.length,.slice none 0 0,.int .u32 0,.map (some (w.heap.size+1))] 258)):=(((Below.refl _ w).alloc (Nat.le_refl _) _).alloc (by simp) _).alloc (by simp;omega) _
 have hPB1:Pg.di (((w.alloc (.cells Z 253)).alloc (.map #[] 0)).alloc (.cells #[.slice (some ⟨w.heap.size,0,none⟩) X.length X.length,.slice none 0 0,.int .u32 0,.map (some (w.heap.size+1))] 258)) (w.heap.size+1+1) w.heap.size X.length X.length (.slice none 0 0) 0 (.map (some (w.heap.size+1))):=by
  have:=heap_alloc_new ((w.alloc (.cells Z 253)).alloc (.map #[] 0)) (.cells #[.slice (some ⟨w.heap.size,0,none⟩) X.length X.length,.slice none 0 0,.int .u32 0,.map (some (w.heap.size+1))] 258)
  simp only [World.size_alloc] at this
  exact this
 have hbz:(((w.alloc (.cells Z 253)).alloc (.map #[] 0)).alloc (.cells #[.slice (some ⟨w.heap.size,0,none⟩) X.length X.length,.slice none 0 0,.int .u32 0,.map (some (w.heap.size+1))] 258)).heap[w.heap.size]?=some (.cells Z 253 (0,0)):=by
  rw [Below.heap_alloc _ _ _ (by simp;omega),Below.heap_alloc _ _ _ (by simp)];exact heap_alloc_new w _
 have hmp:Pg.dO (((w.alloc (.cells Z 253)).alloc (.map #[] 0)).alloc (.cells #[.slice (some ⟨w.heap.size,0,none⟩) X.length X.length,.slice none 0 0,.int .u32 0,.map (some (w.heap.size+1))] 258)) X.length (w.heap.size+1) 0 (fun _=>none):=by
  have h1:=World.ownsMap_made (w.alloc (.cells Z 253)) Tryz.prog 9 (Pg.lW X.length)
  rw [World.size_alloc] at h1
  exact ⟨_,h1.alloc _,fun _=>rfl⟩
 have hs1:(((w.alloc (.cells Z 253)).alloc (.map #[] 0)).alloc (.cells #[.slice (some ⟨w.heap.size,0,none⟩) X.length X.length,.slice none 0 0,.int .u32 0,.map (some (w.heap.size+1))] 258)).heap.size=w.heap.size+1+1+1:=by simp
 obtain ⟨W1,hW1⟩:∃ W,(((w.alloc (.cells Z 253)).alloc (.map #[] 0)).alloc (.cells #[.slice (some ⟨w.heap.size,0,none⟩) X.length X.length,.slice none 0 0,.int .u32 0,.map (some (w.heap.size+1))] 258))=W:=⟨_,rfl⟩
 rw [hW1] at hB1 hPB1 hbz hmp hs1 ⊢
 have hPW1:Pg.bl W1 (w.heap.size+1+1) w.heap.size X.length (Pg.bu X 0):=Pg.bl.made hX (by rw [HZ.out];exact hbz) (by rw [cell_of_row _ _ _ _ _ _ hPB1];rfl) (by omega)
 have hcb1:=(hB1.cell (p:=⟨cb,0,none⟩) hcl).trans hcb
 have HPB1:Hid (Pg.di W1 (w.heap.size+1+1) w.heap.size X.length X.length (.slice none 0 0) (Pg.bQ X 0) (.map (some (w.heap.size+1)))):=hPB1
 have HPW1:Hid (Pg.bl W1 (w.heap.size+1+1) w.heap.size X.length (Pg.bu X 0)):=hPW1
 have HBZ:Hid _:=hbz
 have HMP:Hid (Pg.dO W1 X.length (w.heap.size+1) 0 (fun _=>none)):=hmp
 have HB1:Hid (Below w.heap.size w W1):=hB1
 have hcb0:∀ wr,Mo (fun j=>j=w.heap.size∨j=w.heap.size+1+1) W1 wr→wr.cell? ⟨cb,0,none⟩=some (.slice (some ⟨cg,0,none⟩) X.length cc):=fun wr h=>(h.cell (p:=⟨cb,0,none⟩) (show cb<W1.heap.size by omega) (by show ¬ (cb=_∨cb=_);omega)).trans hcb1
 have HCB:Hid _:=hcb0
 have HC1:Hid (∀ wr,Mo (fun j=>j=w.heap.size∨j=w.heap.size+1+1) W1 wr→Below w.heap.size w wr∧Pg.ChM wr cb cg cc X V):=fun wr h=>by
  have hb:Below w.heap.size w wr:=h.below HB1.out (by omega) (fun i hi=>by omega)
  exact ⟨hb,HC.out.below hb⟩
 clear hW1 hmk hmm hcb hPB1 hbz hmp hPW1 hB1 hcb0 HC
 go_wp2
 go_loopg [23] X.length (fun q i wr=>∃ k:Nat,q=X.length-k∧k≤X.length∧i = .int .i64 k∧Pg.bl wr (w.heap.size+1+1) w.heap.size X.length (Pg.bu X k)∧Pg.di wr (w.heap.size+1+1) w.heap.size X.length X.length (.slice none 0 0) (Pg.bQ X k) (.map (some (w.heap.size+1)))∧Pg.cQ X.length (Pg.bu X k)∧Pg.Ord X k (Pg.bu X k)∧Mo (fun j=>j=w.heap.size∨j=w.heap.size+1+1) W1 wr)
 case atStart =>
  refine ⟨0,rfl,Nat.zero_le _,rfl,HPW1.out,HPB1.out,?_,⟨fun i p x hi=>by omega,?_⟩,Mo.refl _ _⟩
  ·intro i p hp
   have:p=Pg.zPS:=(List.eq_of_mem_replicate (List.mem_of_getElem? hp))
   subst this
   exact ⟨Pg.dz _,Pg.dz _,Pg.dz _,Pg.dz _⟩
  ·intro i p hp j hj
   have:p=Pg.zPS:=(List.eq_of_mem_replicate (List.mem_of_getElem? hp))
   subst this
   have hj:j∈Pg.els 0:=hj
   rw [Pg.fG] at hj
   cases hj
 case round =>
  obtain ⟨k,hq,hk,rfl,hPW,hPB,hGd,hOr,hmo⟩:=hrel
  clear hcb1
  by_cases hkn:k<X.length
  ·obtain ⟨x,hx⟩:∃ x,X[k]?=some x:=⟨_,List.getElem?_eq_getElem hkn⟩
   obtain ⟨hbw,hCk⟩:=HC1.out wr hmo
   have hrng:=hCk.at' k x hx
   have hnmx:=HNM.out k x hx
   have hoxx:=HOX.out k x hx
   have hlk:=Pg.dE X k
   have hs:=hmo.size
   have hB5:=(Below.refl wr.heap.size wr).alloc (Nat.le_refl _) (.cells x.arr 242)
   have hPW5:=hPW.below hB5 (by omega) (by omega)
   have hPB5:Pg.di (wr.alloc (.cells x.arr 242)) (w.heap.size+1+1) w.heap.size (Pg.bu X k).length X.length (.slice none 0 0) (Pg.bQ X k) (.map (some (w.heap.size+1))):=by rw [hlk];exact (hB5.block _ (by omega)).trans hPB
   have hadd:=sf (wr.alloc (.cells x.arr 242)) (w.heap.size+1+1) w.heap.size X.length (Pg.bu X k) k x (.slice none 0 0) (.map (some (w.heap.size+1))) (Pg.bQ X k) hPB5 hPW5 (by have h1:=Pg.kH X (Nat.le_refl _) k hk;have h2:2 ^ X.length≤2 ^ 24:=Nat.pow_le_pow_right (by decide) hX;omega) (by omega) hnmx hoxx (by simp;omega)
   have HN:Hid (Pg.bu X (k+1)=Pg.nI (Pg.bu X k) k x∧Pg.bQ X (k+1)=Pg.ou (Pg.bQ X k) k x):=⟨by rw [Pg.bu,hx],by rw [Pg.bQ,hx]⟩
   have hG2:=Pg.qD hGd hkn x (.inl hoxx)
   have hO2:=Pg.tZ hOr (by omega) hx (.inl hoxx)
   have hmo5:=hmo.trans (aq hB5)
   have HG2:Hid _:=hG2
   have HO2:Hid _:=hO2
   obtain ⟨kind,name,depth,owner,vp,ve,vl,vm⟩:=x
   unfold Pg.MS.arr at hrng hadd hmo5
   dsimp only at hrng hadd hmo5
   clear hB5 hPW5 hPB5 hPW hPB hGd hOr hmo hCk hbw hx hG2 hO2
   rw [hlk] at hadd
   go_wp2_with (first
    | (refine wpList_load_mid rfl 242 (.tmp 26) rfl cg (k*8) rfl _ _ hrng Tryz.underlying242 rfl Tryz.dT ?_)
    | (refine aG rfl 242 (.tmp 5) (.tmp 27) rfl 242 _ _ rfl rfl Tryz.dT rfl rfl ?_)
    | (go_at_call 115;refine hadd.mono ?_;intro e w6 h6;obtain ⟨rfl,hPB6,hPW6,hmo6⟩:=h6)
    | fail)
   go_roundg (X.length-(k+1))
   case measure=>omega
   case rel=>exact ⟨k+1,rfl,by omega,by go_num,by rw [HN.out.1];exact hPW6,by rw [HN.out.2];exact hPB6,by rw [HN.out.1];exact HG2.out,by rw [HN.out.1];exact HO2.out,hmo5.trans hmo6⟩
  ·obtain rfl:k=X.length:=by omega
   have HPW:Hid (Pg.bl wr (w.heap.size+1+1) w.heap.size X.length (Pg.dV (Pg.bu X X.length) 0)):=hPW
   have HPB:Hid (Pg.di wr (w.heap.size+1+1) w.heap.size X.length X.length (.slice none 0 0) (Pg.bQ X X.length) (.map (some (w.heap.size+1)))):=hPB
   have HGd:Hid (Pg.cQ X.length (Pg.dV (Pg.bu X X.length) 0)):=hGd
   have HOr:Hid (Pg.Ord X X.length (Pg.dV (Pg.bu X X.length) 0)):=hOr
   have HMO:Hid (Mo (fun j=>j=w.heap.size∨j=w.heap.size+1+1) W1 wr):=hmo
   have hcbr:=HCB.out wr hmo
   clear hPW hPB hGd hOr hmo hq hk hkn
   go_wp2
   go_loopg [6] X.length (fun q s wr=>∃ k:Nat,q=X.length-k∧k≤X.length∧s = .int .i64 ((X.length:Int)-1-(k:Int))∧Pg.bl wr (w.heap.size+1+1) w.heap.size X.length (Pg.dV (Pg.bu X X.length) k)∧Pg.di wr (w.heap.size+1+1) w.heap.size X.length X.length (.slice none 0 0) (Pg.bQ X X.length) (.map (some (w.heap.size+1)))∧Pg.cQ X.length (Pg.dV (Pg.bu X X.length) k)∧Pg.Ord X X.length (Pg.dV (Pg.bu X X.length) k)∧Mo (fun j=>j=w.heap.size∨j=w.heap.size+1+1) W1 wr)
   case atStart=>exact ⟨0,rfl,Nat.zero_le _,by go_num,HPW.out,HPB.out,HGd.out,HOr.out,HMO.out⟩
   case round =>
    obtain ⟨k,hq,hk,rfl,hPW,hPB,hGd,hOr,hmo⟩:=hrel
    clear hcbr HPW HPB HGd HOr HMO
    have hlk:(Pg.dV (Pg.bu X X.length) k).length=X.length:=by rw [Pg.ng,Pg.dE]
    have hs:=hmo.size
    by_cases hkn:k<X.length
    ·obtain ⟨i,hi⟩:∃ i:Nat,(X.length:Int)-1-(k:Int)=i:=⟨X.length-1-k,by omega⟩
     have hin:i=X.length-1-k:=by omega
     have hil:i<X.length:=by omega
     obtain ⟨p,hp⟩:∃ p,(Pg.dV (Pg.bu X X.length) k)[i]?=some p:=⟨_,List.getElem?_eq_getElem (by omega)⟩
     obtain ⟨x,hx⟩:∃ x,X[i]?=some x:=⟨_,List.getElem?_eq_getElem hil⟩
     have how:p.owner = -1:=by rw [(hOr.own i p x hil hp hx).1];exact HOX.out i x hx
     have hT1:TabAt 1 Lib.deBruijn32tab wr:=Pg.KpT.of (HC1.out wr hmo).1 hg HT.out
     have hsur:=tN wr (w.heap.size+1+1) w.heap.size X.length _ i p hp (fun j hj=>by have:=hOr.part i p hp j hj;omega) how hPW (hGd.sms hX) (by omega) (by omega) (by omega) (by omega) hT1
     have HN:Hid (Pg.dV (Pg.bu X X.length) (k+1)=Pg.bL (Pg.dV (Pg.bu X X.length) k) i):=by unfold Hid;rw [Pg.dV,Pg.dE,hin]
     have HG2:Hid (Pg.cQ X.length (Pg.bL (Pg.dV (Pg.bu X X.length) k) i)):=Pg.ku hGd hil
     have HO2:Hid (Pg.Ord X X.length (Pg.bL (Pg.dV (Pg.bu X X.length) k) i)):=Pg.mj hOr
     have HPB2:Hid _:=hPB
     have HMO2:Hid _:=hmo
     have hge:(i:Int)≥0:=by omega
     rw [hi]
     have HI:Hid ((X.length:Int)-1-(k:Int)=i):=hi
     clear hPW hPB hGd hOr hmo how hp hx hin hi
     go_wp2_with (go_at_call 116;refine hsur.mono ?_;intro e w6 h6;obtain ⟨rfl,hPW6,hmo6⟩:=h6)
     go_roundg (X.length-(k+1))
     case measure=>omega
     case rel=>exact ⟨k+1,rfl,by omega,by have:=HI.out;go_num,by rw [HN.out];exact hPW6,(hmo6.block _ (by omega) (by omega)).trans HPB2.out,by rw [HN.out];exact HG2.out,by rw [HN.out];exact HO2.out,HMO2.out.trans' hmo6 (fun i _ e => .inl e)⟩
    ·obtain rfl:k=X.length:=by omega
     obtain ⟨PF,hPF⟩:∃ P,Pg.psF X=P:=⟨_,rfl⟩
     have hPF':Pg.dV (Pg.bu X X.length) X.length=PF:=hPF
     rw [hPF'] at hPW hGd hOr hlk
     have HPF:Hid (Pg.psF X=PF):=hPF
     have hlm:(X.length:Int)-1-(X.length:Int) = -1:=by omega
     have HPW:Hid (Pg.bl wr (w.heap.size+1+1) w.heap.size X.length PF):=hPW
     have HPB:Hid (Pg.di wr (w.heap.size+1+1) w.heap.size X.length X.length (.slice none 0 0) (Pg.bQ X X.length) (.map (some (w.heap.size+1)))):=hPB
     have HGd:Hid (Pg.cQ X.length PF):=hGd
     have HOr:Hid (Pg.Ord X X.length PF):=hOr
     have HMO:Hid (Mo (fun j=>j=w.heap.size∨j=w.heap.size+1+1) W1 wr):=hmo
     have HLK:Hid (PF.length=X.length):=hlk
     have hcbr:=HCB.out wr hmo
     rw [hlm]
     clear hPW hPB hGd hOr hmo hlk hPF hPF' hq hk hkn hlm
     go_wp2
     go_loopg [51] X.length (fun q i wr=>∃ k:Nat,q=X.length-k∧k≤X.length∧i = .int .i64 k∧∃ (hv:Ref.Sl) (H:List Pg.HV),Pg.di wr (w.heap.size+1+1) w.heap.size X.length X.length (.slice hv.a hv.n hv.c) (Pg.bQ X X.length) (.map (some (w.heap.size+1)))∧Pg.bl wr (w.heap.size+1+1) w.heap.size X.length PF∧wr.ownsRow 0 313 3 (.slice hv.a hv.n hv.c) H.length (H.flatMap Pg.HV.cells)∧Pg.ze wr (w.heap.size+1+1) PF X k H∧(∀ g,hv.v.ownBlock=some g→W1.heap.size≤g)∧Mo (fun j=>j=w.heap.size∨j=w.heap.size+1+1) W1 wr)
     case atStart=>exact ⟨0,rfl,Nat.zero_le _,rfl,⟨none,0,0⟩,[],HPB.out,HPW.out,World.ownsRow_nil _ _ _ _,⟨rfl,fun h hh=>(by cases hh)⟩,fun g h=>(by cases h),HMO.out⟩
     case round =>
      obtain ⟨k,hq,hk,rfl,hv,H,hPB,hPW,hOw,hHi,hlo,hmo⟩:=hrel
      clear hcbr HPW HPB HMO
      have hs:=hmo.size
      have hHl:H.length≤k:=by have h1:=Pg.oL X k;have h2:=congrArg List.length hHi.idx;simp at h2;omega
      by_cases hkn:k<X.length
      ·obtain ⟨x,hx⟩:∃ x,X[k]?=some x:=⟨_,List.getElem?_eq_getElem hkn⟩
       obtain ⟨hbw,hCk⟩:=HC1.out wr hmo
       have hrng:=hCk.at' k x hx
       have hB5:=(Below.refl wr.heap.size wr).alloc (Nat.le_refl _) (.cells x.arr 242)
       have hPW5:=hPW.below hB5 (by omega) (by omega)
       have hPB5:Pg.di (wr.alloc (.cells x.arr 242)) (w.heap.size+1+1) w.heap.size PF.length X.length (.slice hv.a hv.n hv.c) (Pg.bQ X X.length) (.map (some (w.heap.size+1))):=by rw [HLK.out];exact (hB5.block _ (by omega)).trans hPB
       have hOw5:=(aq (P:=fun _=>False) hB5).own hOw (fun _ _ h=>h)
       have hHi5:=hHi.kd (E:=fun _=>False) (bC hB5) (fun h=>h) (fun h=>h)
       have hmo5:=hmo.trans (aq hB5)
       have hs5:=hmo5.size
       have hah:=ox (wr.alloc (.cells x.arr 242)) (w.heap.size+1+1) w.heap.size X.length PF k x hv (.map (some (w.heap.size+1))) (Pg.bQ X X.length) H (HHX.out k x hx)
       have HNXT:Hid (∀ w6,Pg.Dc (wr.alloc (.cells x.arr 242)) w6 (w.heap.size+1+1) w.heap.size X.length PF k x hv (.map (some (w.heap.size+1))) (Pg.bQ X X.length) H→∃ (hv:Ref.Sl) (H:List Pg.HV),Pg.di w6 (w.heap.size+1+1) w.heap.size X.length X.length (.slice hv.a hv.n hv.c) (Pg.bQ X X.length) (.map (some (w.heap.size+1)))∧Pg.bl w6 (w.heap.size+1+1) w.heap.size X.length PF∧w6.ownsRow 0 313 3 (.slice hv.a hv.n hv.c) H.length (H.flatMap Pg.HV.cells)∧Pg.ze w6 (w.heap.size+1+1) PF X (k+1) H∧(∀ g,hv.v.ownBlock=some g→W1.heap.size≤g)∧Mo (fun j=>j=w.heap.size∨j=w.heap.size+1+1) W1 w6):=fun w6 hA=>by
        unfold Pg.Dc at hA
        rcases hA with ⟨hf,hb6⟩ | ⟨ht,_⟩
        ·refine ⟨hv,H,(hb6.block _ (by omega)).trans (by rw [HLK.out] at hPB5;exact hPB5),hPW5.below hb6 (by omega) (by omega),(aq (P:=fun _=>False) hb6).own hOw5 (fun _ _ h=>h),?_,hlo,hmo5.trans (aq hb6)⟩
         have h1:=hHi5.kd (E:=fun _=>False) (bC hb6) (fun h=>h) (fun h=>h)
         exact ⟨by rw [h1.idx,Pg.oK,hx];dsimp only;rw [hf];rfl,h1.ay⟩
        ·exact absurd ht (by rw [HHX.out k x hx];decide)
       obtain ⟨kind,name,depth,owner,vp,ve,vl,vm⟩:=x
       unfold Pg.MS.arr at hrng hah HNXT
       dsimp only at hrng hah HNXT
       clear hB5 hPW5 hPB5 hPW hPB hOw hOw5 hHi hHi5 hmo hCk hbw hx hmo5 hs5
       go_wp2_with (first
        | (refine wpList_load_mid rfl 242 (.tmp 54) rfl cg (k*8) rfl _ _ hrng Tryz.underlying242 rfl Tryz.dT ?_)
        | (refine aG rfl 242 (.tmp 8) (.tmp 55) rfl 242 _ _ rfl rfl Tryz.dT rfl rfl ?_)
        | (go_at_call 117;refine hah.mono ?_;intro e w6 h6;obtain ⟨rfl,hA6⟩:=h6)
        | fail)
       go_roundg (X.length-(k+1))
       case measure=>omega
       case rel=>exact ⟨k+1,rfl,by omega,by go_num,HNXT.out w6 hA6⟩
      ·obtain rfl:k=X.length:=by omega
       obtain ⟨hbw,hCk⟩:=HC1.out wr hmo
       have hlk:=HLK.out
       have hPA:=hPW.dc (HGd.out.sms hX)
       have hmp:Pg.dO wr X.length (w.heap.size+1) 0 (fun _=>none):=HMP.out.mo hmo (by omega)
       have hT1:TabAt 1 Lib.deBruijn32tab wr:=Pg.KpT.of hbw hg HT.out
       have hgk1:∃ c t fz,wr.heap[1]?=some (.cells c t fz):=by
        obtain ⟨c,t,fz,h⟩:=HGK.out
        exact ⟨c,t,fz,(hbw.block _ hg).trans h⟩
       have how:∀ (i:Nat) (p:Pg.PS),PF[i]?=some p→p.owner = -1∨∃ o:Nat,p.owner=o∧o<i:=fun i p hp=>by
        have hil:=(List.getElem?_eq_some_iff.1 hp).1
        obtain ⟨x,hx⟩:∃ x,X[i]?=some x:=⟨_,List.getElem?_eq_getElem (by omega)⟩
        rw [(HOr.out.own i p x (by omega) hp hx).1]
        exact .inl (HOX.out i x hx)
       have hadm:=sd wr (w.heap.size+1+1) w.heap.size X.length PF (.slice hv.a hv.n hv.c) (Pg.bQ X X.length) (w.heap.size+1) cb cg cc X V (by rw [hlk];exact hPB) hPA (fun i p hp=>by
        have hil:=(List.getElem?_eq_some_iff.1 hp).1
        obtain ⟨x,hx⟩:∃ x,X[i]?=some x:=⟨_,List.getElem?_eq_getElem (by omega)⟩
        rw [(HOr.out.own i p x (by omega) hp hx).2]
        exact HHX.out i x hx) (by omega) hCk hlk.symm HNM.out (by rw [hlk];exact hmp) (by omega) (fun i p hp=>by rw [hlk];exact HGd.out i p hp) (by omega) hT1 hgk1 how HV.out (fun i m hm=>by rw [hlk];exact HEV.out i m hm)
       have HNXT:Hid (∀ w6,Pg.EW wr w6 (w.heap.size+1+1) w.heap.size (w.heap.size+1) PF X V→Pg.Dg w w6 (w.heap.size+1+1) X V):=fun w6 hA=>by
        obtain ⟨⟨n,M,L,hTab,hOnc⟩,hm6⟩:=hA
        rw [hlk] at hTab hOnc
        have hkd6:Kd (fun _=>False) wr w6:=gE hm6 (fun j c t f hj hc=>by
         obtain ⟨es,clock,hz⟩:=hmp.kind
         rw [hj,hz] at hc;cases hc)
        have hs6:=hm6.size
        unfold Pg.Dg
        rw [HPF.out]
        exact ⟨w.heap.size,w.heap.size+1,hv,H,n,M,L,hm6.below hbw (by omega) (fun i hi=>by omega),(hkd6.ay _ _ _ _ hPB (fun h=>h)).trans hPB,hPA.mo hm6 (by omega) (by omega) (by omega) (by omega),hm6.own hOw (fun g hg e=>by have:=hlo g hg;omega),hHi.kd hkd6 (fun h=>h) (fun h=>h),hTab,hOnc⟩
       clear hPB hPW hOw hHi hlo hmo hPA hmp hT1 hgk1 how hbw hCk hlk
       go_wp2_with (go_at_call 118;refine hadm.mono ?_;intro e w6 h6;obtain ⟨rfl,hA6⟩:=h6)
       go_ret
       exact ⟨_,rfl,HNXT.out w6 hA6⟩
theorem Tryz.zP:(Tryz.prog.info? 319).map (fun i=>(i.zero,i.size,i.bytes))=some (some (.agg #[.int .i64 0,.int .u32 0,.slice none 0 0,.nilFunc]),4,48):=by kernel_rfl
theorem tE (w:World) (a b:Nat) (ha:∃ c,w.heap[a]?=some (.cells c 319 (0,0))) (hb:∃ c,w.heap[b]?=some (.cells c 319 (0,0))) :
  (binOp .eql 316 (.pointer (some ⟨a,0,none⟩)) (.pointer (some ⟨b,0,none⟩))).run Tryz.prog w = .ok (.bool (decide (a=b))) w:=by
 obtain ⟨i0,hi,hz0,hz1,hz2⟩:=info_parts Tryz.zP
 obtain ⟨ca,ha⟩:=ha
 obtain ⟨cb,hb⟩:=hb
 have h:∀ d:Nat,(Op.equalIn (d+1) 316 (.pointer (some ⟨a,0,none⟩)) (.pointer (some ⟨b,0,none⟩))).run Tryz.prog w = .ok (decide (a=b)) w:=fun d=>by
  by_cases e:a=b
  ·subst e
   simp [Op.equalIn,run_underlying Tryz.underlying316,sizeOf,typeInfo,hi,run_sameAddr_same]
  ·simp [Op.equalIn,run_underlying Tryz.underlying316,sizeOf,typeInfo,hi,hz1,e,run_sameAddr_other w (a:=⟨a,0,none⟩) (b:=⟨b,0,none⟩) (by intro x;injection x with x1;exact e x1) ha hb]
 simp only [binOp]
 simp [Op.equal,Op.maxDepth,h 9999]
namespace Pg
def DP (L:List Nat) (q:Nat) (r:Int):Prop:=decide (r≥0)=L.contains q
def jU (q:Nat):List Value:=[.pointer (some ⟨q,0,none⟩)]
abbrev Mvs (W:World) (v:Ref.Sl) (L:List Nat):Prop:=Row W 316 1 jU (.slice v.a v.n v.c) L
theorem Mvs.n {W:World} {v:Ref.Sl} {L:List Nat} (h:Mvs W v L):v.n=L.length:=by
 rcases h.2 with ⟨h0,h1⟩ | ⟨g,cap,cur,hv,_⟩
 ·simp at h0;omega
 ·simp at hv;exact hv.2.1
theorem Mvs.cell {W:World} {v:Ref.Sl} {L:List Nat} (h:Mvs W v L) {i q:Nat} (hi:L[i]?=some q):∃ g,v.a=some ⟨g,0,none⟩∧L.length≤v.c∧W.cell? ⟨g,i,none⟩=some (.pointer (some ⟨q,0,none⟩)):=by
 obtain ⟨a,n,c⟩:=v
 have hil:=(List.getElem?_eq_some_iff.1 hi).1
 have hn:n=L.length:=h.n
 subst hn
 obtain ⟨g,cap,hv⟩:=Ref.gI h (by omega)
 simp at hv
 obtain ⟨rfl,rfl⟩:=hv
 refine ⟨g,rfl,?_,?_⟩
 ·rcases h.2 with ⟨h0,_⟩ | ⟨g',cap',cur,hv,_,_,hle,_⟩
  ·cases h0
  ·simp at hv;show L.length≤c;rw [hv.2];omega
 ·have:=Row.cell (f:=jU) (n:=1) (j:=0) (fun _=>rfl) h (by decide) hil
  rw [List.getElem?_eq_getElem hil] at hi
  rw [Option.some.inj hi] at this
  simpa [jU] using this
end Pg
theorem zL (w:World) (v:Ref.Sl) (L:List Nat) (q:Nat) (h:Pg.Mvs w v L) (hl:L.length≤1000) (hbk:∀ y,y=q∨y∈L→∃ c,w.heap[y]?=some (.cells c 319 (0,0))) :
  Calls Tryz.prog 282 #[.slice v.a v.n v.c,.pointer (some ⟨q,0,none⟩)] w fun e w'=>(∃ r:Int,e = .returned (.int .i64 r)∧Pg.DP L q r)∧w'=w:=by
 have HM:Hid (Pg.Mvs w v L):=h
 have HBK:Hid (∀ y,y=q∨y∈L→∃ c,w.heap[y]?=some (.cells c 319 (0,0))):=hbk
 clear hbk
 have hn:=h.n
 obtain ⟨a,n,c⟩:=v
 dsimp only at hn
 subst hn
 clear h
 dsimp only
 go_enter Tryz.func282,Tryz.ntmps282
 go_wp2
 go_loopg [8] L.length (fun x i wr=>∃ k:Nat,x=L.length-k∧k≤L.length∧i = .int .i64 k∧(∀ j y,j<k→L[j]?=some y→y≠q)∧wr=w)
 case atStart=>exact ⟨0,rfl,Nat.zero_le _,rfl,fun j y hj=>by omega,rfl⟩
 case round =>
  obtain ⟨k,hx,hk,rfl,hall,rfl⟩:=hrel
  have HA:Hid (∀ j y,j<k→L[j]?=some y→y≠q):=hall
  clear hall
  by_cases hkn:k<L.length
  ·obtain ⟨y,hy⟩:∃ y,L[k]?=some y:=⟨_,List.getElem?_eq_getElem hkn⟩
   obtain ⟨g,ha,hcap,hc⟩:=HM.out.cell hy
   dsimp only at ha hcap
   subst ha
   have HY:Hid (L[k]?=some y):=hy
   have heq:=tE wr q y (HBK.out q (.inl rfl)) (HBK.out y (.inr (List.mem_of_getElem? hy)))
   clear hy
   by_cases hq:y=q
   ·subst hq
    have HIN:Hid (L.contains y=true):=by
     unfold Hid
     rw [List.contains_iff_mem]
     exact List.mem_of_getElem? HY.out
    go_wp2
    go_ret
    exact ⟨⟨k,rfl,by unfold Pg.DP;rw [HIN.out];simp⟩,rfl⟩
   ·have hq':¬ q=y:=fun e=>hq e.symm
    go_wp2
    go_roundg (L.length-(k+1))
    case measure=>omega
    case rel =>
     refine ⟨k+1,rfl,by omega,by go_num,fun j z hj hz => ?_,rfl⟩
     by_cases e:j=k
     ·rw [e,HY.out] at hz;cases hz;exact hq
     ·exact HA.out j z (by omega) hz
  ·obtain rfl:k=L.length:=by omega
   have HIN:Hid (L.contains q=false):=by
    unfold Hid
    cases hcq:L.contains q
    ·rfl
    ·obtain ⟨j,hj⟩:=List.getElem?_of_mem (List.contains_iff_mem.1 hcq)
     exact absurd rfl (HA.out j q ((List.getElem?_eq_some_iff.1 hj).1) hj)
   go_wp2
   go_ret
   exact ⟨⟨-1,rfl,by unfold Pg.DP;rw [HIN.out];rfl⟩,rfl⟩
theorem sB (w:World) (v:Ref.Sl) (L:List Nat) (q:Nat) (h:Pg.Mvs w v L) (hl:L.length≤1000) (hbk:∀ y,y=q∨y∈L→∃ c,w.heap[y]?=some (.cells c 319 (0,0))) :
  Calls Tryz.prog 258 #[.slice v.a v.n v.c,.pointer (some ⟨q,0,none⟩)] w fun e w'=>e = .returned (.bool (L.contains q))∧w'=w:=by
 have hix:=zL w v L q h hl hbk
 unfold Pg.DP at hix
 obtain ⟨bq,hbq⟩:∃ b,L.contains q=b:=⟨_,rfl⟩
 rw [hbq] at hix ⊢
 clear h hbq hbk
 go_enter Tryz.func258,Tryz.ntmps258
 go_wp2_with (go_at_call 282;refine hix.mono ?_;rintro e w9 ⟨⟨r,rfl,hr⟩,hw9⟩;rw [hw9];clear hw9 w9)
 go_ret
 exact ⟨rfl,rfl⟩
attribute [local go_sem] Oper.semAt_some
namespace Pg
def eF (L:List (Option Nat)) (acc:List Nat) (i:Nat):List Nat:=match L[i]? with
 | some (some q)=>if acc.contains q then acc else acc++[q]
 | _=>acc
def dw (L:List (Option Nat)) (l:List Nat):List Nat:=l.foldl (eF L) []
theorem yh (L:List (Option Nat)) (l:List Nat) (i:Nat):dw L (l++[i])=eF L (dw L l) i:=by
 unfold dw;rw [List.foldl_append];rfl
theorem rT (L:List (Option Nat)) (acc:List Nat) (i:Nat):(eF L acc i).length≤acc.length+1:=by
 unfold eF
 split
 ·split <;> simp
 ·omega
theorem rQ (L:List (Option Nat)):∀ (l:List Nat) (acc:List Nat),(l.foldl (eF L) acc).length≤acc.length+l.length
 | [],acc=>by simp
 | i::l,acc=>by
  have h1:=rQ L l (eF L acc i)
  have h2:=rT L acc i
  simp only [List.foldl_cons,List.length_cons]
  omega
theorem AP {L:List (Option Nat)} {acc:List Nat} {i y:Nat} (h:y∈eF L acc i):y∈acc∨L[i]?=some (some y):=by
 unfold eF at h
 split at h
 ·rename_i q hq
  split at h
  ·exact .inl h
  ·rcases List.mem_append.1 h with h | h
   ·exact .inl h
   ·rw [List.mem_singleton.1 h];exact .inr hq
 ·exact .inl h
theorem rR {L:List (Option Nat)} {y:Nat}:∀ (l:List Nat) (acc:List Nat),y∈l.foldl (eF L) acc→y∈acc∨∃ i:Nat,L[i]?=some (some y)
 | [],_,h => .inl h
 | i::l,acc,h=>by
  rcases rR l _ h with h | h
  ·rcases AP h with h | h
   ·exact .inl h
   ·exact .inr ⟨i,h⟩
  ·exact .inr h
theorem rS {L:List (Option Nat)} {l:List Nat} {y:Nat} (h:y∈dw L l):∃ i:Nat,L[i]?=some (some y):=by
 rcases rR l [] h with h | h
 ·cases h
 ·exact h
theorem C7 {s:Nat} (l:List (In s)):(aQ l).length=l.length:=by rw [cB];simp
end Pg
theorem wg (w:World) (pb b cap N:Nat) (hv:Value) (fin mb n:Nat) (M:ByteArray→Option Nat) (ev:ByteArray) (s:Nat) (hB:Pg.di w pb b N cap hv fin (.map (some mb))) (hM:Pg.dO w N mb n M) (hev:ev.size≤1000000) (hMe:M ev=none) :
  Calls Tryz.prog 234 #[.pointer (some ⟨pb,0,none⟩),.string ev,.int .u32 s] w fun e w'=>e = .returned (.slice none 0 0)∧Below w.heap.size w w':=by
 have h3:w.cell? ⟨pb,3,none⟩=some (.map (some mb)):=by rw [cell_of_row w _ _ _ _ _ hB];rfl
 have hlook:=hM.look hev
 rw [hMe] at hlook
 dsimp only at hlook
 clear hM hMe hB
 have hB0:=(Below.refl w.heap.size w).alloc (Nat.le_refl _) (.cells #[.slice none 0 0] 314)
 go_enter Tryz.func234,Tryz.ntmps234
 go_wp2
 go_ret
 exact ⟨rfl,hB0⟩
theorem yi (w:World) (pb b cap N:Nat) (hv:Value) (fin mb n:Nat) (M:ByteArray→Option Nat) (ev:ByteArray) (s g:Nat) (L:List (Option Nat)) (hB:Pg.di w pb b N cap hv fin (.map (some mb))) (hM:Pg.dO w N mb n M) (hev:ev.size≤1000000) (hMe:M ev=some g) (hR:Pg.cC w g L) (hL:L.length=N) (hs:s<4294967296) (hin:∀ i,i∈Pg.els s→i<N)
  (hbk:∀ (i q:Nat),L[i]?=some (some q)→∃ c,w.heap[q]?=some (.cells c 319 (0,0))) (hg:1<w.heap.size) (hT:TabAt 1 Lib.deBruijn32tab w) :
  Calls Tryz.prog 234 #[.pointer (some ⟨pb,0,none⟩),.string ev,.int .u32 s] w fun e w'=>∃ v:Ref.Sl,e = .returned (.slice v.a v.n v.c)∧w'.ownsRow w.heap.size 316 1 (.slice v.a v.n v.c) (Pg.dw L (Pg.els s)).length ((Pg.dw L (Pg.els s)).flatMap Pg.jU)∧Below w.heap.size w w':=by
 obtain ⟨i0,hi,hz0,hz1,hz2⟩:=info_parts Tryz.j3
 have h3:w.cell? ⟨pb,3,none⟩=some (.map (some mb)):=by rw [cell_of_row w _ _ _ _ _ hB];rfl
 have hlook:=hM.look hev
 rw [hMe] at hlook
 dsimp only at hlook
 have HBK:Hid _:=hbk
 clear hM hMe hB hbk
 refine (callsIn_wide (n:=6)).1 ?_
 refine callsIn_of_wp_marks Tryz.func234 rfl trivial ?_ rfl
 simp only [Tryz.ntmps234,List.size_toArray,List.length_cons,List.length_nil,Nat.reduceAdd,Nat.reduceSub,Array.replicate_succ,Array.replicate_zero,List.push_toArray,List.append_toArray,List.nil_append,List.cons_append]
 gi_wp2_with (refine ⟨trivial,?_⟩;gi_at_call 150;refine (callsIn_wide.2 (dQ s _)).mono ?_;rintro e w9 ⟨rfl,hw9⟩;rw [hw9];clear hw9 w9)
 have c7:=((Boxed.new w 314 (.slice (some ⟨g,0,none⟩) N N)).alloc (.cells #[.slice none 0 0] 314)).alloc (.cells #[.int .u32 s] 139)
 have c9:=(Boxed.new (w.alloc (.cells #[.slice (some ⟨g,0,none⟩) N N] 314)) 314 (.slice none 0 0)).alloc (.cells #[.int .u32 s] 139)
 have cF:=Boxed.new ((w.alloc (.cells #[.slice (some ⟨g,0,none⟩) N N] 314)).alloc (.cells #[.slice none 0 0] 314)) 139 (.int .u32 s)
 simp only [World.size_alloc] at c9 cF
 have hB0:Below w.heap.size w (((w.alloc (.cells #[.slice (some ⟨g,0,none⟩) N N] 314)).alloc (.cells #[.slice none 0 0] 314)).alloc (.cells #[.int .u32 s] 139)):=(((Below.refl _ w).alloc (Nat.le_refl _) _).alloc (by simp) _).alloc (by simp;omega) _
 have hsz:(((w.alloc (.cells #[.slice (some ⟨g,0,none⟩) N N] 314)).alloc (.cells #[.slice none 0 0] 314)).alloc (.cells #[.int .u32 s] 139)).heap.size=w.heap.size+3:=by simp
 obtain ⟨W0,hW0⟩:∃ W0,((w.alloc (.cells #[.slice (some ⟨g,0,none⟩) N N] 314)).alloc (.cells #[.slice none 0 0] 314)).alloc (.cells #[.int .u32 s] 139)=W0:=⟨_,rfl⟩
 rw [hW0] at c7 c9 cF hB0 hsz ⊢
 clear hW0
 refine ly (by omega) (w.heap.size+1+1) s hs rfl (by omega) (by omega) cF.cell (Pg.KpT.of hB0 hg hT) rfl
  (fun pre W=>(Boxed W w.heap.size 314 (.slice (some ⟨g,0,none⟩) N N)∧∃ v,Boxed W (w.heap.size+1) 314 v∧W.ownsRow w.heap.size 316 1 v (Pg.dw L (Pg.aQ pre)).length ((Pg.dw L (Pg.aQ pre)).flatMap Pg.jU)∧∃ sl:Ref.Sl,v = .slice sl.a sl.n sl.c)∧Below w.heap.size w W)
  (fun _ _ _=>False)
  (OwnFrom.and (OwnFrom.and (Own.from (boxed_own _ _ _) _) (Own.from (holdsRow_own w.heap.size (w.heap.size+1) 314 316 1 (fun pre=>(Pg.dw L (Pg.aQ pre)).length) (fun pre=>(Pg.dw L (Pg.aQ pre)).flatMap Pg.jU) (fun _ v=>∃ sl:Ref.Sl,v = .slice sl.a sl.n sl.c)) _)) (ownFrom_below (Nat.le_refl _) (by omega)))
  (fun _ _ _ _ _ hs _ _=>hs)
  ⟨⟨c7,_,c9,World.ownsRow_nil _ _ _ _,⟨none,0,0⟩,rfl⟩,hB0⟩
  (fun x a' _=>a'={ tmps:=#[.pointer (some ⟨pb,0,none⟩),.string ev,.int .u32 s,undef,undef,undef,.slice none 0 0,.pointer (some ⟨w.heap.size,0,none⟩),.bool true,.pointer (some ⟨w.heap.size+1,0,none⟩),.int .i64 x.1,undef,.tuple #[.slice (some ⟨g,0,none⟩) N N,.bool true],.pointer (some ⟨pb,0,none⟩),.pointer (some ⟨pb,0,none⟩),.pointer (some ⟨pb,3,none⟩),.map (some mb),.string ev,.tuple #[.slice (some ⟨g,0,none⟩) N N,.bool true],.slice (some ⟨g,0,none⟩) N N,.bool true,.bool true,.bool false,.int .u32 s,.func (.func 187) #[] #[.pointer (some ⟨w.heap.size+1+1,0,none⟩)],.int .i64 x.1,undef,undef,undef,undef,undef,undef,undef,undef,undef,undef,undef,undef,undef,undef,undef,undef,undef],defers:=[] })
  (fun _ _ _ _ _ _ hs _ _=>hs)
  ?assign ?body ?done ?stop
 case assign =>
  intro l pre x W K hI hK
  gi_wp2
  exact hK _ _ (KeepsFrom.refl _ _) (fun h=>h) hI rfl
 case body =>
  rintro l pre x a' W _ _ ⟨⟨h7,v,h9,hrow,sl,rfl⟩,hBW⟩ rfl hlt
  have hxl:=hin x.1 x.2
  have hsn:=Pg.yh L (Pg.aQ pre) x.1
  rw [← Pg.ed] at hsn
  have hal:(Pg.dw L (Pg.aQ pre)).length≤32:=by
   have:=Pg.rQ L (Pg.aQ pre) []
   rw [Pg.C7] at this
   unfold Pg.dw
   simp at this
   omega
  obtain ⟨m,hm⟩:∃ m,L[x.1]?=some m:=⟨_,List.getElem?_eq_getElem (by omega)⟩
  have hRW:Pg.cC W g L:=(hBW.block g hR.lt).trans hR
  have cm:=hRW.cell hm
  have d7:=h7.cell
  have d9:=h9.cell
  have f9:=h9.frozen
  have hsW:=hBW.size
  cases m with
  | none =>
   dsimp only [Option.map] at cm
   have hst:Pg.dw L (Pg.aQ (pre++[x]))=Pg.dw L (Pg.aQ pre):=by rw [hsn];unfold Pg.eF;rw [hm]
   have HST:Hid _:=hst
   have HRW:Hid _:=hrow
   clear hsn hst hrow hm
   gi_wp2
   refine ⟨trivial,?_⟩
   gi_wp2
   exact ⟨KeepsFrom.refl _ _,(fun h=>h),⟨h7,_,h9,by rw [HST.out];exact HRW.out,sl,rfl⟩,hBW⟩
  | some q =>
   dsimp only [Option.map] at cm
   obtain ⟨acc,hacc⟩:∃ a,Pg.dw L (Pg.aQ pre)=a:=⟨_,rfl⟩
   have hcon:=sB W sl (Pg.dw L (Pg.aQ pre)) q (aI hrow (Nat.zero_le _)) (by omega) (fun y hy=>by
    obtain ⟨i,hi⟩:∃ i:Nat,L[i]?=some (some y):=by
     rcases hy with rfl | hy
     ·exact ⟨_,hm⟩
     ·exact Pg.rS hy
    obtain ⟨c,hc⟩:=HBK.out i y hi
    exact ⟨c,(hBW.block y (Array.getElem?_eq_some_iff.1 hc).1).trans hc⟩)
   have hst:Pg.dw L (Pg.aQ (pre++[x]))=if acc.contains q then acc else acc++[q]:=by rw [hsn,hacc];unfold Pg.eF;rw [hm]
   rw [hacc] at hcon hrow hal
   obtain ⟨bq,hbq⟩:∃ b,acc.contains q=b:=⟨_,rfl⟩
   rw [hbq] at hcon hst
   have HST:Hid _:=hst
   clear hsn hst hm hacc hbq
   cases bq
   ·have HS1:Hid (Pg.dw L (Pg.aQ (pre++[x]))=acc++[q]):=by have:=HST.out;rw [if_neg (by decide)] at this;exact this
    clear HST
    gi_wp2_with (first
     | (refine ⟨trivial,?_⟩;gi_at_call 258;refine (aC hcon).mono ?_;rintro e w9 ⟨rfl,hw9⟩;rw [hw9];clear hw9 w9)
     | (gi_at_builtin;refine wpListIn_append_own _ rfl _ _ 314 rfl w.heap.size 316 i0 (.pointer none) 1 8 Tryz.underlying314 hi hz0 hz1 hz2 rfl (by decide) _ _ _ rfl (hrow.alloc _) ⟨W.heap.size,0,none⟩ 1 1 [.pointer (some ⟨q,0,none⟩)] rfl rfl (cell_one_new _ _ _) (by simp [Value.oneCell']) (by unfold maxLen;omega) (by omega) (by simp;omega) ?_;intro v' w1 hown' hgrow _;obtain ⟨g',cap',rfl⟩:=ownsRow_succ hown';obtain ⟨hv1,hv2,hr2,hk2,hb2⟩:=h9.appended (by decide) hrow hsW (by omega) hown' hgrow;have hc1:=hv1.cell;have hf1:=hv1.frozen))
    have hk7:=bm ((h7.alloc _).kept hgrow (h7.not_row (by decide) hrow)) (p:=⟨w.heap.size+1,0,none⟩) (by simp) (.slice (some ⟨g',0,none⟩) (acc.length+1) cap')
    exact ⟨hk2.from _,Pg.KpT.of hb2 hg,⟨hk7,_,hv2,by rw [HS1.out];simpa [Pg.jU] using hr2,⟨some ⟨g',0,none⟩,acc.length+1,cap'⟩,rfl⟩,hBW.trans hb2⟩
   ·have HS1:Hid (Pg.dw L (Pg.aQ (pre++[x]))=acc):=by have:=HST.out;rw [if_pos rfl] at this;exact this
    clear HST
    gi_wp2_with (refine ⟨trivial,?_⟩;gi_at_call 258;refine (aC hcon).mono ?_;rintro e w9 ⟨rfl,hw9⟩;rw [hw9];clear hw9 w9)
    exact ⟨KeepsFrom.refl _ _,(fun h=>h),⟨h7,_,h9,by rw [HS1.out];exact hrow,sl,rfl⟩,hBW⟩
 case done =>
  rintro D ys W hD hys ⟨⟨h7,v,h9,hrow,sl,rfl⟩,hBW⟩ hK
  have hc:=h9.cell
  rw [hys] at hrow
  gi_wp2
  refine ⟨by simp,.inl ⟨_,_,rfl,run_takeDeferred hK,?_⟩⟩
  exact ⟨_,results_tmp rfl _ _ _,sl,rfl,ownsRow_putObj hrow _ hK rfl,hBW.trans (belowK_b (w:=w) (Nat.le_refl _) W D _ _ (by omega) hK rfl rfl)⟩
 case stop =>
  rintro D c pre W _ _ h _
  exact h.elim
end
end Go.Proofs.YtegmoddppafkfaaGreatDoor
