import Derived.Test.YtkgklodamkkpgaaGreatDoorM03
set_option maxRecDepth 100000
set_option maxHeartbeats 8000000
namespace Go.Proofs.YtkgklodamkkpgaaGreatDoor
variable {zp:Prop}
theorem zdu (h:zp:=by
 have hc:=h9.cell;rw [hys] at hrow;gi_wp2;refine ⟨zad,.inl ⟨_,_,rfl,NP hK,?_⟩⟩;exact ⟨_,Ra rfl _ _ _,sl,rfl,ownsRow_putObj hrow _ hK rfl,hBW.trans (Po (w:=w) (MR _) W D _ _ zaa hK rfl rfl)⟩):zp:=h
theorem zeP (h:zp:=by
 obtain ⟨i,hi⟩:=Nu.1 hy;exact hM.typ (h.nds q hq i y hi)):zp:=h
theorem zeQ (h:zp:=by
 obtain ⟨i,hi⟩:=Nu.1 hy;exact ⟨_,h.nds q hq i y hi⟩):zp:=h
theorem ze9 (h:zp:=by
 subst hk;exact ⟨hM.lo',arr,_,_,a1,.inl rfl⟩):zp:=h
theorem zfi (h:zp:=by
 exact h.dis q q' hq hq' hne y hy z hz):zp:=h
open Tryz
variable {W b W' a V V':World} {pb k i y lo mb r:Nat} {E:TypeId->Prop} {ps:List Pg.PS} {v qv:Value} {L:List ByteArray} {ops:Array Oper} {Q:Exit->Act->World->Prop} {F:Fence} {wh:Nat->Value} {R:Nat->List Pg.Nd} {f:FuncId} {args:Array Value} {B:Nat->TypeId->Prop}
section
open Go.RowKit Go.Proofs Go.Shelf
theorem Br:(Tryz.prog.info? 161).map (fun i=>(i.zero,i.size,i.bytes))=some (some (.agg #[(0:Int),.string ⟨#[]⟩,.string ⟨#[]⟩,(0:Int),.int .u32 0,.int .u32 0,.int .u32 0,.int .u32 0,.slice none 0 0,.slice none 0 0]),10,112):=zab
theorem qy (n:Nat) (hn:n<=4096) (w:World):(Instr.makeSlice 162 (.int .i64 n) (.int .i64 n)).run prog w = .ok (.slice w n n) (w.alloc (.cells (madeCells Pg.zPS.cells.toArray (n*10)) 161)):=by
 obtain ⟨i0,hi,hz0,hz1,hz2⟩:=OB Br;have h:=run_makeSlice (P:=prog) w 162 161 i0 _ underlying162 hi hz0 .i64 .i64 n n zaa (Int.le_refl _) (by rw [hz1];simp;omega) (by rw [hz2];omega) zaa;rw [h,hz1];simp only [Int.toNat_natCast];rfl
namespace Pg
theorem bu.made {b n:Nat} (hn:n<=24) (hb:W.heap[b]?=some (.cells (madeCells zPS.cells.toArray (n*10)) 161 (0,0))) (hp:W.cell? pb=some (.slice b n n)) (hne:pb≠b):bu W pb b n (List.replicate n zPS) where
 row:=by rw [List.length_replicate];exact hp
 at':=fun i p hi k v hv=>by
  have hil:i<n:=by have:=(MZ.1 hi).1;simpa using this
  have hpz:p=zPS:=by rw [List.getElem?_replicate,M6 hil] at hi;exact (NO hi).symm
  subst hpz;have hk:k<10:=zco;refine ⟨?_,by simp [World.frozen?,hb]⟩;rw [M0 W _ _ _ _ _ hb];have hlt:i*10+k<n*10:=zaa;have hsz:zPS.cells.toArray.size=10:=rfl;rw [madeCells,Array.getElem?_map,Array.getElem?_range,M6 hlt];have e:(i*10+k) % 10=k:=zaa;simp only [Option.map_some,hsz,e];have hv':zPS.cells.toArray[k]?=some v:=by simpa using hv
  rw [QF _ k (by rw [hsz];exact hk)];rw [P3 (by rw [hsz];exact hk)] at hv';exact hv'
 len:=by rw [List.length_replicate];exact hn
 ne:=hne
def jL (X:List MS):Nat->List (Nat×Nat)
 | 0=>[]
 | k+1=>match X[k]? with | some x=>(if isH x.kind then jL X k++[(k,x.owner.toNat)] else jL X k) | none=>jL X k
structure DC (W:World) (pb:Nat) (ps:List PS) (X:List MS) (k:Nat) (H:List HV):Prop where
 idx:H.map (fun h=>(h.idx,h.own))=jL X k
 ao:∀ h∈H,∃ x po,X[h.idx]?=some x/\ps[h.own]?=some po/\jY W pb (decide (x.kind=4)) po h.ao
theorem DC.kd {X:List MS} {H:List HV} (h:DC W pb ps X k H) (hk:Kd E W W') (h1:¬ E 161) (h2:¬ E 73):DC W' pb ps X k H where
 idx:=h.idx
 ao:=fun y hy=>by
  obtain ⟨x,po,a,b,c⟩:=h.ao y hy;exact ⟨x,po,a,b,c.kd hk h1 h2⟩
theorem rO (X:List MS):∀ k,(jL X k).length<=k
 | 0=>MR _
 | k+1=>by
  have:=rO X k;rw [jL];split
  ·split
   ·simp;omega
   ·omega
  ·omega
theorem bu.reb {b cap:Nat} (h:bu W pb b cap ps) (hr:W'.cell? pb=some (.slice b ps.length cap)) (hb:W'.heap[b]?=W.heap[b]?):bu W' pb b cap ps where
 row:=hr
 at':=fun i p hi k v hv=>by
  have:=h.at' i p hi k v hv;exact ⟨(Nk (a:=⟨b,_,none⟩) hb).trans this.1,(PW (a:=⟨b,_,none⟩) hb).trans this.2⟩
 len:=h.len
 ne:=h.ne
def psF (X:List MS):List PS:=dL (bE X X.length) X.length
def Fu (w w':World) (pb:Nat) (X:List MS) (V:Nat->List MV):Prop:=∃ b mb hv H n M L,Below w w w'/\di w' pb b X.length X.length (.slice (Ref.Sl.a hv) hv.n hv.c) (bo X X.length) (.map (some mb))/\bZ w' pb b X.length (psF X)/\w'.ownsRow 0 237 3 (.slice hv.a hv.n hv.c) H.length (H.flatMap HV.cells)/\DC w' pb (psF X) X X.length H/\Tab w' pb b X.length mb n (fun ev=>(dQ (psF X) (bT X X.length) V X.length ev).map fun row=>ng (psF X) row X.length) M L/\KT w' pb b (psF X) X.length (dQ (psF X) (bT X X.length) V X.length) M L
end Pg
theorem J4 (w:World) (cb cg cc:Nat) (X:List Pg.MS) (V:Nat->List Pg.MV) (hC:Pg.ChM w cb cg cc X V) (hX:X.length<=24) (hnm:∀ (i:Nat) (x:Pg.MS),X[i]?=some x->x.name.size<=1000000) (hox:∀ (i:Nat) (x:Pg.MS),X[i]?=some x->x.owner = -1\/∃ o:Nat,x.owner=o/\o<i) (hhx:∀ (i:Nat) (x:Pg.MS),X[i]?=some x->Pg.isH x.kind=true->x.owner ≠ -1)
  (hg:1<w.heap.size) (hT:TabAt 1 Lib.deBruijn32tab w) (hgk:∃ c t fz,w.heap[1]?=some (.cells c t fz)) (hV:∀ i,(V i).length<=30000) (hev:∀ i,∀ m∈V i,m.event.size<=1000000/\m.dest.size<=1000000/\(m.dest.toList.isEmpty=false->∃ d,Pg.bT X X.length m.dest=some d/\d<X.length)) :
  () 39 #[cb] w fun e w'=>∃ pb,e = .returned (.pointer (some ⟨pb,0,none⟩))/\Pg.Fu w w' pb X V:=by
 have hcb:w.cell? cb=some (.slice cg X.length cc):=by
  rw [M0 _ _ _ _ _ _ hC.ptr];rfl
 have hcl:cb<w.heap.size:=(MQ.1 hC.ptr).1;have hmk:=qy X.length zaa w;have hmm:=@run_makeMap prog;obtain ⟨Z,hZ⟩:∃ Z,madeCells Pg.zPS.cells.toArray (X.length*10)=Z:=⟨_,rfl⟩;rw [hZ] at hmk;have HZ:Hid (madeCells Pg.zPS.cells.toArray (X.length*10)=Z):=hZ;have HC:Hid (Pg.ChM w cb cg cc X V):=hC;have HNM:Hid _:=hnm;have HOX:Hid _:=hox;have HHX:Hid _:=hhx;have HGK:Hid _:=hgk;have HT:Hid (TabAt 1 Lib.deBruijn32tab w):=hT;have HV:Hid _:=hV;have HEV:Hid _:=hev;clear hC hnm hox hhx hgk hT hV hev hZ;go_enter func39,ntmps39
 go_upto_region 2 with fail
 have hB1:Below w w (((w.alloc (.cells Z 161)).alloc (.map #[] 0)).alloc (.cells #[.slice w X.length X.length,.slice none 0 0,.int .u32 0,.map (some (w.heap.size+1))] 166)):=(((MY _ w).alloc (MR _) _).alloc zad _).alloc zae _;have hPB1:Pg.di (((w.alloc (.cells Z 161)).alloc (.map #[] 0)).alloc (.cells #[.slice w X.length X.length,.slice none 0 0,.int .u32 0,.map (some (w.heap.size+1))] 166)) (w.heap.size+1+1) w.heap.size X.length X.length (.slice none 0 0) 0 (.map (some (w.heap.size+1))):=by
  have:=Na ((w.alloc (.cells Z 161)).alloc (.map #[] 0)) (.cells #[.slice w X.length X.length,.slice none 0 0,.int .u32 0,.map (some (w.heap.size+1))] 166);simp only [World.size_alloc] at this;exact this
 have hbz:(((w.alloc (.cells Z 161)).alloc (.map #[] 0)).alloc (.cells #[.slice w X.length X.length,.slice none 0 0,.int .u32 0,.map (some (w.heap.size+1))] 166)).heap[w.heap.size]?=some (.cells Z 161 (0,0)):=by
  rw [N9 _ _ _ zae,N9 _ _ _ zad];exact Na w _
 have hmp:Pg.eB (((w.alloc (.cells Z 161)).alloc (.map #[] 0)).alloc (.cells #[.slice w X.length X.length,.slice none 0 0,.int .u32 0,.map (some (w.heap.size+1))] 166)) X.length (w.heap.size+1) 0 (fun _=>none):=by
  have h1:=RD (w.alloc (.cells Z 161)) prog 9 (Pg.oG X.length);rw [Of] at h1;exact ⟨_,h1.alloc _,fun _=>rfl⟩
 have hs1:(((w.alloc (.cells Z 161)).alloc (.map #[] 0)).alloc (.cells #[.slice w X.length X.length,.slice none 0 0,.int .u32 0,.map (some (w.heap.size+1))] 166)).heap.size=w.heap.size+1+1+1:=zad;obtain ⟨W1,hW1⟩:∃ W,(((w.alloc (.cells Z 161)).alloc (.map #[] 0)).alloc (.cells #[.slice w X.length X.length,.slice none 0 0,.int .u32 0,.map (some (w.heap.size+1))] 166))=W:=⟨_,rfl⟩;rw [hW1] at hB1 hPB1 hbz hmp hs1 ⊢;have hPW1:Pg.bu W1 (w.heap.size+1+1) w.heap.size X.length (Pg.bE X 0):=Pg.bu.made hX (by rw [HZ.out];exact hbz) (by rw [M0 _ _ _ _ _ _ hPB1];rfl) zaa;have hcb1:=(hB1.cell (p:=⟨cb,0,none⟩) hcl).trans hcb;have HPB1:Hid (Pg.di W1 (w.heap.size+1+1) w.heap.size X.length X.length (.slice none 0 0) (Pg.bo X 0) (.map (some (w.heap.size+1)))):=hPB1;have HPW1:Hid (Pg.bu W1 (w.heap.size+1+1) w.heap.size X.length (Pg.bE X 0)):=hPW1;have HBZ:Hid _:=hbz;have HMP:Hid (Pg.eB W1 X.length (w.heap.size+1) 0 (fun _=>none)):=hmp;have HB1:Hid (Below w w W1):=hB1;have hcb0:∀ wr,Mo (fun j=>j=w.heap.size\/j=w.heap.size+1+1) W1 wr->wr.cell? cb=some (.slice cg X.length cc):=fun wr h=>(h.cell (p:=⟨cb,0,none⟩) (show cb<W1.heap.size by omega) (by show ¬ (cb=_\/cb=_);omega)).trans hcb1;have HCB:Hid _:=hcb0;have HC1:Hid (∀ wr,Mo (fun j=>j=w.heap.size\/j=w.heap.size+1+1) W1 wr->Below w w wr/\Pg.ChM wr cb cg cc X V):=fun wr h=>by
  have hb:Below w w wr:=h.below HB1.out zaa (fun i hi=>zaa);exact ⟨hb,HC.out.below hb⟩
 clear hW1 hmk hmm hcb hPB1 hbz hmp hPW1 hB1 hcb0 HC;go_wp2
 go_loopg [23] X.length (fun q i wr=>∃ k:Nat,q=X.length-k/\k<=X.length/\i = .int .i64 k/\Pg.bu wr (w.heap.size+1+1) w.heap.size X.length (Pg.bE X k)/\Pg.di wr (w.heap.size+1+1) w.heap.size X.length X.length (.slice none 0 0) (Pg.bo X k) (.map (some (w.heap.size+1)))/\Pg.cW X.length (Pg.bE X k)/\Pg.Ord X k (Pg.bE X k)/\Mo (fun j=>j=w.heap.size\/j=w.heap.size+1+1) W1 wr)
 case atStart =>
  refine ⟨0,rfl,Ni _,rfl,HPW1.out,HPB1.out,?_,⟨fun i p x hi=>zaa,?_⟩,Mo.refl _ _⟩
  ·intro i p hp;have:p=Pg.zPS:=(PC (Nc hp));subst this;exact ⟨Pg.dH _,Pg.dH _,Pg.dH _,Pg.dH _⟩
  ·intro i p hp j hj;have:p=Pg.zPS:=(PC (Nc hp));subst this;have hj:j∈Pg.els 0:=hj;rw [Pg.k9] at hj;cases hj
 case round =>
  obtain ⟨k,hq,hk,rfl,hPW,hPB,hGd,hOr,hmo⟩:=hrel;clear hcb1;by_cases hkn:k<X.length
  ·obtain ⟨x,hx⟩:∃ x,X[k]?=some x:=⟨_,MU hkn⟩;obtain ⟨hbw,hCk⟩:=HC1.out wr hmo;have hrng:=hCk.at' k x hx;have hnmx:=HNM.out k x hx;have hoxx:=HOX.out k x hx;have hlk:=Pg.eh X k;have hs:=hmo.size;have hB5:=(MY wr wr).alloc (MR _) (.cells x.arr 171);have hPW5:=hPW.below hB5 zaa zaa;have hPB5:Pg.di (wr.alloc (.cells x.arr 171)) (w.heap.size+1+1) w.heap.size (Pg.bE X k).length X.length (.slice none 0 0) (Pg.bo X k) (.map (some (w.heap.size+1))):=by rw [hlk];exact (hB5.block _ zaa).trans hPB
   have hadd:=wB (wr.alloc (.cells x.arr 171)) (w.heap.size+1+1) w.heap.size X.length (Pg.bE X k) k x (.slice none 0 0) (.map (some (w.heap.size+1))) (Pg.bo X k) hPB5 hPW5 (hGd.sms hX) (by have h1:=Pg.mW X (MR _) k hk;have h2:2 ^ X.length<=2 ^ 24:=OM zac hX;omega) zaa hnmx hoxx zae;have HN:Hid (Pg.bE X (k+1)=Pg.mC (Pg.bE X k) k x/\Pg.bo X (k+1)=Pg.qY (Pg.bo X k) k x):=⟨by rw [Pg.bE,hx],by rw [Pg.bo,hx]⟩;have hG2:=Pg.uu hGd hkn x hoxx;have hO2:=Pg.ym hOr zaa hx hoxx;have hmo5:=hmo.trans (ay hB5);have HG2:Hid _:=hG2;have HO2:Hid _:=hO2;obtain ⟨kind,name,depth,owner,vp,ve,vl,vm⟩:=x;unfold Pg.MS.arr at hrng hadd hmo5;dsimp only at hrng hadd hmo5;clear hB5 hPW5 hPB5 hPW hPB hGd hOr hmo hCk hbw hx hG2 hO2;rw [hlk] at hadd;go_wp2_with (first
    | (refine Om rfl 171 (.tmp 26) rfl cg (k*8) rfl _ _ hrng underlying171 rfl eI ?_)
    | (refine aI rfl 171 (.tmp 5) (.tmp 27) rfl 171 _ _ rfl rfl eI rfl rfl ?_)
    | (go_at_call 61;refine hadd.mono ?_;intro e w6 h6;obtain ⟨rfl,hPB6,hPW6,hmo6⟩:=h6)
    | fail)
   go_roundg (X.length-(k+1))
   case measure=>omega
   case rel=>exact ⟨k+1,rfl,zaa,zah,by rw [HN.out.1];exact hPW6,by rw [HN.out.2];exact hPB6,by rw [HN.out.1];exact HG2.out,by rw [HN.out.1];exact HO2.out,hmo5.trans hmo6⟩
  ·obtain rfl:k=X.length:=zaa;have HPW:Hid (Pg.bu wr (w.heap.size+1+1) w.heap.size X.length (Pg.dL (Pg.bE X X.length) 0)):=hPW;have HPB:Hid (Pg.di wr (w.heap.size+1+1) w.heap.size X.length X.length (.slice none 0 0) (Pg.bo X X.length) (.map (some (w.heap.size+1)))):=hPB;have HGd:Hid (Pg.cW X.length (Pg.dL (Pg.bE X X.length) 0)):=hGd;have HOr:Hid (Pg.Ord X X.length (Pg.dL (Pg.bE X X.length) 0)):=hOr;have HMO:Hid (Mo (fun j=>j=w.heap.size\/j=w.heap.size+1+1) W1 wr):=hmo;have hcbr:=HCB.out wr hmo;clear hPW hPB hGd hOr hmo hq hk hkn;go_wp2
   go_loopg [6] X.length (fun q s wr=>∃ k:Nat,q=X.length-k/\k<=X.length/\s = .int .i64 ((X.length:Int)-1-(k:Int))/\Pg.bu wr (w.heap.size+1+1) w.heap.size X.length (Pg.dL (Pg.bE X X.length) k)/\Pg.di wr (w.heap.size+1+1) w.heap.size X.length X.length (.slice none 0 0) (Pg.bo X X.length) (.map (some (w.heap.size+1)))/\Pg.cW X.length (Pg.dL (Pg.bE X X.length) k)/\Pg.Ord X X.length (Pg.dL (Pg.bE X X.length) k)/\Mo (fun j=>j=w.heap.size\/j=w.heap.size+1+1) W1 wr)
   case atStart=>exact ⟨0,rfl,Ni _,zah,HPW.out,HPB.out,HGd.out,HOr.out,HMO.out⟩
   case round =>
    obtain ⟨k,hq,hk,rfl,hPW,hPB,hGd,hOr,hmo⟩:=hrel;clear hcbr HPW HPB HGd HOr HMO;have hlk:(Pg.dL (Pg.bE X X.length) k).length=X.length:=by rw [Pg.pP,Pg.eh]
    have hs:=hmo.size;by_cases hkn:k<X.length
    ·obtain ⟨i,hi⟩:∃ i:Nat,(X.length:Int)-1-(k:Int)=i:=⟨X.length-1-k,zaa⟩;have hin:i=X.length-1-k:=zaa;have hil:i<X.length:=zaa;obtain ⟨p,hp⟩:∃ p,(Pg.dL (Pg.bE X X.length) k)[i]?=some p:=⟨_,MU zaa⟩;obtain ⟨x,hx⟩:∃ x,X[i]?=some x:=⟨_,MU hil⟩;have how:p.owner = -1\/∃ o:Nat,p.owner=o/\o<i:=by rw [(hOr.own i p x hil hp hx).1];exact HOX.out i x hx
     have hT1:TabAt 1 Lib.deBruijn32tab wr:=Pg.KpT.of (HC1.out wr hmo).1 hg HT.out;have hsur:=xU wr (w.heap.size+1+1) w.heap.size X.length _ i p hp (fun j hj=>by have:=hOr.part i p hp j hj;omega) how hPW (hGd.sms hX) zaa zaa zaa zaa hT1;have HN:Hid (Pg.dL (Pg.bE X X.length) (k+1)=Pg.bK (Pg.dL (Pg.bE X X.length) k) i):=by unfold Hid;rw [Pg.dL,Pg.eh,hin]
     have HG2:Hid (Pg.cW X.length (Pg.bK (Pg.dL (Pg.bE X X.length) k) i)):=Pg.mN hGd hil;have HO2:Hid (Pg.Ord X X.length (Pg.bK (Pg.dL (Pg.bE X X.length) k) i)):=Pg.oR hOr;have HPB2:Hid _:=hPB;have HMO2:Hid _:=hmo;have hge:(i:Int)>=0:=zaa;rw [hi];have HI:Hid ((X.length:Int)-1-(k:Int)=i):=hi;clear hPW hPB hGd hOr hmo how hp hx hin hi;go_wp2_with (go_at_call 62;refine hsur.mono ?_;intro e w6 h6;obtain ⟨rfl,hPW6,hmo6⟩:=h6)
     go_roundg (X.length-(k+1))
     case measure=>omega
     case rel=>exact ⟨k+1,rfl,zaa,by have:=HI.out;go_num,by rw [HN.out];exact hPW6,(hmo6.block _ zaa zaa).trans HPB2.out,by rw [HN.out];exact HG2.out,by rw [HN.out];exact HO2.out,HMO2.out.trans' hmo6 (fun i _ e => .inl e)⟩
    ·obtain rfl:k=X.length:=zaa;obtain ⟨PF,hPF⟩:∃ P,Pg.psF X=P:=⟨_,rfl⟩;have hPF':Pg.dL (Pg.bE X X.length) X.length=PF:=hPF;rw [hPF'] at hPW hGd hOr hlk;have HPF:Hid (Pg.psF X=PF):=hPF;have hlm:(X.length:Int)-1-(X.length:Int) = -1:=zaa;have HPW:Hid (Pg.bu wr (w.heap.size+1+1) w.heap.size X.length PF):=hPW;have HPB:Hid (Pg.di wr (w.heap.size+1+1) w.heap.size X.length X.length (.slice none 0 0) (Pg.bo X X.length) (.map (some (w.heap.size+1)))):=hPB;have HGd:Hid (Pg.cW X.length PF):=hGd;have HOr:Hid (Pg.Ord X X.length PF):=hOr;have HMO:Hid (Mo (fun j=>j=w.heap.size\/j=w.heap.size+1+1) W1 wr):=hmo;have HLK:Hid (PF.length=X.length):=hlk;have hcbr:=HCB.out wr hmo;rw [hlm];clear hPW hPB hGd hOr hmo hlk hPF hPF' hq hk hkn hlm;go_wp2
     go_loopg [51] X.length (fun q i wr=>∃ k:Nat,q=X.length-k/\k<=X.length/\i = .int .i64 k/\∃ (hv:Ref.Sl) (H:List Pg.HV),Pg.di wr (w.heap.size+1+1) w.heap.size X.length X.length (.slice hv.a hv.n hv.c) (Pg.bo X X.length) (.map (some (w.heap.size+1)))/\Pg.bu wr (w.heap.size+1+1) w.heap.size X.length PF/\wr.ownsRow 0 237 3 (.slice hv.a hv.n hv.c) H.length (H.flatMap Pg.HV.cells)/\Pg.DC wr (w.heap.size+1+1) PF X k H/\(∀ g,hv.v.ownBlock=some g->W1.heap.size<=g)/\Mo (fun j=>j=w.heap.size\/j=w.heap.size+1+1) W1 wr)
     case atStart=>exact ⟨0,rfl,Ni _,rfl,⟨none,0,0⟩,[],HPB.out,HPW.out,N4 _ _ _ _,⟨rfl,fun h hh=>(by cases hh)⟩,fun g h=>zat,HMO.out⟩
     case round =>
      obtain ⟨k,hq,hk,rfl,hv,H,hPB,hPW,hOw,hHi,hlo,hmo⟩:=hrel;clear hcbr HPW HPB HMO;have hs:=hmo.size;have hHl:H.length<=k:=by have h1:=Pg.rO X k;have h2:=congrArg List.length hHi.idx;simp at h2;omega
      by_cases hkn:k<X.length
      ·obtain ⟨x,hx⟩:∃ x,X[k]?=some x:=⟨_,MU hkn⟩;obtain ⟨hbw,hCk⟩:=HC1.out wr hmo;have hrng:=hCk.at' k x hx;have hB5:=(MY wr wr).alloc (MR _) (.cells x.arr 171);have hPW5:=hPW.below hB5 zaa zaa;have hPB5:Pg.di (wr.alloc (.cells x.arr 171)) (w.heap.size+1+1) w.heap.size PF.length X.length (.slice hv.a hv.n hv.c) (Pg.bo X X.length) (.map (some (w.heap.size+1))):=by rw [HLK.out];exact (hB5.block _ zaa).trans hPB
       have hOw5:=(ay (P:=fun _=>False) hB5).own hOw (fun _ _ h=>h);have hHi5:=hHi.kd (E:=fun _=>False) (bD hB5) (fun h=>h) (fun h=>h);have hmo5:=hmo.trans (ay hB5);have hs5:=hmo5.size;have hah:=qZ (wr.alloc (.cells x.arr 171)) (w.heap.size+1+1) w.heap.size X.length PF k x hv (.map (some (w.heap.size+1))) (Pg.bo X X.length) H hPB5 hPW5 zaa hOw5 zaa (fun hh=>by
        rcases HOX.out k x hx with h | ⟨o,h,hok⟩
        ·exact absurd h (HHX.out k x hx hh)
        ·exact ⟨o,PF[o]'(by have:=HLK.out;omega),h,MU _⟩)
       have HNXT:Hid (∀ w6,Pg.Fp (wr.alloc (.cells x.arr 171)) w6 (w.heap.size+1+1) w.heap.size X.length PF k x hv (.map (some (w.heap.size+1))) (Pg.bo X X.length) H->∃ (hv:Ref.Sl) (H:List Pg.HV),Pg.di w6 (w.heap.size+1+1) w.heap.size X.length X.length (.slice hv.a hv.n hv.c) (Pg.bo X X.length) (.map (some (w.heap.size+1)))/\Pg.bu w6 (w.heap.size+1+1) w.heap.size X.length PF/\w6.ownsRow 0 237 3 (.slice hv.a hv.n hv.c) H.length (H.flatMap Pg.HV.cells)/\Pg.DC w6 (w.heap.size+1+1) PF X (k+1) H/\(∀ g,hv.v.ownBlock=some g->W1.heap.size<=g)/\Mo (fun j=>j=w.heap.size\/j=w.heap.size+1+1) W1 w6):=fun w6 hA=>by
        unfold Pg.Fp at hA
        rcases hA with ⟨hf,hb6⟩ | ⟨ht,o,po,kv,hv',ho,hpo,hKA,hPB6,hO6,hM6,hKd6,hlo6⟩
        ·refine ⟨hv,H,(hb6.block _ zaa).trans (by rw [HLK.out] at hPB5;exact hPB5),hPW5.below hb6 zaa zaa,(ay (P:=fun _=>False) hb6).own hOw5 (fun _ _ h=>h),?_,hlo,hmo5.trans (ay hb6)⟩;have h1:=hHi5.kd (E:=fun _=>False) (bD hb6) (fun h=>h) (fun h=>h);exact ⟨by rw [h1.idx,Pg.jL,hx];dsimp only;rw [hf];rfl,h1.ao⟩
        ·refine ⟨hv',H++[Pg.HV.mk k o kv],by rw [HLK.out] at hPB6;exact hPB6,hPW5.reb (by rw [M0 _ _ _ _ _ _ hPB6];rfl) (hM6.block _ zaa (fun h => ?_)),by rw [Nj];exact hO6,?_,fun g hg => ?_,hmo5.trans' hM6 (fun i hi h => ?_)⟩
         ·rcases h with h | h
          ·omega
          ·have:=hlo _ h;omega
         ·have h1:=hHi5.kd hKd6 zac zac;refine ⟨?_,fun y hy => ?_⟩
          ·rw [NW,h1.idx,Pg.jL,hx];dsimp only;rw [ht,M6 rfl,ho];rfl
          ·rcases Nr.1 hy with hy | hy
           ·exact h1.ao y hy
           ·rw [M8.1 hy];exact ⟨x,po,hx,hpo,hKA⟩
         ·rcases hlo6 g hg with h | h
          ·exact hlo g h
          ·omega
         ·rcases h with h | h
          ·exact .inr h
          ·have:=hlo i h;omega
       obtain ⟨kind,name,depth,owner,vp,ve,vl,vm⟩:=x;unfold Pg.MS.arr at hrng hah HNXT;dsimp only at hrng hah HNXT;clear hB5 hPW5 hPB5 hPW hPB hOw hOw5 hHi hHi5 hmo hCk hbw hx hmo5 hs5;go_wp2_with (first
        | (refine Om rfl 171 (.tmp 54) rfl cg (k*8) rfl _ _ hrng underlying171 rfl eI ?_)
        | (refine aI rfl 171 (.tmp 8) (.tmp 55) rfl 171 _ _ rfl rfl eI rfl rfl ?_)
        | (go_at_call 63;refine hah.mono ?_;intro e w6 h6;obtain ⟨rfl,hA6⟩:=h6)
        | fail)
       go_roundg (X.length-(k+1))
       case measure=>omega
       case rel=>exact ⟨k+1,rfl,zaa,zah,HNXT.out w6 hA6⟩
      ·obtain rfl:k=X.length:=zaa;obtain ⟨hbw,hCk⟩:=HC1.out wr hmo;have hlk:=HLK.out;have hPA:=hPW.bC (HGd.out.sms hX);have hmp:Pg.eB wr X.length (w.heap.size+1) 0 (fun _=>none):=HMP.out.mo hmo zaa;have hT1:TabAt 1 Lib.deBruijn32tab wr:=Pg.KpT.of hbw hg HT.out;have hgk1:∃ c t fz,wr.heap[1]?=some (.cells c t fz):=by
        obtain ⟨c,t,fz,h⟩:=HGK.out;exact ⟨c,t,fz,(hbw.block _ hg).trans h⟩
       have how:∀ (i:Nat) (p:Pg.PS),PF[i]?=some p->p.owner = -1\/∃ o:Nat,p.owner=o/\o<i:=fun i p hp=>by
        have hil:=(MZ.1 hp).1;obtain ⟨x,hx⟩:∃ x,X[i]?=some x:=⟨_,MU zaa⟩;rw [(HOr.out.own i p x zaa hp hx).1];exact HOX.out i x hx
       have hadm:=wz wr (w.heap.size+1+1) w.heap.size X.length PF (.slice hv.a hv.n hv.c) (Pg.bo X X.length) (w.heap.size+1) cb cg cc X V (by rw [hlk];exact hPB) hPA zaa hCk hlk.symm HNM.out (by rw [hlk];exact hmp) zaa (fun i p hp=>by rw [hlk];exact HGd.out i p hp) zaa hT1 hgk1 how HV.out (fun i m hm=>by rw [hlk];exact HEV.out i m hm);have HNXT:Hid (∀ w6,Pg.KO wr w6 (w.heap.size+1+1) w.heap.size (w.heap.size+1) PF X V->Pg.Fu w w6 (w.heap.size+1+1) X V):=fun w6 hA=>by
        obtain ⟨⟨n,M,L,hTab,hOnc⟩,hm6⟩:=hA;rw [hlk] at hTab hOnc;have hkd6:Kd (fun _=>False) wr w6:=fX hm6 (fun j c t f hj hc=>by
         obtain ⟨es,clock,hz⟩:=hmp.kind;rw [hj,hz] at hc;cases hc)
        have hs6:=hm6.size;unfold Pg.Fu;rw [HPF.out];exact ⟨w.heap.size,w.heap.size+1,hv,H,n,M,L,hm6.below hbw zaa (fun i hi=>zaa),(hkd6.ao _ _ _ _ hPB (fun h=>h)).trans hPB,hPA.mo hm6 zaa zaa zaa zaa,hm6.own hOw (fun g hg e=>by have:=hlo g hg;omega),hHi.kd hkd6 (fun h=>h) (fun h=>h),hTab,hOnc⟩
       clear hPB hPW hOw hHi hlo hmo hPA hmp hT1 hgk1 how hbw hCk hlk;go_wp2_with (go_at_call 64;refine hadm.mono ?_;intro e w6 h6;obtain ⟨rfl,hA6⟩:=h6);go_ret;exact ⟨_,rfl,HNXT.out w6 hA6⟩
theorem Ei:(Tryz.prog.info? 245).map (fun i=>(i.zero,i.size,i.bytes))=some (some (.agg #[(0:Int),.int .u32 0,.slice none 0 0,.nilFunc]),4,48):=zab
theorem xM (w:World) (a b:Nat) (ha:∃ c,w.heap[a]?=some (.cells c 245 (0,0))) (hb:∃ c,w.heap[b]?=some (.cells c 245 (0,0))) :
  (binOp .eql 242 a b).run prog w = .ok (.bool (decide (a=b))) w:=by
 obtain ⟨i0,hi,hz0,hz1,hz2⟩:=OB Ei;obtain ⟨ca,ha⟩:=ha;obtain ⟨cb,hb⟩:=hb;have h:∀ d:Nat,(Op.equalIn (d+1) 242 a b).run prog w = .ok (decide (a=b)) w:=fun d=>by
  by_cases e:a=b
  ·subst e;simp [Op.equalIn,run_underlying underlying242,sizeOf,typeInfo,hi,run_sameAddr_same]
  ·simp [Op.equalIn,run_underlying underlying242,sizeOf,typeInfo,hi,hz1,e,run_sameAddr_other w (a:=⟨a,0,none⟩) (b:=⟨b,0,none⟩) (by intro x;injection x with x1;exact e x1) ha hb]
 simp only [binOp];simp [Op.equal,Op.maxDepth,h 9999]
namespace Pg
def JE (L:List Nat) (q:Nat) (r:Int):Prop:=decide (r>=0)=L.contains q
def lK (q:Nat):List Value:=[q]
abbrev Mvs (W:World) (v:Ref.Sl) (L:List Nat):Prop:=Row W 242 1 lK (.slice v.a v.n v.c) L
theorem Mvs.n {v:Ref.Sl} {L:List Nat} (h:Mvs W v L):v.n=L.length:=by
 rcases h.2 with ⟨h0,h1⟩ | ⟨g,cap,cur,hv,_⟩
 ·simp at h0;omega
 ·simp at hv;exact hv.2.1
theorem Mvs.cell {v:Ref.Sl} {L:List Nat} (h:Mvs W v L) {q:Nat} (hi:L[i]?=some q):∃ g,v.a=some ⟨g,0,none⟩/\L.length<=v.c/\W.cell? ⟨g,i,none⟩=some ↑q:=by
 obtain ⟨a,n,c⟩:=v;have hil:=(MZ.1 hi).1;have hn:n=L.length:=h.n;subst hn;obtain ⟨g,cap,hv⟩:=Ref.eZ h zaa;simp at hv;obtain ⟨rfl,rfl⟩:=hv;refine ⟨g,rfl,?_,?_⟩
 ·rcases h.2 with ⟨h0,_⟩ | ⟨g',cap',cur,hv,_,_,hle,_⟩
  ·cases h0
  ·simp at hv;show L.length<=c;rw [hv.2];omega
 ·have:=Row.cell (f:=lK) (n:=1) (j:=0) (fun _=>rfl) h zac hil;rw [MU hil] at hi;rw [NO hi] at this;simpa [lK] using this
end Pg
theorem Ef (w:World) (v:Ref.Sl) (L:List Nat) (q:Nat) (h:Pg.Mvs w v L) (hl:L.length<=1000) (hbk:∀ y,y=q\/y∈L->∃ c,w.heap[y]?=some (.cells c 245 (0,0))) :
  () 254 #[.slice v.a v.n v.c,q] w fun e w'=>(∃ r:Int,e = .returned (r:Int)/\Pg.JE L q r)/\w'=w:=by
 have HM:Hid (Pg.Mvs w v L):=h;have HBK:Hid (∀ y,y=q\/y∈L->∃ c,w.heap[y]?=some (.cells c 245 (0,0))):=hbk;clear hbk;have hn:=h.n;obtain ⟨a,n,c⟩:=v;dsimp only at hn;subst hn;clear h;dsimp only;go_enter func254,ntmps254;go_wp2
 go_loopg [8] L.length (fun x i wr=>∃ k:Nat,x=L.length-k/\k<=L.length/\i = .int .i64 k/\(∀ j y,j<k->L[j]?=some y->y≠q)/\wr=w)
 case atStart=>exact ⟨0,rfl,Ni _,rfl,fun j y hj=>zaa,rfl⟩
 case round =>
  obtain ⟨k,hx,hk,rfl,hall,rfl⟩:=hrel;have HA:Hid (∀ j y,j<k->L[j]?=some y->y≠q):=hall;clear hall;by_cases hkn:k<L.length
  ·obtain ⟨y,hy⟩:∃ y,L[k]?=some y:=⟨_,MU hkn⟩;obtain ⟨g,ha,hcap,hc⟩:=HM.out.cell hy;dsimp only at ha hcap;subst ha;have HY:Hid (L[k]?=some y):=hy;have heq:=xM wr q y (HBK.out q (.inl rfl)) (HBK.out y (.inr (Nc hy)));clear hy;by_cases hq:y=q
   ·subst hq;have HIN:Hid (L.contains y=true):=by
     unfold Hid;rw [Qw];exact Nc HY.out
    go_wp2;go_ret;exact ⟨⟨k,rfl,by unfold Pg.JE;rw [HIN.out];simp⟩,rfl⟩
   ·have hq':¬ q=y:=fun e=>hq e.symm;go_wp2
    go_roundg (L.length-(k+1))
    case measure=>omega
    case rel =>
     refine ⟨k+1,rfl,zaa,zah,fun j z hj hz => ?_,rfl⟩;by_cases e:j=k
     ·rw [e,HY.out] at hz;cases hz;exact hq
     ·exact HA.out j z zaa hz
  ·obtain rfl:k=L.length:=zaa;have HIN:Hid (L.contains q=false):=by
    unfold Hid;cases hcq:L.contains q
    ·rfl
    ·obtain ⟨j,hj⟩:=Rb (Qw.1 hcq);exact absurd rfl (HA.out j q ((MZ.1 hj).1) hj)
   go_wp2;go_ret;exact ⟨⟨-1,rfl,by unfold Pg.JE;rw [HIN.out];rfl⟩,rfl⟩
theorem wM (w:World) (v:Ref.Sl) (L:List Nat) (q:Nat) (h:Pg.Mvs w v L) (hl:L.length<=1000) (hbk:∀ y,y=q\/y∈L->∃ c,w.heap[y]?=some (.cells c 245 (0,0))) :
  () 225 #[.slice v.a v.n v.c,q] w fun e w'=>e = .returned (.bool (L.contains q))/\w'=w:=by
 have hix:=Ef w v L q h hl hbk;unfold Pg.JE at hix;obtain ⟨bq,hbq⟩:∃ b,L.contains q=b:=⟨_,rfl⟩;rw [hbq] at hix ⊢;clear h hbq hbk;go_enter func225,ntmps225;go_wp2_with (go_at_call 254;refine hix.mono ?_;rintro e w9 ⟨⟨r,rfl,hr⟩,hw9⟩;rw [hw9];clear hw9 w9);go_ret;exact ⟨rfl,rfl⟩
attribute [local go_sem] NR
namespace Pg
def eS (L:List (Option Nat)) (acc:List Nat) (i:Nat):List Nat:=match L[i]? with
 | some (some q)=>if acc.contains q then acc else acc++[q]
 | _=>acc
def dE (L:List (Option Nat)) (l:List Nat):List Nat:=l.foldl (eS L) []
theorem CF (L:List (Option Nat)) (l:List Nat) (i:Nat):dE L (l++[i])=eS L (dE L l) i:=by
 unfold dE;rw [Ot];rfl
theorem wb (L:List (Option Nat)) (acc:List Nat) (i:Nat):(eS L acc i).length<=acc.length+1:=by
 unfold eS;split
 ·split <;> simp
 ·omega
theorem v7 (L:List (Option Nat)):∀ (l:List Nat) (acc:List Nat),(l.foldl (eS L) acc).length<=acc.length+l.length
 | [],acc=>by simp
 | i::l,acc=>by
  have h1:=v7 L l (eS L acc i);have h2:=wb L acc i;simp only [List.foldl_cons,List.length_cons];omega
theorem Fk {L:List (Option Nat)} {acc:List Nat} (h:y∈eS L acc i):y∈acc\/L[i]?=some (some y):=by
 unfold eS at h;split at h
 ·rename_i q hq;split at h
  ·exact .inl h
  ·rcases Nr.1 h with h | h
   ·exact .inl h
   ·rw [M8.1 h];exact .inr hq
 ·exact .inl h
theorem v8 {L:List (Option Nat)} {y:Nat}:∀ (l:List Nat) (acc:List Nat),y∈l.foldl (eS L) acc->y∈acc\/∃ i:Nat,L[i]?=some (some y)
 | [],_,h => .inl h
 | i::l,acc,h=>by
  rcases v8 l _ h with h | h
  ·rcases Fk h with h | h
   ·exact .inl h
   ·exact .inr ⟨i,h⟩
  ·exact .inr h
theorem wa {L:List (Option Nat)} {l:List Nat} (h:y∈dE L l):∃ i:Nat,L[i]?=some (some y):=by
 rcases v8 l [] h with h | h
 ·cases h
 ·exact h
theorem IE {s:Nat} (l:List (In s)):(aX l).length=l.length:=by rw [cy];simp
end Pg
theorem AB (w:World) (pb b cap N:Nat) (hv:Value) (fin mb n:Nat) (M:ByteArray->Option Nat) (ev:ByteArray) (s:Nat) (hB:Pg.di w pb b N cap hv fin (.map (some mb))) (hM:Pg.eB w N mb n M) (hev:ev.size<=1000000) (hMe:M ev=none) :
  () 192 #[pb,ev,.int .u32 s] w fun e w'=>e = .returned (.slice none 0 0)/\Below w w w':=by
 have h3:w.cell? ⟨pb,3,none⟩=some (.map (some mb)):=zbf;have hlook:=hM.look hev;rw [hMe] at hlook;dsimp only at hlook;clear hM hMe hB;have hB0:=(MY w w).alloc (MR _) (.cells #[.slice none 0 0] 240);go_enter func192,ntmps192;go_wp2;go_ret;exact ⟨rfl,hB0⟩
theorem CG (w:World) (pb b cap N:Nat) (hv:Value) (fin mb n:Nat) (M:ByteArray->Option Nat) (ev:ByteArray) (s g:Nat) (L:List (Option Nat)) (hB:Pg.di w pb b N cap hv fin (.map (some mb))) (hM:Pg.eB w N mb n M) (hev:ev.size<=1000000) (hMe:M ev=some g) (hR:Pg.dj w g L) (hL:L.length=N) (hs:s<4294967296) (hin:∀ i,i∈Pg.els s->i<N)
  (hbk:∀ (i q:Nat),L[i]?=some (some q)->∃ c,w.heap[q]?=some (.cells c 245 (0,0))) (hg:1<w.heap.size) (hT:TabAt 1 Lib.deBruijn32tab w) :
  () 192 #[pb,ev,.int .u32 s] w fun e w'=>∃ v:Ref.Sl,e = .returned (.slice v.a v.n v.c)/\w'.ownsRow w 242 1 (.slice v.a v.n v.c) (Pg.dE L (Pg.els s)).length ((Pg.dE L (Pg.els s)).flatMap Pg.lK)/\Below w w w':=by
 obtain ⟨i0,hi,hz0,hz1,hz2⟩:=OB l7;have h3:w.cell? ⟨pb,3,none⟩=some (.map (some mb)):=zbf;have hlook:=hM.look hev;rw [hMe] at hlook;dsimp only at hlook;have HBK:Hid _:=hbk;clear hM hMe hB hbk;refine (Nz (n:=6)).1 ?_;refine NX func192 rfl trivial ?_ rfl;simp only [ntmps192,List.size_toArray,List.length_cons,List.length_nil,Nat.reduceAdd,Nat.reduceSub,Array.replicate_succ,Array.replicate_zero,List.push_toArray,List.append_toArray,List.nil_append,List.cons_append];gi_wp2_with (refine ⟨trivial,?_⟩;gi_at_call 92;refine (Nz.2 (dy s _)).mono ?_;rintro e w9 ⟨rfl,hw9⟩;rw [hw9];clear hw9 w9);have c7:=((NA w 240 (.slice g N N)).alloc (.cells #[.slice none 0 0] 240)).alloc (.cells #[.int .u32 s] 75);have c9:=(NA (w.alloc (.cells #[.slice g N N] 240)) 240 (.slice none 0 0)).alloc (.cells #[.int .u32 s] 75);have cF:=NA ((w.alloc (.cells #[.slice g N N] 240)).alloc (.cells #[.slice none 0 0] 240)) 75 (.int .u32 s);simp only [World.size_alloc] at c9 cF;have hB0:Below w w (((w.alloc (.cells #[.slice g N N] 240)).alloc (.cells #[.slice none 0 0] 240)).alloc (.cells #[.int .u32 s] 75)):=(((MY _ w).alloc (MR _) _).alloc zad _).alloc zae _;have hsz:(((w.alloc (.cells #[.slice g N N] 240)).alloc (.cells #[.slice none 0 0] 240)).alloc (.cells #[.int .u32 s] 75)).heap.size=w.heap.size+3:=zad;obtain ⟨W0,hW0⟩:∃ W0,((w.alloc (.cells #[.slice g N N] 240)).alloc (.cells #[.slice none 0 0] 240)).alloc (.cells #[.int .u32 s] 75)=W0:=⟨_,rfl⟩;rw [hW0] at c7 c9 cF hB0 hsz ⊢;clear hW0;refine nS zaa (w.heap.size+1+1) s hs rfl zaa zaa cF.cell (Pg.KpT.of hB0 hg hT) rfl
  (fun pre W=>(Boxed W w 240 (.slice g N N)/\∃ v,Boxed W (w.heap.size+1) 240 v/\W.ownsRow w 242 1 v (Pg.dE L (Pg.aX pre)).length ((Pg.dE L (Pg.aX pre)).flatMap Pg.lK)/\∃ sl:Ref.Sl,v = .slice sl.a sl.n sl.c)/\Below w w W)
  (fun _ _ _=>False)
  (NH (NH (Oo (Og _ _ _) _) (Oo (holdsRow_own w (w.heap.size+1) 240 242 1 (fun pre=>(Pg.dE L (Pg.aX pre)).length) (fun pre=>(Pg.dE L (Pg.aX pre)).flatMap Pg.lK) (fun _ v=>∃ sl:Ref.Sl,v = .slice sl.a sl.n sl.c)) _)) (OX (MR _) zaa))
  (fun _ _ _ _ _ hs _ _=>hs)
  ⟨⟨c7,_,c9,N4 _ _ _ _,⟨none,0,0⟩,rfl⟩,hB0⟩
  (fun x a' _=>a'={ tmps:=#[.pointer (some ⟨pb,0,none⟩),.string ev,.int .u32 s,undef,undef,undef,.slice none 0 0,.pointer (some ⟨w.heap.size,0,none⟩),.bool true,.pointer (some ⟨w.heap.size+1,0,none⟩),.int .i64 x.1,undef,.tuple #[.slice (some ⟨g,0,none⟩) N N,.bool true],.pointer (some ⟨pb,0,none⟩),.pointer (some ⟨pb,0,none⟩),.pointer (some ⟨pb,3,none⟩),.map (some mb),.string ev,.tuple #[.slice (some ⟨g,0,none⟩) N N,.bool true],.slice (some ⟨g,0,none⟩) N N,.bool true,.bool true,.bool false,.int .u32 s,.func (.func 144) #[] #[.pointer (some ⟨w.heap.size+1+1,0,none⟩)],.int .i64 x.1,undef,undef,undef,undef,undef,undef,undef,undef,undef,undef,undef,undef,undef,undef,undef,undef,undef],defers:=[] })
  (fun _ _ _ _ _ _ hs _ _=>hs)
  ?assign ?body ?done ?stop
 case assign =>
  exact zex
 case body =>
  rintro l pre x a' W _ _ ⟨⟨h7,v,h9,hrow,sl,rfl⟩,hBW⟩ rfl hlt;have hxl:=hin x.1 x.2;have hsn:=Pg.CF L (Pg.aX pre) x.1;rw [<- Pg.dS] at hsn;have hal:(Pg.dE L (Pg.aX pre)).length<=32:=by
   have:=Pg.v7 L (Pg.aX pre) [];rw [Pg.IE] at this;unfold Pg.dE;simp at this;omega
  obtain ⟨m,hm⟩:∃ m,L[x.1]?=some m:=⟨_,MU zaa⟩;have hRW:Pg.dj W g L:=(hBW.block g hR.lt).trans hR;have cm:=hRW.cell hm;have d7:=h7.cell;have d9:=h9.cell;have f9:=h9.frozen;have hsW:=hBW.size;cases m with
  | none =>
   dsimp only [Option.map] at cm;have hst:Pg.dE L (Pg.aX (pre++[x]))=Pg.dE L (Pg.aX pre):=by rw [hsn];unfold Pg.eS;rw [hm]
   have HST:Hid _:=hst;have HRW:Hid _:=hrow;clear hsn hst hrow hm;gi_wp2;refine ⟨trivial,?_⟩;gi_wp2;exact ⟨Oj _ _,(fun h=>h),⟨h7,_,h9,by rw [HST.out];exact HRW.out,sl,rfl⟩,hBW⟩
  | some q =>
   dsimp only [Option.map] at cm;obtain ⟨acc,hacc⟩:∃ a,Pg.dE L (Pg.aX pre)=a:=⟨_,rfl⟩;have hcon:=wM W sl (Pg.dE L (Pg.aX pre)) q (aD hrow (Ni _)) zaa (fun y hy=>by
    obtain ⟨i,hi⟩:∃ i:Nat,L[i]?=some (some y):=by
     rcases hy with rfl | hy
     ·exact ⟨_,hm⟩
     ·exact Pg.wa hy
    obtain ⟨c,hc⟩:=HBK.out i y hi;exact ⟨c,(hBW.block y (MQ.1 hc).1).trans hc⟩)
   have hst:Pg.dE L (Pg.aX (pre++[x]))=if acc.contains q then acc else acc++[q]:=by rw [hsn,hacc];unfold Pg.eS;rw [hm]
   rw [hacc] at hcon hrow hal;obtain ⟨bq,hbq⟩:∃ b,acc.contains q=b:=⟨_,rfl⟩;rw [hbq] at hcon hst;have HST:Hid _:=hst;clear hsn hst hm hacc hbq;cases bq
   ·have HS1:Hid (Pg.dE L (Pg.aX (pre++[x]))=acc++[q]):=by have:=HST.out;rw [M4 zac] at this;exact this
    clear HST;gi_wp2_with (first
     | (refine ⟨trivial,?_⟩;gi_at_call 225;refine (aH hcon).mono ?_;rintro e w9 ⟨rfl,hw9⟩;rw [hw9];clear hw9 w9)
     | (gi_at_builtin;refine wpListIn_append_own _ rfl _ _ 240 rfl w.heap.size 242 i0 (.pointer none) 1 8 underlying240 hi hz0 hz1 hz2 rfl zac _ _ _ rfl (hrow.alloc _) ⟨W.heap.size,0,none⟩ 1 1 [.pointer (some ⟨q,0,none⟩)] rfl rfl (cell_one_new _ _ _) zao zag zaa zae ?_;intro v' w1 hown' hgrow _;obtain ⟨g',cap',rfl⟩:=ownsRow_succ hown';obtain ⟨hv1,hv2,hr2,hk2,hb2⟩:=h9.appended zac hrow hsW zaa hown' hgrow;have hc1:=hv1.cell;have hf1:=hv1.frozen))
    have hk7:=bm ((h7.alloc _).kept hgrow (h7.not_row zac hrow)) (p:=⟨w.heap.size+1,0,none⟩) zad (.slice g' (acc.length+1) cap');exact ⟨hk2.from _,Pg.KpT.of hb2 hg,⟨hk7,_,hv2,by rw [HS1.out];simpa [Pg.lK] using hr2,⟨some ⟨g',0,none⟩,acc.length+1,cap'⟩,rfl⟩,hBW.trans hb2⟩
   ·have HS1:Hid (Pg.dE L (Pg.aX (pre++[x]))=acc):=by have:=HST.out;rw [M6 rfl] at this;exact this
    clear HST;gi_wp2_with (refine ⟨trivial,?_⟩;gi_at_call 225;refine (aH hcon).mono ?_;rintro e w9 ⟨rfl,hw9⟩;rw [hw9];clear hw9 w9);exact ⟨Oj _ _,(fun h=>h),⟨h7,_,h9,by rw [HS1.out];exact hrow,sl,rfl⟩,hBW⟩
 case done =>
  rintro D ys W hD hys ⟨⟨h7,v,h9,hrow,sl,rfl⟩,hBW⟩ hK;exact zdu
 case stop =>
  exact zfk
end
section
open Go.RowKit
def QAt (w:World) (lo:Nat) (v:Value) (L:List ByteArray):Prop :=
 (v = .slice none 0 0/\L=[])\/∃ g off cap cur,v = .slice (some ⟨g,off,none⟩) L.length cap/\lo<=g/\w.heap[g]?=some (.cells cur 9 (0,0))/\L.length<=cap/\cap<=maxLen/\(0<cap->off+cap<=cur.size)/\∀ j,j<L.length->cur[off+j]?=some (.string (L.getD j ByteArray.empty))
theorem QAt.nil (w:World) (lo:Nat):QAt w lo (.slice none 0 0) [] := .inl ⟨rfl,rfl⟩
theorem QAt.form {w:World} (h:QAt w lo v L):∃ a c,v = .slice a L.length c:=by
 rcases h with ⟨rfl,rfl⟩ | ⟨g,off,cap,cur,rfl,_⟩
 ·exact ⟨none,0,rfl⟩
 ·exact ⟨_,_,rfl⟩
theorem QAt.mo {P:Nat->Prop} {w w':World} (h:QAt w lo v L) (hm:Mo P w w') (hn:∀ g,v.ownBlock=some g->¬ P g):QAt w' lo v L:=by
 rcases h with h | ⟨g,off,cap,cur,rfl,h1,h2,h3⟩
 ·exact .inl h
 ·exact .inr ⟨g,off,cap,cur,rfl,h1,by rw [hm.block g (MQ.1 h2).1 (hn g rfl)];exact h2,h3⟩
theorem QAt.kind {w:World} (h:QAt w lo v L):∀ g,v.ownBlock=some g->∃ c,w.heap[g]?=some (.cells c 9 (0,0)):=by
 intro g hg
 rcases h with ⟨rfl,_⟩ | ⟨g',off,cap,cur,rfl,h1,h2,_⟩
 ·cases hg
 ·cases hg;exact ⟨_,h2⟩
theorem QAt.head {w:World} {x:ByteArray} (h:QAt w lo v (x::L)):∃ g off cap,v = .slice (some ⟨g,off,none⟩) (L.length+1) (cap+1)/\L.length<=cap/\cap+1<=maxLen/\w.cell? ⟨g,off,none⟩=some ↑x /\
  ∀ off',(off'=off+1\/cap=0)->QAt w lo (.slice (some ⟨g,off',none⟩) L.length cap) L:=by
 rcases h with ⟨_,h⟩ | ⟨g,off,cap,cur,rfl,h1,h2,h3,h4,h5,h6⟩
 ·cases h
 ·simp only [List.length_cons] at h3 h6;obtain ⟨cap,rfl⟩:∃ k,cap=k+1:=⟨cap-1,zaa⟩;refine ⟨g,off,cap,rfl,zaa,h4,?_,fun off' ho => .inr ⟨g,off',cap,cur,rfl,h1,h2,zaa,zaa,?_,?_⟩⟩
  ·have:=h6 0 zaa;simp only [Nat.add_zero,List.getD_cons_zero] at this;simp [World.cell?,h2,this]
  ·intro hc;have:=h5 zaa;omega
  ·intro j hj;have:=h6 (j+1) zaa
   rcases ho with rfl | rfl
   ·rw [show off+1+j=off+(j+1) by omega,this];simp
   ·omega
section
variable {P:Program} (w:World)
theorem nB (t ty e:TypeId) (i:TypeInfo) (ht:P.underlying t=some (.slice e)) (hi:P.info? e=some i)
  (g off sLen sCap:Nat) (cur:Array Value) (hg:w.heap[g]?=some (.cells cur e (0,0)))
  (a:Addr) (m c:Nat) (news:List Value) (hl:news.length=m*i.size) (hnews:∀ j u,news[j]?=some u->w.cell? (a.add j)=some u) (h1:∀ u∈news,u.oneCell'=true)
  (hroom:sLen+m<=sCap) (hfit:off+sLen*i.size+news.length<=cur.size) :
  (Builtin.append_ #[t,t] ty #[.slice (some ⟨g,off,none⟩) sLen sCap,.slice (some a) m c]).run P w =
   .ok (.slice (some ⟨g,off,none⟩) (sLen+m) sCap) (w.setRow g (cur.toList.take (off+sLen*i.size)++news++cur.toList.drop (off+sLen*i.size+news.length)).toArray):=by
 have hf:=run_firstCells_some (P:=P) w i.size m a m c news hl hnews;have hst:=run_storeCells_at P g (off+sLen*i.size) e news 0 cur w hg (by simpa using hfit) h1;simp only [Nat.add_zero] at hst;simp [Builtin.append_,run_underlying ht,sizeOf,typeInfo,hi,Builtin.lenOf,hroom,hf,Addr.add_lit,hst]
theorem xK (t ty:TypeId) (i:TypeInfo) (z:Value) (bytes:Nat) (ht:P.underlying t=some (.slice 9)) (hi:P.info? 9=some i) (hz:i.zero=some z)
  (hsize:i.size=1) (hby:i.bytes=bytes) (hzs:z.cells.size=1) (lo:Nat) (v:Value) (L:List ByteArray) (hq:QAt w lo v L)
  (a:Addr) (c:Nat) (x:ByteArray) (hnews:w.cell? a=some ↑x) (hsp:a.spot=none)
  (h63:L.length+1<=maxLen) (hbytes:(L.length+1)*bytes<=140737488355328) (hbase:lo<=w.heap.size) :
  ∃ v' w',(Builtin.append_ #[t,t] ty #[v,.slice (some a) 1 c]).run P w = .ok v' w'/\QAt w' lo v' (L++[x])/\w.grownBy w' v.ownBlock/\(v'.ownBlock=v.ownBlock\/v'.ownBlock=some w.heap.size):=by
 subst hby;have hsmall:L.length+1<=9223372036854775807:=by simp only [maxLen] at h63;omega
 have hn:∀ j u,[Value.string x][j]?=some u->w.cell? (a.add j)=some u:=by
  intro j u hj;cases j with
  | zero=>simp at hj;subst hj;obtain ⟨b,o,s⟩:=a;subst hsp;simpa [Addr.add_lit] using hnews
  | succ j=>simp at hj
 have hl:[Value.string x].length=1*i.size:=by rw [hsize];rfl
 have h1:∀ u∈[Value.string x],u.oneCell'=true:=by intro u hu;simp at hu;subst hu;rfl
 have grown:∀ (old:Nat),∀ (row:Option Nat),
   QAt (w.drew.alloc (.cells ((L.map Value.string).toArray++[Value.string x].toArray++Builtin.zeroCells z.cells (grownCap w (L.length+1) old 9-(L.length+1))) 9)) lo
    (.slice w (L.length+1) (grownCap w (L.length+1) old 9)) (L++[x]) /\
   w.grownBy (w.drew.alloc (.cells ((L.map Value.string).toArray++[Value.string x].toArray++Builtin.zeroCells z.cells (grownCap w (L.length+1) old 9-(L.length+1))) 9)) row:=by
  intro old row;have hge:=grownCap_ge w (L.length+1) old 9;have hcm:grownCap w (L.length+1) old 9<=maxLen:=grownCap_le_maxLen w (L.length+1) old 9 h63;refine ⟨.inr ⟨w.heap.size,0,_,_,zad,hbase,Na w.drew _,by simpa using hge,hcm,?_,?_⟩,⟨rfl,rfl,rfl,zad,fun k hk _=>N9 w.drew _ k hk⟩⟩
  ·intro _;simp only [Array.size_append,List.size_toArray,List.length_map,List.length_cons,List.length_nil,size_zeroCells,hzs];omega
  ·intro j hj;simp only [List.length_append,List.length_cons,List.length_nil] at hj;rw [Pd,RE zae];by_cases h:j<L.length
   ·rw [RE zaC];simp [List.getD,List.getElem?_append_left h,h]
   ·obtain rfl:j=L.length:=zaa;rw [Array.getElem?_append_right zad];simp [List.getD]
 rcases hq with ⟨rfl,rfl⟩ | ⟨g,off,cap,cur,rfl,hbg,hg,hnc,hcm,hcs,hcur⟩
 ·have hr:=run_append_nil (P:=P) w t ty 9 i z ht hi hz a 1 c [x] hl hn zaa zaa (by have hb:=hbytes;simp at hb;omega);have hgr:=grown 0 (Value.ownBlock (.slice none 0 0));simp only [List.length_nil,Nat.zero_add,List.map_nil,List.nil_append,Array.empty_append] at hgr ⊢;exact ⟨_,_,hr,hgr.1,hgr.2,.inr rfl⟩
 ·by_cases hroom:L.length+1<=cap
  ·have hcs:=hcs zaa;have hr:=nB (P:=P) w t ty 9 i ht hi g off L.length cap cur hg a 1 c [x] hl hn h1 hroom (by rw [hsize];simp;omega);rw [hsize,P9] at hr;refine ⟨_,_,hr,.inr ⟨g,off,cap,_,zad,hbg,setRow_heap w g cur _ _ _ hg,by simpa using hroom,hcm,?_,?_⟩,⟨rfl,rfl,rfl,zad,fun k _ hk=>setRow_other w g k _ (fun e=>hk (by simp [Value.ownBlock,e]))⟩,.inl rfl⟩
   ·intro _;simp only [List.size_toArray,List.length_append,List.length_take,List.length_drop,Array.length_toList,List.length_cons,List.length_nil];omega
   ·intro j hj;simp only [List.length_append,List.length_cons,List.length_nil] at hj;rw [Ps,OV];by_cases h:j<L.length
    ·rw [N7 zae,Oc zaa,Ok,hcur j h];simp [List.getD,List.getElem?_append_left h]
    ·obtain rfl:j=L.length:=zaa;have hmin:(cur.toList.take (off+L.length)).length=off+L.length:=zae;rw [Oe (by rw [hmin];omega),hmin,Qk];simp [List.getD]
  ·have holds:∀ j u,(L.map Value.string)[j]?=some u->w.cell? ((⟨g,off,none⟩:Addr).add j)=some u:=by
    intro j u hu;have hj:j<L.length:=by simpa using (MZ.1 hu).1
    have:=hcur j hj;simp [List.getElem?_eq_getElem hj] at hu;subst hu;simp [Addr.add_lit,World.cell?,hg,this,List.getD,hj]
   have hr:=run_append_grow (P:=P) w t ty 9 i z ht hi hz ⟨g,off,none⟩ L.length cap (L.map Value.string) (by simp [hsize]) holds a 1 c [x] hl hn zaa zaa (growslice_fits zaa hbytes);have hgr:=grown cap (Value.ownBlock (.slice (some ⟨g,off,none⟩) L.length cap));exact ⟨_,_,hr,hgr.1,hgr.2,.inr rfl⟩
theorem qA {rest:List Oper} {o:Oper} {a:Act} (hgd:o.guard=none) (s x:Operand) (t:TypeId)
  (ho:o.op = .call { callee := .builtin .append,args:=#[s,x],argTypes:=#[t,t] })
  (i:TypeInfo) (z:Value) (bytes:Nat) (ht:P.underlying t=some (.slice 9)) (hi:P.info? 9=some i) (hz:i.zero=some z)
  (hsize:i.size=1) (hby:i.bytes=bytes) (hzs:z.cells.size=1) (lo:Nat) (v:Value) (L:List ByteArray) (hs:a.eval s=v) (hq:QAt w lo v L)
  (ad:Addr) (c:Nat) (y:ByteArray) (hx:a.eval x = .slice (some ad) 1 c) (hnews:w.cell? ad=some ↑y) (hsp:ad.spot=none)
  (h63:L.length+1<=maxLen) (hbytes:(L.length+1)*bytes<=140737488355328) (hbase:lo<=w.heap.size)
  (h:∀ v' w',QAt w' lo v' (L++[y])->w.grownBy w' v.ownBlock->(v'.ownBlock=v.ownBlock\/v'.ownBlock=some w.heap.size)->wpList P ops Q rest (a.put o.dst v') w'):wpList P ops Q (o::rest) a w:=by
 refine wpList_plain hgd fun K hK => ?_;obtain ⟨v',w',hr,h2,h3,h4⟩:=xK (P:=P) w t o.type i z bytes ht hi hz hsize hby hzs lo v L hq ad c y hnews hsp h63 hbytes hbase;unfold Oper.wp execOp;simp only [ho,resolve,invoke,builtin,Sem.run_bind,Sem.run_pure,Result.andThen_ok,List.map_toArray,List.map_cons,List.map_nil,hs,hx,hr];exact hK _ _ (h v' w' h2 h3 h4)
end
end
section
open Go.RowKit Go.Proofs Go.Shelf
namespace Pg
structure MSt where
 act:Nat
 kept:Nat->Nat
 q:List ByteArray
 now:Nat
 wh:Nat->Value
 fin:Value
def eR (pb:Nat) (qv:Value) (s:MSt) (i:Nat):Value :=
 if i=0 then .pointer (some ⟨pb,0,none⟩) else if i=1 then .int .u32 s.act else if i<26 then .int .u32 (s.kept (i-2)) else if i=26 then qv else if i=27 then .int .u64 s.now else if i<419 then s.wh i else s.fin
structure Lo where
 n:Nat
 s:Nat
 ok:Nat->Prop
 le:∀ k,ok k->n<=k
 new:∀ k,s<=k->ok k
instance:Coe Lo Nat:=⟨Lo.n⟩
abbrev Lo.all (n:Nat):Lo:=⟨n,n,fun k=>n<=k,fun _ h=>h,fun _ h=>h⟩
structure au (W:World) (lo:Pg.Lo) (mb pb:Nat) (qv:Value) (s:MSt):Prop where
 blk:∃ arr:Array Value,W.heap[mb]?=some (.cells arr 88 (0,0))/\arr.size=420/\∀ i,i<420->arr[i]?=some (eR pb qv s i)
 que:QAt W lo qv s.q
 lo':lo.ok mb
 qok:∀ g,qv.ownBlock=some g->lo.ok g
 sz:lo.s<=W.heap.size
def Idl (W:World) (mb:Nat):Prop:=W.cell? ⟨mb,26,none⟩=some (.slice none 0 0)
theorem Idl.bel (h:Idl W mb) (hm:mb<W.heap.size) (hb:Below W W W'):Idl W' mb:=(hb.cell (p:=⟨mb,26,none⟩) hm).trans h
theorem au.lt {lo:Pg.Lo} {s:MSt} (h:au W lo mb pb qv s):mb<W.heap.size:=by
 obtain ⟨arr,h1,_⟩:=h.blk;exact (MQ.1 h1).1
theorem au.cell {lo:Pg.Lo} {s:MSt} (h:au W lo mb pb qv s) (i:Nat) (hi:i<420):W.cell? ⟨mb,i,none⟩=some (eR pb qv s i):=by
 obtain ⟨arr,h1,h2,h3⟩:=h.blk;rw [M0 W _ _ _ _ _ h1];exact h3 i hi
theorem au.frozen {lo:Pg.Lo} {s:MSt} (h:au W lo mb pb qv s) (i:Nat):W.frozen? ⟨mb,i,none⟩=false:=by
 obtain ⟨arr,h1,h2,h3⟩:=h.blk;simp [World.frozen?,h1]
theorem au.qne {lo:Pg.Lo} {s:MSt} (h:au W lo mb pb qv s):qv.ownBlock≠some mb:=fun e=>by
 obtain ⟨arr,h1,_⟩:=h.blk;obtain ⟨c,hc⟩:=h.que.kind mb e;rw [h1] at hc;simp at hc
theorem au.idl {lo lo':Pg.Lo} {s s':MSt} (h:au W lo mb pb qv s) (k:au W' lo' mb pb qv s') (hi:Idl W mb):Idl W' mb:=by
 have h1:W.cell? ⟨mb,26,none⟩=some qv:=h.cell 26 zac;have h2:W'.cell? ⟨mb,26,none⟩=some qv:=k.cell 26 zac;exact h2.trans (h1.symm.trans hi)
theorem au.mo {P:Nat->Prop} {lo:Pg.Lo} {s:MSt} (h:au W lo mb pb qv s) (hm:Mo P W W') (h1:¬ P mb) (h2:∀ g,qv.ownBlock=some g->¬ P g):au W' lo mb pb qv s where
 blk:=by
  obtain ⟨arr,a,b,c⟩:=h.blk;exact ⟨arr,(hm.block mb (MQ.1 a).1 h1).trans a,b,c⟩
 que:=h.que.mo hm h2
 lo':=h.lo'
 qok:=h.qok
 sz:=MX h.sz hm.size
theorem au.below {lo:Pg.Lo} {s:MSt} (h:au W lo mb pb qv s) (hb:Below W W W'):au W' lo mb pb qv s:=h.mo (P:=fun _=>False) (ay hb) (fun h=>h) (fun _ _ h=>h)
theorem au.set {lo:Pg.Lo} {s:MSt} (h:au W lo mb pb qv s) (i:Nat) (v:Value) (s':MSt) (hi:i<420) (hq:s'.q=s.q) (hc:∀ j,j<420->eR pb qv s' j=if j=i then v else eR pb qv s j):au (W.setCell ⟨mb,i,none⟩ v) lo mb pb qv s' where
 blk:=by
  obtain ⟨arr,a,b,c⟩:=h.blk;refine ⟨arr.setIfInBounds i v,Nn W mb i _ _ v a,by simp [b],fun j hj => ?_⟩;rw [hc j hj];by_cases e:j=i
  ·subst e;rw [M6 rfl,OK zaa]
  ·rw [M4 e,OA (fun x=>e x.symm)];exact c j hj
 que:=by
  rw [hq];exact h.que.mo ((Mo.refl (· = mb) W).set ⟨mb,i,none⟩ v rfl) (fun g hg e=>h.qne (e ▸ hg))
 lo':=h.lo'
 qok:=h.qok
 sz:=MX h.sz ((Mo.refl (· = mb) W).set ⟨mb,i,none⟩ v rfl).size
end Pg
theorem wV:(Tryz.prog.info? 9).map (fun i=>(i.zero,i.size,i.bytes))=some (some (.string ⟨#[]⟩),1,16):=zab
theorem BI (w:World) (lo:Pg.Lo) (mb pb:Nat) (qv:Value) (s:Pg.MSt) (m lv:Nat) (h:Pg.au w lo mb pb qv s) (ha:s.act<4294967296) (hl:lv<4294967296) (hm:w.cell? ⟨m,1,none⟩=some (.int .u32 lv)) :
  () 148 #[mb,m] w fun e w'=>e = .returned (.int .u32 ((lv&&&s.act:Nat):Int))/\Below w w w':=by
 have h1:w.cell? ⟨mb,1,none⟩=some (.int .u32 s.act):=h.cell 1 zac;have hand:=Qg _ _ hl ha;clear h;go_enter func148,ntmps148;go_wp2
 go_quiet (fail)
 go_wp2;go_ret;exact ⟨rfl,Pa (MY _ _) _⟩
namespace Pg
def cJ (t:TypeId):Prop:=t=88\/t=9\/t=278
def Mq (t:TypeId):Prop:=t=88\/t=9
structure RfE (E:TypeId->Prop) (lo:Pg.Lo) (w w':World):Prop where
 bel:Below lo w w'
 kd:Kd E w w'
 oth:KeepsOthers w w'
 own:∀ k,k<w.heap.size->¬ lo.ok k->w'.heap[k]?=w.heap[k]?
abbrev Rf:Lo->World->World->Prop:=RfE cJ
abbrev Rq:Lo->World->World->Prop:=RfE Mq
def dW (t:TypeId):Prop:=t=88\/t=278
abbrev Rw:Lo->World->World->Prop:=RfE dW
def J0 (t:TypeId):Prop:=t=88
abbrev Rm:Lo->World->World->Prop:=RfE J0
theorem RfE.refl (lo:Pg.Lo) (w:World):RfE E lo w w:=⟨MY _ _,bD (MY _ _),KeepsOthers.refl _,fun _ _ _=>rfl⟩
theorem RfE.trans {lo:Pg.Lo} {c:World} (h:RfE E lo a b) (k:RfE E lo b c):RfE E lo a c:=⟨h.bel.trans k.bel,h.kd.trans k.kd,h.oth.trans k.oth,fun i hi hn=>(k.own i (Nq hi h.bel.size) hn).trans (h.own i hi hn)⟩
theorem RfE.of {lo:Pg.Lo} (h:Below a a b) (hl:lo<=a.heap.size):RfE E lo a b:=⟨h.mono hl,bD h,ed h,fun i hi _=>h.block i hi⟩
theorem RfE.mo {lo:Pg.Lo} {P:Nat->Prop} (h:Mo P a b) (hl:∀ k,P k->lo.ok k/\∃ c t f,a.heap[k]?=some (.cells c t f)/\E t) (hs:lo<=a.heap.size):RfE E lo a b where
 bel:=⟨h.os,h.tape,h.output,h.size,fun k hk=>h.block k zaa (fun hp=>by have:=lo.le _ (hl k hp).1;omega)⟩
 kd:=fX h (fun k c t f hp hc=>by
  obtain ⟨_,c',t',f',h1,h2⟩:=hl k hp;rw [hc] at h1;cases h1
  exact h2)
 oth:=⟨h.size,fun k o hk ho=>h.block k (MQ.1 hk).1 (fun hp=>by
  obtain ⟨_,c',t',f',h1,h2⟩:=hl k hp;rw [hk] at h1;cases h1
  cases ho) |>.trans hk⟩
 own:=fun k hk hn=>h.block k hk (fun hp=>hn (hl k hp).1)
theorem RfE.wide {F:TypeId->Prop} {lo:Pg.Lo} (h:RfE E lo a b) (hE:∀ t,E t->F t):RfE F lo a b:=⟨h.bel,h.kd.mono hE,h.oth,h.own⟩
theorem vJ {lo:Pg.Lo} (h:Rw lo a b):Rf lo a b:=h.wide fun _ h=>h.elim .inl (fun h => .inr (.inr h))
theorem H7 {lo:Pg.Lo} (h:Rm lo a b):Rw lo a b:=h.wide fun _ h => .inl h
theorem vI {lo:Pg.Lo} (h:Rq lo a b):Rf lo a b:=h.wide fun _ h=>h.elim .inl (fun h => .inr (.inl h))
end Pg
theorem pH (w:World) (lo:Pg.Lo) (mb pb:Nat) (qv:Value) (s:Pg.MSt) (ev:ByteArray) (h:Pg.au w lo mb pb qv s) (hlo:lo<=w.heap.size) (hql:s.q.length<=4398046511104) :
  () 111 #[mb,ev] w fun e w'=>e = .returned (.tuple #[])/\∃ qv',Pg.au w' lo mb pb qv' { s with q:=s.q++[ev] }/\Pg.Rq lo w w':=by
 obtain ⟨i0,hi,hz0,hz1,hz2⟩:=OB wV;have h26:w.cell? ⟨mb,26,none⟩=some qv:=h.cell 26 zac;have hba:Below w w (w.alloc (.cells #[ev] 9)):=(MY _ _).alloc (MR _) _;have hnew:(w.alloc (.cells #[ev] 9)).cell? w=some ↑ev:=M0 _ _ 0 _ _ (0,0) (Na w _);have hMa:=h.below hba;obtain ⟨qa,qc,rfl⟩:=h.que.form;have hfin:∀ v5 w5,QAt w5 lo v5 (s.q++[ev])->(w.alloc (.cells #[ev] 9)).grownBy w5 (Value.ownBlock (.slice qa s.q.length qc))->(v5.ownBlock=Value.ownBlock (.slice qa s.q.length qc)\/v5.ownBlock=some (w.alloc (.cells #[ev] 9)).heap.size)->(∃ c,w5.heap[mb]?=some (.cells c 88 (0,0))/\w5.cell? ⟨mb,26,none⟩=some (.slice qa s.q.length qc)/\w5.frozen? ⟨mb,26,none⟩=false)/\Pg.au (w5.setCell ⟨mb,26,none⟩ v5) lo mb pb v5 { s with q:=s.q++[ev] }/\Pg.Rq lo w (w5.setCell ⟨mb,26,none⟩ v5):=fun v5 w5 hq5 hg5 hat5=>by
  obtain ⟨arr,a1,a2,a3⟩:=hMa.blk;have hmbl:=hMa.lt;have a5:w5.heap[mb]?=some (.cells arr 88 (0,0)):=(hg5.block mb hmbl (fun e=>hMa.qne e.symm)).trans a1;refine ⟨⟨arr,a5,by rw [M0 _ _ _ _ _ _ a5];exact a3 26 zac,by simp [World.frozen?,a5]⟩,⟨⟨arr.setIfInBounds 26 v5,Nn w5 mb 26 _ _ v5 a5,by simp [a2],fun j hj => ?_⟩,hq5.mo ((Mo.refl (· = mb) w5).set ⟨mb,26,none⟩ v5 rfl) (fun g hg e => ?_),h.lo',fun g hg => ?_,MX h.sz (MX hba.size (MX hg5.size zad))⟩,?_⟩
  ·by_cases e:j=26
   ·subst e;rw [OK zaa];rfl
   ·rw [OA (fun x=>e x.symm),a3 j hj];simp [Pg.eR,e]
  ·obtain ⟨c,hc⟩:=hq5.kind g hg;rw [show g=mb from e,a5] at hc;simp at hc
  ·rcases hat5 with e | e
   ·exact h.qok g (e ▸ hg)
   ·rw [e] at hg;cases hg
    exact lo.new _ (MX h.sz hba.size)
  ·refine (Pg.RfE.of hba hlo).trans ((Pg.RfE.mo (P:=fun k=>Value.ownBlock (.slice qa s.q.length qc)=some k) ⟨hg5.os,hg5.tape,hg5.output,hg5.size,fun k hk hn=>hg5.block k hk (fun e=>hn e.symm)⟩ (fun k hk => ?_) (MX hlo hba.size)).trans (Pg.RfE.mo (P:=(· = mb)) ((Mo.refl (· = mb) w5).set ⟨mb,26,none⟩ v5 rfl) (fun k hk => ?_) (MX hlo (MX hba.size hg5.size))))
   ·obtain ⟨c,hc⟩:=hMa.que.kind k hk;exact ⟨hMa.qok k hk,c,_,_,hc,.inr rfl⟩
   ·subst hk;exact ⟨h.lo',arr,_,_,a5,.inl rfl⟩
 have HF:Hid _:=hfin;have HQ:Hid (QAt (w.alloc (.cells #[ev] 9)) lo (.slice qa s.q.length qc) s.q):=hMa.que;clear hfin hMa h hba;go_enter func111,ntmps111;go_wp2_with (show wpList _ _ _ (Oper.mk (some 11) _ _ _ _ _::_) _ _;refine qA _ rfl _ _ 22 rfl i0 _ 16 underlying22 hi hz0 hz1 hz2 rfl lo _ _ rfl HQ.out ⟨w,0,none⟩ 1 ev rfl hnew rfl zag zaa zae ?_;intro v5 w5 hq5 hg5 hat5;obtain ⟨⟨c5,b5,d5,f5⟩,hM5,hR5⟩:=HF.out v5 w5 hq5 hg5 hat5;obtain ⟨a6,c6,rfl⟩:=hq5.form);go_end0;rw [Nj,OZ] at hM5 hR5;exact ⟨rfl,_,hM5,hR5⟩
namespace Pg
def eM (e:Nat):Value:=if e=0 then .nilIface else .iface 29 (.int .i64 e)
end Pg
theorem jq (w:World) (lo:Pg.Lo) (mb pb:Nat) (qv:Value) (s:Pg.MSt) (e0:Nat) (h:Pg.au w lo mb pb qv s) (he:s.fin=Pg.eM e0) (he0:e0=0\/e0=5\/e0=6) :
  () 60 #[mb] w fun e w'=>e = .returned (if e0=6 then Pg.eM 6 else .nilIface)/\w'=w:=by
 have h5:w.cell? ⟨mb,419,none⟩=some s.fin:=h.cell 419 zac;rw [he] at h5;clear h he;have q0:∀ w:World,(binOp .eql 60 .nilIface (.iface 29 (.int .i64 6))).run prog w = .ok (.bool false) w:=fun w=>zab;have q5:∀ w:World,(binOp .eql 60 (.iface 29 (.int .i64 5)) (.iface 29 (.int .i64 6))).run prog w = .ok (.bool false) w:=fun w=>zab;have q6:∀ w:World,(binOp .eql 60 (.iface 29 (.int .i64 6)) (.iface 29 (.int .i64 6))).run prog w = .ok (.bool true) w:=fun w=>zab
 rcases he0 with rfl | rfl | rfl
 all_goals
  unfold Pg.eM at *;simp only [Nat.reduceEqDiff,↓reduceIte] at h5 ⊢;go_enter func60,ntmps60;go_wp2;go_ret;exact ⟨rfl,rfl⟩
theorem De (w:World) (lo:Pg.Lo) (mb pb:Nat) (qv:Value) (s:Pg.MSt) (h:Pg.au w lo mb pb qv s) :
  () 19 #[mb] w fun e w'=>e = .returned (.int .u64 s.now)/\w'=w:=by
 have h27:w.cell? ⟨mb,27,none⟩=some (.int .u64 s.now):=h.cell 27 zac;clear h;have hw:() 28 #[.pointer (some ⟨mb,27,none⟩)] w fun e w'=>e = .returned (.int .u64 s.now)/\w'=w:=by
  go_enter func28,ntmps28;exact zfp
 go_enter func19,ntmps19;go_wp2_with (go_at_call 28;refine hw.mono ?_;rintro e w9 ⟨rfl,hw9⟩;rw [hw9];clear hw9 w9);go_ret;exact ⟨rfl,rfl⟩
namespace Pg
def upd {α:Type} (f:Nat->α) (i:Nat) (v:α):Nat->α:=fun j=>if j=i then v else f j
theorem aC {α:Type} (f:Nat->α) (i:Nat) (v:α):upd f i v i=v:=M6 rfl
theorem aG {α:Type} (f:Nat->α) {j:Nat} (v:α) (h:j≠i):upd f i v j=f j:=M4 h
def isR (r:Nat):Prop:=(r<390/\r % 65≠64)\/r=390
theorem isR.lt (h:isR r):r<391:=by rcases h with h | h <;> omega
structure cX (W:World) (lo:Pg.Lo) (wh:Nat->Value) (R:Nat->List Nd):Prop where
 ring:∀ r,isR r->wh (28+r)=aK (R r)
 nds:∀ r,isR r->cA W (R r)
 low:∀ r,isR r->∀ x∈R r,lo.ok x.1
 dis:∀ r q,isR r->isR q->r≠q->∀ x∈R r,∀ y∈R q,x.1≠y.1
 nod:∀ r,isR r->((R r).map (·.1)).Nodup
def jX (wh:Nat->Value) (R:Nat->List Nd):Prop:=∀ k,k<6->∃ h:Nat,h<18446744073709551616/\wh (28+(k*65+64)) = .int .u64 h/\∀ s,s<64->h.testBit s = !(R (k*65+s)).isEmpty
theorem cX.kd {lo:Pg.Lo} (h:cX W lo wh R) (hk:Kd E W W') (hE:¬ E 278):cX W' lo wh R :=
 ⟨h.ring,fun r hr i x hx=>(hk.ao _ _ _ _ (h.nds r hr i x hx) hE).trans (h.nds r hr i x hx),h.low,h.dis,h.nod⟩
theorem cX.below {lo:Pg.Lo} (h:cX W lo wh R) (hb:Below W W W'):cX W' lo wh R:=h.kd (bD (E:=fun _=>False) hb) (fun h=>h)
theorem au.Dm {lo:Pg.Lo} {s:MSt} (h:au W lo mb pb qv s) (i:Nat) (v:Value) (h1:28<=i) (h2:i<419):au (W.setCell ⟨mb,i,none⟩ v) lo mb pb qv { s with wh:=upd s.wh i v } :=
 h.set i v _ zaa rfl fun j hj=>by
  by_cases e:j=i
  ·subst e;rw [M6 rfl];unfold eR;rw [M4 zaa,M4 zaa,M4 zaa,M4 zaa,M4 zaa,M6 h2];exact aC _ _ _
  ·rw [M4 e];unfold eR;dsimp only;rw [aG _ _ e]
theorem au.typ {lo:Pg.Lo} {s:MSt} (h:au W lo mb pb qv s) {n:Nat} {c:Array Value} {f:Nat×Nat} (hn:W.heap[n]?=some (.cells c 278 f)):mb≠n:=fun e=>by
 obtain ⟨arr,a1,_⟩:=h.blk;rw [e,hn] at a1;simp at a1
theorem cX.push {lo:Pg.Lo} {s:MSt} {n:Nat} {x:Tn} (hM:au W lo mb pb qv s) (h:cX W lo s.wh R) (hr:isR r) (hls:lo<=W.heap.size) (hn:W.heap[n]?=some (.cells (et x v) 278 (0,0))) (hnl:∀ q,isR q->∀ y∈R q,y.1≠n) (hlo:lo.ok n) :
  au (ef W ⟨mb,28+r,none⟩ (R r) n) lo mb pb qv { s with wh:=upd s.wh (28+r) (ndP n) }/\cX (ef W ⟨mb,28+r,none⟩ (R r) n) lo (upd s.wh (28+r) (ndP n)) (upd R r (R r++[(n,x)]))/\Rw lo W (ef W ⟨mb,28+r,none⟩ (R r) n):=by
 have hty:∀ q,isR q->∀ y∈R q,mb≠y.1:=fun q hq y hy=>by
  exact zeP
 have hnr:n ∉ (R r).map (·.1):=fun e=>by
  obtain ⟨y,hy,e⟩:=NI.1 e;exact hnl r hr y hy e
 have hmr:mb ∉ (R r).map (·.1):=fun e=>by
  obtain ⟨y,hy,e⟩:=NI.1 e;exact hty r hr y hy e.symm
 obtain ⟨p1,p2⟩:=(h.nds r hr).push (p:=⟨mb,28+r,none⟩) (h.nod r hr) hn hnr (hM.typ hn) hmr;have hrl:=hr.lt;have hzr:∀ z,(R r).getLast?=some z->z∈R r:=fun z hz=>O2 hz;have hnode:∀ q,isR q->∀ y∈R q,∃ c,W.heap[y.1]?=some (.cells c 278 (0,0)):=fun q hq y hy=>by
  exact zeQ
 refine ⟨?_,⟨fun q hq => ?_,fun q hq => ?_,fun q hq y hy => ?_,fun q q' hq hq' hne y hy z hz => ?_,fun q hq => ?_⟩,RfE.mo p2 (fun k hk => ?_) hls⟩
 ·have hq:∀ g,qv.ownBlock=some g->∀ c,W.heap[g]?≠some (.cells c 278 (0,0)):=fun g hg c e=>by
   obtain ⟨c',hc'⟩:=hM.que.kind g hg;rw [e] at hc';simp at hc'
  unfold ef;cases hz:(R r).getLast? with
  | none =>
   exact (hM.mo (P:=(· = n)) ((Mo.refl _ W).set ⟨n,3,none⟩ _ rfl) (fun e=>hM.typ hn e) (fun g hg e=>hq g hg _ (e ▸ hn))).Dm (28+r) _ zaa zaa
  | some z =>
   obtain ⟨cz,hcz⟩:=hnode r hr z (hzr z hz);exact (hM.mo (P:=fun k=>k=n\/k=z.1) (((Mo.refl _ W).set ⟨n,3,none⟩ _ (.inl rfl)).set ⟨z.1,3,none⟩ _ (.inr rfl)) (fun e=>e.elim (fun e=>hM.typ hn e) (fun e=>hM.typ hcz e)) (fun g hg e=>e.elim (fun e=>hq g hg _ (e ▸ hn)) (fun e=>hq g hg _ (e ▸ hcz)))).Dm (28+r) _ zaa zaa
 ·by_cases e:q=r
  ·subst e;rw [aC,aC,nA]
  ·rw [aG _ _ e,aG _ _ zaa];exact h.ring q hq
 ·by_cases e:q=r
  ·subst e;rw [aC];exact p1
  ·rw [aG _ _ e];refine (h.nds q hq).mo p2 (fun y hy hk => ?_)
   rcases hk with hk | hk | ⟨z,hz,hk⟩
   ·exact hty q hq y hy hk.symm
   ·exact hnl q hq y hy hk
   ·exact h.dis q r hq hr e y hy z (hzr z hz) hk
 ·by_cases e:q=r
  ·subst e;rw [aC] at hy
   rcases Nr.1 hy with hy | hy
   ·exact h.low q hq y hy
   ·rw [M8.1 hy];exact hlo
  ·rw [aG _ _ e] at hy;exact h.low q hq y hy
 ·by_cases e:q=r
  ·subst e;rw [aC] at hy;rw [aG _ _ (Ne.symm hne)] at hz
   rcases Nr.1 hy with hy | hy
   ·exact zfi
   ·rw [M8.1 hy];exact fun e=>hnl q' hq' z hz e.symm
  ·rw [aG _ _ e] at hy;by_cases e':q'=r
   ·subst e';rw [aC] at hz
    rcases Nr.1 hz with hz | hz
    ·exact zfi
    ·rw [M8.1 hz];exact fun e=>hnl q hq y hy e
   ·rw [aG _ _ e'] at hz;exact zfi
 ·by_cases e:q=r
  ·subst e;rw [aC,NW,List.nodup_append];refine ⟨h.nod q hq,zad,fun a ha b hb => ?_⟩;simp only [List.map_cons,List.map_nil,List.mem_singleton] at hb;subst hb;exact fun e=>hnr (e ▸ ha)
  ·rw [aG _ _ e];exact h.nod q hq
 ·rcases hk with hk | hk | ⟨z,hz,hk⟩
  ·obtain ⟨arr,a1,_⟩:=hM.blk;exact ze9
  ·subst hk;exact ⟨hlo,_,_,_,hn,.inr rfl⟩
  ·obtain ⟨cz,hcz⟩:=hnode r hr z (hzr z hz);subst hk;exact ⟨h.low r hr z (hzr z hz),_,_,_,hcz,.inr rfl⟩
theorem cX.mark {lo:Pg.Lo} {s:MSt} (hM:au W lo mb pb qv s) (h:cX W lo s.wh R) (k:Nat) (hk:k<6) (v:Value) (hls:lo<=W.heap.size) :
  au (W.drew.setCell ⟨mb,28+k*65+64,none⟩ v) lo mb pb qv { s with wh:=upd s.wh (28+(k*65+64)) v }/\cX (W.drew.setCell ⟨mb,28+k*65+64,none⟩ v) lo (upd s.wh (28+(k*65+64)) v) R/\Rw lo W (W.drew.setCell ⟨mb,28+k*65+64,none⟩ v):=by
 have hd:=(MY W W).drew;have hMd:=hM.below hd;have hm:Mo (· = mb) W.drew (W.drew.setCell ⟨mb,28+k*65+64,none⟩ v):=(Mo.refl _ _).set _ _ rfl;have hR:Rm lo W.drew (W.drew.setCell ⟨mb,28+k*65+64,none⟩ v):=RfE.mo hm (fun j hj=>by
  obtain ⟨arr,a1,_⟩:=hM.blk;subst hj;exact ⟨hM.lo',arr,_,_,a1,rfl⟩) hls
 refine ⟨hMd.Dm (28+(k*65+64)) v zaa zaa,?_,(RfE.of hd hls).trans (H7 hR)⟩;have h2:=(h.below hd).kd hR.kd (by unfold J0;decide);refine ⟨fun r hr => ?_,h2.nds,h2.low,h2.dis,h2.nod⟩;rw [aG _ _ ?_]
 ·exact h.ring r hr
 ·rcases hr with ⟨a,b⟩ | rfl <;> omega
end Pg
end
section
open Go
def Wd (F:Fence):Prop:=F=Fence.wide\/∃ k,F=Fence.wide.inRound k
theorem mB:Wd Fence.wide := .inl rfl
theorem dF (k:Nat):Wd (Fence.wide.inRound k) := .inr ⟨k,rfl⟩
theorem Wd.depth (h:Wd F) (x:Prop):F.depth.isSome=true->x:=by
 rcases h with rfl | ⟨k,rfl⟩ <;> exact fun h=>zat
theorem Wd.fn (h:Wd F) (f:FuncId):F.fn f:=by
 rcases h with rfl | ⟨k,rfl⟩ <;> exact trivial
theorem Wd.rows (hF:Wd F) {n:Nat} {P:Program} {row:String} {w:World} {R:Value->World->Prop} (h:Rows P row args w R):RowsIn F n P row args w R:=by
 rcases hF with rfl | ⟨k,rfl⟩
 ·exact fun c cs _=>let ⟨v,w',r,s⟩:=h c cs;⟨v,w',r,stepsIn_wide.2 s⟩
 ·exact oH h
theorem Wd.calls (hF:Wd F) {n:Nat} {P:Program} {w:World} {R:Ending->World->Prop} (h:Calls P f args w R):CallsIn F n P f args w R:=by
 rcases hF with rfl | ⟨k,rfl⟩
 ·exact Nz.2 h
 ·exact aH h
theorem Dz {F:Fence} (hF:Wd F) {n:Nat} {P:Program} {o:Oper} {a:Act} {N:Act->World->Prop} {Q:Exit->Act->World->Prop}:∀ r:Result Next,o.upon P a N Q r->o.uponIn F n P a N Q r:=by
 intro r h;cases r with
 | ok v w' =>
  cases v <;> first
   | exact h
   | exact ⟨hF.depth _,hF.rows (Rows.mono h fun _ _ hx=>hx)⟩
   | exact h.elim
   | skip
  exact ⟨hF.depth _,hF.calls (M7 h fun e w'' hx=>by
   cases e
   ·exact hx
   ·exact hx
   ·exact hx)⟩
 | halt x w'=>cases x <;> first | exact h | exact h.elim
theorem B2 (hF:Wd F) {n:Nat} {P:Program} {a:Act} {w:World} {K:Act->Prop} {K':Act->World->Prop} (hnd:kA ops=true) (h:∀ a,K a->K' a w) (hh:stOp P ops w i K a):wpOpIn F n P ops Q i K' a w:=by
 unfold stOp at hh;unfold wpOpIn;split
 ·rename_i ho;simp only [ho] at hh;exact h _ hh
 ·rename_i o ho;simp only [ho] at hh;split
  ·rename_i hw;rw [M6 hw] at hh;refine ⟨fun _ _=>hF.fn _,?_⟩;rw [Oper.semAt_eq _ _ _ (fun c=>oh hnd ho c)];exact Dz hF _ (Oper.wp_of_still h hh)
  ·rename_i hw;rw [M4 hw] at hh;exact ⟨fun _ _=>hF.fn _,h _ hh⟩
theorem mG {F:Fence} (hF:Wd F) {n m g:Nat} {P:Program} {md:Region.Mode} {ops:Array Oper} {Q:Exit->Act->World->Prop} {w:World} {L:Array Bool->Act->Prop} (hnd:kA ops=true) (hL:∀ listed a,L listed a->wpAnyIn F n P md ops Q g listed a w) :
  ∀ (f:Nat) (listed:Array Bool) (a:Act),wpAnyL P md ops w m L f listed a->wpAnyIn F n P md ops Q (f+g) listed a w
 | 0,listed,a,h=>by rw [Pd];exact hL _ _ h
 | f+1,listed,a,h=>by
  rw [show f+1+g=(f+g)+1 by omega];exact ⟨fun h0=>absurd h0 h.1,fun i hi=>B2 hF hnd (fun a' h'=>mG hF hnd hL f _ a' h') (h.2 i hi).2⟩
theorem nG {F:Fence} {n:Nat} {P:Program} {md:Region.Mode} {ops:Array Oper} {Q:Exit->Act->World->Prop}:∀ (l:List Oper) (k:Nat) (listed:Array Bool) (a:Act) (w:World),(∀ j,l[j]?=ops[k+j]?)->Region.seqB md ops l.length k listed=true->wpListIn F n P ops Q l a w->wpAnyIn F n P md ops Q l.length listed a w
 | [],_,_,_,_,_,hB,h=>⟨by simpa [Region.seqB] using hB,h⟩
 | o::l,k,listed,a,w,hl,hB,h=>by
  have h0:ops[k]?=some o:=by simpa using (hl 0).symm
  simp only [List.length_cons,Region.seqB,Bool.and_eq_true,decide_eq_true_eq] at hB;refine ⟨fun h1=>(by rw [hB.1] at h1;cases h1),fun i hi => ?_⟩;rw [hB.1] at hi;obtain rfl:i=k:=zbr;have hw:wpOpIn F n P ops Q i (wpListIn F n P ops Q l) a w:=by unfold wpOpIn;simp only [h0];exact h
  exact wpOpIn_mono (fun a' w' h'=>nG l (i+1) _ a' w' (fun j=>by have:=hl (j+1);simpa [Nat.add_assoc,Nat.add_comm 1 j] using this) hB.2 h') hw
theorem aV (hF:Wd F) {n id:Nat} {P:Program} {a:Act} {w:World} {l:List Oper} (m:Nat) (hm:P.follows .mixedOrders=true) (hB:Region.lexTailB .any l.toArray m=true) (hnd:kA l.toArray=true)
  (h:wpStill P l.toArray w.drew (fun a'=>wpListIn F n P l.toArray Q (l.drop m) a' w.drew) (l.take m) a):(Code.region id l.toArray true).wpIn F n P Q a w:=by
 simp only [Region.lexTailB,Bool.and_eq_true,decide_eq_true_eq] at hB;obtain ⟨⟨⟨⟨hsel,hn⟩,hs⟩,hc⟩,hlex⟩:=hB;have hml:m<l.length:=by simpa using hn
 have htl:(l.take m).length=m:=Qm zaa;have hdl:(l.drop m).length=l.toArray.size-m:=zad;have H:=wpAnyL_lex (md := .any) (g:=l.toArray.size-m) hsel hs hc hn (l.take m) 0 (Array.replicate l.toArray.size false) a (fun j hj=>by
  rw [htl] at hj;simp [hj]) (by simpa using htl) ⟨zad,fun j oj _ hl=>(by rw [getD_replicate_false] at hl;cases hl),fun t _ ht=>getD_in (by simpa using ht) (getD_replicate_false _ _)⟩ (by rw [htl];exact hlex) h
 refine wpIn_region_any hm ?_;have R:=mG hF hnd (fun listed a' hL=>by
  have T:=nG (F:=F) (n:=n) (P:=P) (md := .any) (ops:=l.toArray) (Q:=Q) (l.drop m) m listed a' w.drew (fun j=>by simp [List.getElem?_drop]) (by rw [hdl];exact hL.1) hL.2
  rwa [hdl] at T) _ _ _ H
 rw [htl,show m+(l.toArray.size-m)=l.toArray.size by omega] at R;exact R
end
section
open Go.RowKit Go.Proofs Go.Shelf
attribute [local go_sem] NR
theorem sS {F':Fence} (hF:Wd F) (hF':Wd F') {m m':Nat} {P:Program} {l:Nat} {tmps:Array Value} {assign body:Code} {w:World} {R:Ending->World->Prop} (h:RoundIn F m P l f tmps assign body w R):RoundIn F' m' P l f tmps assign body w R:=by
 rcases hF with rfl | ⟨k,rfl⟩ <;> rcases hF' with rfl | ⟨k',rfl⟩ <;> exact ⟨trivial,fun c cs _=>h.2 c cs (fun d hd=>by cases hd)⟩
theorem iu {w:World} {p:Addr} (h:w.cell? p=some v):p.block<w.heap.size:=by
 unfold World.cell? at h;split at h
 ·rename_i c e f hb;exact (MQ.1 hb).1
 ·cases h
namespace Pg
def kE (hv:Nat->Nat) (k:Nat):List Nat:=(eE (hv k)).map (k*65 + ·)
def jU (hv:Nat->Nat) (k:Nat):List Nat:=(List.range k).flatMap (kE hv)
def ga (hv:Nat->Nat):List Nat:=jU hv 6++[390]
theorem iI (hv:Nat->Nat) (k:Nat):jU hv (k+1)=jU hv k++kE hv k:=by
 unfold jU;rw [QO,NQ];simp
structure AJ (V:World) (Bs mb:Nat) (R:Nat->List Nd) (hv:Nat->Nat):Prop where
 box:Boxed V Bs 121 (.pointer (some ⟨mb,27,none⟩))
 held:∀ k,k<6->V.cell? ⟨mb,28+k*65+64,none⟩=some (.int .u64 (hv k))
 ring:∀ k s,k<6->s<64->V.cell? ⟨mb,28+k*65+s,none⟩=some (aK (R (k*65+s)))
 out:V.cell? ⟨mb,418,none⟩=some (aK (R 390))
 tab:TabAt 5 Lib.deBruijn64tab V
theorem AJ.kp {Bs:Nat} {hv:Nat->Nat} (h:AJ V Bs mb R hv) (hk:KpM B V V') (h1:¬ B Bs 121) (h2:∀ t,¬ B mb t) (h3:∀ t,¬ B 5 t):AJ V' Bs mb R hv :=
 ⟨hk.2 _ _ _ _ h.box h1,fun k hk'=>hk.cell (h.held k hk') h2,fun k s h4 h5=>hk.cell (h.ring k s h4 h5) h2,hk.cell h.out h2,Pg.KpM.tab hk h3 h.tab⟩
theorem KpM.bx {n:Nat} (hB:∀ k t,B k t->k<n\/t=138) (hk:KpM B V V') {T:TypeId} (hb:Boxed V k T v) (hn:n<=k) (hT:T≠138:=by decide):Boxed V' k T v:=hk.2 _ _ _ _ hb (fun e=>by rcases hB _ _ e with e | e;omega;exact hT e)
structure RgF (l Bs By:Nat) (k:Nat) (a:Act) (Ds:List Nat):Prop where
 tm:∃ u3 u4 u6 u7 u8 u9 u10 u11 u12 u13 u14 u15 u16 u17 u18 u19 u20 u21 u22 u23 u24 u25 u26 u27,a.tmps=#[.func (.yield l) #[] #[],.pointer (some ⟨Bs,0,none⟩),.pointer (some ⟨By,0,none⟩),u3,u4,.int .i64 k,u6,u7,u8,u9,u10,u11,u12,u13,u14,u15,u16,u17,u18,u19,u20,u21,u22,u23,u24,u25,u26,u27,undef,undef,undef,undef,undef,undef]
 df:a.defers=marks Ds
