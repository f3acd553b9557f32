import Derived.Test.YtibbecdlllchkaaGreatDoorM03
set_option maxRecDepth 100000
set_option maxHeartbeats 8000000
namespace Go.Proofs.YtibbecdlllchkaaGreatDoor
variable {zp:Prop}
theorem zde(h:zp:=by
 have hc:=h9.cell;rw[WT]at U5;gi_wp2;refine⟨zad,.inl ⟨_,_,rfl,Qn hK,?_⟩⟩;exact⟨_,TX rfl _ _ _,sl,rfl,ownsRow_putObj U5 _ hK rfl,XP.trans (R3 (w:=w) (Po _) W D _ _ zaa hK rfl rfl)⟩):zp:=h
theorem zeO(h:zp:=by
 obtain⟨i,hi⟩:=P5.1 hy;exact hM.typ (h.nds q hq i y hi)):zp:=h
theorem zeP(h:zp:=by
 obtain⟨i,hi⟩:=P5.1 hy;exact⟨_,h.nds q hq i y hi⟩):zp:=h
theorem zfb(h:zp:=by
 subst hk;exact⟨hM.lo',arr,_,_,a1,.inl rfl⟩):zp:=h
theorem zfk(h:zp:=by
 exact h.dis q q' hq YI U9 y hy z hz):zp:=h
open Tryz
variable {W b W' a V V':World}{pb k i y lo mb r:Nat}{E:TypeId->Prop}{ps:List Y.PS}{v qv:Value}{L:List ()}{ops:Array Oper}{Q:Exit->Act->World->Prop}{F:Fence}{wh:Nat->Value}{R:Nat->List Y.Nd}{f:FuncId}{args:Array Value}{B:Nat->TypeId->Prop}
section
open Go.RowKit Go.Proofs Go.Shelf
theorem C0:(Tryz.prog.info? 183).map (fun i=>(i.zero,i.size,i.bytes))=some (some (.agg #[(0:Int),.string ⟨#[]⟩,.string ⟨#[]⟩,(0:Int),.int .u32 0,.int .u32 0,.int .u32 0,.int .u32 0,.slice none 0 0,.slice none 0 0]),10,112):=zab
theorem rJ(n:Nat)(hn:n<=4096)(w:World):(Instr.makeSlice 184 (.int .i64 n) (.int .i64 n)).run prog w=.ok (.slice w n n) (w.alloc (.cells (madeCells Y.zPS.cells.toArray (n*10)) 183)):=by
 obtain⟨i0,hi,Vv,Vk,Vl⟩:=QV C0;have h:=run_makeSlice (P:=prog) w 184 183 i0 _ underlying184 hi Vv .i64 .i64 n n zaa (Int.le_refl _) (by rw[Vk];simp;omega) (by rw[Vl];omega) zaa;rw[h,Vk];simp only[Int.toNat_natCast];rfl
namespace Y
theorem bH.made{b n:Nat}(hn:n<=24)(hb:W.heap[b]?=some (.cells (madeCells zPS.cells.toArray (n*10)) 183 (0,0)))(hp:W.cell? pb=some (.slice b n n))(U9:pb≠b):bH W pb b n (List.replicate n zPS) where
 row:=by rw[RP];exact hp
 at':=fun i p hi k v hv=>by
  have WU:i<n:=by have:=(Ps.1 hi).1;simpa using this
  have hpz:p=zPS:=by rw[List.getElem?_replicate,PC WU]at hi;exact(Qh hi).symm
  subst hpz;have hk:k<10:=zcu;refine⟨?_,by simp[World.frozen?,hb]⟩;rw[Pt W _ _ _ _ _ hb];have Vd:i*10+k<n*10:=zaa;have Vf:zPS.cells.toArray.size=10:=rfl;rw[madeCells,Array.getElem?_map,Array.getElem?_range,PC Vd];have e:(i*10+k) % 10=k:=zaa;simp only[Option.map_some,Vf,e];have WQ:zPS.cells.toArray[k]?=some v:=by simpa using hv
  rw[Tr _ k (by rw[Vf];exact hk)];rw[SC (by rw[Vf];exact hk)]at WQ;exact WQ
 len:=by rw[RP];exact hn
 ne:=U9
def kL(X:List MS):Nat->List (Nat×Nat)
 |0=>[]
 |k+1=>match X[k]? with|some x=>(if isH x.kind then kL X k++[(k,x.owner.toNat)] else kL X k)|none=>kL X k
structure Fm(W:World)(pb:Nat)(ps:List PS)(X:List MS)(k:Nat)(H:List HV):Prop where
 idx:H.map (fun h=>(h.idx,h.own))=kL X k
 aq:∀h∈H,∃x po,X[h.idx]?=some x/\ps[h.own]?=some po/\k8 W pb (decide (x.kind=4)) po h.aq
theorem Fm.kd{X:List MS}{H:List HV}(h:Fm W pb ps X k H)(hk:Kd E W W')(h1:¬E 183)(h2:¬E 103):Fm W' pb ps X k H where
 idx:=h.idx
 aq:=fun y hy=>by
  obtain⟨x,po,a,b,c⟩:=h.aq y hy;exact⟨x,po,a,b,c.kd hk h1 h2⟩
theorem ti(X:List MS):∀k,(kL X k).length<=k
 |0=>Po _
 |k+1=>by
  have:=ti X k;rw[kL];split
  ·split
   ·simp;omega
   ·omega
  ·omega
theorem bH.reb{b cap:Nat}(h:bH W pb b cap ps)(hr:W'.cell? pb=some (.slice b ps.length cap))(hb:W'.heap[b]?=W.heap[b]?):bH W' pb b cap ps where
 row:=hr
 at':=fun i p hi k v hv=>by
  have:=h.at' i p hi k v hv;exact⟨(PN (a:=⟨b,_,none⟩) hb).trans this.1,(World.frozen?_of_block (a:=⟨b,_,none⟩) hb).trans this.2⟩
 len:=h.len
 ne:=h.ne
def psF(X:List MS):List PS:=dY (bL X X.length) X.length
def Hy(w w':World)(pb:Nat)(X:List MS)(V:Nat->List MV):Prop:=∃b mb hv H n M L,Below w w w'/\dB w' pb b X.length X.length (.slice (U.Sl.a hv) hv.n hv.c) (bF X X.length) (.map (some mb))/\cJ w' pb b X.length (psF X)/\w'.ownsRow 0 264 3 (.slice hv.a hv.n hv.c) H.length (H.flatMap HV.cells)/\Fm w' pb (psF X) X X.length H/\Tab w' pb b X.length mb n (fun ev=>(ep (psF X) (b7 X X.length) V X.length ev).map fun row=>oE (psF X) row X.length) M L/\Nk w' pb b (psF X) X.length (ep (psF X) (b7 X X.length) V X.length) M L
end Y
theorem Mh(w:World)(cb cg cc:Nat)(X:List Y.MS)(V:Nat->List Y.MV)(hC:Y.ChM w cb cg cc X V)(hX:X.length<=24)(VD:∀(i:Nat) (x:Y.MS),X[i]?=some x->x.name.size<=1000000)(XL:∀(i:Nat) (x:Y.MS),X[i]?=some x->x.owner=-1\/∃o:Nat,x.owner=o/\o<i)(hhx:∀(i:Nat) (x:Y.MS),X[i]?=some x->Y.isH x.kind=true->x.owner≠-1)
  (hg:1<w.heap.size) (hT:TabAt 1 Lib.deBruijn32tab w) (hgk:∃c t fz,w.heap[1]?=some (.cells c t fz)) (hV:∀i,(V i).length<=30000) (Wq:∀i,∀m∈V i,m.event.size<=1000000/\m.dest.size<=1000000/\(m.dest.toList.isEmpty=false->∃d,Y.b7 X X.length m.dest=some d/\d<X.length)):
  () 39 #[cb] w fun e w'=>∃pb,e=.returned (.pointer (some ⟨pb,0,none⟩))/\Y.Hy w w' pb X V:=by
 have XK:w.cell? cb=some (.slice cg X.length cc):=by
  rw[Pt _ _ _ _ _ _ hC.ptr];rfl
 have Vu:cb<w.heap.size:=(Pn.1 hC.ptr).1;have Zc:=rJ X.length zaa w;have X7:=@run_makeMap prog;obtain⟨Z,hZ⟩:∃Z,madeCells Y.zPS.cells.toArray (X.length*10)=Z:=⟨_,rfl⟩;rw[hZ]at Zc;have HZ:Hid (madeCells Y.zPS.cells.toArray (X.length*10)=Z):=hZ;have HC:Hid (Y.ChM w cb cg cc X V):=hC;have HNM:Hid _:=VD;have HOX:Hid _:=XL;have HHX:Hid _:=hhx;have HGK:Hid _:=hgk;have HT:Hid (TabAt 1 Lib.deBruijn32tab w):=hT;have HV:Hid _:=hV;have HEV:Hid _:=Wq;clear hC VD XL hhx hgk hT hV Wq hZ;go_enter func39,ntmps39
 go_upto_region 2 with fail
 have Vh:Below w w (((w.alloc (.cells Z 183)).alloc (.map #[] 0)).alloc (.cells #[.slice w X.length X.length,.slice none 0 0,.int .u32 0,.map (some (w.heap.size+1))] 188)):=(((Pq _ w).alloc (Po _) _).alloc zad _).alloc zaf _;have Zm:Y.dB (((w.alloc (.cells Z 183)).alloc (.map #[] 0)).alloc (.cells #[.slice w X.length X.length,.slice none 0 0,.int .u32 0,.map (some (w.heap.size+1))] 188)) (w.heap.size+1+1) w.heap.size X.length X.length (.slice none 0 0) 0 (.map (some (w.heap.size+1))):=by
  have:=PG ((w.alloc (.cells Z 183)).alloc (.map #[] 0)) (.cells #[.slice w X.length X.length,.slice none 0 0,.int .u32 0,.map (some (w.heap.size+1))] 188);simp only[World.size_alloc]at this;exact this
 have hbz:(((w.alloc (.cells Z 183)).alloc (.map #[] 0)).alloc (.cells #[.slice w X.length X.length,.slice none 0 0,.int .u32 0,.map (some (w.heap.size+1))] 188)).heap[w.heap.size]?=some (.cells Z 183 (0,0)):=by
  rw[QS _ _ _ zaf,QS _ _ _ zad];exact PG w _
 have hmp:Y.fa (((w.alloc (.cells Z 183)).alloc (.map #[] 0)).alloc (.cells #[.slice w X.length X.length,.slice none 0 0,.int .u32 0,.map (some (w.heap.size+1))] 188)) X.length (w.heap.size+1) 0 (fun _=>none):=by
  have h1:=Up (w.alloc (.cells Z 183)) prog 9 (Y.pX X.length);rw[QL]at h1;exact⟨_,h1.alloc _,fun _=>rfl⟩
 have WR:(((w.alloc (.cells Z 183)).alloc (.map #[] 0)).alloc (.cells #[.slice w X.length X.length,.slice none 0 0,.int .u32 0,.map (some (w.heap.size+1))] 188)).heap.size=w.heap.size+1+1+1:=zad;obtain⟨W1,Vj⟩:∃W,(((w.alloc (.cells Z 183)).alloc (.map #[] 0)).alloc (.cells #[.slice w X.length X.length,.slice none 0 0,.int .u32 0,.map (some (w.heap.size+1))] 188))=W:=⟨_,rfl⟩;rw[Vj]at Vh Zm hbz hmp WR⊢;have hPW1:Y.bH W1 (w.heap.size+1+1) w.heap.size X.length (Y.bL X 0):=Y.bH.made hX (by rw[HZ.out];exact hbz) (by rw[Pt _ _ _ _ _ _ Zm];rfl) zaa;have hcb1:=(Vh.cell (p:=cb) Vu).trans XK;have HPB1:Hid (Y.dB W1 (w.heap.size+1+1) w.heap.size X.length X.length (.slice none 0 0) (Y.bF X 0) (.map (some (w.heap.size+1)))):=Zm;have HPW1:Hid (Y.bH W1 (w.heap.size+1+1) w.heap.size X.length (Y.bL X 0)):=hPW1;have HBZ:Hid _:=hbz;have HMP:Hid (Y.fa W1 X.length (w.heap.size+1) 0 (fun _=>none)):=hmp;have X8:Hid (Below w w W1):=Vh;have hcb0:∀wr,Mo (fun j=>j=w.heap.size\/j=w.heap.size+1+1) W1 wr->wr.cell? cb=some (.slice cg X.length cc):=fun wr h=>(h.cell (p:=cb) (show cb<W1.heap.size by omega) (by show ¬(cb=_\/cb=_);omega)).trans hcb1;have HCB:Hid _:=hcb0;have HC1:Hid (∀wr,Mo (fun j=>j=w.heap.size\/j=w.heap.size+1+1) W1 wr->Below w w wr/\Y.ChM wr cb cg cc X V):=fun wr h=>by
  have hb:Below w w wr:=h.below X8.out zaa (fun i hi=>zaa);exact⟨hb,HC.out.below hb⟩
 clear Vj Zc X7 XK Zm hbz hmp hPW1 Vh hcb0 HC;go_wp2
 go_loopg[23] X.length (fun q i wr=>∃k:Nat,q=X.length-k/\k<=X.length/\i=.int .i64 k/\Y.bH wr (w.heap.size+1+1) w.heap.size X.length (Y.bL X k)/\Y.dB wr (w.heap.size+1+1) w.heap.size X.length X.length (.slice none 0 0) (Y.bF X k) (.map (some (w.heap.size+1)))/\Y.dt X.length (Y.bL X k)/\Y.Ord X k (Y.bL X k)/\Mo (fun j=>j=w.heap.size\/j=w.heap.size+1+1) W1 wr)
 case atStart=>
  refine⟨0,rfl,PK _,rfl,HPW1.out,HPB1.out,?_,⟨fun i p x hi=>zaa,?_⟩,Mo.refl _ _⟩
  ·intro i p hp;have:p=Y.zPS:=(Sh (PD hp));subst this;exact⟨Y.dR _,Y.dR _,Y.dR _,Y.dR _⟩
  ·intro i p hp j hj;have:p=Y.zPS:=(Sh (PD hp));subst this;have hj:j∈Y.els 0:=hj;rw[Y.my]at hj;cases hj
 case round=>
  obtain⟨k,hq,hk,rfl,Vz,V3,Zt,hOr,Vp⟩:=hrel;clear hcb1;by_cases Vx:k<X.length
  ·obtain⟨x,hx⟩:∃x,X[k]?=some x:=⟨_,Pp Vx⟩;obtain⟨Vy,Z4⟩:=HC1.out wr Vp;have Va:=Z4.at' k x hx;have hnmx:=HNM.out k x hx;have hoxx:=HOX.out k x hx;have YH:=Y.eN X k;have hs:=Vp.size;have WO:=(Pq wr wr).alloc (Po _) (.cells x.arr 134);have Zz:=Vz.below WO zaa zaa;have ZA:Y.dB (wr.alloc (.cells x.arr 134)) (w.heap.size+1+1) w.heap.size (Y.bL X k).length X.length (.slice none 0 0) (Y.bF X k) (.map (some (w.heap.size+1))):=by rw[YH];exact(WO.block _ zaa).trans V3
   have hadd:=xU (wr.alloc (.cells x.arr 134)) (w.heap.size+1+1) w.heap.size X.length (Y.bL X k) k x (.slice none 0 0) (.map (some (w.heap.size+1))) (Y.bF X k) ZA Zz (Zt.sms hX) (by have h1:=Y.oC X (Po _) k hk;have h2:2 ^ X.length<=2 ^ 24:=Rc zac hX;omega) zaa hnmx hoxx zaf;have HN:Hid (Y.bL X (k+1)=Y.nW (Y.bL X k) k x/\Y.bF X (k+1)=Y.sA (Y.bF X k) k x):=⟨by rw[Y.bL,hx],by rw[Y.bF,hx]⟩;have XM:=Y.vR Zt Vx x hoxx;have hO2:=Y.zS hOr zaa hx hoxx;have VV:=Vp.trans (az WO);have HG2:Hid _:=XM;have HO2:Hid _:=hO2;obtain⟨kind,name,depth,owner,vp,ve,vl,vm⟩:=x;unfold Y.MS.arr at Va hadd VV;dsimp only at Va hadd VV;clear WO Zz ZA Vz V3 Zt hOr Vp Z4 Vy hx XM hO2;rw[YH]at hadd;go_wp2_with(first
    |(refine QA rfl 134 (.tmp 26) rfl cg (k*8) rfl _ _ Va underlying134 rfl fo ?_)
    |(refine aB rfl 134 (.tmp 5) (.tmp 27) rfl 134 _ _ rfl rfl fo rfl rfl ?_)
    |(go_at_call 67;refine hadd.mono ?_;intro e w6 h6;obtain⟨rfl,hPB6,hPW6,XD⟩:=h6)
    |fail)
   go_roundg (X.length-(k+1))
   case measure=>omega
   case rel=>exact⟨k+1,rfl,zaa,zah,by rw[HN.out.1];exact hPW6,by rw[HN.out.2];exact hPB6,by rw[HN.out.1];exact HG2.out,by rw[HN.out.1];exact HO2.out,VV.trans XD⟩
  ·obtain rfl:k=X.length:=zaa;have HPW:Hid (Y.bH wr (w.heap.size+1+1) w.heap.size X.length (Y.dY (Y.bL X X.length) 0)):=Vz;have HPB:Hid (Y.dB wr (w.heap.size+1+1) w.heap.size X.length X.length (.slice none 0 0) (Y.bF X X.length) (.map (some (w.heap.size+1)))):=V3;have HGd:Hid (Y.dt X.length (Y.dY (Y.bL X X.length) 0)):=Zt;have HOr:Hid (Y.Ord X X.length (Y.dY (Y.bL X X.length) 0)):=hOr;have HMO:Hid (Mo (fun j=>j=w.heap.size\/j=w.heap.size+1+1) W1 wr):=Vp;have hcbr:=HCB.out wr Vp;clear Vz V3 Zt hOr Vp hq hk Vx;go_wp2
   go_loopg[6] X.length (fun q s wr=>∃k:Nat,q=X.length-k/\k<=X.length/\s=.int .i64 ((X.length:Int)-1-(k:Int))/\Y.bH wr (w.heap.size+1+1) w.heap.size X.length (Y.dY (Y.bL X X.length) k)/\Y.dB wr (w.heap.size+1+1) w.heap.size X.length X.length (.slice none 0 0) (Y.bF X X.length) (.map (some (w.heap.size+1)))/\Y.dt X.length (Y.dY (Y.bL X X.length) k)/\Y.Ord X X.length (Y.dY (Y.bL X X.length) k)/\Mo (fun j=>j=w.heap.size\/j=w.heap.size+1+1) W1 wr)
   case atStart=>exact⟨0,rfl,PK _,zah,HPW.out,HPB.out,HGd.out,HOr.out,HMO.out⟩
   case round=>
    obtain⟨k,hq,hk,rfl,Vz,V3,Zt,hOr,Vp⟩:=hrel;clear hcbr HPW HPB HGd HOr HMO;have YH:(Y.dY (Y.bL X X.length) k).length=X.length:=by rw[Y.qP,Y.eN]
    have hs:=Vp.size;by_cases Vx:k<X.length
    ·obtain⟨i,hi⟩:∃i:Nat,(X.length:Int)-1-(k:Int)=i:=⟨X.length-1-k,zaa⟩;have V9:i=X.length-1-k:=zaa;have WU:i<X.length:=zaa;obtain⟨p,hp⟩:∃p,(Y.dY (Y.bL X X.length) k)[i]?=some p:=⟨_,Pp zaa⟩;obtain⟨x,hx⟩:∃x,X[i]?=some x:=⟨_,Pp WU⟩;have how:p.owner=-1\/∃o:Nat,p.owner=o/\o<i:=by rw[(hOr.own i p x WU hp hx).1];exact HOX.out i x hx
     have hT1:TabAt 1 Lib.deBruijn32tab wr:=Y.KpT.of (HC1.out wr Vp).1 hg HT.out;have hsur:=zB wr (w.heap.size+1+1) w.heap.size X.length _ i p hp (fun j hj=>by have:=hOr.part i p hp j hj;omega) how Vz (Zt.sms hX) zaa zaa zaa zaa hT1;have HN:Hid (Y.dY (Y.bL X X.length) (k+1)=Y.bT (Y.dY (Y.bL X X.length) k) i):=by unfold Hid;rw[Y.dY,Y.eN,V9]
     have HG2:Hid (Y.dt X.length (Y.bT (Y.dY (Y.bL X X.length) k) i)):=Y.om Zt WU;have HO2:Hid (Y.Ord X X.length (Y.bT (Y.dY (Y.bL X X.length) k) i)):=Y.qg hOr;have HPB2:Hid _:=V3;have HMO2:Hid _:=Vp;have ZB:(i:Int)>=0:=zaa;rw[hi];have HI:Hid ((X.length:Int)-1-(k:Int)=i):=hi;clear Vz V3 Zt hOr Vp how hp hx V9 hi;go_wp2_with(go_at_call 68;refine hsur.mono ?_;intro e w6 h6;obtain⟨rfl,hPW6,XD⟩:=h6)
     go_roundg (X.length-(k+1))
     case measure=>omega
     case rel=>exact⟨k+1,rfl,zaa,by have:=HI.out;go_num,by rw[HN.out];exact hPW6,(XD.block _ zaa zaa).trans HPB2.out,by rw[HN.out];exact HG2.out,by rw[HN.out];exact HO2.out,HMO2.out.trans' XD (fun i _ e=>.inl e)⟩
    ·obtain rfl:k=X.length:=zaa;obtain⟨PF,hPF⟩:∃P,Y.psF X=P:=⟨_,rfl⟩;have hPF':Y.dY (Y.bL X X.length) X.length=PF:=hPF;rw[hPF']at Vz Zt hOr YH;have HPF:Hid (Y.psF X=PF):=hPF;have hlm:(X.length:Int)-1-(X.length:Int)=-1:=zaa;have HPW:Hid (Y.bH wr (w.heap.size+1+1) w.heap.size X.length PF):=Vz;have HPB:Hid (Y.dB wr (w.heap.size+1+1) w.heap.size X.length X.length (.slice none 0 0) (Y.bF X X.length) (.map (some (w.heap.size+1)))):=V3;have HGd:Hid (Y.dt X.length PF):=Zt;have HOr:Hid (Y.Ord X X.length PF):=hOr;have HMO:Hid (Mo (fun j=>j=w.heap.size\/j=w.heap.size+1+1) W1 wr):=Vp;have HLK:Hid (PF.length=X.length):=YH;have hcbr:=HCB.out wr Vp;rw[hlm];clear Vz V3 Zt hOr Vp YH hPF hPF' hq hk Vx hlm;go_wp2
     go_loopg[51] X.length (fun q i wr=>∃k:Nat,q=X.length-k/\k<=X.length/\i=.int .i64 k/\∃(hv:U.Sl) (H:List Y.HV),Y.dB wr (w.heap.size+1+1) w.heap.size X.length X.length (.slice hv.a hv.n hv.c) (Y.bF X X.length) (.map (some (w.heap.size+1)))/\Y.bH wr (w.heap.size+1+1) w.heap.size X.length PF/\wr.ownsRow 0 264 3 (.slice hv.a hv.n hv.c) H.length (H.flatMap Y.HV.cells)/\Y.Fm wr (w.heap.size+1+1) PF X k H/\(∀g,hv.v.ownBlock=some g->W1.heap.size<=g)/\Mo (fun j=>j=w.heap.size\/j=w.heap.size+1+1) W1 wr)
     case atStart=>exact⟨0,rfl,PK _,rfl,⟨none,0,0⟩,[],HPB.out,HPW.out,QC _ _ _ _,⟨rfl,fun h hh=>(by cases hh)⟩,fun g h=>zaE,HMO.out⟩
     case round=>
      obtain⟨k,hq,hk,rfl,hv,H,V3,Vz,hOw,hHi,U8,Vp⟩:=hrel;clear hcbr HPW HPB HMO;have hs:=Vp.size;have hHl:H.length<=k:=by have h1:=Y.ti X k;have h2:=congrArg List.length hHi.idx;simp at h2;omega
      by_cases Vx:k<X.length
      ·obtain⟨x,hx⟩:∃x,X[k]?=some x:=⟨_,Pp Vx⟩;obtain⟨Vy,Z4⟩:=HC1.out wr Vp;have Va:=Z4.at' k x hx;have WO:=(Pq wr wr).alloc (Po _) (.cells x.arr 134);have Zz:=Vz.below WO zaa zaa;have ZA:Y.dB (wr.alloc (.cells x.arr 134)) (w.heap.size+1+1) w.heap.size PF.length X.length (.slice hv.a hv.n hv.c) (Y.bF X X.length) (.map (some (w.heap.size+1))):=by rw[HLK.out];exact(WO.block _ zaa).trans V3
       have hOw5:=(az (P:=fun _=>False) WO).own hOw (fun _ _ h=>h);have hHi5:=hHi.kd (E:=fun _=>False) (bB WO) (fun h=>h) (fun h=>h);have VV:=Vp.trans (az WO);have hs5:=VV.size;have hah:=sB (wr.alloc (.cells x.arr 134)) (w.heap.size+1+1) w.heap.size X.length PF k x hv (.map (some (w.heap.size+1))) (Y.bF X X.length) H ZA Zz zaa hOw5 zaa (fun hh=>by
        rcases HOX.out k x hx with h|⟨o,h,Vw⟩
        ·exact absurd h (HHX.out k x hx hh)
        ·exact⟨o,PF[o]'(by have:=HLK.out;omega),h,Pp _⟩)
       have Zx:Hid (∀w6,Y.Ht (wr.alloc (.cells x.arr 134)) w6 (w.heap.size+1+1) w.heap.size X.length PF k x hv (.map (some (w.heap.size+1))) (Y.bF X X.length) H->∃(hv:U.Sl) (H:List Y.HV),Y.dB w6 (w.heap.size+1+1) w.heap.size X.length X.length (.slice hv.a hv.n hv.c) (Y.bF X X.length) (.map (some (w.heap.size+1)))/\Y.bH w6 (w.heap.size+1+1) w.heap.size X.length PF/\w6.ownsRow 0 264 3 (.slice hv.a hv.n hv.c) H.length (H.flatMap Y.HV.cells)/\Y.Fm w6 (w.heap.size+1+1) PF X (k+1) H/\(∀g,hv.v.ownBlock=some g->W1.heap.size<=g)/\Mo (fun j=>j=w.heap.size\/j=w.heap.size+1+1) W1 w6):=fun w6 hA=>by
        unfold Y.Ht at hA
        rcases hA with⟨hf,Z9⟩|⟨ht,o,po,kv,WQ,ho,WZ,hKA,hPB6,hO6,hM6,hKd6,hlo6⟩
        ·refine⟨hv,H,(Z9.block _ zaa).trans (by rw[HLK.out]at ZA;exact ZA),Zz.below Z9 zaa zaa,(az (P:=fun _=>False) Z9).own hOw5 (fun _ _ h=>h),?_,U8,VV.trans (az Z9)⟩;have h1:=hHi5.kd (E:=fun _=>False) (bB Z9) (fun h=>h) (fun h=>h);exact⟨by rw[h1.idx,Y.kL,hx];dsimp only;rw[hf];rfl,h1.aq⟩
        ·refine⟨WQ,H++[Y.HV.mk k o kv],by rw[HLK.out]at hPB6;exact hPB6,Zz.reb (by rw[Pt _ _ _ _ _ _ hPB6];rfl) (hM6.block _ zaa (fun h=>?_)),by rw[PI];exact hO6,?_,fun g hg=>?_,VV.trans' hM6 (fun i hi h=>?_)⟩
         ·rcases h with h|h
          ·omega
          ·have:=U8 _ h;omega
         ·have h1:=hHi5.kd hKd6 zac zac;refine⟨?_,fun y hy=>?_⟩
          ·rw[Qj,h1.idx,Y.kL,hx];dsimp only;rw[ht,PC rfl,ho];rfl
          ·rcases PQ.1 hy with hy|hy
           ·exact h1.aq y hy
           ·rw[PB.1 hy];exact⟨x,po,hx,WZ,hKA⟩
         ·rcases hlo6 g hg with h|h
          ·exact U8 g h
          ·omega
         ·rcases h with h|h
          ·exact .inr h
          ·have:=U8 i h;omega
       obtain⟨kind,name,depth,owner,vp,ve,vl,vm⟩:=x;unfold Y.MS.arr at Va hah Zx;dsimp only at Va hah Zx;clear WO Zz ZA Vz V3 hOw hOw5 hHi hHi5 Vp Z4 Vy hx VV hs5;go_wp2_with(first
        |(refine QA rfl 134 (.tmp 54) rfl cg (k*8) rfl _ _ Va underlying134 rfl fo ?_)
        |(refine aB rfl 134 (.tmp 8) (.tmp 55) rfl 134 _ _ rfl rfl fo rfl rfl ?_)
        |(go_at_call 69;refine hah.mono ?_;intro e w6 h6;obtain⟨rfl,hA6⟩:=h6)
        |fail)
       go_roundg (X.length-(k+1))
       case measure=>omega
       case rel=>exact⟨k+1,rfl,zaa,zah,Zx.out w6 hA6⟩
      ·obtain rfl:k=X.length:=zaa;obtain⟨Vy,Z4⟩:=HC1.out wr Vp;have YH:=HLK.out;have hPA:=Vz.bJ (HGd.out.sms hX);have hmp:Y.fa wr X.length (w.heap.size+1) 0 (fun _=>none):=HMP.out.mo Vp zaa;have hT1:TabAt 1 Lib.deBruijn32tab wr:=Y.KpT.of Vy hg HT.out;have hgk1:∃c t fz,wr.heap[1]?=some (.cells c t fz):=by
        obtain⟨c,t,fz,h⟩:=HGK.out;exact⟨c,t,fz,(Vy.block _ hg).trans h⟩
       have how:∀(i:Nat) (p:Y.PS),PF[i]?=some p->p.owner=-1\/∃o:Nat,p.owner=o/\o<i:=fun i p hp=>by
        have WU:=(Ps.1 hp).1;obtain⟨x,hx⟩:∃x,X[i]?=some x:=⟨_,Pp zaa⟩;rw[(HOr.out.own i p x zaa hp hx).1];exact HOX.out i x hx
       have hadm:=xS wr (w.heap.size+1+1) w.heap.size X.length PF (.slice hv.a hv.n hv.c) (Y.bF X X.length) (w.heap.size+1) cb cg cc X V (by rw[YH];exact V3) hPA zaa Z4 YH.symm HNM.out (by rw[YH];exact hmp) zaa (fun i p hp=>by rw[YH];exact HGd.out i p hp) zaa hT1 hgk1 how HV.out (fun i m hm=>by rw[YH];exact HEV.out i m hm);have Zx:Hid (∀w6,Y.Nf wr w6 (w.heap.size+1+1) w.heap.size (w.heap.size+1) PF X V->Y.Hy w w6 (w.heap.size+1+1) X V):=fun w6 hA=>by
        obtain⟨⟨n,M,L,Wf,hOnc⟩,hm6⟩:=hA;rw[YH]at Wf hOnc;have hkd6:Kd (fun _=>False) wr w6:=gS hm6 (fun j c t f hj hc=>by
         obtain⟨es,clock,hz⟩:=hmp.kind;rw[hj,hz]at hc;cases hc)
        have hs6:=hm6.size;unfold Y.Hy;rw[HPF.out];exact⟨w.heap.size,w.heap.size+1,hv,H,n,M,L,hm6.below Vy zaa (fun i hi=>zaa),(hkd6.aq _ _ _ _ V3 (fun h=>h)).trans V3,hPA.mo hm6 zaa zaa zaa zaa,hm6.own hOw (fun g hg e=>by have:=U8 g hg;omega),hHi.kd hkd6 (fun h=>h) (fun h=>h),Wf,hOnc⟩
       clear V3 Vz hOw hHi U8 Vp hPA hmp hT1 hgk1 how Vy Z4 YH;go_wp2_with(go_at_call 70;refine hadm.mono ?_;intro e w6 h6;obtain⟨rfl,hA6⟩:=h6);go_ret;exact⟨_,rfl,Zx.out w6 hA6⟩
theorem F6:(Tryz.prog.info? 270).map (fun i=>(i.zero,i.size,i.bytes))=some (some (.agg #[(0:Int),.int .u32 0,.slice none 0 0,.nilFunc]),4,48):=zab
theorem zq(w:World)(a b:Nat)(ha:∃c,w.heap[a]?=some (.cells c 270 (0,0)))(hb:∃c,w.heap[b]?=some (.cells c 270 (0,0))):
  (binOp .eql 267 a b).run prog w=.ok (.bool (decide (a=b))) w:=by
 obtain⟨i0,hi,Vv,Vk,Vl⟩:=QV F6;obtain⟨ca,ha⟩:=ha;obtain⟨cb,hb⟩:=hb;have h:∀d:Nat,(Op.equalIn (d+1) 267 a b).run prog w=.ok (decide (a=b)) w:=fun d=>by
  by_cases e:a=b
  ·subst e;simp[Op.equalIn,run_underlying underlying267,sizeOf,typeInfo,hi,run_sameAddr_same]
  ·simp[Op.equalIn,run_underlying underlying267,sizeOf,typeInfo,hi,Vk,e,run_sameAddr_other w (a:=⟨a,0,none⟩) (b:=⟨b,0,none⟩) (by intro x;injection x with x1;exact e x1) ha hb]
 simp only[binOp];simp[Op.equal,Op.maxDepth,h 9999]
namespace Y
def LI(L:List Nat)(q:Nat)(r:Int):Prop:=decide (r>=0)=L.contains q
def mY(q:Nat):List Value:=[q]
abbrev Mvs(W:World)(v:U.Sl)(L:List Nat):Prop:=Row W 267 1 mY (.slice v.a v.n v.c) L
theorem Mvs.n{v:U.Sl}{L:List Nat}(h:Mvs W v L):v.n=L.length:=by
 rcases h.2 with⟨h0,h1⟩|⟨g,cap,cur,hv,_⟩
 ·simp at h0;omega
 ·simp at hv;exact hv.2.1
theorem Mvs.cell{v:U.Sl}{L:List Nat}(h:Mvs W v L){q:Nat}(hi:L[i]?=some q):∃g,v.a=some ⟨g,0,none⟩/\L.length<=v.c/\W.cell? ⟨g,i,none⟩=some ↑q:=by
 obtain⟨a,n,c⟩:=v;have WU:=(Ps.1 hi).1;have hn:n=L.length:=h.n;subst hn;obtain⟨g,cap,hv⟩:=U.dy h zaa;simp at hv;obtain⟨rfl,rfl⟩:=hv;refine⟨g,rfl,?_,?_⟩
 ·rcases h.2 with⟨h0,_⟩|⟨g',cap',cur,hv,_,_,hle,_⟩
  ·cases h0
  ·simp at hv;show L.length<=c;rw[hv.2];omega
 ·have:=Row.cell (f:=mY) (n:=1) (j:=0) (fun _=>rfl) h zac WU;rw[Pp WU]at hi;rw[Qh hi]at this;simpa[mY] using this
end Y
theorem F1(w:World)(v:U.Sl)(L:List Nat)(q:Nat)(h:Y.Mvs w v L)(hl:L.length<=1000)(Wl:∀y,y=q\/y∈L->∃c,w.heap[y]?=some (.cells c 270 (0,0))):
  () 264 #[.slice v.a v.n v.c,q] w fun e w'=>(∃r:Int,e=.returned (r:Int)/\Y.LI L q r)/\w'=w:=by
 have HM:Hid (Y.Mvs w v L):=h;have HBK:Hid (∀y,y=q\/y∈L->∃c,w.heap[y]?=some (.cells c 270 (0,0))):=Wl;clear Wl;have hn:=h.n;obtain⟨a,n,c⟩:=v;dsimp only at hn;subst hn;clear h;dsimp only;go_enter func264,ntmps264;go_wp2
 go_loopg[8] L.length (fun x i wr=>∃k:Nat,x=L.length-k/\k<=L.length/\i=.int .i64 k/\(∀j y,j<k->L[j]?=some y->y≠q)/\wr=w)
 case atStart=>exact⟨0,rfl,PK _,rfl,fun j y hj=>zaa,rfl⟩
 case round=>
  obtain⟨k,hx,hk,rfl,WB,rfl⟩:=hrel;have HA:Hid (∀j y,j<k->L[j]?=some y->y≠q):=WB;clear WB;by_cases Vx:k<L.length
  ·obtain⟨y,hy⟩:∃y,L[k]?=some y:=⟨_,Pp Vx⟩;obtain⟨g,ha,Ww,hc⟩:=HM.out.cell hy;dsimp only at ha Ww;subst ha;have HY:Hid (L[k]?=some y):=hy;have heq:=zq wr q y (HBK.out q (.inl rfl)) (HBK.out y (.inr (PD hy)));clear hy;by_cases hq:y=q
   ·subst hq;have HIN:Hid (L.contains y=true):=by
     unfold Hid;rw[Tg];exact PD HY.out
    go_wp2;go_ret;exact⟨⟨k,rfl,by unfold Y.LI;rw[HIN.out];simp⟩,rfl⟩
   ·have YI:¬q=y:=fun e=>hq e.symm;go_wp2
    go_roundg (L.length-(k+1))
    case measure=>omega
    case rel=>
     refine⟨k+1,rfl,zaa,zah,fun j z hj hz=>?_,rfl⟩;by_cases e:j=k
     ·rw[e,HY.out]at hz;cases hz;exact hq
     ·exact HA.out j z zaa hz
  ·obtain rfl:k=L.length:=zaa;have HIN:Hid (L.contains q=false):=by
    unfold Hid;cases hcq:L.contains q
    ·rfl
    ·obtain⟨j,hj⟩:=TY (Tg.1 hcq);exact absurd rfl (HA.out j q ((Ps.1 hj).1) hj)
   go_wp2;go_ret;exact⟨⟨-1,rfl,by unfold Y.LI;rw[HIN.out];rfl⟩,rfl⟩
theorem yk(w:World)(v:U.Sl)(L:List Nat)(q:Nat)(h:Y.Mvs w v L)(hl:L.length<=1000)(Wl:∀y,y=q\/y∈L->∃c,w.heap[y]?=some (.cells c 270 (0,0))):
  () 237 #[.slice v.a v.n v.c,q] w fun e w'=>e=.returned (.bool (L.contains q))/\w'=w:=by
 have Xk:=F1 w v L q h hl Wl;unfold Y.LI at Xk;obtain⟨bq,hbq⟩:∃b,L.contains q=b:=⟨_,rfl⟩;rw[hbq]at Xk⊢;clear h hbq Wl;go_enter func237,ntmps237;go_wp2_with(go_at_call 264;refine Xk.mono ?_;rintro e w9 ⟨⟨r,rfl,hr⟩,U1⟩;rw[U1];clear U1 w9);go_ret;exact⟨rfl,rfl⟩
attribute [local go_sem] Qu
namespace Y
def fH(L:List (Option Nat))(acc:List Nat)(i:Nat):List Nat:=match L[i]? with
 |some (some q)=>if acc.contains q then acc else acc++[q]
 |_=>acc
def dO(L:List (Option Nat))(l:List Nat):List Nat:=l.foldl (fH L) []
theorem Ei(L:List (Option Nat))(l:List Nat)(i:Nat):dO L (l++[i])=fH L (dO L l) i:=by
 unfold dO;rw[QQ];rfl
theorem xF(L:List (Option Nat))(acc:List Nat)(i:Nat):(fH L acc i).length<=acc.length+1:=by
 unfold fH;split
 ·split<;>simp
 ·omega
theorem xC(L:List (Option Nat)):∀(l:List Nat) (acc:List Nat),(l.foldl (fH L) acc).length<=acc.length+l.length
 |[],acc=>by simp
 |i::l,acc=>by
  have h1:=xC L l (fH L acc i);have h2:=xF L acc i;simp only[List.foldl_cons,List.length_cons];omega
theorem Hp{L:List (Option Nat)}{acc:List Nat}(h:y∈fH L acc i):y∈acc\/L[i]?=some (some y):=by
 unfold fH at h;split at h
 ·rename_i q hq;split at h
  ·exact .inl h
  ·rcases PQ.1 h with h|h
   ·exact .inl h
   ·rw[PB.1 h];exact .inr hq
 ·exact .inl h
theorem xD{L:List (Option Nat)}{y:Nat}:∀(l:List Nat) (acc:List Nat),y∈l.foldl (fH L) acc->y∈acc\/∃i:Nat,L[i]?=some (some y)
 |[],_,h=>.inl h
 |i::l,acc,h=>by
  rcases xD l _ h with h|h
  ·rcases Hp h with h|h
   ·exact .inl h
   ·exact .inr ⟨i,h⟩
  ·exact .inr h
theorem xE{L:List (Option Nat)}{l:List Nat}(h:y∈dO L l):∃i:Nat,L[i]?=some (some y):=by
 rcases xD l [] h with h|h
 ·cases h
 ·exact h
theorem KH{s:Nat}(l:List (In s)):(bn l).length=l.length:=by rw[cU];simp
end Y
theorem Cg(w:World)(pb b cap N:Nat)(hv:Value)(fin mb n:Nat)(M:()->Option Nat)(ev:())(s:Nat)(hB:Y.dB w pb b N cap hv fin (.map (some mb)))(hM:Y.fa w N mb n M)(Wq:ev.size<=1000000)(hMe:M ev=none):
  () 202 #[pb,ev,.int .u32 s] w fun e w'=>e=.returned (.slice none 0 0)/\Below w w w':=by
 have h3:w.cell? (pb,3)=some (.map (some mb)):=zbh;have Ya:=hM.look Wq;rw[hMe]at Ya;dsimp only at Ya;clear hM hMe hB;have VG:=(Pq w w).alloc (Po _) (.cells #[.slice none 0 0] 265);go_enter func202,ntmps202;go_wp2;go_ret;exact⟨rfl,VG⟩
theorem Ej(w:World)(pb b cap N:Nat)(hv:Value)(fin mb n:Nat)(M:()->Option Nat)(ev:())(s g:Nat)(L:List (Option Nat))(hB:Y.dB w pb b N cap hv fin (.map (some mb)))(hM:Y.fa w N mb n M)(Wq:ev.size<=1000000)(hMe:M ev=some g)(hR:Y.dC w g L)(hL:L.length=N)(hs:s<4294967296)(V9:∀i,i∈Y.els s->i<N)
  (Wl:∀(i q:Nat),L[i]?=some (some q)->∃c,w.heap[q]?=some (.cells c 270 (0,0))) (hg:1<w.heap.size) (hT:TabAt 1 Lib.deBruijn32tab w):
  () 202 #[pb,ev,.int .u32 s] w fun e w'=>∃v:U.Sl,e=.returned (.slice v.a v.n v.c)/\w'.ownsRow w 267 1 (.slice v.a v.n v.c) (Y.dO L (Y.els s)).length ((Y.dO L (Y.els s)).flatMap Y.mY)/\Below w w w':=by
 obtain⟨i0,hi,Vv,Vk,Vl⟩:=QV nC;have h3:w.cell? (pb,3)=some (.map (some mb)):=zbh;have Ya:=hM.look Wq;rw[hMe]at Ya;dsimp only at Ya;have HBK:Hid _:=Wl;clear hM hMe hB Wl;refine(P8 (n:=6)).1 ?_;refine Qv func202 rfl trivial ?_ rfl;simp only[ntmps202,List.size_toArray,List.length_cons,List.length_nil,Nat.reduceAdd,Nat.reduceSub,Array.replicate_succ,Array.replicate_zero,List.push_toArray,List.append_toArray,List.nil_append,List.cons_append];gi_wp2_with(refine⟨trivial,?_⟩;gi_at_call 100;refine(P8.2 (dI s _)).mono ?_;rintro e w9 ⟨rfl,U1⟩;rw[U1];clear U1 w9);have c7:=((P9 w 265 (.slice g N N)).alloc (.cells #[.slice none 0 0] 265)).alloc (.cells #[.int .u32 s] 167);have c9:=(P9 (w.alloc (.cells #[.slice g N N] 265)) 265 (.slice none 0 0)).alloc (.cells #[.int .u32 s] 167);have cF:=P9 ((w.alloc (.cells #[.slice g N N] 265)).alloc (.cells #[.slice none 0 0] 265)) 167 (.int .u32 s);simp only[World.size_alloc]at c9 cF;have VG:Below w w (((w.alloc (.cells #[.slice g N N] 265)).alloc (.cells #[.slice none 0 0] 265)).alloc (.cells #[.int .u32 s] 167)):=(((Pq _ w).alloc (Po _) _).alloc zad _).alloc zaf _;have Vf:(((w.alloc (.cells #[.slice g N N] 265)).alloc (.cells #[.slice none 0 0] 265)).alloc (.cells #[.int .u32 s] 167)).heap.size=w.heap.size+3:=zad;obtain⟨W0,XZ⟩:∃W0,((w.alloc (.cells #[.slice g N N] 265)).alloc (.cells #[.slice none 0 0] 265)).alloc (.cells #[.int .u32 s] 167)=W0:=⟨_,rfl⟩;rw[XZ]at c7 c9 cF VG Vf⊢;clear XZ;refine pr zaa (w.heap.size+1+1) s hs rfl zaa zaa cF.cell (Y.KpT.of VG hg hT) rfl
  (fun pre W=>(Boxed W w 265 (.slice g N N)/\∃v,Boxed W (w.heap.size+1) 265 v/\W.ownsRow w 267 1 v (Y.dO L (Y.bn pre)).length ((Y.dO L (Y.bn pre)).flatMap Y.mY)/\∃sl:U.Sl,v=.slice sl.a sl.n sl.c)/\Below w w W)
  (fun _ _ _=>False)
  (Qi (Qi (QU (QM _ _ _) _) (QU (holdsRow_own w (w.heap.size+1) 265 267 1 (fun pre=>(Y.dO L (Y.bn pre)).length) (fun pre=>(Y.dO L (Y.bn pre)).flatMap Y.mY) (fun _ v=>∃sl:U.Sl,v=.slice sl.a sl.n sl.c)) _)) (Ru (Po _) zaa))
  (fun _ _ _ _ _ hs _ _=>hs)
  ⟨⟨c7,_,c9,QC _ _ _ _,⟨none,0,0⟩,rfl⟩,VG⟩
  (fun x a' _=>a'={ tmps:=#[.pointer (some ⟨pb,0,none⟩),.string ev,.int .u32 s,undef,undef,undef,.slice none 0 0,.pointer (some ⟨w.heap.size,0,none⟩),.bool true,.pointer (some ⟨w.heap.size+1,0,none⟩),.int .i64 x.1,undef,.tuple #[.slice (some ⟨g,0,none⟩) N N,.bool true],.pointer (some ⟨pb,0,none⟩),.pointer (some ⟨pb,0,none⟩),.pointer (some ⟨pb,3,none⟩),.map (some mb),.string ev,.tuple #[.slice (some ⟨g,0,none⟩) N N,.bool true],.slice (some ⟨g,0,none⟩) N N,.bool true,.bool true,.bool false,.int .u32 s,.func (.func 151) #[] #[.pointer (some ⟨w.heap.size+1+1,0,none⟩)],.int .i64 x.1,undef,undef,undef,undef,undef,undef,undef,undef,undef,undef,undef,undef,undef,undef,undef,undef,undef],defers:=[] })
  (fun _ _ _ _ _ _ hs _ _=>hs)
  ?assign ?body ?done ?stop
 case assign=>
  exact zeq
 case body=>
  rintro l pre x a' W _ _ ⟨⟨h7,v,h9,U5,sl,rfl⟩,XP⟩ rfl Vd;have Xo:=V9 x.1 x.2;have Wh:=Y.Ei L (Y.bn pre) x.1;rw[<- Y.eu]at Wh;have ZC:(Y.dO L (Y.bn pre)).length<=32:=by
   have:=Y.xC L (Y.bn pre) [];rw[Y.KH]at this;unfold Y.dO;simp at this;omega
  obtain⟨m,hm⟩:∃m,L[x.1]?=some m:=⟨_,Pp zaa⟩;have hRW:Y.dC W g L:=(XP.block g hR.lt).trans hR;have cm:=hRW.cell hm;have d7:=h7.cell;have d9:=h9.cell;have f9:=h9.frozen;have hsW:=XP.size;cases m with
  |none=>
   dsimp only[Option.map]at cm;have hst:Y.dO L (Y.bn (pre++[x]))=Y.dO L (Y.bn pre):=by rw[Wh];unfold Y.fH;rw[hm]
   have HST:Hid _:=hst;have HRW:Hid _:=U5;clear Wh hst U5 hm;gi_wp2;refine⟨trivial,?_⟩;gi_wp2;exact⟨QP _ _,(fun h=>h),⟨h7,_,h9,by rw[HST.out];exact HRW.out,sl,rfl⟩,XP⟩
  |some q=>
   dsimp only[Option.map]at cm;obtain⟨acc,hacc⟩:∃a,Y.dO L (Y.bn pre)=a:=⟨_,rfl⟩;have Yk:=yk W sl (Y.dO L (Y.bn pre)) q (aJ U5 (PK _)) zaa (fun y hy=>by
    obtain⟨i,hi⟩:∃i:Nat,L[i]?=some (some y):=by
     rcases hy with rfl|hy
     ·exact⟨_,hm⟩
     ·exact Y.xE hy
    obtain⟨c,hc⟩:=HBK.out i y hi;exact⟨c,(XP.block y (Pn.1 hc).1).trans hc⟩)
   have hst:Y.dO L (Y.bn (pre++[x]))=if acc.contains q then acc else acc++[q]:=by rw[Wh,hacc];unfold Y.fH;rw[hm]
   rw[hacc]at Yk U5 ZC;obtain⟨bq,hbq⟩:∃b,acc.contains q=b:=⟨_,rfl⟩;rw[hbq]at Yk hst;have HST:Hid _:=hst;clear Wh hst hm hacc hbq;cases bq
   ·have HS1:Hid (Y.dO L (Y.bn (pre++[x]))=acc++[q]):=by have:=HST.out;rw[Pu zac]at this;exact this
    clear HST;gi_wp2_with(first
     |(refine⟨trivial,?_⟩;gi_at_call 237;refine(aI Yk).mono ?_;rintro e w9 ⟨rfl,U1⟩;rw[U1];clear U1 w9)
     |(gi_at_builtin;refine wpListIn_append_own _ rfl _ _ 265 rfl w.heap.size 267 i0 (.pointer none) 1 8 underlying265 hi Vv Vk Vl rfl zac _ _ _ rfl (U5.alloc _) ⟨W.heap.size,0,none⟩ 1 1 [.pointer (some ⟨q,0,none⟩)] rfl rfl (cell_one_new _ _ _) zap zag zaa zaf ?_;intro v' w1 Vt Pg _;obtain⟨g',cap',rfl⟩:=ownsRow_succ Vt;obtain⟨VT,YW,XN,Wy,U4⟩:=h9.appended zac U5 hsW zaa Vt Pg;have Yy:=VT.cell;have hf1:=VT.frozen))
    have hk7:=bD ((h7.alloc _).kept Pg (h7.not_row zac U5)) (p:=↑(w.heap.size+1)) zad (.slice g' (acc.length+1) cap');exact⟨Wy.from _,Y.KpT.of U4 hg,⟨hk7,_,YW,by rw[HS1.out];simpa[Y.mY] using XN,⟨some ⟨g',0,none⟩,acc.length+1,cap'⟩,rfl⟩,XP.trans U4⟩
   ·have HS1:Hid (Y.dO L (Y.bn (pre++[x]))=acc):=by have:=HST.out;rw[PC rfl]at this;exact this
    clear HST;gi_wp2_with(refine⟨trivial,?_⟩;gi_at_call 237;refine(aI Yk).mono ?_;rintro e w9 ⟨rfl,U1⟩;rw[U1];clear U1 w9);exact⟨QP _ _,(fun h=>h),⟨h7,_,h9,by rw[HS1.out];exact U5,sl,rfl⟩,XP⟩
 case done=>
  rintro D ys W hD WT ⟨⟨h7,v,h9,U5,sl,rfl⟩,XP⟩ hK;exact zde
 case stop=>
  exact zfm
end
section
open Go.RowKit
def QAt(w:World)(lo:Nat)(v:Value)(L:List ()):Prop:=
 (v=.slice none 0 0/\L=[])\/∃g off cap cur,v=.slice (some ⟨g,off,none⟩) L.length cap/\lo<=g/\w.heap[g]?=some (.cells cur 9 (0,0))/\L.length<=cap/\cap<=maxLen/\(0<cap->off+cap<=cur.size)/\∀j,j<L.length->cur[off+j]?=some (.string (L.getD j ByteArray.empty))
theorem QAt.nil(w:World)(lo:Nat):QAt w lo (.slice none 0 0) []:=.inl ⟨rfl,rfl⟩
theorem QAt.form{w:World}(h:QAt w lo v L):∃a c,v=.slice a L.length c:=by
 rcases h with⟨rfl,rfl⟩|⟨g,off,cap,cur,rfl,_⟩
 ·exact⟨none,0,rfl⟩
 ·exact⟨_,_,rfl⟩
theorem QAt.mo{P:Nat->Prop}{w w':World}(h:QAt w lo v L)(hm:Mo P w w')(hn:∀g,v.ownBlock=some g->¬P g):QAt w' lo v L:=by
 rcases h with h|⟨g,off,cap,cur,rfl,h1,h2,h3⟩
 ·exact .inl h
 ·exact .inr ⟨g,off,cap,cur,rfl,h1,by rw[hm.block g (Pn.1 h2).1 (hn g rfl)];exact h2,h3⟩
theorem QAt.kind{w:World}(h:QAt w lo v L):∀g,v.ownBlock=some g->∃c,w.heap[g]?=some (.cells c 9 (0,0)):=by
 intro g hg
 rcases h with⟨rfl,_⟩|⟨g',off,cap,cur,rfl,h1,h2,_⟩
 ·cases hg
 ·cases hg;exact⟨_,h2⟩
theorem QAt.head{w:World}{x:()}(h:QAt w lo v (x::L)):∃g off cap,v=.slice (some ⟨g,off,none⟩) (L.length+1) (cap+1)/\L.length<=cap/\cap+1<=maxLen/\w.cell? ⟨g,off,none⟩=some ↑x /\
  ∀off',(off'=off+1\/cap=0)->QAt w lo (.slice (some ⟨g,off',none⟩) L.length cap) L:=by
 rcases h with⟨_,h⟩|⟨g,off,cap,cur,rfl,h1,h2,h3,h4,h5,h6⟩
 ·cases h
 ·simp only[List.length_cons]at h3 h6;obtain⟨cap,rfl⟩:∃k,cap=k+1:=⟨cap-1,zaa⟩;refine⟨g,off,cap,rfl,zaa,h4,?_,fun off' ho=>.inr ⟨g,off',cap,cur,rfl,h1,h2,zaa,zaa,?_,?_⟩⟩
  ·have:=h6 0 zaa;simp only[Nat.add_zero,List.getD_cons_zero]at this;simp[World.cell?,h2,this]
  ·intro hc;have:=h5 zaa;omega
  ·intro j hj;have:=h6 (j+1) zaa
   rcases ho with rfl|rfl
   ·rw[show off+1+j=off+(j+1) by omega,this];simp
   ·omega
section
variable {P:Program}(w:World)
theorem oU(t ty e:TypeId)(i:TypeInfo)(ht:P.underlying t=some (.slice e))(hi:P.info? e=some i)
  (g off sLen sCap:Nat) (cur:Array Value) (hg:w.heap[g]?=some (.cells cur e (0,0)))
  (a:Addr) (m c:Nat) (news:List Value) (hl:news.length=m*i.size) (YX:∀j u,news[j]?=some u->w.cell? (a.add j)=some u) (h1:∀u∈news,u.oneCell'=true)
  (hroom:sLen+m<=sCap) (ZD:off+sLen*i.size+news.length<=cur.size):
  (Builtin.append_ #[t,t] ty #[.slice (some (g,off)) sLen sCap,.slice (some a) m c]).run P w =
   .ok (.slice (some (g,off)) (sLen+m) sCap) (w.setRow g (cur.toList.take (off+sLen*i.size)++news++cur.toList.drop (off+sLen*i.size+news.length)).toArray):=by
 have hf:=run_firstCells_some (P:=P) w i.size m a m c news hl YX;have hst:=run_storeCells_at P g (off+sLen*i.size) e news 0 cur w hg (by simpa using ZD) h1;simp only[Nat.add_zero]at hst;simp[Builtin.append_,run_underlying ht,sizeOf,typeInfo,hi,Builtin.lenOf,hroom,hf,Addr.add_lit,hst]
theorem zn(t ty:TypeId)(i:TypeInfo)(z:Value)(bytes:Nat)(ht:P.underlying t=some (.slice 9))(hi:P.info? 9=some i)(hz:i.zero=some z)
  (Yc:i.size=1) (hby:i.bytes=bytes) (hzs:z.cells.size=1) (lo:Nat) (v:Value) (L:List ()) (hq:QAt w lo v L)
  (a:Addr) (c:Nat) (x:()) (YX:w.cell? a=some ↑x) (hsp:a.spot=none)
  (h63:L.length+1<=maxLen) (Yl:(L.length+1)*bytes<=140737488355328) (Yd:lo<=w.heap.size):
  ∃v' w',(Builtin.append_ #[t,t] ty #[v,.slice (some a) 1 c]).run P w=.ok v' w'/\QAt w' lo v' (L++[x])/\w.grownBy w' v.ownBlock/\(v'.ownBlock=v.ownBlock\/v'.ownBlock=some w.heap.size):=by
 subst hby;have hsmall:L.length+1<=9223372036854775807:=by simp only[maxLen]at h63;omega
 have hn:∀j u,[Value.string x][j]?=some u->w.cell? (a.add j)=some u:=by
  intro j u hj;cases j with
  |zero=>simp at hj;subst hj;obtain⟨b,o,s⟩:=a;subst hsp;simpa[Addr.add_lit] using YX
  |succ j=>simp at hj
 have hl:[Value.string x].length=1*i.size:=by rw[Yc];rfl
 have h1:∀u∈[Value.string x],u.oneCell'=true:=by intro u hu;simp at hu;subst hu;rfl
 have grown:∀(old:Nat),∀(row:Option Nat),
   QAt (w.drew.alloc (.cells ((L.map Value.string).toArray++[Value.string x].toArray++Builtin.zeroCells z.cells (grownCap w (L.length+1) old 9-(L.length+1))) 9)) lo
    (.slice w (L.length+1) (grownCap w (L.length+1) old 9)) (L++[x]) /\
   w.grownBy (w.drew.alloc (.cells ((L.map Value.string).toArray++[Value.string x].toArray++Builtin.zeroCells z.cells (grownCap w (L.length+1) old 9-(L.length+1))) 9)) row:=by
  intro old row;have ZB:=grownCap_ge w (L.length+1) old 9;have hcm:grownCap w (L.length+1) old 9<=maxLen:=grownCap_le_maxLen w (L.length+1) old 9 h63;refine⟨.inr ⟨w.heap.size,0,_,_,zad,Yd,PG w.drew _,by simpa using ZB,hcm,?_,?_⟩,⟨rfl,rfl,rfl,zad,fun k hk _=>QS w.drew _ k hk⟩⟩
  ·intro _;simp only[Array.size_append,List.size_toArray,List.length_map,List.length_cons,List.length_nil,size_zeroCells,hzs];omega
  ·intro j hj;simp only[List.length_append,List.length_cons,List.length_nil]at hj;rw[Rz,Uq zaf];by_cases h:j<L.length
   ·rw[Uq zaD];simp[List.getD,List.getElem?_append_left h,h]
   ·obtain rfl:j=L.length:=zaa;rw[Array.getElem?_append_right zad];simp[List.getD]
 rcases hq with⟨rfl,rfl⟩|⟨g,off,cap,cur,rfl,hbg,hg,hnc,hcm,YJ,hcur⟩
 ·have hr:=run_append_nil (P:=P) w t ty 9 i z ht hi hz a 1 c [x] hl hn zaa zaa (by have hb:=Yl;simp at hb;omega);have Wv:=grown 0 (Value.ownBlock (.slice none 0 0));simp only[List.length_nil,Nat.zero_add,List.map_nil,List.nil_append,Array.empty_append]at Wv⊢;exact⟨_,_,hr,Wv.1,Wv.2,.inr rfl⟩
 ·by_cases hroom:L.length+1<=cap
  ·have YJ:=YJ zaa;have hr:=oU (P:=P) w t ty 9 i ht hi g off L.length cap cur hg a 1 c [x] hl hn h1 hroom (by rw[Yc];simp;omega);rw[Yc,SK]at hr;refine⟨_,_,hr,.inr ⟨g,off,cap,_,zad,hbg,setRow_heap w g cur _ _ _ hg,by simpa using hroom,hcm,?_,?_⟩,⟨rfl,rfl,rfl,zad,fun k _ hk=>setRow_other w g k _ (fun e=>hk (by simp[Value.ownBlock,e]))⟩,.inl rfl⟩
   ·intro _;simp only[List.size_toArray,List.length_append,List.length_take,List.length_drop,Array.length_toList,List.length_cons,List.length_nil];omega
   ·intro j hj;simp only[List.length_append,List.length_cons,List.length_nil]at hj;rw[R9,Qd];by_cases h:j<L.length
    ·rw[Qo zaf,QK zaa,QJ,hcur j h];simp[List.getD,List.getElem?_append_left h]
    ·obtain rfl:j=L.length:=zaa;have hmin:(cur.toList.take (off+L.length)).length=off+L.length:=zaf;rw[Qr (by rw[hmin];omega),hmin,RR];simp[List.getD]
  ·have holds:∀j u,(L.map Value.string)[j]?=some u->w.cell? ((⟨g,off,none⟩:Addr).add j)=some u:=by
    intro j u hu;have hj:j<L.length:=by simpa using(Ps.1 hu).1
    have:=hcur j hj;simp[List.getElem?_eq_getElem hj]at hu;subst hu;simp[Addr.add_lit,World.cell?,hg,this,List.getD,hj]
   have hr:=run_append_grow (P:=P) w t ty 9 i z ht hi hz ⟨g,off,none⟩ L.length cap (L.map Value.string) (by simp[Yc]) holds a 1 c [x] hl hn zaa zaa (growslice_fits zaa Yl);have Wv:=grown cap (Value.ownBlock (.slice (some (g,off)) L.length cap));exact⟨_,_,hr,Wv.1,Wv.2,.inr rfl⟩
theorem rL{rest:List Oper}{o:Oper}{a:Act}(hgd:o.guard=none)(s x:Operand)(t:TypeId)
  (ho:o.op=.call { callee:=.builtin .append,args:=#[s,x],argTypes:=#[t,t] })
  (i:TypeInfo) (z:Value) (bytes:Nat) (ht:P.underlying t=some (.slice 9)) (hi:P.info? 9=some i) (hz:i.zero=some z)
  (Yc:i.size=1) (hby:i.bytes=bytes) (hzs:z.cells.size=1) (lo:Nat) (v:Value) (L:List ()) (hs:a.eval s=v) (hq:QAt w lo v L)
  (ad:Addr) (c:Nat) (y:()) (hx:a.eval x=.slice (some ad) 1 c) (YX:w.cell? ad=some ↑y) (hsp:ad.spot=none)
  (h63:L.length+1<=maxLen) (Yl:(L.length+1)*bytes<=140737488355328) (Yd:lo<=w.heap.size)
  (h:∀v' w',QAt w' lo v' (L++[y])->w.grownBy w' v.ownBlock->(v'.ownBlock=v.ownBlock\/v'.ownBlock=some w.heap.size)->wpList P ops Q rest (a.put o.dst v') w'):wpList P ops Q (o::rest) a w:=by
 refine wpList_plain hgd fun K hK=>?_;obtain⟨v',w',hr,h2,h3,h4⟩:=zn (P:=P) w t o.type i z bytes ht hi hz Yc hby hzs lo v L hq ad c y YX hsp h63 Yl Yd;unfold Oper.wp execOp;simp only[ho,resolve,invoke,builtin,Sem.run_bind,Sem.run_pure,Result.andThen_ok,List.map_toArray,List.map_cons,List.map_nil,hs,hx,hr];exact hK _ _ (h v' w' h2 h3 h4)
end
end
section
open Go.RowKit Go.Proofs Go.Shelf
namespace Y
structure MSt where
 act:Nat
 kept:Nat->Nat
 q:List ()
 now:Nat
 wh:Nat->Value
 fin:Value
def fF(pb:Nat)(qv:Value)(s:MSt)(i:Nat):Value:=
 if i=0 then .pointer (some ⟨pb,0,none⟩) else if i=1 then .int .u32 s.act else if i<26 then .int .u32 (s.kept (i-2)) else if i=26 then qv else if i=27 then .int .u64 s.now else if i<419 then s.wh i else s.fin
structure Lo where
 n:Nat
 s:Nat
 ok:Nat->Prop
 le:∀k,ok k->n<=k
 new:∀k,s<=k->ok k
instance:Coe Lo Nat:=⟨Lo.n⟩
abbrev Lo.all(n:Nat):Lo:=⟨n,n,fun k=>n<=k,fun _ h=>h,fun _ h=>h⟩
structure aw(W:World)(lo:Y.Lo)(mb pb:Nat)(qv:Value)(s:MSt):Prop where
 blk:∃arr:Array Value,W.heap[mb]?=some (.cells arr 180 (0,0))/\arr.size=420/\∀i,i<420->arr[i]?=some (fF pb qv s i)
 que:QAt W lo qv s.q
 lo':lo.ok mb
 qok:∀g,qv.ownBlock=some g->lo.ok g
 sz:lo.s<=W.heap.size
def Idl(W:World)(mb:Nat):Prop:=W.cell? (mb,26)=some (.slice none 0 0)
theorem Idl.bel(h:Idl W mb)(hm:mb<W.heap.size)(hb:Below W W W'):Idl W' mb:=(hb.cell (p:=⟨mb,26,none⟩) hm).trans h
theorem aw.lt{lo:Y.Lo}{s:MSt}(h:aw W lo mb pb qv s):mb<W.heap.size:=by
 obtain⟨arr,h1,_⟩:=h.blk;exact(Pn.1 h1).1
theorem aw.cell{lo:Y.Lo}{s:MSt}(h:aw W lo mb pb qv s)(i:Nat)(hi:i<420):W.cell? (mb,i)=some (fF pb qv s i):=by
 obtain⟨arr,h1,h2,h3⟩:=h.blk;rw[Pt W _ _ _ _ _ h1];exact h3 i hi
theorem aw.frozen{lo:Y.Lo}{s:MSt}(h:aw W lo mb pb qv s)(i:Nat):W.frozen? (mb,i)=false:=by
 obtain⟨arr,h1,h2,h3⟩:=h.blk;simp[World.frozen?,h1]
theorem aw.qne{lo:Y.Lo}{s:MSt}(h:aw W lo mb pb qv s):qv.ownBlock≠some mb:=fun e=>by
 obtain⟨arr,h1,_⟩:=h.blk;obtain⟨c,hc⟩:=h.que.kind mb e;rw[h1]at hc;simp at hc
theorem aw.idl{lo lo':Y.Lo}{s s':MSt}(h:aw W lo mb pb qv s)(k:aw W' lo' mb pb qv s')(hi:Idl W mb):Idl W' mb:=by
 have h1:W.cell? (mb,26)=some qv:=h.cell 26 zac;have h2:W'.cell? (mb,26)=some qv:=k.cell 26 zac;exact h2.trans (h1.symm.trans hi)
theorem aw.mo{P:Nat->Prop}{lo:Y.Lo}{s:MSt}(h:aw W lo mb pb qv s)(hm:Mo P W W')(h1:¬P mb)(h2:∀g,qv.ownBlock=some g->¬P g):aw W' lo mb pb qv s where
 blk:=by
  obtain⟨arr,a,b,c⟩:=h.blk;exact⟨arr,(hm.block mb (Pn.1 a).1 h1).trans a,b,c⟩
 que:=h.que.mo hm h2
 lo':=h.lo'
 qok:=h.qok
 sz:=Pr h.sz hm.size
theorem aw.below{lo:Y.Lo}{s:MSt}(h:aw W lo mb pb qv s)(hb:Below W W W'):aw W' lo mb pb qv s:=h.mo (P:=fun _=>False) (az hb) (fun h=>h) (fun _ _ h=>h)
theorem aw.set{lo:Y.Lo}{s:MSt}(h:aw W lo mb pb qv s)(i:Nat)(v:Value)(s':MSt)(hi:i<420)(hq:s'.q=s.q)(hc:∀j,j<420->fF pb qv s' j=if j=i then v else fF pb qv s j):aw (W.setCell (mb,i) v) lo mb pb qv s' where
 blk:=by
  obtain⟨arr,a,b,c⟩:=h.blk;refine⟨arr.setIfInBounds i v,PR W mb i _ _ v a,by simp[b],fun j hj=>?_⟩;rw[hc j hj];by_cases e:j=i
  ·subst e;rw[PC rfl,Q8 zaa]
  ·rw[Pu e,Q0 (fun x=>e x.symm)];exact c j hj
 que:=by
  rw[hq];exact h.que.mo ((Mo.refl (·=mb) W).set ⟨mb,i,none⟩ v rfl) (fun g hg e=>h.qne (e▸hg))
 lo':=h.lo'
 qok:=h.qok
 sz:=Pr h.sz ((Mo.refl (·=mb) W).set ⟨mb,i,none⟩ v rfl).size
end Y
theorem yz:(Tryz.prog.info? 9).map (fun i=>(i.zero,i.size,i.bytes))=some (some (.string ⟨#[]⟩),1,16):=zab
theorem De(w:World)(lo:Y.Lo)(mb pb:Nat)(qv:Value)(s:Y.MSt)(m lv:Nat)(h:Y.aw w lo mb pb qv s)(ha:s.act<4294967296)(hl:lv<4294967296)(hm:w.cell? (m,1)=some (.int .u32 lv)):
  () 155 #[mb,m] w fun e w'=>e=.returned (.int .u32 ((lv&&&s.act:Nat):Int))/\Below w w w':=by
 have h1:w.cell? (mb,1)=some (.int .u32 s.act):=h.cell 1 zac;have hand:=SW _ _ hl ha;clear h;go_enter func155,ntmps155;go_wp2
 go_quiet(fail)
 go_wp2;go_ret;exact⟨rfl,RM (Pq _ _) _⟩
namespace Y
def dc(t:TypeId):Prop:=t=180\/t=9\/t=302
def OV(t:TypeId):Prop:=t=180\/t=9
structure RfE(E:TypeId->Prop)(lo:Y.Lo)(w w':World):Prop where
 bel:Below lo w w'
 kd:Kd E w w'
 oth:KeepsOthers w w'
 own:∀k,k<w.heap.size->¬lo.ok k->w'.heap[k]?=w.heap[k]?
abbrev Rf:Lo->World->World->Prop:=RfE dc
abbrev Rq:Lo->World->World->Prop:=RfE OV
def eM(t:TypeId):Prop:=t=180\/t=302
abbrev Rw:Lo->World->World->Prop:=RfE eM
def Md(t:TypeId):Prop:=t=180
abbrev Rm:Lo->World->World->Prop:=RfE Md
theorem RfE.refl(lo:Y.Lo)(w:World):RfE E lo w w:=⟨Pq _ _,bB (Pq _ _),KeepsOthers.refl _,fun _ _ _=>rfl⟩
theorem RfE.trans{lo:Y.Lo}{c:World}(h:RfE E lo a b)(k:RfE E lo b c):RfE E lo a c:=⟨h.bel.trans k.bel,h.kd.trans k.kd,h.oth.trans k.oth,fun i hi hn=>(k.own i (PY hi h.bel.size) hn).trans (h.own i hi hn)⟩
theorem RfE.of{lo:Y.Lo}(h:Below a a b)(hl:lo<=a.heap.size):RfE E lo a b:=⟨h.mono hl,bB h,eJ h,fun i hi _=>h.block i hi⟩
theorem RfE.mo{lo:Y.Lo}{P:Nat->Prop}(h:Mo P a b)(hl:∀k,P k->lo.ok k/\∃c t f,a.heap[k]?=some (.cells c t f)/\E t)(hs:lo<=a.heap.size):RfE E lo a b where
 bel:=⟨h.os,h.tape,h.output,h.size,fun k hk=>h.block k zaa (fun hp=>by have:=lo.le _ (hl k hp).1;omega)⟩
 kd:=gS h (fun k c t f hp hc=>by
  obtain⟨_,c',t',f',h1,h2⟩:=hl k hp;rw[hc]at h1;cases h1
  exact h2)
 oth:=⟨h.size,fun k o hk ho=>h.block k (Pn.1 hk).1 (fun hp=>by
  obtain⟨_,c',t',f',h1,h2⟩:=hl k hp;rw[hk]at h1;cases h1
  cases ho) |>.trans hk⟩
 own:=fun k hk hn=>h.block k hk (fun hp=>hn (hl k hp).1)
theorem RfE.wide{F:TypeId->Prop}{lo:Y.Lo}(h:RfE E lo a b)(hE:∀t,E t->F t):RfE F lo a b:=⟨h.bel,h.kd.mono hE,h.oth,h.own⟩
theorem xi{lo:Y.Lo}(h:Rw lo a b):Rf lo a b:=h.wide fun _ h=>h.elim .inl (fun h=>.inr (.inr h))
theorem Kg{lo:Y.Lo}(h:Rm lo a b):Rw lo a b:=h.wide fun _ h=>.inl h
theorem xh{lo:Y.Lo}(h:Rq lo a b):Rf lo a b:=h.wide fun _ h=>h.elim .inl (fun h=>.inr (.inl h))
end Y
theorem qJ(w:World)(lo:Y.Lo)(mb pb:Nat)(qv:Value)(s:Y.MSt)(ev:())(h:Y.aw w lo mb pb qv s)(U8:lo<=w.heap.size)(Yb:s.q.length<=4398046511104):
  () 125 #[mb,ev] w fun e w'=>e=.returned (.tuple #[])/\∃qv',Y.aw w' lo mb pb qv' { s with q:=s.q++[ev] }/\Y.Rq lo w w':=by
 obtain⟨i0,hi,Vv,Vk,Vl⟩:=QV yz;have h26:w.cell? (mb,26)=some qv:=h.cell 26 zac;have hba:Below w w (w.alloc (.cells #[ev] 9)):=(Pq _ _).alloc (Po _) _;have YY:(w.alloc (.cells #[ev] 9)).cell? w=some ↑ev:=Pt _ _ 0 _ _ (0,0) (PG w _);have hMa:=h.below hba;obtain⟨qa,qc,rfl⟩:=h.que.form;have VH:∀v5 w5,QAt w5 lo v5 (s.q++[ev])->(w.alloc (.cells #[ev] 9)).grownBy w5 (Value.ownBlock (.slice qa s.q.length qc))->(v5.ownBlock=Value.ownBlock (.slice qa s.q.length qc)\/v5.ownBlock=some (w.alloc (.cells #[ev] 9)).heap.size)->(∃c,w5.heap[mb]?=some (.cells c 180 (0,0))/\w5.cell? ⟨mb,26,none⟩=some (.slice qa s.q.length qc)/\w5.frozen? ⟨mb,26,none⟩=false)/\Y.aw (w5.setCell ⟨mb,26,none⟩ v5) lo mb pb v5 { s with q:=s.q++[ev] }/\Y.Rq lo w (w5.setCell ⟨mb,26,none⟩ v5):=fun v5 w5 hq5 ZE hat5=>by
  obtain⟨arr,a1,a2,a3⟩:=hMa.blk;have Xr:=hMa.lt;have a5:w5.heap[mb]?=some (.cells arr 180 (0,0)):=(ZE.block mb Xr (fun e=>hMa.qne e.symm)).trans a1;refine⟨⟨arr,a5,by rw[Pt _ _ _ _ _ _ a5];exact a3 26 zac,by simp[World.frozen?,a5]⟩,⟨⟨arr.setIfInBounds 26 v5,PR w5 mb 26 _ _ v5 a5,by simp[a2],fun j hj=>?_⟩,hq5.mo ((Mo.refl (·=mb) w5).set ⟨mb,26,none⟩ v5 rfl) (fun g hg e=>?_),h.lo',fun g hg=>?_,Pr h.sz (Pr hba.size (Pr ZE.size zad))⟩,?_⟩
  ·by_cases e:j=26
   ·subst e;rw[Q8 zaa];rfl
   ·rw[Q0 (fun x=>e x.symm),a3 j hj];simp[Y.fF,e]
  ·obtain⟨c,hc⟩:=hq5.kind g hg;rw[show g=mb from e,a5]at hc;simp at hc
  ·rcases hat5 with e|e
   ·exact h.qok g (e▸hg)
   ·rw[e]at hg;cases hg
    exact lo.new _ (Pr h.sz hba.size)
  ·refine(Y.RfE.of hba U8).trans ((Y.RfE.mo (P:=fun k=>Value.ownBlock (.slice qa s.q.length qc)=some k) ⟨ZE.os,ZE.tape,ZE.output,ZE.size,fun k hk hn=>ZE.block k hk (fun e=>hn e.symm)⟩ (fun k hk=>?_) (Pr U8 hba.size)).trans (Y.RfE.mo (P:=(·=mb)) ((Mo.refl (·=mb) w5).set ⟨mb,26,none⟩ v5 rfl) (fun k hk=>?_) (Pr U8 (Pr hba.size ZE.size))))
   ·obtain⟨c,hc⟩:=hMa.que.kind k hk;exact⟨hMa.qok k hk,c,_,_,hc,.inr rfl⟩
   ·subst hk;exact⟨h.lo',arr,_,_,a5,.inl rfl⟩
 have HF:Hid _:=VH;have HQ:Hid (QAt (w.alloc (.cells #[ev] 9)) lo (.slice qa s.q.length qc) s.q):=hMa.que;clear VH hMa h hba;go_enter func125,ntmps125;go_wp2_with(show wpList _ _ _ (Oper.mk (some 11) _ _ _ _ _::_) _ _;refine rL _ rfl _ _ 22 rfl i0 _ 16 underlying22 hi Vv Vk Vl rfl lo _ _ rfl HQ.out ⟨w,0,none⟩ 1 ev rfl YY rfl zag zaa zaf ?_;intro v5 w5 hq5 ZE hat5;obtain⟨⟨c5,b5,d5,f5⟩,hM5,hR5⟩:=HF.out v5 w5 hq5 ZE hat5;obtain⟨a6,c6,rfl⟩:=hq5.form);go_end0;rw[PI,Q6]at hM5 hR5;exact⟨rfl,_,hM5,hR5⟩
namespace Y
def fw(e:Nat):Value:=if e=0 then .nilIface else .iface 29 (.int .i64 e)
end Y
theorem ki(w:World)(lo:Y.Lo)(mb pb:Nat)(qv:Value)(s:Y.MSt)(e0:Nat)(h:Y.aw w lo mb pb qv s)(he:s.fin=Y.fw e0)(he0:e0=0\/e0=5\/e0=6):
  () 66 #[mb] w fun e w'=>e=.returned (if e0=6 then Y.fw 6 else .nilIface)/\w'=w:=by
 have h5:w.cell? (mb,419)=some s.fin:=h.cell 419 zac;rw[he]at h5;clear h he;have q0:∀w:World,(binOp .eql 42 .nilIface (.iface 29 (.int .i64 6))).run prog w=.ok (.bool false) w:=fun w=>zab;have q5:∀w:World,(binOp .eql 42 (.iface 29 (.int .i64 5)) (.iface 29 (.int .i64 6))).run prog w=.ok (.bool false) w:=fun w=>zab;have q6:∀w:World,(binOp .eql 42 (.iface 29 (.int .i64 6)) (.iface 29 (.int .i64 6))).run prog w=.ok (.bool true) w:=fun w=>zab
 rcases he0 with rfl|rfl|rfl
 all_goals
  unfold Y.fw at *;simp only[Nat.reduceEqDiff,↓reduceIte]at h5⊢;go_enter func66,ntmps66;go_wp2;go_ret;exact⟨rfl,rfl⟩
theorem Mi(w:World)(lo:Y.Lo)(mb pb:Nat)(qv:Value)(s:Y.MSt)(h:Y.aw w lo mb pb qv s):
  () 60 #[mb] w fun e w'=>e=.returned (.int .u64 s.now)/\w'=w:=by
 have h27:w.cell? (mb,27)=some (.int .u64 s.now):=h.cell 27 zac;clear h;have hw:() 98 #[(mb,27)] w fun e w'=>e=.returned (.int .u64 s.now)/\w'=w:=by
  go_enter func98,ntmps98;exact zfr
 go_enter func60,ntmps60;go_wp2_with(go_at_call 98;refine hw.mono ?_;rintro e w9 ⟨rfl,U1⟩;rw[U1];clear U1 w9);go_ret;exact⟨rfl,rfl⟩
namespace Y
def upd{α:Type}(f:Nat->α)(i:Nat)(v:α):Nat->α:=fun j=>if j=i then v else f j
theorem aE{α:Type}(f:Nat->α)(i:Nat)(v:α):upd f i v i=v:=PC rfl
theorem aH{α:Type}(f:Nat->α){j:Nat}(v:α)(h:j≠i):upd f i v j=f j:=Pu h
def isR(r:Nat):Prop:=(r<390/\r % 65≠64)\/r=390
theorem isR.lt(h:isR r):r<391:=by rcases h with h|h<;>omega
structure du(W:World)(lo:Y.Lo)(wh:Nat->Value)(R:Nat->List Nd):Prop where
 ring:∀r,isR r->wh (28+r)=aN (R r)
 nds:∀r,isR r->cV W (R r)
 low:∀r,isR r->∀x∈R r,lo.ok x.1
 dis:∀r q,isR r->isR q->r≠q->∀x∈R r,∀y∈R q,x.1≠y.1
 nod:∀r,isR r->((R r).map (·.1)).Nodup
def kZ(wh:Nat->Value)(R:Nat->List Nd):Prop:=∀k,k<6->∃h:Nat,h<18446744073709551616/\wh (28+(k*65+64))=.int .u64 h/\∀s,s<64->h.testBit s=!(R (k*65+s)).isEmpty
theorem du.kd{lo:Y.Lo}(h:du W lo wh R)(hk:Kd E W W')(hE:¬E 302):du W' lo wh R:=
 ⟨h.ring,fun r hr i x hx=>(hk.aq _ _ _ _ (h.nds r hr i x hx) hE).trans (h.nds r hr i x hx),h.low,h.dis,h.nod⟩
theorem du.below{lo:Y.Lo}(h:du W lo wh R)(hb:Below W W W'):du W' lo wh R:=h.kd (bB (E:=fun _=>False) hb) (fun h=>h)
theorem aw.E7{lo:Y.Lo}{s:MSt}(h:aw W lo mb pb qv s)(i:Nat)(v:Value)(h1:28<=i)(h2:i<419):aw (W.setCell (mb,i) v) lo mb pb qv { s with wh:=upd s.wh i v }:=
 h.set i v _ zaa rfl fun j hj=>by
  by_cases e:j=i
  ·subst e;rw[PC rfl];unfold fF;rw[Pu zaa,Pu zaa,Pu zaa,Pu zaa,Pu zaa,PC h2];exact aE _ _ _
  ·rw[Pu e];unfold fF;dsimp only;rw[aH _ _ e]
theorem aw.typ{lo:Y.Lo}{s:MSt}(h:aw W lo mb pb qv s){n:Nat}{c:Array Value}{f:Nat×Nat}(hn:W.heap[n]?=some (.cells c 302 f)):mb≠n:=fun e=>by
 obtain⟨arr,a1,_⟩:=h.blk;rw[e,hn]at a1;simp at a1
theorem du.push{lo:Y.Lo}{s:MSt}{n:Nat}{x:Tn}(hM:aw W lo mb pb qv s)(h:du W lo s.wh R)(hr:isR r)(Vb:lo<=W.heap.size)(hn:W.heap[n]?=some (.cells (eU x v) 302 (0,0)))(WC:∀q,isR q->∀y∈R q,y.1≠n)(U8:lo.ok n):
  aw (eL W ⟨mb,28+r,none⟩ (R r) n) lo mb pb qv { s with wh:=upd s.wh (28+r) (ndP n) }/\du (eL W ⟨mb,28+r,none⟩ (R r) n) lo (upd s.wh (28+r) (ndP n)) (upd R r (R r++[(n,x)]))/\Rw lo W (eL W ⟨mb,28+r,none⟩ (R r) n):=by
 have Ym:∀q,isR q->∀y∈R q,mb≠y.1:=fun q hq y hy=>by
  exact zeO
 have hnr:n ∉ (R r).map (·.1):=fun e=>by
  obtain⟨y,hy,e⟩:=P0.1 e;exact WC r hr y hy e
 have hmr:mb ∉ (R r).map (·.1):=fun e=>by
  obtain⟨y,hy,e⟩:=P0.1 e;exact Ym r hr y hy e.symm
 obtain⟨p1,p2⟩:=(h.nds r hr).push (p:=(mb,28+r)) (h.nod r hr) hn hnr (hM.typ hn) hmr;have Xv:=hr.lt;have Z0:∀z,(R r).getLast?=some z->z∈R r:=fun z hz=>RD hz;have YZ:∀q,isR q->∀y∈R q,∃c,W.heap[y.1]?=some (.cells c 302 (0,0)):=fun q hq y hy=>by
  exact zeP
 refine⟨?_,⟨fun q hq=>?_,fun q hq=>?_,fun q hq y hy=>?_,fun q q' hq YI U9 y hy z hz=>?_,fun q hq=>?_⟩,RfE.mo p2 (fun k hk=>?_) Vb⟩
 ·have hq:∀g,qv.ownBlock=some g->∀c,W.heap[g]?≠some (.cells c 302 (0,0)):=fun g hg c e=>by
   obtain⟨c',Ve⟩:=hM.que.kind g hg;rw[e]at Ve;simp at Ve
  unfold eL;cases hz:(R r).getLast? with
  |none=>
   exact(hM.mo (P:=(·=n)) ((Mo.refl _ W).set ⟨n,3,none⟩ _ rfl) (fun e=>hM.typ hn e) (fun g hg e=>hq g hg _ (e▸hn))).E7 (28+r) _ zaa zaa
  |some z=>
   obtain⟨cz,hcz⟩:=YZ r hr z (Z0 z hz);exact(hM.mo (P:=fun k=>k=n\/k=z.1) (((Mo.refl _ W).set ⟨n,3,none⟩ _ (.inl rfl)).set ⟨z.1,3,none⟩ _ (.inr rfl)) (fun e=>e.elim (fun e=>hM.typ hn e) (fun e=>hM.typ hcz e)) (fun g hg e=>e.elim (fun e=>hq g hg _ (e▸hn)) (fun e=>hq g hg _ (e▸hcz)))).E7 (28+r) _ zaa zaa
 ·by_cases e:q=r
  ·subst e;rw[aE,aE,oT]
  ·rw[aH _ _ e,aH _ _ zaa];exact h.ring q hq
 ·by_cases e:q=r
  ·subst e;rw[aE];exact p1
  ·rw[aH _ _ e];refine(h.nds q hq).mo p2 (fun y hy hk=>?_)
   rcases hk with hk|hk|⟨z,hz,hk⟩
   ·exact Ym q hq y hy hk.symm
   ·exact WC q hq y hy hk
   ·exact h.dis q r hq hr e y hy z (Z0 z hz) hk
 ·by_cases e:q=r
  ·subst e;rw[aE]at hy
   rcases PQ.1 hy with hy|hy
   ·exact h.low q hq y hy
   ·rw[PB.1 hy];exact U8
  ·rw[aH _ _ e]at hy;exact h.low q hq y hy
 ·by_cases e:q=r
  ·subst e;rw[aE]at hy;rw[aH _ _ (Ne.symm U9)]at hz
   rcases PQ.1 hy with hy|hy
   ·exact zfk
   ·rw[PB.1 hy];exact fun e=>WC q' YI z hz e.symm
  ·rw[aH _ _ e]at hy;by_cases e':q'=r
   ·subst e';rw[aE]at hz
    rcases PQ.1 hz with hz|hz
    ·exact zfk
    ·rw[PB.1 hz];exact fun e=>WC q hq y hy e
   ·rw[aH _ _ e']at hz;exact zfk
 ·by_cases e:q=r
  ·subst e;rw[aE,Qj,List.nodup_append];refine⟨h.nod q hq,zad,fun a ha b hb=>?_⟩;simp only[List.map_cons,List.map_nil,List.mem_singleton]at hb;subst hb;exact fun e=>hnr (e▸ha)
  ·rw[aH _ _ e];exact h.nod q hq
 ·rcases hk with hk|hk|⟨z,hz,hk⟩
  ·obtain⟨arr,a1,_⟩:=hM.blk;exact zfb
  ·subst hk;exact⟨U8,_,_,_,hn,.inr rfl⟩
  ·obtain⟨cz,hcz⟩:=YZ r hr z (Z0 z hz);subst hk;exact⟨h.low r hr z (Z0 z hz),_,_,_,hcz,.inr rfl⟩
theorem du.mark{lo:Y.Lo}{s:MSt}(hM:aw W lo mb pb qv s)(h:du W lo s.wh R)(k:Nat)(hk:k<6)(v:Value)(Vb:lo<=W.heap.size):
  aw (W.drew.setCell (mb,28+k*65+64) v) lo mb pb qv { s with wh:=upd s.wh (28+(k*65+64)) v }/\du (W.drew.setCell (mb,28+k*65+64) v) lo (upd s.wh (28+(k*65+64)) v) R/\Rw lo W (W.drew.setCell (mb,28+k*65+64) v):=by
 have hd:=(Pq W W).drew;have hMd:=hM.below hd;have hm:Mo (·=mb) W.drew (W.drew.setCell (mb,28+k*65+64) v):=(Mo.refl _ _).set _ _ rfl;have hR:Rm lo W.drew (W.drew.setCell (mb,28+k*65+64) v):=RfE.mo hm (fun j hj=>by
  obtain⟨arr,a1,_⟩:=hM.blk;subst hj;exact⟨hM.lo',arr,_,_,a1,rfl⟩) Vb
 refine⟨hMd.E7 (28+(k*65+64)) v zaa zaa,?_,(RfE.of hd Vb).trans (Kg hR)⟩;have h2:=(h.below hd).kd hR.kd (by unfold Md;decide);refine⟨fun r hr=>?_,h2.nds,h2.low,h2.dis,h2.nod⟩;rw[aH _ _ ?_]
 ·exact h.ring r hr
 ·rcases hr with⟨a,b⟩|rfl<;>omega
end Y
end
section
open Go
def Wd(F:Fence):Prop:=F=Fence.wide\/∃k,F=Fence.wide.inRound k
theorem nV:Wd Fence.wide:=.inl rfl
theorem dP(k:Nat):Wd (Fence.wide.inRound k):=.inr ⟨k,rfl⟩
theorem Wd.depth(h:Wd F)(x:Prop):F.depth.isSome=true->x:=by
 rcases h with rfl|⟨k,rfl⟩<;>exact fun h=>zaE
theorem Wd.fn(h:Wd F)(f:FuncId):F.fn f:=by
 rcases h with rfl|⟨k,rfl⟩<;>exact trivial
theorem Wd.rows(hF:Wd F){n:Nat}{P:Program}{row:String}{w:World}{R:Value->World->Prop}(h:Rows P row args w R):RowsIn F n P row args w R:=by
 rcases hF with rfl|⟨k,rfl⟩
 ·exact fun c cs _=>let⟨v,w',r,s⟩:=h c cs;⟨v,w',r,stepsIn_wide.2 s⟩
 ·exact pY h
theorem Wd.calls(hF:Wd F){n:Nat}{P:Program}{w:World}{R:Ending->World->Prop}(h:Calls P f args w R):CallsIn F n P f args w R:=by
 rcases hF with rfl|⟨k,rfl⟩
 ·exact P8.2 h
 ·exact aI h
theorem Fj{F:Fence}(hF:Wd F){n:Nat}{P:Program}{o:Oper}{a:Act}{N:Act->World->Prop}{Q:Exit->Act->World->Prop}:∀r:Result Next,o.upon P a N Q r->o.uponIn F n P a N Q r:=by
 intro r h;cases r with
 |ok v w'=>
  cases v<;>first
   |exact h
   |exact⟨hF.depth _,hF.rows (Rows.mono h fun _ _ hx=>hx)⟩
   |exact h.elim
   |skip
  exact⟨hF.depth _,hF.calls (Pw h fun e w'' hx=>by
   cases e
   ·exact hx
   ·exact hx
   ·exact hx)⟩
 |halt x w'=>cases x<;>first|exact h|exact h.elim
theorem DF(hF:Wd F){n:Nat}{P:Program}{a:Act}{w:World}{K:Act->Prop}{K':Act->World->Prop}(Vi:lK ops=true)(h:∀a,K a->K' a w)(hh:stOp P ops w i K a):wpOpIn F n P ops Q i K' a w:=by
 unfold stOp at hh;unfold wpOpIn;split
 ·rename_i ho;simp only[ho]at hh;exact h _ hh
 ·rename_i o ho;simp only[ho]at hh;split
  ·rename_i hw;rw[PC hw]at hh;refine⟨fun _ _=>hF.fn _,?_⟩;rw[Oper.semAt_eq _ _ _ (fun c=>pO Vi ho c)];exact Fj hF _ (Oper.wp_of_still h hh)
  ·rename_i hw;rw[Pu hw]at hh;exact⟨fun _ _=>hF.fn _,h _ hh⟩
theorem n7{F:Fence}(hF:Wd F){n m g:Nat}{P:Program}{md:Region.Mode}{ops:Array Oper}{Q:Exit->Act->World->Prop}{w:World}{L:Array Bool->Act->Prop}(Vi:lK ops=true)(hL:∀listed a,L listed a->wpAnyIn F n P md ops Q g listed a w):
  ∀(f:Nat) (listed:Array Bool) (a:Act),wpAnyL P md ops w m L f listed a->wpAnyIn F n P md ops Q (f+g) listed a w
 |0,listed,a,h=>by rw[Rz];exact hL _ _ h
 |f+1,listed,a,h=>by
  rw[show f+1+g=(f+g)+1 by omega];exact⟨fun h0=>absurd h0 h.1,fun i hi=>DF hF Vi (fun a' h'=>n7 hF Vi hL f _ a' h') (h.2 i hi).2⟩
theorem oY{F:Fence}{n:Nat}{P:Program}{md:Region.Mode}{ops:Array Oper}{Q:Exit->Act->World->Prop}:∀(l:List Oper) (k:Nat) (listed:Array Bool) (a:Act) (w:World),(∀j,l[j]?=ops[k+j]?)->Region.seqB md ops l.length k listed=true->wpListIn F n P ops Q l a w->wpAnyIn F n P md ops Q l.length listed a w
 |[],_,_,_,_,_,hB,h=>⟨by simpa[Region.seqB] using hB,h⟩
 |o::l,k,listed,a,w,hl,hB,h=>by
  have h0:ops[k]?=some o:=by simpa using(hl 0).symm
  simp only[List.length_cons,Region.seqB,Bool.and_eq_true,decide_eq_true_eq]at hB;refine⟨fun h1=>(by rw[hB.1]at h1;cases h1),fun i hi=>?_⟩;rw[hB.1]at hi;obtain rfl:i=k:=zbw;have hw:wpOpIn F n P ops Q i (wpListIn F n P ops Q l) a w:=by unfold wpOpIn;simp only[h0];exact h
  exact wpOpIn_mono (fun a' w' h'=>oY l (i+1) _ a' w' (fun j=>by have:=hl (j+1);simpa[Nat.add_assoc,Nat.add_comm 1 j] using this) hB.2 h') hw
theorem bc(hF:Wd F){n id:Nat}{P:Program}{a:Act}{w:World}{l:List Oper}(m:Nat)(hm:P.follows .mixedOrders=true)(hB:Region.lexTailB .any l.toArray m=true)(Vi:lK l.toArray=true)
  (h:wpStill P l.toArray w.drew (fun a'=>wpListIn F n P l.toArray Q (l.drop m) a' w.drew) (l.take m) a):(Code.region id l.toArray true).wpIn F n P Q a w:=by
 simp only[Region.lexTailB,Bool.and_eq_true,decide_eq_true_eq]at hB;obtain⟨⟨⟨⟨ZF,hn⟩,hs⟩,hc⟩,hlex⟩:=hB;have Wk:m<l.length:=by simpa using hn
 have Wz:(l.take m).length=m:=S2 zaa;have V4:(l.drop m).length=l.toArray.size-m:=zad;have H:=wpAnyL_lex (md:=.any) (g:=l.toArray.size-m) ZF hs hc hn (l.take m) 0 (Array.replicate l.toArray.size false) a (fun j hj=>by
  rw[Wz]at hj;simp[hj]) (by simpa using Wz) ⟨zad,fun j oj _ hl=>(by rw[getD_replicate_false]at hl;cases hl),fun t _ ht=>getD_in (by simpa using ht) (getD_replicate_false _ _)⟩ (by rw[Wz];exact hlex) h
 refine wpIn_region_any hm ?_;have R:=n7 hF Vi (fun listed a' hL=>by
  have T:=oY (F:=F) (n:=n) (P:=P) (md:=.any) (ops:=l.toArray) (Q:=Q) (l.drop m) m listed a' w.drew (fun j=>by simp[List.getElem?_drop]) (by rw[V4];exact hL.1) hL.2
  rwa [V4]at T) _ _ _ H
 rw[Wz,show m+(l.toArray.size-m)=l.toArray.size by omega]at R;exact R
end
section
open Go.RowKit Go.Proofs Go.Shelf
attribute [local go_sem] Qu
theorem ur{F':Fence}(hF:Wd F)(hF':Wd F'){m m':Nat}{P:Program}{l:Nat}{tmps:Array Value}{assign body:Code}{w:World}{R:Ending->World->Prop}(h:RoundIn F m P l f tmps assign body w R):RoundIn F' m' P l f tmps assign body w R:=by
 rcases hF with rfl|⟨k,rfl⟩<;>rcases hF' with rfl|⟨k',rfl⟩<;>exact⟨trivial,fun c cs _=>h.2 c cs (fun d hd=>by cases hd)⟩
theorem i1{w:World}{p:Addr}(h:w.cell? p=some v):p.block<w.heap.size:=by
 unfold World.cell? at h;split at h
 ·rename_i c e f hb;exact(Pn.1 hb).1
 ·cases h
namespace Y
def lS(hv:Nat->Nat)(k:Nat):List Nat:=(fh (hv k)).map (k*65+·)
def kW(hv:Nat->Nat)(k:Nat):List Nat:=(List.range k).flatMap (lS hv)
def gY(hv:Nat->Nat):List Nat:=kW hv 6++[390]
theorem ju(hv:Nat->Nat)(k:Nat):kW hv (k+1)=kW hv k++lS hv k:=by
 unfold kW;rw[Ty,Qc];simp
structure Cn(V:World)(Bs mb:Nat)(R:Nat->List Nd)(hv:Nat->Nat):Prop where
 box:Boxed V Bs 296 (mb,27)
 held:∀k,k<6->V.cell? ⟨mb,28+k*65+64,none⟩=some (.int .u64 (hv k))
 ring:∀k s,k<6->s<64->V.cell? ⟨mb,28+k*65+s,none⟩=some (aN (R (k*65+s)))
 out:V.cell? (mb,418)=some (aN (R 390))
 tab:TabAt 5 Lib.deBruijn64tab V
theorem Cn.kp{Bs:Nat}{hv:Nat->Nat}(h:Cn V Bs mb R hv)(hk:KpM B V V')(h1:¬B Bs 296)(h2:∀t,¬B mb t)(h3:∀t,¬B 5 t):Cn V' Bs mb R hv:=
 ⟨hk.2 _ _ _ _ h.box h1,fun k VB=>hk.cell (h.held k VB) h2,fun k s h4 h5=>hk.cell (h.ring k s h4 h5) h2,hk.cell h.out h2,Y.KpM.tab hk h3 h.tab⟩
theorem KpM.bx{n:Nat}(hB:∀k t,B k t->k<n\/t=163)(hk:KpM B V V'){T:TypeId}(hb:Boxed V k T v)(hn:n<=k)(hT:T≠163:=by decide):Boxed V' k T v:=hk.2 _ _ _ _ hb (fun e=>by rcases hB _ _ e with e|e;omega;exact hT e)
structure RgF(l Bs By:Nat)(k:Nat)(a:Act)(Ds:List Nat):Prop where
 tm:∃u3 u4 u6 u7 u8 u9 u10 u11 u12 u13 u14 u15 u16 u17 u18 u19 u20 u21 u22 u23 u24 u25 u26 u27,a.tmps=#[.func (.yield l) #[] #[],.pointer (some ⟨Bs,0,none⟩),.pointer (some ⟨By,0,none⟩),u3,u4,.int .i64 k,u6,u7,u8,u9,u10,u11,u12,u13,u14,u15,u16,u17,u18,u19,u20,u21,u22,u23,u24,u25,u26,u27,undef,undef,undef,undef,undef,undef]
 df:a.defers=marks Ds
