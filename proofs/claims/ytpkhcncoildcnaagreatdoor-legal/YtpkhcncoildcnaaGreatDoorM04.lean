import Derived.Test.YtpkhcncoildcnaaGreatDoorM03
set_option maxRecDepth 100000
set_option maxHeartbeats 8000000
namespace Go.Proofs.YtpkhcncoildcnaaGreatDoor
variable {zp:Prop}
theorem zdz(h:zp:=by
 have hc:=h9.cell;rw[VA]at TO;gi_wp2;refine⟨zad,.inl ⟨_,_,rfl,Pj hK,?_⟩⟩;exact⟨_,SQ rfl _ _ _,sl,rfl,ownsRow_putObj TO _ hK rfl,Wt.trans (QW (w:=w) (Ow _) W D _ _ zaa hK rfl rfl)⟩):zp:=h
theorem ze2(h:zp:=by
 obtain⟨i,hi⟩:=O5.1 hy;exact hM.typ (h.nds q hq i y hi)):zp:=h
theorem ze3(h:zp:=by
 obtain⟨i,hi⟩:=O5.1 hy;exact⟨_,h.nds q hq i y hi⟩):zp:=h
theorem zfo(h:zp:=by
 subst hk;exact⟨hM.lo',arr,_,_,a1,.inl rfl⟩):zp:=h
theorem zfy(h:zp:=by
 exact h.dis q q' hq Xr TU y hy z hz):zp:=h
open Tryz
variable {W b W' a V V':World}{pb k i y lo mb r:Nat}{E:TypeId->Prop}{ps:List Y.PS}{v qv:Value}{L:List ()}{ops:Array Oper}{Q:Exit->Act->World->Prop}{F:Fence}{wh:Nat->Value}{R:Nat->List Y.Nd}{f:FuncId}{args:Array Value}{B:Nat->TypeId->Prop}
section
open Go.RowKit Go.Proofs Go.Shelf
theorem Cn:(Tryz.prog.info? 180).map (fun i=>(i.zero,i.size,i.bytes))=some (some (.agg #[(0:Int),.string ⟨#[]⟩,.string ⟨#[]⟩,(0:Int),.int .u32 0,.int .u32 0,.int .u32 0,.int .u32 0,.slice none 0 0,.slice none 0 0]),10,112):=zab
theorem rj(n:Nat)(hn:n<=4096)(w:World):(Instr.makeSlice 181 (.int .i64 n) (.int .i64 n)).run prog w=.ok (.slice w n n) (w.alloc (.cells (madeCells Y.zPS.cells.toArray (n*10)) 180)):=by
 obtain⟨i0,hi,Ue,Ub,Uf⟩:=PZ Cn;have h:=Tu (P:=prog) w 181 180 i0 _ underlying181 hi Ue .i64 .i64 n n zaa (Int.le_refl _) zbp zbx zaa;rw[h,Ub];simp only[Int.toNat_natCast];rfl
namespace Y
theorem bC.made{b n:Nat}(hn:n<=24)(hb:W.heap[b]?=some (.cells (madeCells zPS.cells.toArray (n*10)) 180 (0,0)))(hp:W.cell? pb=some (.slice b n n))(TU:pb≠b):bC W pb b n (List.replicate n zPS) where
 row:=by rw[List.length_replicate];exact hp
 at':=fun i p hi k v hv=>by
  have Vm:i<n:=by have:=(Oz.1 hi).1;simpa using this
  have hpz:p=zPS:=by rw[List.getElem?_replicate,OD Vm]at hi;exact(Pd hi).symm
  subst hpz;have hk:k<10:=zcu;refine⟨?_,by simp[World.frozen?,hb]⟩;rw[OA W _ _ _ _ _ hb];have TX:i*10+k<n*10:=zaa;have T6:zPS.cells.toArray.size=10:=rfl;rw[madeCells,Array.getElem?_map,Array.getElem?_range,OD TX];have e:(i*10+k) % 10=k:=zaa;simp only[Option.map_some,T6,e];have VD:zPS.cells.toArray[k]?=some v:=by simpa using hv
  rw[Sh _ k (by rw[T6];exact hk)];rw[Sk (by rw[T6];exact hk)]at VD;exact VD
 len:=by rw[List.length_replicate];exact hn
 ne:=TU
def jq(X:List MS):Nat->List (Nat×Nat)
 |0=>[]
 |k+1=>match X[k]? with|some x=>(if isH x.kind then jq X k++[(k,x.owner.toNat)] else jq X k)|none=>jq X k
structure EA(W:World)(pb:Nat)(ps:List PS)(X:List MS)(k:Nat)(H:List HV):Prop where
 idx:H.map (fun h=>(h.idx,h.own))=jq X k
 aq:∀h∈H,∃x po,X[h.idx]?=some x/\ps[h.own]?=some po/\kC W pb (decide (x.kind=4)) po h.aq
theorem EA.kd{X:List MS}{H:List HV}(h:EA W pb ps X k H)(hk:Kd E W W')(h1:¬E 180)(h2:¬E 103):EA W' pb ps X k H where
 idx:=h.idx
 aq:=fun y hy=>by
  obtain⟨x,po,a,b,c⟩:=h.aq y hy;exact⟨x,po,a,b,c.kd hk h1 h2⟩
theorem sJ(X:List MS):∀k,(jq X k).length<=k
 |0=>Ow _
 |k+1=>by
  have:=sJ X k;rw[jq];split
  ·split
   ·simp;omega
   ·omega
  ·omega
theorem bC.reb{b cap:Nat}(h:bC W pb b cap ps)(hr:W'.cell? pb=some (.slice b ps.length cap))(hb:W'.heap[b]?=W.heap[b]?):bC W' pb b cap ps where
 row:=hr
 at':=fun i p hi k v hv=>by
  have:=h.at' i p hi k v hv;exact⟨(OO (a:=⟨b,_,none⟩) hb).trans this.1,(Rl (a:=⟨b,_,none⟩) hb).trans this.2⟩
 len:=h.len
 ne:=h.ne
def psF(X:List MS):List PS:=cX (a8 X X.length) X.length
def Gw(w w':World)(pb:Nat)(X:List MS)(V:Nat->List MV):Prop:=∃b mb hv H n M L,Below w w w'/\dz w' pb b X.length X.length (.slice (U.Sl.a hv) hv.n hv.c) (bn X X.length) (.map (some mb))/\cd w' pb b X.length (psF X)/\w'.ownsRow 0 258 3 (.slice hv.a hv.n hv.c) H.length (H.flatMap HV.cells)/\EA w' pb (psF X) X X.length H/\Tab w' pb b X.length mb n (fun ev=>(ef (psF X) (bH X X.length) V X.length ev).map fun row=>nN (psF X) row X.length) M L/\Mm w' pb b (psF X) X.length (ef (psF X) (bH X X.length) V X.length) M L
end Y
theorem Le(w:World)(cb cg cc:Nat)(X:List Y.MS)(V:Nat->List Y.MV)(hC:Y.ChM w cb cg cc X V)(hX:X.length<=24)(Uq:∀(i:Nat) (x:Y.MS),X[i]?=some x->x.name.size<=1000000)(Uv:∀(i:Nat) (x:Y.MS),X[i]?=some x->x.owner=-1\/∃o:Nat,x.owner=o/\o<i)(hhx:∀(i:Nat) (x:Y.MS),X[i]?=some x->Y.isH x.kind=true->x.owner≠-1)
  (hg:1<w.heap.size) (hT:TabAt 1 Lib.deBruijn32tab w) (hgk:∃c t fz,w.heap[1]?=some (.cells c t fz)) (hV:∀i,(V i).length<=30000) (Vg:∀i,∀m∈V i,m.event.size<=1000000/\m.dest.size<=1000000/\(m.dest.toList.isEmpty=false->∃d,Y.bH X X.length m.dest=some d/\d<X.length)):
  () 38 #[cb] w fun e w'=>∃pb,e=.returned (.pointer (some ⟨pb,0,none⟩))/\Y.Gw w w' pb X V:=by
 have VS:w.cell? cb=some (.slice cg X.length cc):=by
  rw[OA _ _ _ _ _ _ hC.ptr];rfl
 have Um:cb<w.heap.size:=(Ov.1 hC.ptr).1;have Wu:=rj X.length zaa w;have XB:=@run_makeMap prog;obtain⟨Z,hZ⟩:∃Z,madeCells Y.zPS.cells.toArray (X.length*10)=Z:=⟨_,rfl⟩;rw[hZ]at Wu;have HZ:Hid (madeCells Y.zPS.cells.toArray (X.length*10)=Z):=hZ;have HC:Hid (Y.ChM w cb cg cc X V):=hC;have HNM:Hid _:=Uq;have HOX:Hid _:=Uv;have HHX:Hid _:=hhx;have HGK:Hid _:=hgk;have HT:Hid (TabAt 1 Lib.deBruijn32tab w):=hT;have HV:Hid _:=hV;have HEV:Hid _:=Vg;clear hC Uq Uv hhx hgk hT hV Vg hZ;go_enter func38,ntmps38
 go_upto_region 2 with fail
 have T5:Below w w (((w.alloc (.cells Z 180)).alloc (.map #[] 0)).alloc (.cells #[.slice w X.length X.length,.slice none 0 0,.int .u32 0,.map (some (w.heap.size+1))] 185)):=(((Oy _ w).alloc (Ow _) _).alloc zad _).alloc zae _;have XV:Y.dz (((w.alloc (.cells Z 180)).alloc (.map #[] 0)).alloc (.cells #[.slice w X.length X.length,.slice none 0 0,.int .u32 0,.map (some (w.heap.size+1))] 185)) (w.heap.size+1+1) w.heap.size X.length X.length (.slice none 0 0) 0 (.map (some (w.heap.size+1))):=by
  have:=OH ((w.alloc (.cells Z 180)).alloc (.map #[] 0)) (.cells #[.slice w X.length X.length,.slice none 0 0,.int .u32 0,.map (some (w.heap.size+1))] 185);simp only[World.size_alloc]at this;exact this
 have hbz:(((w.alloc (.cells Z 180)).alloc (.map #[] 0)).alloc (.cells #[.slice w X.length X.length,.slice none 0 0,.int .u32 0,.map (some (w.heap.size+1))] 185)).heap[w.heap.size]?=some (.cells Z 180 (0,0)):=by
  rw[Pz _ _ _ zae,Pz _ _ _ zad];exact OH w _
 have hmp:Y.eT (((w.alloc (.cells Z 180)).alloc (.map #[] 0)).alloc (.cells #[.slice w X.length X.length,.slice none 0 0,.int .u32 0,.map (some (w.heap.size+1))] 185)) X.length (w.heap.size+1) 0 (fun _=>none):=by
  have h1:=Te (w.alloc (.cells Z 180)) prog 9 (Y.pq X.length);rw[Py]at h1;exact⟨_,h1.alloc _,fun _=>rfl⟩
 have Wg:(((w.alloc (.cells Z 180)).alloc (.map #[] 0)).alloc (.cells #[.slice w X.length X.length,.slice none 0 0,.int .u32 0,.map (some (w.heap.size+1))] 185)).heap.size=w.heap.size+1+1+1:=zad;obtain⟨W1,Uj⟩:∃W,(((w.alloc (.cells Z 180)).alloc (.map #[] 0)).alloc (.cells #[.slice w X.length X.length,.slice none 0 0,.int .u32 0,.map (some (w.heap.size+1))] 185))=W:=⟨_,rfl⟩;rw[Uj]at T5 XV hbz hmp Wg⊢;have hPW1:Y.bC W1 (w.heap.size+1+1) w.heap.size X.length (Y.a8 X 0):=Y.bC.made hX (by rw[HZ.out];exact hbz) (by rw[OA _ _ _ _ _ _ XV];rfl) zaa;have hcb1:=(T5.cell (p:=cb) Um).trans VS;have HPB1:Hid (Y.dz W1 (w.heap.size+1+1) w.heap.size X.length X.length (.slice none 0 0) (Y.bn X 0) (.map (some (w.heap.size+1)))):=XV;have HPW1:Hid (Y.bC W1 (w.heap.size+1+1) w.heap.size X.length (Y.a8 X 0)):=hPW1;have HBZ:Hid _:=hbz;have HMP:Hid (Y.eT W1 X.length (w.heap.size+1) 0 (fun _=>none)):=hmp;have YY:Hid (Below w w W1):=T5;have hcb0:∀wr,Mo (fun j=>j=w.heap.size\/j=w.heap.size+1+1) W1 wr->wr.cell? cb=some (.slice cg X.length cc):=fun wr h=>(h.cell (p:=cb) (show cb<W1.heap.size by omega) (by show ¬(cb=_\/cb=_);omega)).trans hcb1;have HCB:Hid _:=hcb0;have Y0:Hid (∀wr,Mo (fun j=>j=w.heap.size\/j=w.heap.size+1+1) W1 wr->Below w w wr/\Y.ChM wr cb cg cc X V):=fun wr h=>by
  have hb:Below w w wr:=h.below YY.out zaa (fun i hi=>zaa);exact⟨hb,HC.out.below hb⟩
 clear Uj Wu XB VS XV hbz hmp hPW1 T5 hcb0 HC;go_wp2
 go_loopg[23] X.length (fun q i wr=>∃k:Nat,q=X.length-k/\k<=X.length/\i=.int .i64 k/\Y.bC wr (w.heap.size+1+1) w.heap.size X.length (Y.a8 X k)/\Y.dz wr (w.heap.size+1+1) w.heap.size X.length X.length (.slice none 0 0) (Y.bn X k) (.map (some (w.heap.size+1)))/\Y.de X.length (Y.a8 X k)/\Y.Ord X k (Y.a8 X k)/\Mo (fun j=>j=w.heap.size\/j=w.heap.size+1+1) W1 wr)
 case atStart=>
  refine⟨0,rfl,OL _,rfl,HPW1.out,HPB1.out,?_,⟨fun i p x hi=>zaa,?_⟩,Mo.refl _ _⟩
  ·intro i p hp;have:p=Y.zPS:=(Qs (OG hp));subst this;exact⟨Y.dS _,Y.dS _,Y.dS _,Y.dS _⟩
  ·intro i p hp j hj;have:p=Y.zPS:=(Qs (OG hp));subst this;have hj:j∈Y.els 0:=hj;rw[Y.lR]at hj;cases hj
 case round=>
  obtain⟨k,hq,hk,rfl,Uk,UT,XZ,hOr,Uh⟩:=hrel;clear hcb1;by_cases UC:k<X.length
  ·obtain⟨x,hx⟩:∃x,X[k]?=some x:=⟨_,Ou UC⟩;obtain⟨Ui,Yu⟩:=Y0.out wr Uh;have TS:=Yu.at' k x hx;have hnmx:=HNM.out k x hx;have hoxx:=HOX.out k x hx;have WG:=Y.cV X k;have hs:=Uh.size;have Vz:=(Oy wr wr).alloc (Ow _) (.cells x.arr 188);have X6:=Uk.below Vz zaa zaa;have X7:Y.dz (wr.alloc (.cells x.arr 188)) (w.heap.size+1+1) w.heap.size (Y.a8 X k).length X.length (.slice none 0 0) (Y.bn X k) (.map (some (w.heap.size+1))):=by rw[WG];exact(Vz.block _ zaa).trans UT
   have Y4:=xv (wr.alloc (.cells x.arr 188)) (w.heap.size+1+1) w.heap.size X.length (Y.a8 X k) k x (.slice none 0 0) (.map (some (w.heap.size+1))) (Y.bn X k) X7 X6 (XZ.sms hX) (by have h1:=Y.nL X (Ow _) k hk;have h2:2 ^ X.length<=2 ^ 24:=PX zac hX;omega) zaa hnmx hoxx zae;have HN:Hid (Y.a8 X (k+1)=Y.jI (Y.a8 X k) k x/\Y.bn X (k+1)=Y.rX (Y.bn X k) k x):=⟨by rw[Y.a8,hx],by rw[Y.bn,hx]⟩;have Wq:=Y.vq XZ UC x hoxx;have hO2:=Y.zi hOr zaa hx hoxx;have UQ:=Uh.trans (az Vz);have HG2:Hid _:=Wq;have HO2:Hid _:=hO2;obtain⟨kind,name,depth,owner,vp,ve,vl,vm⟩:=x;unfold Y.MS.arr at TS Y4 UQ;dsimp only at TS Y4 UQ;clear Vz X6 X7 Uk UT XZ hOr Uh Yu Ui hx Wq hO2;rw[WG]at Y4;go_wp2_with(first
    |(refine PW rfl 188 (.tmp 26) rfl cg (k*8) rfl _ _ TS underlying188 rfl ff ?_)
    |(refine aJ rfl 188 (.tmp 5) (.tmp 27) rfl 188 _ _ rfl rfl ff rfl rfl ?_)
    |(go_at_call 65;refine Y4.mono ?_;intro e w6 h6;obtain⟨rfl,ZR,hPW6,Wh⟩:=h6)
    |fail)
   go_roundg (X.length-(k+1))
   case measure=>omega
   case rel=>exact⟨k+1,rfl,zaa,zag,by rw[HN.out.1];exact hPW6,by rw[HN.out.2];exact ZR,by rw[HN.out.1];exact HG2.out,by rw[HN.out.1];exact HO2.out,UQ.trans Wh⟩
  ·obtain rfl:k=X.length:=zaa;have HPW:Hid (Y.bC wr (w.heap.size+1+1) w.heap.size X.length (Y.cX (Y.a8 X X.length) 0)):=Uk;have HPB:Hid (Y.dz wr (w.heap.size+1+1) w.heap.size X.length X.length (.slice none 0 0) (Y.bn X X.length) (.map (some (w.heap.size+1)))):=UT;have HGd:Hid (Y.de X.length (Y.cX (Y.a8 X X.length) 0)):=XZ;have HOr:Hid (Y.Ord X X.length (Y.cX (Y.a8 X X.length) 0)):=hOr;have HMO:Hid (Mo (fun j=>j=w.heap.size\/j=w.heap.size+1+1) W1 wr):=Uh;have hcbr:=HCB.out wr Uh;clear Uk UT XZ hOr Uh hq hk UC;go_wp2
   go_loopg[6] X.length (fun q s wr=>∃k:Nat,q=X.length-k/\k<=X.length/\s=.int .i64 ((X.length:Int)-1-(k:Int))/\Y.bC wr (w.heap.size+1+1) w.heap.size X.length (Y.cX (Y.a8 X X.length) k)/\Y.dz wr (w.heap.size+1+1) w.heap.size X.length X.length (.slice none 0 0) (Y.bn X X.length) (.map (some (w.heap.size+1)))/\Y.de X.length (Y.cX (Y.a8 X X.length) k)/\Y.Ord X X.length (Y.cX (Y.a8 X X.length) k)/\Mo (fun j=>j=w.heap.size\/j=w.heap.size+1+1) W1 wr)
   case atStart=>exact⟨0,rfl,OL _,zag,HPW.out,HPB.out,HGd.out,HOr.out,HMO.out⟩
   case round=>
    obtain⟨k,hq,hk,rfl,Uk,UT,XZ,hOr,Uh⟩:=hrel;clear hcbr HPW HPB HGd HOr HMO;have WG:(Y.cX (Y.a8 X X.length) k).length=X.length:=by rw[Y.ku,Y.cV]
    have hs:=Uh.size;by_cases UC:k<X.length
    ·obtain⟨i,hi⟩:∃i:Nat,(X.length:Int)-1-(k:Int)=i:=⟨X.length-1-k,zaa⟩;have Ux:i=X.length-1-k:=zaa;have Vm:i<X.length:=zaa;obtain⟨p,hp⟩:∃p,(Y.cX (Y.a8 X X.length) k)[i]?=some p:=⟨_,Ou zaa⟩;obtain⟨x,hx⟩:∃x,X[i]?=some x:=⟨_,Ou Vm⟩;have how:p.owner=-1\/∃o:Nat,p.owner=o/\o<i:=by rw[(hOr.own i p x Vm hp hx).1];exact HOX.out i x hx
     have hT1:TabAt 1 Lib.deBruijn32tab wr:=Y.KpT.of (Y0.out wr Uh).1 hg HT.out;have hsur:=yQ wr (w.heap.size+1+1) w.heap.size X.length _ i p hp (fun j hj=>by have:=hOr.part i p hp j hj;omega) how Uk (XZ.sms hX) zaa zaa zaa zaa hT1;have HN:Hid (Y.cX (Y.a8 X X.length) (k+1)=Y.aX (Y.cX (Y.a8 X X.length) k) i):=by unfold Hid;rw[Y.cX,Y.cV,Ux]
     have HG2:Hid (Y.de X.length (Y.aX (Y.cX (Y.a8 X X.length) k) i)):=Y.nB XZ Vm;have HO2:Hid (Y.Ord X X.length (Y.aX (Y.cX (Y.a8 X X.length) k) i)):=Y.pH hOr;have HPB2:Hid _:=UT;have HMO2:Hid _:=Uh;have V8:(i:Int)>=0:=zaa;rw[hi];have HI:Hid ((X.length:Int)-1-(k:Int)=i):=hi;clear Uk UT XZ hOr Uh how hp hx Ux hi;go_wp2_with(go_at_call 66;refine hsur.mono ?_;intro e w6 h6;obtain⟨rfl,hPW6,Wh⟩:=h6)
     go_roundg (X.length-(k+1))
     case measure=>omega
     case rel=>exact⟨k+1,rfl,zaa,by have:=HI.out;go_num,by rw[HN.out];exact hPW6,(Wh.block _ zaa zaa).trans HPB2.out,by rw[HN.out];exact HG2.out,by rw[HN.out];exact HO2.out,HMO2.out.trans' Wh (fun i _ e=>.inl e)⟩
    ·obtain rfl:k=X.length:=zaa;obtain⟨PF,hPF⟩:∃P,Y.psF X=P:=⟨_,rfl⟩;have hPF':Y.cX (Y.a8 X X.length) X.length=PF:=hPF;rw[hPF']at Uk XZ hOr WG;have HPF:Hid (Y.psF X=PF):=hPF;have hlm:(X.length:Int)-1-(X.length:Int)=-1:=zaa;have HPW:Hid (Y.bC wr (w.heap.size+1+1) w.heap.size X.length PF):=Uk;have HPB:Hid (Y.dz wr (w.heap.size+1+1) w.heap.size X.length X.length (.slice none 0 0) (Y.bn X X.length) (.map (some (w.heap.size+1)))):=UT;have HGd:Hid (Y.de X.length PF):=XZ;have HOr:Hid (Y.Ord X X.length PF):=hOr;have HMO:Hid (Mo (fun j=>j=w.heap.size\/j=w.heap.size+1+1) W1 wr):=Uh;have HLK:Hid (PF.length=X.length):=WG;have hcbr:=HCB.out wr Uh;rw[hlm];clear Uk UT XZ hOr Uh WG hPF hPF' hq hk UC hlm;go_wp2
     go_loopg[51] X.length (fun q i wr=>∃k:Nat,q=X.length-k/\k<=X.length/\i=.int .i64 k/\∃(hv:U.Sl) (H:List Y.HV),Y.dz wr (w.heap.size+1+1) w.heap.size X.length X.length (.slice hv.a hv.n hv.c) (Y.bn X X.length) (.map (some (w.heap.size+1)))/\Y.bC wr (w.heap.size+1+1) w.heap.size X.length PF/\wr.ownsRow 0 258 3 (.slice hv.a hv.n hv.c) H.length (H.flatMap Y.HV.cells)/\Y.EA wr (w.heap.size+1+1) PF X k H/\(∀g,hv.v.ownBlock=some g->W1.heap.size<=g)/\Mo (fun j=>j=w.heap.size\/j=w.heap.size+1+1) W1 wr)
     case atStart=>exact⟨0,rfl,OL _,rfl,⟨none,0,0⟩,[],HPB.out,HPW.out,Pt _ _ _ _,⟨rfl,fun h hh=>(by cases hh)⟩,fun g h=>zav,HMO.out⟩
     case round=>
      obtain⟨k,hq,hk,rfl,hv,H,UT,Uk,hOw,hHi,TT,Uh⟩:=hrel;clear hcbr HPW HPB HMO;have hs:=Uh.size;have hHl:H.length<=k:=by have h1:=Y.sJ X k;have h2:=congrArg List.length hHi.idx;simp at h2;omega
      by_cases UC:k<X.length
      ·obtain⟨x,hx⟩:∃x,X[k]?=some x:=⟨_,Ou UC⟩;obtain⟨Ui,Yu⟩:=Y0.out wr Uh;have TS:=Yu.at' k x hx;have Vz:=(Oy wr wr).alloc (Ow _) (.cells x.arr 188);have X6:=Uk.below Vz zaa zaa;have X7:Y.dz (wr.alloc (.cells x.arr 188)) (w.heap.size+1+1) w.heap.size PF.length X.length (.slice hv.a hv.n hv.c) (Y.bn X X.length) (.map (some (w.heap.size+1))):=by rw[HLK.out];exact(Vz.block _ zaa).trans UT
       have hOw5:=(az (P:=fun _=>False) Vz).own hOw (fun _ _ h=>h);have hHi5:=hHi.kd (E:=fun _=>False) (bE Vz) (fun h=>h) (fun h=>h);have UQ:=Uh.trans (az Vz);have hs5:=UQ.size;have hah:=rY (wr.alloc (.cells x.arr 188)) (w.heap.size+1+1) w.heap.size X.length PF k x hv (.map (some (w.heap.size+1))) (Y.bn X X.length) H X7 X6 zaa hOw5 zaa (fun hh=>by
        rcases HOX.out k x hx with h|⟨o,h,Uw⟩
        ·exact absurd h (HHX.out k x hx hh)
        ·exact⟨o,PF[o]'(by have:=HLK.out;omega),h,Ou _⟩)
       have X5:Hid (∀w6,Y.Gs (wr.alloc (.cells x.arr 188)) w6 (w.heap.size+1+1) w.heap.size X.length PF k x hv (.map (some (w.heap.size+1))) (Y.bn X X.length) H->∃(hv:U.Sl) (H:List Y.HV),Y.dz w6 (w.heap.size+1+1) w.heap.size X.length X.length (.slice hv.a hv.n hv.c) (Y.bn X X.length) (.map (some (w.heap.size+1)))/\Y.bC w6 (w.heap.size+1+1) w.heap.size X.length PF/\w6.ownsRow 0 258 3 (.slice hv.a hv.n hv.c) H.length (H.flatMap Y.HV.cells)/\Y.EA w6 (w.heap.size+1+1) PF X (k+1) H/\(∀g,hv.v.ownBlock=some g->W1.heap.size<=g)/\Mo (fun j=>j=w.heap.size\/j=w.heap.size+1+1) W1 w6):=fun w6 hA=>by
        unfold Y.Gs at hA
        rcases hA with⟨hf,hb6⟩|⟨ht,o,po,kv,VD,ho,Vr,hKA,ZR,hO6,hM6,hKd6,ZN⟩
        ·refine⟨hv,H,(hb6.block _ zaa).trans (by rw[HLK.out]at X7;exact X7),X6.below hb6 zaa zaa,(az (P:=fun _=>False) hb6).own hOw5 (fun _ _ h=>h),?_,TT,UQ.trans (az hb6)⟩;have h1:=hHi5.kd (E:=fun _=>False) (bE hb6) (fun h=>h) (fun h=>h);exact⟨by rw[h1.idx,Y.jq,hx];dsimp only;rw[hf];rfl,h1.aq⟩
        ·refine⟨VD,H++[Y.HV.mk k o kv],by rw[HLK.out]at ZR;exact ZR,X6.reb (by rw[OA _ _ _ _ _ _ ZR];rfl) (hM6.block _ zaa (fun h=>?_)),by rw[OM];exact hO6,?_,fun g hg=>?_,UQ.trans' hM6 (fun i hi h=>?_)⟩
         ·rcases h with h|h
          ·omega
          ·have:=TT _ h;omega
         ·have h1:=hHi5.kd hKd6 zac zac;refine⟨?_,fun y hy=>?_⟩
          ·rw[Pk,h1.idx,Y.jq,hx];dsimp only;rw[ht,OD rfl,ho];rfl
          ·rcases OT.1 hy with hy|hy
           ·exact h1.aq y hy
           ·rw[OE.1 hy];exact⟨x,po,hx,Vr,hKA⟩
         ·rcases ZN g hg with h|h
          ·exact TT g h
          ·omega
         ·rcases h with h|h
          ·exact .inr h
          ·have:=TT i h;omega
       obtain⟨kind,name,depth,owner,vp,ve,vl,vm⟩:=x;unfold Y.MS.arr at TS hah X5;dsimp only at TS hah X5;clear Vz X6 X7 Uk UT hOw hOw5 hHi hHi5 Uh Yu Ui hx UQ hs5;go_wp2_with(first
        |(refine PW rfl 188 (.tmp 54) rfl cg (k*8) rfl _ _ TS underlying188 rfl ff ?_)
        |(refine aJ rfl 188 (.tmp 8) (.tmp 55) rfl 188 _ _ rfl rfl ff rfl rfl ?_)
        |(go_at_call 67;refine hah.mono ?_;intro e w6 h6;obtain⟨rfl,hA6⟩:=h6)
        |fail)
       go_roundg (X.length-(k+1))
       case measure=>omega
       case rel=>exact⟨k+1,rfl,zaa,zag,X5.out w6 hA6⟩
      ·obtain rfl:k=X.length:=zaa;obtain⟨Ui,Yu⟩:=Y0.out wr Uh;have WG:=HLK.out;have hPA:=Uk.bG (HGd.out.sms hX);have hmp:Y.eT wr X.length (w.heap.size+1) 0 (fun _=>none):=HMP.out.mo Uh zaa;have hT1:TabAt 1 Lib.deBruijn32tab wr:=Y.KpT.of Ui hg HT.out;have hgk1:∃c t fz,wr.heap[1]?=some (.cells c t fz):=by
        obtain⟨c,t,fz,h⟩:=HGK.out;exact⟨c,t,fz,(Ui.block _ hg).trans h⟩
       have how:∀(i:Nat) (p:Y.PS),PF[i]?=some p->p.owner=-1\/∃o:Nat,p.owner=o/\o<i:=fun i p hp=>by
        have Vm:=(Oz.1 hp).1;obtain⟨x,hx⟩:∃x,X[i]?=some x:=⟨_,Ou zaa⟩;rw[(HOr.out.own i p x zaa hp hx).1];exact HOX.out i x hx
       have hadm:=xu wr (w.heap.size+1+1) w.heap.size X.length PF (.slice hv.a hv.n hv.c) (Y.bn X X.length) (w.heap.size+1) cb cg cc X V (by rw[WG];exact UT) hPA zaa Yu WG.symm HNM.out (by rw[WG];exact hmp) zaa (fun i p hp=>by rw[WG];exact HGd.out i p hp) zaa hT1 hgk1 how HV.out (fun i m hm=>by rw[WG];exact HEV.out i m hm);have X5:Hid (∀w6,Y.Mg wr w6 (w.heap.size+1+1) w.heap.size (w.heap.size+1) PF X V->Y.Gw w w6 (w.heap.size+1+1) X V):=fun w6 hA=>by
        obtain⟨⟨n,M,L,U3,hOnc⟩,hm6⟩:=hA;rw[WG]at U3 hOnc;have hkd6:Kd (fun _=>False) wr w6:=gO hm6 (fun j c t f hj hc=>by
         obtain⟨es,clock,hz⟩:=hmp.kind;rw[hj,hz]at hc;cases hc)
        have hs6:=hm6.size;unfold Y.Gw;rw[HPF.out];exact⟨w.heap.size,w.heap.size+1,hv,H,n,M,L,hm6.below Ui zaa (fun i hi=>zaa),(hkd6.aq _ _ _ _ UT (fun h=>h)).trans UT,hPA.mo hm6 zaa zaa zaa zaa,hm6.own hOw (fun g hg e=>by have:=TT g hg;omega),hHi.kd hkd6 (fun h=>h) (fun h=>h),U3,hOnc⟩
       clear UT Uk hOw hHi TT Uh hPA hmp hT1 hgk1 how Ui Yu WG;go_wp2_with(go_at_call 68;refine hadm.mono ?_;intro e w6 h6;obtain⟨rfl,hA6⟩:=h6);go_ret;exact⟨_,rfl,X5.out w6 hA6⟩
theorem Fk:(Tryz.prog.info? 266).map (fun i=>(i.zero,i.size,i.bytes))=some (some (.agg #[(0:Int),.int .u32 0,.slice none 0 0,.nilFunc]),4,48):=zab
theorem yJ(w:World)(a b:Nat)(ha:∃c,w.heap[a]?=some (.cells c 266 (0,0)))(hb:∃c,w.heap[b]?=some (.cells c 266 (0,0))):
  (binOp .eql 263 a b).run prog w=.ok (.bool (decide (a=b))) w:=by
 obtain⟨i0,hi,Ue,Ub,Uf⟩:=PZ Fk;obtain⟨ca,ha⟩:=ha;obtain⟨cb,hb⟩:=hb;have h:∀d:Nat,(Op.equalIn (d+1) 263 a b).run prog w=.ok (decide (a=b)) w:=fun d=>by
  by_cases e:a=b
  ·subst e;simp[Op.equalIn,run_underlying underlying263,sizeOf,typeInfo,hi,run_sameAddr_same]
  ·simp[Op.equalIn,run_underlying underlying263,sizeOf,typeInfo,hi,Ub,e,run_sameAddr_other w (a:=⟨a,0,none⟩) (b:=⟨b,0,none⟩) (by intro x;injection x with x1;exact e x1) ha hb]
 simp only[binOp];simp[Op.equal,Op.maxDepth,h 9999]
namespace Y
def KM(L:List Nat)(q:Nat)(r:Int):Prop:=decide (r>=0)=L.contains q
def mu(q:Nat):List Value:=[q]
abbrev Mvs(W:World)(v:U.Sl)(L:List Nat):Prop:=Row W 263 1 mu (.slice v.a v.n v.c) L
theorem Mvs.n{v:U.Sl}{L:List Nat}(h:Mvs W v L):v.n=L.length:=by
 rcases h.2 with⟨h0,h1⟩|⟨g,cap,cur,hv,_⟩
 ·simp at h0;omega
 ·simp at hv;exact hv.2.1
theorem Mvs.cell{v:U.Sl}{L:List Nat}(h:Mvs W v L){q:Nat}(hi:L[i]?=some q):∃g,v.a=some ⟨g,0,none⟩/\L.length<=v.c/\W.cell? ⟨g,i,none⟩=some ↑q:=by
 obtain⟨a,n,c⟩:=v;have Vm:=(Oz.1 hi).1;have hn:n=L.length:=h.n;subst hn;obtain⟨g,cap,hv⟩:=U.eG h zaa;simp at hv;obtain⟨rfl,rfl⟩:=hv;refine⟨g,rfl,?_,?_⟩
 ·rcases h.2 with⟨h0,_⟩|⟨g',cap',cur,hv,_,_,hle,_⟩
  ·cases h0
  ·simp at hv;show L.length<=c;rw[hv.2];omega
 ·have:=Row.cell (f:=mu) (n:=1) (j:=0) (fun _=>rfl) h zac Vm;rw[Ou Vm]at hi;rw[Pd hi]at this;simpa[mu] using this
end Y
theorem Fh(w:World)(v:U.Sl)(L:List Nat)(q:Nat)(h:Y.Mvs w v L)(hl:L.length<=1000)(V5:∀y,y=q\/y∈L->∃c,w.heap[y]?=some (.cells c 266 (0,0))):
  () 257 #[.slice v.a v.n v.c,q] w fun e w'=>(∃r:Int,e=.returned (r:Int)/\Y.KM L q r)/\w'=w:=by
 have HM:Hid (Y.Mvs w v L):=h;have HBK:Hid (∀y,y=q\/y∈L->∃c,w.heap[y]?=some (.cells c 266 (0,0))):=V5;clear V5;have hn:=h.n;obtain⟨a,n,c⟩:=v;dsimp only at hn;subst hn;clear h;dsimp only;go_enter func257,ntmps257;go_wp2
 go_loopg[8] L.length (fun x i wr=>∃k:Nat,x=L.length-k/\k<=L.length/\i=.int .i64 k/\(∀j y,j<k->L[j]?=some y->y≠q)/\wr=w)
 case atStart=>exact⟨0,rfl,OL _,rfl,fun j y hj=>zaa,rfl⟩
 case round=>
  obtain⟨k,hx,hk,rfl,Vs,rfl⟩:=hrel;have HA:Hid (∀j y,j<k->L[j]?=some y->y≠q):=Vs;clear Vs;by_cases UC:k<L.length
  ·obtain⟨y,hy⟩:∃y,L[k]?=some y:=⟨_,Ou UC⟩;obtain⟨g,ha,UX,hc⟩:=HM.out.cell hy;dsimp only at ha UX;subst ha;have HY:Hid (L[k]?=some y):=hy;have heq:=yJ wr q y (HBK.out q (.inl rfl)) (HBK.out y (.inr (OG hy)));clear hy;by_cases hq:y=q
   ·subst hq;have HIN:Hid (L.contains y=true):=by
     unfold Hid;rw[R9];exact OG HY.out
    go_wp2;go_ret;exact⟨⟨k,rfl,by unfold Y.KM;rw[HIN.out];simp⟩,rfl⟩
   ·have Xr:¬q=y:=fun e=>hq e.symm;go_wp2
    go_roundg (L.length-(k+1))
    case measure=>omega
    case rel=>
     refine⟨k+1,rfl,zaa,zag,fun j z hj hz=>?_,rfl⟩;by_cases e:j=k
     ·rw[e,HY.out]at hz;cases hz;exact hq
     ·exact HA.out j z zaa hz
  ·obtain rfl:k=L.length:=zaa;have HIN:Hid (L.contains q=false):=by
    unfold Hid;cases hcq:L.contains q
    ·rfl
    ·obtain⟨j,hj⟩:=SR (R9.1 hcq);exact absurd rfl (HA.out j q ((Oz.1 hj).1) hj)
   go_wp2;go_ret;exact⟨⟨-1,rfl,by unfold Y.KM;rw[HIN.out];rfl⟩,rfl⟩
theorem xF(w:World)(v:U.Sl)(L:List Nat)(q:Nat)(h:Y.Mvs w v L)(hl:L.length<=1000)(V5:∀y,y=q\/y∈L->∃c,w.heap[y]?=some (.cells c 266 (0,0))):
  () 228 #[.slice v.a v.n v.c,q] w fun e w'=>e=.returned (.bool (L.contains q))/\w'=w:=by
 have VR:=Fh w v L q h hl V5;unfold Y.KM at VR;obtain⟨bq,Y5⟩:∃b,L.contains q=b:=⟨_,rfl⟩;rw[Y5]at VR⊢;clear h Y5 V5;go_enter func228,ntmps228;go_wp2_with(go_at_call 257;refine VR.mono ?_;rintro e w9 ⟨⟨r,rfl,hr⟩,Pg⟩;rw[Pg];clear Pg w9);go_ret;exact⟨rfl,rfl⟩
attribute [local go_sem] Pp
namespace Y
def eP(L:List (Option Nat))(acc:List Nat)(i:Nat):List Nat:=match L[i]? with
 |some (some q)=>if acc.contains q then acc else acc++[q]
 |_=>acc
def dC(L:List (Option Nat))(l:List Nat):List Nat:=l.foldl (eP L) []
theorem Du(L:List (Option Nat))(l:List Nat)(i:Nat):dC L (l++[i])=eP L (dC L l) i:=by
 unfold dC;rw[Px];rfl
theorem wY(L:List (Option Nat))(acc:List Nat)(i:Nat):(eP L acc i).length<=acc.length+1:=by
 unfold eP;split
 ·split<;>simp
 ·omega
theorem wV(L:List (Option Nat)):∀(l:List Nat) (acc:List Nat),(l.foldl (eP L) acc).length<=acc.length+l.length
 |[],acc=>by simp
 |i::l,acc=>by
  have h1:=wV L l (eP L acc i);have h2:=wY L acc i;simp only[List.foldl_cons,List.length_cons];omega
theorem Gm{L:List (Option Nat)}{acc:List Nat}(h:y∈eP L acc i):y∈acc\/L[i]?=some (some y):=by
 unfold eP at h;split at h
 ·rename_i q hq;split at h
  ·exact .inl h
  ·rcases OT.1 h with h|h
   ·exact .inl h
   ·rw[OE.1 h];exact .inr hq
 ·exact .inl h
theorem wW{L:List (Option Nat)}{y:Nat}:∀(l:List Nat) (acc:List Nat),y∈l.foldl (eP L) acc->y∈acc\/∃i:Nat,L[i]?=some (some y)
 |[],_,h=>.inl h
 |i::l,acc,h=>by
  rcases wW l _ h with h|h
  ·rcases Gm h with h|h
   ·exact .inl h
   ·exact .inr ⟨i,h⟩
  ·exact .inr h
theorem wX{L:List (Option Nat)}{l:List Nat}(h:y∈dC L l):∃i:Nat,L[i]?=some (some y):=by
 rcases wW l [] h with h|h
 ·cases h
 ·exact h
theorem JJ{s:Nat}(l:List (In s)):(ba l).length=l.length:=by rw[cG];simp
end Y
theorem Bq(w:World)(pb b cap N:Nat)(hv:Value)(fin mb n:Nat)(M:()->Option Nat)(ev:())(s:Nat)(hB:Y.dz w pb b N cap hv fin (.map (some mb)))(hM:Y.eT w N mb n M)(Vg:ev.size<=1000000)(hMe:M ev=none):
  () 201 #[pb,ev,.int .u32 s] w fun e w'=>e=.returned (.slice none 0 0)/\Below w w w':=by
 have h3:w.cell? (pb,3)=some (.map (some mb)):=zbh;have WI:=hM.look Vg;rw[hMe]at WI;dsimp only at WI;clear hM hMe hB;have Ut:=(Oy w w).alloc (Ow _) (.cells #[.slice none 0 0] 261);go_enter func201,ntmps201;go_wp2;go_ret;exact⟨rfl,Ut⟩
theorem Dv(w:World)(pb b cap N:Nat)(hv:Value)(fin mb n:Nat)(M:()->Option Nat)(ev:())(s g:Nat)(L:List (Option Nat))(hB:Y.dz w pb b N cap hv fin (.map (some mb)))(hM:Y.eT w N mb n M)(Vg:ev.size<=1000000)(hMe:M ev=some g)(hR:Y.dA w g L)(hL:L.length=N)(hs:s<4294967296)(Ux:∀i,i∈Y.els s->i<N)
  (V5:∀(i q:Nat),L[i]?=some (some q)->∃c,w.heap[q]?=some (.cells c 266 (0,0))) (hg:1<w.heap.size) (hT:TabAt 1 Lib.deBruijn32tab w):
  () 201 #[pb,ev,.int .u32 s] w fun e w'=>∃v:U.Sl,e=.returned (.slice v.a v.n v.c)/\w'.ownsRow w 263 1 (.slice v.a v.n v.c) (Y.dC L (Y.els s)).length ((Y.dC L (Y.els s)).flatMap Y.mu)/\Below w w w':=by
 obtain⟨i0,hi,Ue,Ub,Uf⟩:=PZ mO;have h3:w.cell? (pb,3)=some (.map (some mb)):=zbh;have WI:=hM.look Vg;rw[hMe]at WI;dsimp only at WI;have HBK:Hid _:=V5;clear hM hMe hB V5;refine(O3 (n:=6)).1 ?_;refine Pq func201 rfl trivial ?_ rfl;simp only[ntmps201,List.size_toArray,List.length_cons,List.length_nil,Nat.reduceAdd,Nat.reduceSub,Array.replicate_succ,Array.replicate_zero,List.push_toArray,List.append_toArray,List.nil_append,List.cons_append];gi_wp2_with(refine⟨trivial,?_⟩;gi_at_call 98;refine(O3.2 (dH s _)).mono ?_;rintro e w9 ⟨rfl,Pg⟩;rw[Pg];clear Pg w9);have c7:=((O4 w 261 (.slice g N N)).alloc (.cells #[.slice none 0 0] 261)).alloc (.cells #[.int .u32 s] 107);have c9:=(O4 (w.alloc (.cells #[.slice g N N] 261)) 261 (.slice none 0 0)).alloc (.cells #[.int .u32 s] 107);have cF:=O4 ((w.alloc (.cells #[.slice g N N] 261)).alloc (.cells #[.slice none 0 0] 261)) 107 (.int .u32 s);simp only[World.size_alloc]at c9 cF;have Ut:Below w w (((w.alloc (.cells #[.slice g N N] 261)).alloc (.cells #[.slice none 0 0] 261)).alloc (.cells #[.int .u32 s] 107)):=(((Oy _ w).alloc (Ow _) _).alloc zad _).alloc zae _;have T6:(((w.alloc (.cells #[.slice g N N] 261)).alloc (.cells #[.slice none 0 0] 261)).alloc (.cells #[.int .u32 s] 107)).heap.size=w.heap.size+3:=zad;obtain⟨W0,WC⟩:∃W0,((w.alloc (.cells #[.slice g N N] 261)).alloc (.cells #[.slice none 0 0] 261)).alloc (.cells #[.int .u32 s] 107)=W0:=⟨_,rfl⟩;rw[WC]at c7 c9 cF Ut T6⊢;clear WC;refine oD zaa (w.heap.size+1+1) s hs rfl zaa zaa cF.cell (Y.KpT.of Ut hg hT) rfl
  (fun pre W=>(Boxed W w 261 (.slice g N N)/\∃v,Boxed W (w.heap.size+1) 261 v/\W.ownsRow w 263 1 v (Y.dC L (Y.ba pre)).length ((Y.dC L (Y.ba pre)).flatMap Y.mu)/\∃sl:U.Sl,v=.slice sl.a sl.n sl.c)/\Below w w W)
  (fun _ _ _=>False)
  (Pa (Pa (PY (PG _ _ _) _) (PY (holdsRow_own w (w.heap.size+1) 261 263 1 (fun pre=>(Y.dC L (Y.ba pre)).length) (fun pre=>(Y.dC L (Y.ba pre)).flatMap Y.mu) (fun _ v=>∃sl:U.Sl,v=.slice sl.a sl.n sl.c)) _)) (Qr (Ow _) zaa))
  (fun _ _ _ _ _ hs _ _=>hs)
  ⟨⟨c7,_,c9,Pt _ _ _ _,⟨none,0,0⟩,rfl⟩,Ut⟩
  (fun x a' _=>a'={ tmps:=#[.pointer (some ⟨pb,0,none⟩),.string ev,.int .u32 s,undef,undef,undef,.slice none 0 0,.pointer (some ⟨w.heap.size,0,none⟩),.bool true,.pointer (some ⟨w.heap.size+1,0,none⟩),.int .i64 x.1,undef,.tuple #[.slice (some ⟨g,0,none⟩) N N,.bool true],.pointer (some ⟨pb,0,none⟩),.pointer (some ⟨pb,0,none⟩),.pointer (some ⟨pb,3,none⟩),.map (some mb),.string ev,.tuple #[.slice (some ⟨g,0,none⟩) N N,.bool true],.slice (some ⟨g,0,none⟩) N N,.bool true,.bool true,.bool false,.int .u32 s,.func (.func 148) #[] #[.pointer (some ⟨w.heap.size+1+1,0,none⟩)],.int .i64 x.1,undef,undef,undef,undef,undef,undef,undef,undef,undef,undef,undef,undef,undef,undef,undef,undef,undef],defers:=[] })
  (fun _ _ _ _ _ _ hs _ _=>hs)
  ?assign ?body ?done ?stop
 case assign=>
  exact zeH
 case body=>
  rintro l pre x a' W _ _ ⟨⟨h7,v,h9,TO,sl,rfl⟩,Wt⟩ rfl TX;have VI:=Ux x.1 x.2;have U6:=Y.Du L (Y.ba pre) x.1;rw[<- Y.ej]at U6;have U9:(Y.dC L (Y.ba pre)).length<=32:=by
   have:=Y.wV L (Y.ba pre) [];rw[Y.JJ]at this;unfold Y.dC;simp at this;omega
  obtain⟨m,hm⟩:∃m,L[x.1]?=some m:=⟨_,Ou zaa⟩;have hRW:Y.dA W g L:=(Wt.block g hR.lt).trans hR;have cm:=hRW.cell hm;have d7:=h7.cell;have d9:=h9.cell;have f9:=h9.frozen;have hsW:=Wt.size;cases m with
  |none=>
   dsimp only[Option.map]at cm;have hst:Y.dC L (Y.ba (pre++[x]))=Y.dC L (Y.ba pre):=by rw[U6];unfold Y.eP;rw[hm]
   have XQ:Hid _:=hst;have HRW:Hid _:=TO;clear U6 hst TO hm;gi_wp2;refine⟨trivial,?_⟩;gi_wp2;exact⟨PK _ _,(fun h=>h),⟨h7,_,h9,by rw[XQ.out];exact HRW.out,sl,rfl⟩,Wt⟩
  |some q=>
   dsimp only[Option.map]at cm;obtain⟨acc,hacc⟩:∃a,Y.dC L (Y.ba pre)=a:=⟨_,rfl⟩;have WV:=xF W sl (Y.dC L (Y.ba pre)) q (aC TO (OL _)) zaa (fun y hy=>by
    obtain⟨i,hi⟩:∃i:Nat,L[i]?=some (some y):=by
     rcases hy with rfl|hy
     ·exact⟨_,hm⟩
     ·exact Y.wX hy
    obtain⟨c,hc⟩:=HBK.out i y hi;exact⟨c,(Wt.block y (Ov.1 hc).1).trans hc⟩)
   have hst:Y.dC L (Y.ba (pre++[x]))=if acc.contains q then acc else acc++[q]:=by rw[U6,hacc];unfold Y.eP;rw[hm]
   rw[hacc]at WV TO U9;obtain⟨bq,Y5⟩:∃b,acc.contains q=b:=⟨_,rfl⟩;rw[Y5]at WV hst;have XQ:Hid _:=hst;clear U6 hst hm hacc Y5;cases bq
   ·have HS1:Hid (Y.dC L (Y.ba (pre++[x]))=acc++[q]):=by have:=XQ.out;rw[OB zac]at this;exact this
    clear XQ;gi_wp2_with(first
     |(refine⟨trivial,?_⟩;gi_at_call 228;refine(aI WV).mono ?_;rintro e w9 ⟨rfl,Pg⟩;rw[Pg];clear Pg w9)
     |(gi_at_builtin;refine wpListIn_append_own _ rfl _ _ 261 rfl w.heap.size 263 i0 (.pointer none) 1 8 underlying261 hi Ue Ub Uf rfl zac _ _ _ rfl (TO.alloc _) ⟨W.heap.size,0,none⟩ 1 1 [.pointer (some ⟨q,0,none⟩)] rfl rfl (cell_one_new _ _ _) zao zah zaa zae ?_;intro v' w1 Uz L8 _;obtain⟨g',cap',rfl⟩:=ownsRow_succ Uz;obtain⟨UP,XE,Wr,VN,TP⟩:=h9.appended zac TO hsW zaa Uz L8;have Xk:=UP.cell;have hf1:=UP.frozen))
    have hk7:=bs ((h7.alloc _).kept L8 (h7.not_row zac TO)) (p:=↑(w.heap.size+1)) zad (.slice g' (acc.length+1) cap');exact⟨VN.from _,Y.KpT.of TP hg,⟨hk7,_,XE,by rw[HS1.out];simpa[Y.mu] using Wr,⟨some ⟨g',0,none⟩,acc.length+1,cap'⟩,rfl⟩,Wt.trans TP⟩
   ·have HS1:Hid (Y.dC L (Y.ba (pre++[x]))=acc):=by have:=XQ.out;rw[OD rfl]at this;exact this
    clear XQ;gi_wp2_with(refine⟨trivial,?_⟩;gi_at_call 228;refine(aI WV).mono ?_;rintro e w9 ⟨rfl,Pg⟩;rw[Pg];clear Pg w9);exact⟨PK _ _,(fun h=>h),⟨h7,_,h9,by rw[HS1.out];exact TO,sl,rfl⟩,Wt⟩
 case done=>
  rintro D ys W hD VA ⟨⟨h7,v,h9,TO,sl,rfl⟩,Wt⟩ hK;exact zdz
 case stop=>
  exact zfA
end
section
open Go.RowKit
def QAt(w:World)(lo:Nat)(v:Value)(L:List ()):Prop:=
 (v=.slice none 0 0/\L=[])\/∃g off cap cur,v=.slice (some ⟨g,off,none⟩) L.length cap/\lo<=g/\w.heap[g]?=some (.cells cur 9 (0,0))/\L.length<=cap/\cap<=maxLen/\(0<cap->off+cap<=cur.size)/\∀j,j<L.length->cur[off+j]?=some (.string (L.getD j ByteArray.empty))
theorem QAt.nil(w:World)(lo:Nat):QAt w lo (.slice none 0 0) []:=.inl ⟨rfl,rfl⟩
theorem QAt.form{w:World}(h:QAt w lo v L):∃a c,v=.slice a L.length c:=by
 rcases h with⟨rfl,rfl⟩|⟨g,off,cap,cur,rfl,_⟩
 ·exact⟨none,0,rfl⟩
 ·exact⟨_,_,rfl⟩
theorem QAt.mo{P:Nat->Prop}{w w':World}(h:QAt w lo v L)(hm:Mo P w w')(hn:∀g,v.ownBlock=some g->¬P g):QAt w' lo v L:=by
 rcases h with h|⟨g,off,cap,cur,rfl,h1,h2,h3⟩
 ·exact .inl h
 ·exact .inr ⟨g,off,cap,cur,rfl,h1,by rw[hm.block g (Ov.1 h2).1 (hn g rfl)];exact h2,h3⟩
theorem QAt.kind{w:World}(h:QAt w lo v L):∀g,v.ownBlock=some g->∃c,w.heap[g]?=some (.cells c 9 (0,0)):=by
 intro g hg
 rcases h with⟨rfl,_⟩|⟨g',off,cap,cur,rfl,h1,h2,_⟩
 ·cases hg
 ·cases hg;exact⟨_,h2⟩
theorem QAt.head{w:World}{x:()}(h:QAt w lo v (x::L)):∃g off cap,v=.slice (some ⟨g,off,none⟩) (L.length+1) (cap+1)/\L.length<=cap/\cap+1<=maxLen/\w.cell? ⟨g,off,none⟩=some ↑x /\
  ∀off',(off'=off+1\/cap=0)->QAt w lo (.slice (some ⟨g,off',none⟩) L.length cap) L:=by
 rcases h with⟨_,h⟩|⟨g,off,cap,cur,rfl,h1,h2,h3,h4,h5,h6⟩
 ·cases h
 ·simp only[List.length_cons]at h3 h6;obtain⟨cap,rfl⟩:∃k,cap=k+1:=⟨cap-1,zaa⟩;refine⟨g,off,cap,rfl,zaa,h4,?_,fun off' ho=>.inr ⟨g,off',cap,cur,rfl,h1,h2,zaa,zaa,?_,?_⟩⟩
  ·have:=h6 0 zaa;simp only[Nat.add_zero,List.getD_cons_zero]at this;simp[World.cell?,h2,this]
  ·intro hc;have:=h5 zaa;omega
  ·intro j hj;have:=h6 (j+1) zaa
   rcases ho with rfl|rfl
   ·rw[show off+1+j=off+(j+1) by omega,this];simp
   ·omega
section
variable {P:Program}(w:World)
theorem n7(t ty e:TypeId)(i:TypeInfo)(ht:P.underlying t=some (.slice e))(hi:P.info? e=some i)
  (g off sLen sCap:Nat) (cur:Array Value) (hg:w.heap[g]?=some (.cells cur e (0,0)))
  (a:Addr) (m c:Nat) (news:List Value) (hl:news.length=m*i.size) (XF:∀j u,news[j]?=some u->w.cell? (a.add j)=some u) (h1:∀u∈news,u.oneCell'=true)
  (Yz:sLen+m<=sCap) (X8:off+sLen*i.size+news.length<=cur.size):
  (Builtin.append_ #[t,t] ty #[.slice (some (g,off)) sLen sCap,.slice (some a) m c]).run P w =
   .ok (.slice (some (g,off)) (sLen+m) sCap) (w.setRow g (cur.toList.take (off+sLen*i.size)++news++cur.toList.drop (off+sLen*i.size+news.length)).toArray):=by
 have hf:=run_firstCells_some (P:=P) w i.size m a m c news hl XF;have hst:=run_storeCells_at P g (off+sLen*i.size) e news 0 cur w hg (by simpa using X8) h1;simp only[Nat.add_zero]at hst;simp[Builtin.append_,run_underlying ht,sizeOf,typeInfo,hi,Builtin.lenOf,Yz,hf,Addr.add_lit,hst]
theorem yG(t ty:TypeId)(i:TypeInfo)(z:Value)(bytes:Nat)(ht:P.underlying t=some (.slice 9))(hi:P.info? 9=some i)(hz:i.zero=some z)
  (WK:i.size=1) (hby:i.bytes=bytes) (hzs:z.cells.size=1) (lo:Nat) (v:Value) (L:List ()) (hq:QAt w lo v L)
  (a:Addr) (c:Nat) (x:()) (XF:w.cell? a=some ↑x) (hsp:a.spot=none)
  (h63:L.length+1<=maxLen) (WW:(L.length+1)*bytes<=140737488355328) (WM:lo<=w.heap.size):
  ∃v' w',(Builtin.append_ #[t,t] ty #[v,.slice (some a) 1 c]).run P w=.ok v' w'/\QAt w' lo v' (L++[x])/\w.grownBy w' v.ownBlock/\(v'.ownBlock=v.ownBlock\/v'.ownBlock=some w.heap.size):=by
 subst hby;have hsmall:L.length+1<=9223372036854775807:=by simp only[maxLen]at h63;omega
 have hn:∀j u,[Value.string x][j]?=some u->w.cell? (a.add j)=some u:=by
  intro j u hj;cases j with
  |zero=>simp at hj;subst hj;obtain⟨b,o,s⟩:=a;subst hsp;simpa[Addr.add_lit] using XF
  |succ j=>simp at hj
 have hl:[Value.string x].length=1*i.size:=by rw[WK];rfl
 have h1:∀u∈[Value.string x],u.oneCell'=true:=by intro u hu;simp at hu;subst hu;rfl
 have grown:∀(old:Nat),∀(row:Option Nat),
   QAt (w.drew.alloc (.cells ((L.map Value.string).toArray++[Value.string x].toArray++Builtin.zeroCells z.cells (grownCap w (L.length+1) old 9-(L.length+1))) 9)) lo
    (.slice w (L.length+1) (grownCap w (L.length+1) old 9)) (L++[x]) /\
   w.grownBy (w.drew.alloc (.cells ((L.map Value.string).toArray++[Value.string x].toArray++Builtin.zeroCells z.cells (grownCap w (L.length+1) old 9-(L.length+1))) 9)) row:=by
  intro old row;have V8:=grownCap_ge w (L.length+1) old 9;have hcm:grownCap w (L.length+1) old 9<=maxLen:=grownCap_le_maxLen w (L.length+1) old 9 h63;refine⟨.inr ⟨w.heap.size,0,_,_,zad,WM,OH w.drew _,by simpa using V8,hcm,?_,?_⟩,⟨rfl,rfl,rfl,zad,fun k hk _=>Pz w.drew _ k hk⟩⟩
  ·intro _;simp only[Array.size_append,List.size_toArray,List.length_map,List.length_cons,List.length_nil,size_zeroCells,hzs];omega
  ·intro j hj;simp only[List.length_append,List.length_cons,List.length_nil]at hj;rw[QC,Tf zae];by_cases h:j<L.length
   ·rw[Tf zaC];simp[List.getD,List.getElem?_append_left h,h]
   ·obtain rfl:j=L.length:=zaa;rw[Array.getElem?_append_right zad];simp[List.getD]
 rcases hq with⟨rfl,rfl⟩|⟨g,off,cap,cur,rfl,hbg,hg,hnc,hcm,YA,ZS⟩
 ·have hr:=run_append_nil (P:=P) w t ty 9 i z ht hi hz a 1 c [x] hl hn zaa zaa (by have hb:=WW;simp at hb;omega);have Vk:=grown 0 (Value.ownBlock (.slice none 0 0));simp only[List.length_nil,Nat.zero_add,List.map_nil,List.nil_append,Array.empty_append]at Vk⊢;exact⟨_,_,hr,Vk.1,Vk.2,.inr rfl⟩
 ·by_cases Yz:L.length+1<=cap
  ·have YA:=YA zaa;have hr:=n7 (P:=P) w t ty 9 i ht hi g off L.length cap cur hg a 1 c [x] hl hn h1 Yz (by rw[WK];simp;omega);rw[WK,RC]at hr;refine⟨_,_,hr,.inr ⟨g,off,cap,_,zad,hbg,setRow_heap w g cur _ _ _ hg,by simpa using Yz,hcm,?_,?_⟩,⟨rfl,rfl,rfl,zad,fun k _ hk=>setRow_other w g k _ (fun e=>hk (by simp[Value.ownBlock,e]))⟩,.inl rfl⟩
   ·intro _;simp only[List.size_toArray,List.length_append,List.length_take,List.length_drop,Array.length_toList,List.length_cons,List.length_nil];omega
   ·intro j hj;simp only[List.length_append,List.length_cons,List.length_nil]at hj;rw[Q0,Qn];by_cases h:j<L.length
    ·rw[Pv zae,PC zaa,PN,ZS j h];simp[List.getD,List.getElem?_append_left h]
    ·obtain rfl:j=L.length:=zaa;have hmin:(cur.toList.take (off+L.length)).length=off+L.length:=zae;rw[PE (by rw[hmin];omega),hmin,Ri];simp[List.getD]
  ·have holds:∀j u,(L.map Value.string)[j]?=some u->w.cell? ((⟨g,off,none⟩:Addr).add j)=some u:=by
    intro j u hu;have hj:j<L.length:=by simpa using(Oz.1 hu).1
    have:=ZS j hj;simp[List.getElem?_eq_getElem hj]at hu;subst hu;simp[Addr.add_lit,World.cell?,hg,this,List.getD,hj]
   have hr:=run_append_grow (P:=P) w t ty 9 i z ht hi hz ⟨g,off,none⟩ L.length cap (L.map Value.string) (by simp[WK]) holds a 1 c [x] hl hn zaa zaa (growslice_fits zaa WW);have Vk:=grown cap (Value.ownBlock (.slice (some (g,off)) L.length cap));exact⟨_,_,hr,Vk.1,Vk.2,.inr rfl⟩
theorem ru{rest:List Oper}{o:Oper}{a:Act}(hgd:o.guard=none)(s x:Operand)(t:TypeId)
  (ho:o.op=.call { callee:=.builtin .append,args:=#[s,x],argTypes:=#[t,t] })
  (i:TypeInfo) (z:Value) (bytes:Nat) (ht:P.underlying t=some (.slice 9)) (hi:P.info? 9=some i) (hz:i.zero=some z)
  (WK:i.size=1) (hby:i.bytes=bytes) (hzs:z.cells.size=1) (lo:Nat) (v:Value) (L:List ()) (hs:a.eval s=v) (hq:QAt w lo v L)
  (ad:Addr) (c:Nat) (y:()) (hx:a.eval x=.slice (some ad) 1 c) (XF:w.cell? ad=some ↑y) (hsp:ad.spot=none)
  (h63:L.length+1<=maxLen) (WW:(L.length+1)*bytes<=140737488355328) (WM:lo<=w.heap.size)
  (h:∀v' w',QAt w' lo v' (L++[y])->w.grownBy w' v.ownBlock->(v'.ownBlock=v.ownBlock\/v'.ownBlock=some w.heap.size)->wpList P ops Q rest (a.put o.dst v') w'):wpList P ops Q (o::rest) a w:=by
 refine wpList_plain hgd fun K hK=>?_;obtain⟨v',w',hr,h2,h3,h4⟩:=yG (P:=P) w t o.type i z bytes ht hi hz WK hby hzs lo v L hq ad c y XF hsp h63 WW WM;unfold Oper.wp execOp;simp only[ho,resolve,invoke,builtin,Sem.run_bind,Sem.run_pure,Result.andThen_ok,List.map_toArray,List.map_cons,List.map_nil,hs,hx,hr];exact hK _ _ (h v' w' h2 h3 h4)
end
end
section
open Go.RowKit Go.Proofs Go.Shelf
namespace Y
structure MSt where
 act:Nat
 kept:Nat->Nat
 q:List ()
 now:Nat
 wh:Nat->Value
 fin:Value
def fw(pb:Nat)(qv:Value)(s:MSt)(i:Nat):Value:=
 if i=0 then .pointer (some ⟨pb,0,none⟩) else if i=1 then .int .u32 s.act else if i<26 then .int .u32 (s.kept (i-2)) else if i=26 then qv else if i=27 then .int .u64 s.now else if i<419 then s.wh i else s.fin
structure Lo where
 n:Nat
 s:Nat
 ok:Nat->Prop
 le:∀k,ok k->n<=k
 new:∀k,s<=k->ok k
instance:Coe Lo Nat:=⟨Lo.n⟩
abbrev Lo.all(n:Nat):Lo:=⟨n,n,fun k=>n<=k,fun _ h=>h,fun _ h=>h⟩
structure au(W:World)(lo:Y.Lo)(mb pb:Nat)(qv:Value)(s:MSt):Prop where
 blk:∃arr:Array Value,W.heap[mb]?=some (.cells arr 120 (0,0))/\arr.size=420/\∀i,i<420->arr[i]?=some (fw pb qv s i)
 que:QAt W lo qv s.q
 lo':lo.ok mb
 qok:∀g,qv.ownBlock=some g->lo.ok g
 sz:lo.s<=W.heap.size
def Idl(W:World)(mb:Nat):Prop:=W.cell? (mb,26)=some (.slice none 0 0)
theorem Idl.bel(h:Idl W mb)(hm:mb<W.heap.size)(hb:Below W W W'):Idl W' mb:=(hb.cell (p:=⟨mb,26,none⟩) hm).trans h
theorem au.lt{lo:Y.Lo}{s:MSt}(h:au W lo mb pb qv s):mb<W.heap.size:=by
 obtain⟨arr,h1,_⟩:=h.blk;exact(Ov.1 h1).1
theorem au.cell{lo:Y.Lo}{s:MSt}(h:au W lo mb pb qv s)(i:Nat)(hi:i<420):W.cell? (mb,i)=some (fw pb qv s i):=by
 obtain⟨arr,h1,h2,h3⟩:=h.blk;rw[OA W _ _ _ _ _ h1];exact h3 i hi
theorem au.frozen{lo:Y.Lo}{s:MSt}(h:au W lo mb pb qv s)(i:Nat):W.frozen? (mb,i)=false:=by
 obtain⟨arr,h1,h2,h3⟩:=h.blk;simp[World.frozen?,h1]
theorem au.qne{lo:Y.Lo}{s:MSt}(h:au W lo mb pb qv s):qv.ownBlock≠some mb:=fun e=>by
 obtain⟨arr,h1,_⟩:=h.blk;obtain⟨c,hc⟩:=h.que.kind mb e;rw[h1]at hc;simp at hc
theorem au.idl{lo lo':Y.Lo}{s s':MSt}(h:au W lo mb pb qv s)(k:au W' lo' mb pb qv s')(hi:Idl W mb):Idl W' mb:=by
 have h1:W.cell? (mb,26)=some qv:=h.cell 26 zac;have h2:W'.cell? (mb,26)=some qv:=k.cell 26 zac;exact h2.trans (h1.symm.trans hi)
theorem au.mo{P:Nat->Prop}{lo:Y.Lo}{s:MSt}(h:au W lo mb pb qv s)(hm:Mo P W W')(h1:¬P mb)(h2:∀g,qv.ownBlock=some g->¬P g):au W' lo mb pb qv s where
 blk:=by
  obtain⟨arr,a,b,c⟩:=h.blk;exact⟨arr,(hm.block mb (Ov.1 a).1 h1).trans a,b,c⟩
 que:=h.que.mo hm h2
 lo':=h.lo'
 qok:=h.qok
 sz:=Ox h.sz hm.size
theorem au.below{lo:Y.Lo}{s:MSt}(h:au W lo mb pb qv s)(hb:Below W W W'):au W' lo mb pb qv s:=h.mo (P:=fun _=>False) (az hb) (fun h=>h) (fun _ _ h=>h)
theorem au.set{lo:Y.Lo}{s:MSt}(h:au W lo mb pb qv s)(i:Nat)(v:Value)(s':MSt)(hi:i<420)(hq:s'.q=s.q)(hc:∀j,j<420->fw pb qv s' j=if j=i then v else fw pb qv s j):au (W.setCell (mb,i) v) lo mb pb qv s' where
 blk:=by
  obtain⟨arr,a,b,c⟩:=h.blk;refine⟨arr.setIfInBounds i v,OP W mb i _ _ v a,by simp[b],fun j hj=>?_⟩;rw[hc j hj];by_cases e:j=i
  ·subst e;rw[OD rfl,Qd zaa]
  ·rw[OB e,P6 (fun x=>e x.symm)];exact c j hj
 que:=by
  rw[hq];exact h.que.mo ((Mo.refl (·=mb) W).set ⟨mb,i,none⟩ v rfl) (fun g hg e=>h.qne (e▸hg))
 lo':=h.lo'
 qok:=h.qok
 sz:=Ox h.sz ((Mo.refl (·=mb) W).set ⟨mb,i,none⟩ v rfl).size
end Y
theorem xQ:(Tryz.prog.info? 9).map (fun i=>(i.zero,i.size,i.bytes))=some (some (.string ⟨#[]⟩),1,16):=zab
theorem Cx(w:World)(lo:Y.Lo)(mb pb:Nat)(qv:Value)(s:Y.MSt)(m lv:Nat)(h:Y.au w lo mb pb qv s)(ha:s.act<4294967296)(hl:lv<4294967296)(hm:w.cell? (m,1)=some (.int .u32 lv)):
  () 152 #[mb,m] w fun e w'=>e=.returned (.int .u32 ((lv&&&s.act:Nat):Int))/\Below w w w':=by
 have h1:w.cell? (mb,1)=some (.int .u32 s.act):=h.cell 1 zac;have hand:=RM _ _ hl ha;clear h;go_enter func152,ntmps152;go_wp2
 go_quiet(fail)
 go_wp2;go_ret;exact⟨rfl,QK (Oy _ _) _⟩
namespace Y
def cR(t:TypeId):Prop:=t=120\/t=9\/t=215
def NX(t:TypeId):Prop:=t=120\/t=9
structure RfE(E:TypeId->Prop)(lo:Y.Lo)(w w':World):Prop where
 bel:Below lo w w'
 kd:Kd E w w'
 oth:KeepsOthers w w'
 own:∀k,k<w.heap.size->¬lo.ok k->w'.heap[k]?=w.heap[k]?
abbrev Rf:Lo->World->World->Prop:=RfE cR
abbrev Rq:Lo->World->World->Prop:=RfE NX
def gq(t:TypeId):Prop:=t=120\/t=215
abbrev Rw:Lo->World->World->Prop:=RfE gq
def La(t:TypeId):Prop:=t=120
abbrev Rm:Lo->World->World->Prop:=RfE La
theorem RfE.refl(lo:Y.Lo)(w:World):RfE E lo w w:=⟨Oy _ _,bE (Oy _ _),KeepsOthers.refl _,fun _ _ _=>rfl⟩
theorem RfE.trans{lo:Y.Lo}{c:World}(h:RfE E lo a b)(k:RfE E lo b c):RfE E lo a c:=⟨h.bel.trans k.bel,h.kd.trans k.kd,h.oth.trans k.oth,fun i hi hn=>(k.own i (OS hi h.bel.size) hn).trans (h.own i hi hn)⟩
theorem RfE.of{lo:Y.Lo}(h:Below a a b)(hl:lo<=a.heap.size):RfE E lo a b:=⟨h.mono hl,bE h,eE h,fun i hi _=>h.block i hi⟩
theorem RfE.mo{lo:Y.Lo}{P:Nat->Prop}(h:Mo P a b)(hl:∀k,P k->lo.ok k/\∃c t f,a.heap[k]?=some (.cells c t f)/\E t)(hs:lo<=a.heap.size):RfE E lo a b where
 bel:=⟨h.os,h.tape,h.output,h.size,fun k hk=>h.block k zaa (fun hp=>by have:=lo.le _ (hl k hp).1;omega)⟩
 kd:=gO h (fun k c t f hp hc=>by
  obtain⟨_,c',t',f',h1,h2⟩:=hl k hp;rw[hc]at h1;cases h1
  exact h2)
 oth:=⟨h.size,fun k o hk ho=>h.block k (Ov.1 hk).1 (fun hp=>by
  obtain⟨_,c',t',f',h1,h2⟩:=hl k hp;rw[hk]at h1;cases h1
  cases ho) |>.trans hk⟩
 own:=fun k hk hn=>h.block k hk (fun hp=>hn (hl k hp).1)
theorem RfE.wide{F:TypeId->Prop}{lo:Y.Lo}(h:RfE E lo a b)(hE:∀t,E t->F t):RfE F lo a b:=⟨h.bel,h.kd.mono hE,h.oth,h.own⟩
theorem wE{lo:Y.Lo}(h:Rw lo a b):Rf lo a b:=h.wide fun _ h=>h.elim .inl (fun h=>.inr (.inr h))
theorem Jd{lo:Y.Lo}(h:Rm lo a b):Rw lo a b:=h.wide fun _ h=>.inl h
theorem wD{lo:Y.Lo}(h:Rq lo a b):Rf lo a b:=h.wide fun _ h=>h.elim .inl (fun h=>.inr (.inl h))
end Y
theorem qi(w:World)(lo:Y.Lo)(mb pb:Nat)(qv:Value)(s:Y.MSt)(ev:())(h:Y.au w lo mb pb qv s)(TT:lo<=w.heap.size)(WJ:s.q.length<=4398046511104):
  () 71 #[mb,ev] w fun e w'=>e=.returned (.tuple #[])/\∃qv',Y.au w' lo mb pb qv' { s with q:=s.q++[ev] }/\Y.Rq lo w w':=by
 obtain⟨i0,hi,Ue,Ub,Uf⟩:=PZ xQ;have h26:w.cell? (mb,26)=some qv:=h.cell 26 zac;have hba:Below w w (w.alloc (.cells #[ev] 9)):=(Oy _ _).alloc (Ow _) _;have XG:(w.alloc (.cells #[ev] 9)).cell? w=some ↑ev:=OA _ _ 0 _ _ (0,0) (OH w _);have hMa:=h.below hba;obtain⟨qa,qc,rfl⟩:=h.que.form;have Uu:∀v5 w5,QAt w5 lo v5 (s.q++[ev])->(w.alloc (.cells #[ev] 9)).grownBy w5 (Value.ownBlock (.slice qa s.q.length qc))->(v5.ownBlock=Value.ownBlock (.slice qa s.q.length qc)\/v5.ownBlock=some (w.alloc (.cells #[ev] 9)).heap.size)->(∃c,w5.heap[mb]?=some (.cells c 120 (0,0))/\w5.cell? ⟨mb,26,none⟩=some (.slice qa s.q.length qc)/\w5.frozen? ⟨mb,26,none⟩=false)/\Y.au (w5.setCell ⟨mb,26,none⟩ v5) lo mb pb v5 { s with q:=s.q++[ev] }/\Y.Rq lo w (w5.setCell ⟨mb,26,none⟩ v5):=fun v5 w5 hq5 X9 hat5=>by
  obtain⟨arr,a1,a2,a3⟩:=hMa.blk;have VY:=hMa.lt;have a5:w5.heap[mb]?=some (.cells arr 120 (0,0)):=(X9.block mb VY (fun e=>hMa.qne e.symm)).trans a1;refine⟨⟨arr,a5,by rw[OA _ _ _ _ _ _ a5];exact a3 26 zac,by simp[World.frozen?,a5]⟩,⟨⟨arr.setIfInBounds 26 v5,OP w5 mb 26 _ _ v5 a5,by simp[a2],fun j hj=>?_⟩,hq5.mo ((Mo.refl (·=mb) w5).set ⟨mb,26,none⟩ v5 rfl) (fun g hg e=>?_),h.lo',fun g hg=>?_,Ox h.sz (Ox hba.size (Ox X9.size zad))⟩,?_⟩
  ·by_cases e:j=26
   ·subst e;rw[Qd zaa];rfl
   ·rw[P6 (fun x=>e x.symm),a3 j hj];simp[Y.fw,e]
  ·obtain⟨c,hc⟩:=hq5.kind g hg;rw[show g=mb from e,a5]at hc;simp at hc
  ·rcases hat5 with e|e
   ·exact h.qok g (e▸hg)
   ·rw[e]at hg;cases hg
    exact lo.new _ (Ox h.sz hba.size)
  ·refine(Y.RfE.of hba TT).trans ((Y.RfE.mo (P:=fun k=>Value.ownBlock (.slice qa s.q.length qc)=some k) ⟨X9.os,X9.tape,X9.output,X9.size,fun k hk hn=>X9.block k hk (fun e=>hn e.symm)⟩ (fun k hk=>?_) (Ox TT hba.size)).trans (Y.RfE.mo (P:=(·=mb)) ((Mo.refl (·=mb) w5).set ⟨mb,26,none⟩ v5 rfl) (fun k hk=>?_) (Ox TT (Ox hba.size X9.size))))
   ·obtain⟨c,hc⟩:=hMa.que.kind k hk;exact⟨hMa.qok k hk,c,_,_,hc,.inr rfl⟩
   ·subst hk;exact⟨h.lo',arr,_,_,a5,.inl rfl⟩
 have HF:Hid _:=Uu;have HQ:Hid (QAt (w.alloc (.cells #[ev] 9)) lo (.slice qa s.q.length qc) s.q):=hMa.que;clear Uu hMa h hba;go_enter func71,ntmps71;go_wp2_with(show wpList _ _ _ (Oper.mk (some 11) _ _ _ _ _::_) _ _;refine ru _ rfl _ _ 22 rfl i0 _ 16 underlying22 hi Ue Ub Uf rfl lo _ _ rfl HQ.out ⟨w,0,none⟩ 1 ev rfl XG rfl zah zaa zae ?_;intro v5 w5 hq5 X9 hat5;obtain⟨⟨c5,b5,d5,f5⟩,hM5,hR5⟩:=HF.out v5 w5 hq5 X9 hat5;obtain⟨a6,c6,rfl⟩:=hq5.form);go_end0;rw[OM,Qu]at hM5 hR5;exact⟨rfl,_,hM5,hR5⟩
namespace Y
def fj(e:Nat):Value:=if e=0 then .nilIface else .iface 31 (.int .i64 e)
end Y
theorem jM(w:World)(lo:Y.Lo)(mb pb:Nat)(qv:Value)(s:Y.MSt)(e0:Nat)(h:Y.au w lo mb pb qv s)(he:s.fin=Y.fj e0)(he0:e0=0\/e0=5\/e0=6):
  () 41 #[mb] w fun e w'=>e=.returned (if e0=6 then Y.fj 6 else .nilIface)/\w'=w:=by
 have h5:w.cell? (mb,419)=some s.fin:=h.cell 419 zac;rw[he]at h5;clear h he;have q0:∀w:World,(binOp .eql 48 .nilIface (.iface 31 (.int .i64 6))).run prog w=.ok (.bool false) w:=fun w=>zab;have q5:∀w:World,(binOp .eql 48 (.iface 31 (.int .i64 5)) (.iface 31 (.int .i64 6))).run prog w=.ok (.bool false) w:=fun w=>zab;have q6:∀w:World,(binOp .eql 48 (.iface 31 (.int .i64 6)) (.iface 31 (.int .i64 6))).run prog w=.ok (.bool true) w:=fun w=>zab
 rcases he0 with rfl|rfl|rfl
 all_goals
  unfold Y.fj at *;simp only[Nat.reduceEqDiff,↓reduceIte]at h5⊢;go_enter func41,ntmps41;go_wp2;go_ret;exact⟨rfl,rfl⟩
theorem Lf(w:World)(lo:Y.Lo)(mb pb:Nat)(qv:Value)(s:Y.MSt)(h:Y.au w lo mb pb qv s):
  () 56 #[mb] w fun e w'=>e=.returned (.int .u64 s.now)/\w'=w:=by
 have h27:w.cell? (mb,27)=some (.int .u64 s.now):=h.cell 27 zac;clear h;have hw:() 91 #[(mb,27)] w fun e w'=>e=.returned (.int .u64 s.now)/\w'=w:=by
  go_enter func91,ntmps91;exact zfG
 go_enter func56,ntmps56;go_wp2_with(go_at_call 91;refine hw.mono ?_;rintro e w9 ⟨rfl,Pg⟩;rw[Pg];clear Pg w9);go_ret;exact⟨rfl,rfl⟩
namespace Y
def upd{α:Type}(f:Nat->α)(i:Nat)(v:α):Nat->α:=fun j=>if j=i then v else f j
theorem aD{α:Type}(f:Nat->α)(i:Nat)(v:α):upd f i v i=v:=OD rfl
theorem aG{α:Type}(f:Nat->α){j:Nat}(v:α)(h:j≠i):upd f i v j=f j:=OB h
def isR(r:Nat):Prop:=(r<390/\r % 65≠64)\/r=390
theorem isR.lt(h:isR r):r<391:=by rcases h with h|h<;>omega
structure dh(W:World)(lo:Y.Lo)(wh:Nat->Value)(R:Nat->List Nd):Prop where
 ring:∀r,isR r->wh (28+r)=aM (R r)
 nds:∀r,isR r->cH W (R r)
 low:∀r,isR r->∀x∈R r,lo.ok x.1
 dis:∀r q,isR r->isR q->r≠q->∀x∈R r,∀y∈R q,x.1≠y.1
 nod:∀r,isR r->((R r).map (·.1)).Nodup
def kB(wh:Nat->Value)(R:Nat->List Nd):Prop:=∀k,k<6->∃h:Nat,h<18446744073709551616/\wh (28+(k*65+64))=.int .u64 h/\∀s,s<64->h.testBit s=!(R (k*65+s)).isEmpty
theorem dh.kd{lo:Y.Lo}(h:dh W lo wh R)(hk:Kd E W W')(hE:¬E 215):dh W' lo wh R:=
 ⟨h.ring,fun r hr i x hx=>(hk.aq _ _ _ _ (h.nds r hr i x hx) hE).trans (h.nds r hr i x hx),h.low,h.dis,h.nod⟩
theorem dh.below{lo:Y.Lo}(h:dh W lo wh R)(hb:Below W W W'):dh W' lo wh R:=h.kd (bE (E:=fun _=>False) hb) (fun h=>h)
theorem au.Ej{lo:Y.Lo}{s:MSt}(h:au W lo mb pb qv s)(i:Nat)(v:Value)(h1:28<=i)(h2:i<419):au (W.setCell (mb,i) v) lo mb pb qv { s with wh:=upd s.wh i v }:=
 h.set i v _ zaa rfl fun j hj=>by
  by_cases e:j=i
  ·subst e;rw[OD rfl];unfold fw;rw[OB zaa,OB zaa,OB zaa,OB zaa,OB zaa,OD h2];exact aD _ _ _
  ·rw[OB e];unfold fw;dsimp only;rw[aG _ _ e]
theorem au.typ{lo:Y.Lo}{s:MSt}(h:au W lo mb pb qv s){n:Nat}{c:Array Value}{f:Nat×Nat}(hn:W.heap[n]?=some (.cells c 215 f)):mb≠n:=fun e=>by
 obtain⟨arr,a1,_⟩:=h.blk;rw[e,hn]at a1;simp at a1
theorem dh.push{lo:Y.Lo}{s:MSt}{n:Nat}{x:Tn}(hM:au W lo mb pb qv s)(h:dh W lo s.wh R)(hr:isR r)(TV:lo<=W.heap.size)(hn:W.heap[n]?=some (.cells (eN x v) 215 (0,0)))(Vv:∀q,isR q->∀y∈R q,y.1≠n)(TT:lo.ok n):
  au (eH W ⟨mb,28+r,none⟩ (R r) n) lo mb pb qv { s with wh:=upd s.wh (28+r) (ndP n) }/\dh (eH W ⟨mb,28+r,none⟩ (R r) n) lo (upd s.wh (28+r) (ndP n)) (upd R r (R r++[(n,x)]))/\Rw lo W (eH W ⟨mb,28+r,none⟩ (R r) n):=by
 have WX:∀q,isR q->∀y∈R q,mb≠y.1:=fun q hq y hy=>by
  exact ze2
 have Y6:n ∉ (R r).map (·.1):=fun e=>by
  obtain⟨y,hy,e⟩:=O7.1 e;exact Vv r hr y hy e
 have hmr:mb ∉ (R r).map (·.1):=fun e=>by
  obtain⟨y,hy,e⟩:=O7.1 e;exact WX r hr y hy e.symm
 obtain⟨p1,p2⟩:=(h.nds r hr).push (p:=(mb,28+r)) (h.nod r hr) hn Y6 (hM.typ hn) hmr;have V6:=hr.lt;have Yq:∀z,(R r).getLast?=some z->z∈R r:=fun z hz=>Qy hz;have XH:∀q,isR q->∀y∈R q,∃c,W.heap[y.1]?=some (.cells c 215 (0,0)):=fun q hq y hy=>by
  exact ze3
 refine⟨?_,⟨fun q hq=>?_,fun q hq=>?_,fun q hq y hy=>?_,fun q q' hq Xr TU y hy z hz=>?_,fun q hq=>?_⟩,RfE.mo p2 (fun k hk=>?_) TV⟩
 ·have hq:∀g,qv.ownBlock=some g->∀c,W.heap[g]?≠some (.cells c 215 (0,0)):=fun g hg c e=>by
   obtain⟨c',TZ⟩:=hM.que.kind g hg;rw[e]at TZ;simp at TZ
  unfold eH;cases hz:(R r).getLast? with
  |none=>
   exact(hM.mo (P:=(·=n)) ((Mo.refl _ W).set ⟨n,3,none⟩ _ rfl) (fun e=>hM.typ hn e) (fun g hg e=>hq g hg _ (e▸hn))).Ej (28+r) _ zaa zaa
  |some z=>
   obtain⟨cz,hcz⟩:=XH r hr z (Yq z hz);exact(hM.mo (P:=fun k=>k=n\/k=z.1) (((Mo.refl _ W).set ⟨n,3,none⟩ _ (.inl rfl)).set ⟨z.1,3,none⟩ _ (.inr rfl)) (fun e=>e.elim (fun e=>hM.typ hn e) (fun e=>hM.typ hcz e)) (fun g hg e=>e.elim (fun e=>hq g hg _ (e▸hn)) (fun e=>hq g hg _ (e▸hcz)))).Ej (28+r) _ zaa zaa
 ·by_cases e:q=r
  ·subst e;rw[aD,aD,n6]
  ·rw[aG _ _ e,aG _ _ zaa];exact h.ring q hq
 ·by_cases e:q=r
  ·subst e;rw[aD];exact p1
  ·rw[aG _ _ e];refine(h.nds q hq).mo p2 (fun y hy hk=>?_)
   rcases hk with hk|hk|⟨z,hz,hk⟩
   ·exact WX q hq y hy hk.symm
   ·exact Vv q hq y hy hk
   ·exact h.dis q r hq hr e y hy z (Yq z hz) hk
 ·by_cases e:q=r
  ·subst e;rw[aD]at hy
   rcases OT.1 hy with hy|hy
   ·exact h.low q hq y hy
   ·rw[OE.1 hy];exact TT
  ·rw[aG _ _ e]at hy;exact h.low q hq y hy
 ·by_cases e:q=r
  ·subst e;rw[aD]at hy;rw[aG _ _ (Ne.symm TU)]at hz
   rcases OT.1 hy with hy|hy
   ·exact zfy
   ·rw[OE.1 hy];exact fun e=>Vv q' Xr z hz e.symm
  ·rw[aG _ _ e]at hy;by_cases e':q'=r
   ·subst e';rw[aD]at hz
    rcases OT.1 hz with hz|hz
    ·exact zfy
    ·rw[OE.1 hz];exact fun e=>Vv q hq y hy e
   ·rw[aG _ _ e']at hz;exact zfy
 ·by_cases e:q=r
  ·subst e;rw[aD,Pk,List.nodup_append];refine⟨h.nod q hq,zad,fun a ha b hb=>?_⟩;simp only[List.map_cons,List.map_nil,List.mem_singleton]at hb;subst hb;exact fun e=>Y6 (e▸ha)
  ·rw[aG _ _ e];exact h.nod q hq
 ·rcases hk with hk|hk|⟨z,hz,hk⟩
  ·obtain⟨arr,a1,_⟩:=hM.blk;exact zfo
  ·subst hk;exact⟨TT,_,_,_,hn,.inr rfl⟩
  ·obtain⟨cz,hcz⟩:=XH r hr z (Yq z hz);subst hk;exact⟨h.low r hr z (Yq z hz),_,_,_,hcz,.inr rfl⟩
theorem dh.mark{lo:Y.Lo}{s:MSt}(hM:au W lo mb pb qv s)(h:dh W lo s.wh R)(k:Nat)(hk:k<6)(v:Value)(TV:lo<=W.heap.size):
  au (W.drew.setCell (mb,28+k*65+64) v) lo mb pb qv { s with wh:=upd s.wh (28+(k*65+64)) v }/\dh (W.drew.setCell (mb,28+k*65+64) v) lo (upd s.wh (28+(k*65+64)) v) R/\Rw lo W (W.drew.setCell (mb,28+k*65+64) v):=by
 have hd:=(Oy W W).drew;have hMd:=hM.below hd;have hm:Mo (·=mb) W.drew (W.drew.setCell (mb,28+k*65+64) v):=(Mo.refl _ _).set _ _ rfl;have hR:Rm lo W.drew (W.drew.setCell (mb,28+k*65+64) v):=RfE.mo hm (fun j hj=>by
  obtain⟨arr,a1,_⟩:=hM.blk;subst hj;exact⟨hM.lo',arr,_,_,a1,rfl⟩) TV
 refine⟨hMd.Ej (28+(k*65+64)) v zaa zaa,?_,(RfE.of hd TV).trans (Jd hR)⟩;have h2:=(h.below hd).kd hR.kd (by unfold La;decide);refine⟨fun r hr=>?_,h2.nds,h2.low,h2.dis,h2.nod⟩;rw[aG _ _ ?_]
 ·exact h.ring r hr
 ·rcases hr with⟨a,b⟩|rfl<;>omega
end Y
end
section
open Go
def Wd(F:Fence):Prop:=F=Fence.wide\/∃k,F=Fence.wide.inRound k
theorem np:Wd Fence.wide:=.inl rfl
theorem dQ(k:Nat):Wd (Fence.wide.inRound k):=.inr ⟨k,rfl⟩
theorem Wd.depth(h:Wd F)(x:Prop):F.depth.isSome=true->x:=by
 rcases h with rfl|⟨k,rfl⟩<;>exact fun h=>zav
theorem Wd.fn(h:Wd F)(f:FuncId):F.fn f:=by
 rcases h with rfl|⟨k,rfl⟩<;>exact trivial
theorem Wd.rows(hF:Wd F){n:Nat}{P:Program}{row:String}{w:World}{R:Value->World->Prop}(h:Rows P row args w R):RowsIn F n P row args w R:=by
 rcases hF with rfl|⟨k,rfl⟩
 ·exact fun c cs _=>let⟨v,w',r,s⟩:=h c cs;⟨v,w',r,stepsIn_wide.2 s⟩
 ·exact pr h
theorem Wd.calls(hF:Wd F){n:Nat}{P:Program}{w:World}{R:Ending->World->Prop}(h:Calls P f args w R):CallsIn F n P f args w R:=by
 rcases hF with rfl|⟨k,rfl⟩
 ·exact O3.2 h
 ·exact aI h
theorem Ey{F:Fence}(hF:Wd F){n:Nat}{P:Program}{o:Oper}{a:Act}{N:Act->World->Prop}{Q:Exit->Act->World->Prop}:∀r:Result Next,o.upon P a N Q r->o.uponIn F n P a N Q r:=by
 intro r h;cases r with
 |ok v w'=>
  cases v<;>first
   |exact h
   |exact⟨hF.depth _,hF.rows (Rows.mono h fun _ _ hx=>hx)⟩
   |exact h.elim
   |skip
  exact⟨hF.depth _,hF.calls (OI h fun e w'' hx=>by
   cases e
   ·exact hx
   ·exact hx
   ·exact hx)⟩
 |halt x w'=>cases x<;>first|exact h|exact h.elim
theorem CR(hF:Wd F){n:Nat}{P:Program}{a:Act}{w:World}{K:Act->Prop}{K':Act->World->Prop}(Ua:kX ops=true)(h:∀a,K a->K' a w)(hh:stOp P ops w i K a):wpOpIn F n P ops Q i K' a w:=by
 unfold stOp at hh;unfold wpOpIn;split
 ·rename_i ho;simp only[ho]at hh;exact h _ hh
 ·rename_i o ho;simp only[ho]at hh;split
  ·rename_i hw;rw[OD hw]at hh;refine⟨fun _ _=>hF.fn _,?_⟩;rw[Oper.semAt_eq _ _ _ (fun c=>oV Ua ho c)];exact Ey hF _ (Oper.wp_of_still h hh)
  ·rename_i hw;rw[OB hw]at hh;exact⟨fun _ _=>hF.fn _,h _ hh⟩
theorem nt{F:Fence}(hF:Wd F){n m g:Nat}{P:Program}{md:Region.Mode}{ops:Array Oper}{Q:Exit->Act->World->Prop}{w:World}{L:Array Bool->Act->Prop}(Ua:kX ops=true)(hL:∀listed a,L listed a->wpAnyIn F n P md ops Q g listed a w):
  ∀(f:Nat) (listed:Array Bool) (a:Act),wpAnyL P md ops w m L f listed a->wpAnyIn F n P md ops Q (f+g) listed a w
 |0,listed,a,h=>by rw[QC];exact hL _ _ h
 |f+1,listed,a,h=>by
  rw[show f+1+g=(f+g)+1 by omega];exact⟨fun h0=>absurd h0 h.1,fun i hi=>CR hF Ua (fun a' h'=>nt hF Ua hL f _ a' h') (h.2 i hi).2⟩
theorem oe{F:Fence}{n:Nat}{P:Program}{md:Region.Mode}{ops:Array Oper}{Q:Exit->Act->World->Prop}:∀(l:List Oper) (k:Nat) (listed:Array Bool) (a:Act) (w:World),(∀j,l[j]?=ops[k+j]?)->Region.seqB md ops l.length k listed=true->wpListIn F n P ops Q l a w->wpAnyIn F n P md ops Q l.length listed a w
 |[],_,_,_,_,_,hB,h=>⟨by simpa[Region.seqB] using hB,h⟩
 |o::l,k,listed,a,w,hl,hB,h=>by
  have h0:ops[k]?=some o:=by simpa using(hl 0).symm
  simp only[List.length_cons,Region.seqB,Bool.and_eq_true,decide_eq_true_eq]at hB;refine⟨fun h1=>(by rw[hB.1]at h1;cases h1),fun i hi=>?_⟩;rw[hB.1]at hi;obtain rfl:i=k:=za4;have hw:wpOpIn F n P ops Q i (wpListIn F n P ops Q l) a w:=by unfold wpOpIn;simp only[h0];exact h
  exact wpOpIn_mono (fun a' w' h'=>oe l (i+1) _ a' w' (fun j=>by have:=hl (j+1);simpa[Nat.add_assoc,Nat.add_comm 1 j] using this) hB.2 h') hw
theorem aW(hF:Wd F){n id:Nat}{P:Program}{a:Act}{w:World}{l:List Oper}(m:Nat)(hm:P.follows .mixedOrders=true)(hB:Region.lexTailB .any l.toArray m=true)(Ua:kX l.toArray=true)
  (h:wpStill P l.toArray w.drew (fun a'=>wpListIn F n P l.toArray Q (l.drop m) a' w.drew) (l.take m) a):(Code.region id l.toArray true).wpIn F n P Q a w:=by
 simp only[Region.lexTailB,Bool.and_eq_true,decide_eq_true_eq]at hB;obtain⟨⟨⟨⟨Ya,hn⟩,hs⟩,hc⟩,hlex⟩:=hB;have Vd:m<l.length:=by simpa using hn
 have Vo:(l.take m).length=m:=RS zaa;have UH:(l.drop m).length=l.toArray.size-m:=zad;have H:=wpAnyL_lex (md:=.any) (g:=l.toArray.size-m) Ya hs hc hn (l.take m) 0 (Array.replicate l.toArray.size false) a (fun j hj=>by
  rw[Vo]at hj;simp[hj]) (by simpa using Vo) ⟨zad,fun j oj _ hl=>(by rw[getD_replicate_false]at hl;cases hl),fun t _ ht=>getD_in (by simpa using ht) (getD_replicate_false _ _)⟩ (by rw[Vo];exact hlex) h
 refine wpIn_region_any hm ?_;have R:=nt hF Ua (fun listed a' hL=>by
  have T:=oe (F:=F) (n:=n) (P:=P) (md:=.any) (ops:=l.toArray) (Q:=Q) (l.drop m) m listed a' w.drew (fun j=>by simp[List.getElem?_drop]) (by rw[UH];exact hL.1) hL.2
  rwa [UH]at T) _ _ _ H
 rw[Vo,show m+(l.toArray.size-m)=l.toArray.size by omega]at R;exact R
end
section
open Go.RowKit Go.Proofs Go.Shelf
attribute [local go_sem] Pp
theorem tP{F':Fence}(hF:Wd F)(hF':Wd F'){m m':Nat}{P:Program}{l:Nat}{tmps:Array Value}{assign body:Code}{w:World}{R:Ending->World->Prop}(h:RoundIn F m P l f tmps assign body w R):RoundIn F' m' P l f tmps assign body w R:=by
 rcases hF with rfl|⟨k,rfl⟩<;>rcases hF' with rfl|⟨k',rfl⟩<;>exact⟨trivial,fun c cs _=>h.2 c cs (fun d hd=>by cases hd)⟩
theorem iM{w:World}{p:Addr}(h:w.cell? p=some v):p.block<w.heap.size:=by
 unfold World.cell? at h;split at h
 ·rename_i c e f hb;exact(Ov.1 hb).1
 ·cases h
namespace Y
def ld(hv:Nat->Nat)(k:Nat):List Nat:=(eX (hv k)).map (k*65+·)
def kx(hv:Nat->Nat)(k:Nat):List Nat:=(List.range k).flatMap (ld hv)
def gF(hv:Nat->Nat):List Nat:=kx hv 6++[390]
theorem i7(hv:Nat->Nat)(k:Nat):kx hv (k+1)=kx hv k++ld hv k:=by
 unfold kx;rw[R4,Ph];simp
structure BC(V:World)(Bs mb:Nat)(R:Nat->List Nd)(hv:Nat->Nat):Prop where
 box:Boxed V Bs 209 (mb,27)
 held:∀k,k<6->V.cell? ⟨mb,28+k*65+64,none⟩=some (.int .u64 (hv k))
 ring:∀k s,k<6->s<64->V.cell? ⟨mb,28+k*65+s,none⟩=some (aM (R (k*65+s)))
 out:V.cell? (mb,418)=some (aM (R 390))
 tab:TabAt 3 Lib.deBruijn64tab V
theorem BC.kp{Bs:Nat}{hv:Nat->Nat}(h:BC V Bs mb R hv)(hk:KpM B V V')(h1:¬B Bs 209)(h2:∀t,¬B mb t)(h3:∀t,¬B 3 t):BC V' Bs mb R hv:=
 ⟨hk.2 _ _ _ _ h.box h1,fun k UD=>hk.cell (h.held k UD) h2,fun k s h4 h5=>hk.cell (h.ring k s h4 h5) h2,hk.cell h.out h2,Y.KpM.tab hk h3 h.tab⟩
theorem KpM.bx{n:Nat}(hB:∀k t,B k t->k<n\/t=157)(hk:KpM B V V'){T:TypeId}(hb:Boxed V k T v)(hn:n<=k)(hT:T≠157:=by decide):Boxed V' k T v:=hk.2 _ _ _ _ hb (fun e=>by rcases hB _ _ e with e|e;omega;exact hT e)
structure RgF(l Bs By:Nat)(k:Nat)(a:Act)(Ds:List Nat):Prop where
 tm:∃u3 u4 u6 u7 u8 u9 u10 u11 u12 u13 u14 u15 u16 u17 u18 u19 u20 u21 u22 u23 u24 u25 u26 u27,a.tmps=#[.func (.yield l) #[] #[],.pointer (some ⟨Bs,0,none⟩),.pointer (some ⟨By,0,none⟩),u3,u4,.int .i64 k,u6,u7,u8,u9,u10,u11,u12,u13,u14,u15,u16,u17,u18,u19,u20,u21,u22,u23,u24,u25,u26,u27,undef,undef,undef,undef,undef,undef]
 df:a.defers=marks Ds
