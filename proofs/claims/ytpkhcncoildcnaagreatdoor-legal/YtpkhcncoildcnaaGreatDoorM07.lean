import Derived.Test.YtpkhcncoildcnaaGreatDoorM06
set_option maxRecDepth 100000
set_option maxHeartbeats 8000000
namespace Go.Proofs.YtpkhcncoildcnaaGreatDoor
variable {zp:Prop}
theorem zcM(h:zp:=by
 refine tD (some 27) 5 mb rfl u0 ?_;refine tD (some 28) 6 mb rfl u0 ?_;refine tD (some 29) 7 (mb,1) rfl u0 ?_;refine tD (some 30) 8 (.int .u32 Rk.act) rfl u0 ?_;refine tD (some 32) 10 mb rfl u0 ?_;refine tD (some 33) 11 (mb,2) rfl u0 ?_;refine zH 9 rfl fun K hK=>?_;go_simp;refine hca.mono ?_;rintro e w9 ⟨rfl,UR⟩;obtain⟨x1,x2,x3,u,x4⟩:=HC.out w9 kv (T5.drew.trans (UR.mono zad));have X1:Hid _:=x1;have X2:Hid _:=x2;clear x1 x2;refine hK.out _ _ (UF w9 UR) (fun u0=>?_);clear hK K;refine tD (some 34) 12 (mb,2+hx) rfl u0 ?_;refine zH 13 rfl fun K hK=>?_;go_simp;refine hK.out _ _ (by
  have e:∀(a:Addr),a≠⟨mb,2+hx,none⟩->∀v,(w9.setCell (mb,2+hx) v).cell? a=w9.cell? a:=fun a ha v=>ay (fun h=>ha h.symm)
  (try dsimp only at u0);(try dsimp only)
  rw[e _ zak,e _ zak,e _ zak];exact u0) (fun u0=>?_)
 clear hK K u0;refine OY zab ?_ _
 (try simp only[Act.put,List.setIfInBounds_toArray,List.set_cons_succ,List.set_cons_zero])
 go_wp2
 go_roundw
 case rel=>exact⟨k+1,zad,zaa,by rw[HN.out,if_pos trivial];exact X1.out,X2.out⟩
 case measure=>simp only[intOf];omega):zp:=h
theorem zdb(h:zp:=by
 have h0:Mo (fun k=>Value.ownBlock (.slice sa L.length sc)=some k) w w2.drew:=az (hB.trans (VV.mono hB.size));have U9:∀W:World,Mo (fun k=>Value.ownBlock (.slice sa L.length sc)=some k) W (W.alloc (.cells #[v] 263)):=fun W=>az ((Oy _ W).alloc (Ow _) _)
 first
  |exact((h0.trans X3).trans (U9 _)).trans X9
  |exact((h0.trans (U9 _)).trans X3).trans X9):zp:=h
theorem zdq(h:zp:=by
 unfold Y.gJ;split
 ·simp
 ·have h1:=Y.nj (L:=Lr ‹_›) (Y.els (Y.inn ps r.act)) [];have h2:(Y.els (Y.inn ps r.act)).length<=32:=by
   have:=PB (Y.inn ps r.act).testBit (List.range 32);exact zf1
  unfold Y.dC;simp at h1;omega):zp:=h
theorem zdu(h:zp:=by
 go_wp2_with(go_at_call 203;refine hha.mono ?_;rintro e w9 ⟨rfl,Pg⟩;rw[Pg];clear Pg w9)
 go_roundw
 case rel=>exact⟨k+1,zad,zaa,zcm,HRF.out.trans (Y.RfE.of T5 hlr)⟩
 case measure=>simp only[intOf];omega):zp:=h
theorem zdx(h:zp:=by
 go_roundw
 case rel=>exact⟨k+1,zad,zaa,fun j y hj hy=>by
  by_cases e:j=k
  ·subst e;rw[HX.out]at hy;cases hy
   exact HB.out
  ·exact HK.out.1 j y zaa hy,UR⟩
 case measure=>simp only[intOf];omega):zp:=h
theorem zdB(h:zp:=by
 obtain rfl:k=L.length:=zaa;have HN:Hid (Y.ixF p L=-1):=Y.sW fun y hy=>by
  obtain⟨j,hj⟩:=O5.1 hy;exact HK.out.1 j y (Oz.1 hj).1 hj
 go_wp2;go_ret;exact⟨by rw[HN.out];rfl,HK.out.2⟩):zp:=h
theorem zdO(h:zp:=by
 refine OY zab ?_ _;clear u0
 (try simp only[Act.put,List.setIfInBounds_toArray,List.set_cons_succ,List.set_cons_zero])
 go_wp2;go_ret;exact⟨rfl,zam⟩):zp:=h
theorem zdZ(h:zp:=by
 rcases h.2 with⟨a,b⟩|⟨g,cap,cur,a,b,c,_⟩
 ·subst a;cases hk
 ·subst a;cases hk
  exact⟨b,(Ov.1 c).1,cur,c⟩):zp:=h
theorem zei(h:zp:=by
 rcases h.2 with⟨a,b⟩|⟨g,cap,cur,a,_⟩
 ·exact⟨none,0,by rw[a,b]⟩
 ·exact⟨_,_,a⟩):zp:=h
theorem zeU(h:zp:=by
 go_ret;exact⟨by rw[Y.Cr HX.out HB.out HK.out.1];rfl,UR⟩):zp:=h
theorem zaq(h:zp:=by unfold cR;decide):zp:=h
theorem zau(h:zp:=by cases hx):zp:=h
theorem zaL(h:zp:=by simp at hu;subst hu;rfl):zp:=h
theorem zbe(h:zp:=by first|exact VV|exact UA):zp:=h
theorem zbJ(h:zp:=by have:=hV.size;have:=TW.g5;omega):zp:=h
theorem zbX(h:zp:=by have:=(hk _ e).2.1;omega):zp:=h
theorem zbZ(h:zp:=by have:=(hP k hp).1;omega):zp:=h
theorem zcc(h:zp:=by have:=(HKD.out _ e).2.1;have:w2.drew.heap.size=w2.heap.size:=rfl;have:=TP.size;omega):zp:=h
theorem zcm(h:zp:=by rw[HN.out,if_neg (by decide)];exact hMk.below TW T5):zp:=h
open Tryz
variable {W W' w w':World}{base pb mb m o l g cap j x:Nat}{lo:Y.Lo}{r:Y.RSt}{P:Nat->Prop}{L:List Nat}{cur:Array Value}{sv:Value}
section
open Go.RowKit Go.Proofs Go.Shelf
theorem Kd.row{E:TypeId->Prop}{size n:Nat}{e:TypeId}{v:Value}{xs:List Value}(hk:Kd E W W')(h:W.ownsRow base e size v n xs)(hE:¬E e):W'.ownsRow base e size v n xs:=by
 refine⟨h.1,?_⟩
 rcases h.2 with h'|⟨k,cap,cur,hv,hb,UD,r⟩
 ·exact .inl h'
 ·exact .inr ⟨k,cap,cur,hv,hb,(hk.aq _ _ _ _ UD hE).trans UD,r⟩
namespace Y
def lX(ps:List PS)(act:Nat)(deep:Bool)(po:PS):Nat:=if deep then inn ps act&&&po.inside else act&&&po.parts
structure za(w:World)(pb:Nat)(ps:List PS)(hv:U.Sl)(H:List HV)(D:Nat->Bool):Prop where
 c1:w.cell? (pb,1)=some hv.v
 row:w.ownsRow 0 258 3 hv.v H.length (H.flatMap HV.cells)
 aq:∀(k:Nat) (h:HV),H[k]?=some h->h.idx<24/\h.own<ps.length/\∃po,ps[h.own]?=some po/\kC w pb (D k) po h.aq
 len:H.length<=24
theorem za.rf{ps:List PS}{hv:U.Sl}{H:List HV}{D:Nat->Bool}(h:za w pb ps hv H D)(hR:Rf lo w w')(T8:pb<lo):za w' pb ps hv H D:=
 ⟨(hR.bel.cell (p:=⟨pb,1,none⟩) T8).trans h.c1,Kd.row hR.kd h.row zaq,fun k y hy=>by
  obtain⟨a,b,po,c,d⟩:=h.aq k y hy;exact⟨a,b,po,c,d.kd hR.kd zaq zaq⟩,h.len⟩
def lE(ps:List PS)(left:Nat)(D:Nat->Bool)(H:List HV)(r:RSt)(k:Nat):RSt:=match H[k]? with
 |none=>r
 |some h=>match ps[h.own]? with
  |none=>r
  |some po=>if left.testBit h.own then{ r with kept:=upd r.kept h.idx (lX ps r.act (D k) po) } else r
def dJ(ps:List PS)(left:Nat)(D:Nat->Bool)(H:List HV)(r:RSt)(n:Nat):RSt:=(List.range n).foldl (lE ps left D H) r
theorem nP(ps:List PS)(left:Nat)(D:Nat->Bool)(H:List HV)(r:RSt)(n:Nat):dJ ps left D H r (n+1)=lE ps left D H (dJ ps left D H r n) n:=by unfold dJ;rw[R4,Px];rfl
theorem p8(ps:List PS)(left:Nat)(D:Nat->Bool)(H:List HV)(r:RSt)(k:Nat):(lE ps left D H r k).act=r.act/\(lE ps left D H r k).q=r.q/\(lE ps left D H r k).tm=r.tm/\(lE ps left D H r k).now=r.now/\(lE ps left D H r k).fin=r.fin:=by
 unfold lE;split
 ·simp
 ·split
  ·simp
  ·split<;>simp
theorem je(ps:List PS)(left:Nat)(D:Nat->Bool)(H:List HV)(r:RSt):∀n,(dJ ps left D H r n).act=r.act/\(dJ ps left D H r n).q=r.q/\(dJ ps left D H r n).tm=r.tm/\(dJ ps left D H r n).now=r.now/\(dJ ps left D H r n).fin=r.fin
 |0=>⟨rfl,rfl,rfl,rfl,rfl⟩
 |n+1=>by
  obtain⟨a,b,c,d,e⟩:=je ps left D H r n;obtain⟨a',b',c',d',e'⟩:=p8 ps left D H (dJ ps left D H r n) n;rw[nP];exact⟨a'.trans a,b'.trans b,c'.trans c,d'.trans d,e'.trans e⟩
end Y
theorem Y.MT.LB(h:Y.MT W lo mb pb r)(hl:Y.Lw lo)(i a:Nat)(hi:i<24):Y.MT (W.setCell (mb,2+i) (.int .u32 a)) lo mb pb { r with kept:=Y.upd r.kept i a }/\Y.Rf lo W (W.setCell (mb,2+i) (.int .u32 a)):=by
 obtain⟨qv,wh,m,b⟩:=h.ex;have hM:Y.au (W.setCell (mb,2+i) (.int .u32 a)) lo mb pb qv (({ r with kept:=Y.upd r.kept i a }:Y.RSt).m wh):=m.set (2+i) _ _ zaa rfl (fun j hj=>by
  by_cases e:j=2+i
  ·subst e;rw[OD rfl];unfold Y.fw;rw[OB zaa,OB zaa,OD zaa,show 2+i-2=i by omega];show Value.int .u32 ((Y.upd r.kept i a i:Nat):Int)=_;rw[Y.aD]
  ·rw[OB e];unfold Y.fw;by_cases h2:j<26/\2<=j
   ·rw[OB zaa,OB zaa,OD zaa,OB zaa,OB zaa,OD zaa];show Value.int .u32 ((Y.upd r.kept i a (j-2):Nat):Int)=_;rw[Y.aG _ _ zaa];rfl
   ·by_cases h0:j=0
    ·subst h0;rfl
    ·by_cases h1:j=1
     ·subst h1;rfl
     ·simp only[if_neg h0,if_neg h1,if_neg (show ¬j<26 by omega)];rfl)
 have hR:Y.Rq lo W (W.setCell (mb,2+i) (.int .u32 a)):=Y.RfE.mo (P:=(·=mb)) ((Mo.refl _ _).set _ _ rfl) (fun k hk=>by
  obtain⟨arr,a1,_⟩:=m.blk;subst hk;exact⟨m.lo',arr,_,_,a1,.inl rfl⟩) h.lo'
 exact⟨h.rq hl b hM hR rfl rfl h.act,Y.wD hR⟩
theorem Im(w:World)(lo:Y.Lo)(mb pb b cap:Nat)(r:Y.RSt)(ps:List Y.PS)(fin left:Nat)(EN LV:Nat->List Y.PA)(hv:U.Sl)(H:List Y.HV)(D:Nat->Bool)(hP:Y.gy w lo pb b cap ps fin EN LV)(hH:Y.za w pb ps hv H D)(h:Y.MT w lo mb pb r)(hs:left<4294967296)(Ux:∀i∈Y.els r.act,i<ps.length):
  () 153 #[mb,.int .u32 left] w fun e w'=>e=.returned (.tuple #[])/\Y.MT w' lo mb pb (Y.dJ ps left D H r H.length)/\Y.Rf lo w w':=by
 have TW:=hP.lw;obtain⟨m0,_,_⟩:=h.c0;have Xk:=hH.c1;have hHl:=hH.len;have hnH:hv.n=H.length:=by
  rcases hH.row.2 with⟨h0,h1⟩|⟨g,cap,cur,hv,_⟩
  ·unfold U.Sl.v at h0;simp at h0;omega
  ·unfold U.Sl.v at hv;simp at hv;exact hv.2.1
 obtain⟨ha,hn,hc⟩:=hv;dsimp only at hnH;subst hnH;unfold U.Sl.v at Xk;have H0:Hid _:=h;have HP:Hid _:=hP;have HH:Hid _:=hH;clear h hP hH;go_enter func153,ntmps153;go_wp2
 go_loopw[14] (fun i wr=>∃k:Nat,i=.int .i64 k/\k<=H.length/\Hid (Y.MT wr lo mb pb (Y.dJ ps left D H r k)/\Y.Rf lo w wr)) (fun i _=>H.length-(intOf i).toNat)
 case atStart=>exact⟨0,rfl,zaa,H0.out,Y.RfE.refl _ _⟩
 case round=>
  obtain⟨k,rfl,Vf,HM⟩:=hrel;clear m0 Xk;by_cases hk:k<H.length
  ·have hki:((k:Int)<(H.length:Int)):=zaa;obtain⟨hh,hhk⟩:∃hh,H[k]?=some hh:=⟨_,Ou hk⟩;have HR0:=HH.out.rf HM.out.2 HP.out.pb';obtain⟨jq,TN,po,Vr,WD⟩:=HR0.aq k hh hhk;obtain⟨g,cap',hgv⟩:=U.eG HR0.row zaa;unfold U.Sl.v at hgv;simp only[Value.slice.injEq]at hgv;obtain⟨rfl,_,rfl⟩:=hgv;have TO:=HR0.row;unfold U.Sl.v at TO;dsimp only at TO;have hHk:H[k]=hh:=by rw[Ou hk]at hhk;exact Pd hhk
   have cc:∀j,j<3->wr.cell? ⟨g,k*3+j,none⟩=hh.cells[j]?:=fun j hj=>by
    have:=Row.cell (f:=Y.HV.cells) (n:=3) (fun _=>rfl) (show Row wr 258 3 Y.HV.cells (.slice g H.length hc) H from TO) hj hk;rw[hHk]at this;exact this
   have c0:wr.cell? (g,k*3)=some ↑(hh.idx:Int):=cc 0 zac;have c1:wr.cell? (g,k*3+1)=some ↑(hh.own:Int):=cc 1 zac;have c2:wr.cell? (g,k*3+2)=some hh.aq:=cc 2 zac;have ho32:hh.own<32:=by have:=HP.out.bG.len;omega
   have Uk:=HP.out.below HM.out.2.bel;obtain⟨Rk,hRk⟩:∃Rk,Y.dJ ps left D H r k=Rk:=⟨_,rfl⟩;have hMk:Y.MT wr lo mb pb Rk:=hRk▸HM.out.1;have Wj:=hMk.act;have hina:∀i,i∈Y.els Rk.act->i<ps.length:=fun i hi=>Ux i (by rw[<- hRk,(Y.je ps left D H r k).1]at hi;exact hi);have HN:Hid (Y.dJ ps left D H r (k+1)=if left.testBit hh.own then{ Rk with kept:=Y.upd Rk.kept hh.idx (Y.lX ps Rk.act (D k) po) } else Rk):=by
    unfold Hid;rw[Y.nP,hRk];unfold Y.lE;rw[hhk];dsimp only;rw[Vr]
   have HRF:Hid (Y.Rf lo w wr):=HM.out.2;have hlr:=hMk.lo';clear HM hRk HR0 cc TO hHk hhk;have hha:=xP left hh.own (wr.alloc (.cells #[(hh.idx:Int),(hh.own:Int),hh.aq] 258)) ho32 hs;have T5:Below wr wr (wr.alloc (.cells #[(hh.idx:Int),(hh.own:Int),hh.aq] 258)):=(Oy _ wr).alloc (Ow _) _;have UN:=iM c0;have VY:=hMk.lt;obtain⟨bt,Zu⟩:∃bt,left.testBit hh.own=bt:=⟨_,rfl⟩;rw[Zu]at hha HN;obtain⟨m0,m1,mf⟩:=hMk.c0;have HC:Hid (∀(V:World) (a:Nat),Below wr wr V->Y.MT (V.setCell (mb,2+hh.idx) (.int .u32 a)) lo mb pb { Rk with kept:=Y.upd Rk.kept hh.idx a }/\Y.Rf lo w (V.setCell (mb,2+hh.idx) (.int .u32 a))/\V.frozen? (mb,2+hh.idx)=false/\∃u,V.cell? (mb,2+hh.idx)=some u):=fun V a hV=>by
    have h9:=hMk.below TW hV;obtain⟨x1,x2⟩:=h9.LB TW hh.idx a jq;obtain⟨_,_,xf⟩:=h9.c0;obtain⟨qv,wh,m,_⟩:=h9.ex;exact⟨x1,HRF.out.trans ((Y.RfE.of hV hlr).trans x2),xf _,_,m.cell (2+hh.idx) zaa⟩
   obtain⟨hx,hy,hkp⟩:=hh;dsimp only at *;have hidx':((hx:Int)<24):=zaa;cases hD:D k
   ·rw[hD]at WD HN;obtain⟨c,VS,Z3⟩:=WD;simp only[Bool.false_eq_true,if_false]at Z3;subst Z3;have Um:c<wr.heap.size:=(Ov.1 VS).1;have XK:Hid (∀V:World,Below wr wr V->() 105 #[.int .u32 Rk.act,c] V fun e w'=>e=.returned (.int .u32 ((Y.lX ps Rk.act false po:Nat):Int))/\Below V.heap.size V w'):=fun V hV=>by
     unfold Y.lX;refine(xY V c Rk.act po.parts Wj (Uk.bG.sm hy po Vr).hp ((hV.cell (p:=⟨c,4,none⟩) Um).trans (by rw[OA wr _ _ _ _ _ VS];rfl))).mono ?_;rintro e w' ⟨rfl,rfl⟩;exact⟨by rw[OB zac],Oy _ _⟩
    have hst:∀(W:World) (a:Addr),(store a (.func (.func 105) #[] #[c])).run prog W=stored prog W a (.func (.func 105) #[] #[c]) .plain:=fun W a=>Tz _ W a _ _ rfl;obtain⟨kv,Z3⟩:∃kv,Y.lX ps Rk.act false po=kv:=⟨_,rfl⟩;rw[Z3]at XK HN;cases bt
    ·exact zdu
    ·go_wp2_with(go_at_call 203;refine hha.mono ?_;rintro e w9 ⟨rfl,Pg⟩;rw[Pg];clear Pg w9);have v0:(wr.alloc (.cells #[(hx:Int),(hy:Int),(.func (.func 105) #[] #[c])] 258)).drew.cell? wr=some ↑(hx:Int):=OA _ _ 0 _ _ (0,0) (show(wr.alloc _).heap[wr.heap.size]?=some _ from OH wr _);have v2:(wr.alloc (.cells #[(hx:Int),(hy:Int),(.func (.func 105) #[] #[c])] 258)).drew.cell? (wr,2)=some (.func (.func 105) #[] #[c]):=OA _ _ 2 _ _ (0,0) (show(wr.alloc _).heap[wr.heap.size]?=some _ from OH wr _);have v1:(wr.alloc (.cells #[(hx:Int),(hy:Int),(.func (.func 105) #[] #[c])] 258)).drew.cell? (mb,1)=some (.int .u32 Rk.act):=(T5.drew.cell (p:=⟨mb,1,none⟩) VY).trans m1;have hca:=XK.out _ T5.drew;clear hha hst c0 c1 c2;have UF:∀V:World,Below (wr.alloc (.cells #[(hx:Int),(hy:Int),(.func (.func 105) #[] #[c])] 258)).drew.heap.size (wr.alloc (.cells #[(hx:Int),(hy:Int),(.func (.func 105) #[] #[c])] 258)).drew V->(fun V=>V.cell? wr=some ↑(hx:Int)/\V.cell? ⟨wr,2,none⟩=some (.func (.func 105) #[] #[c])/\V.cell? ⟨mb,1,none⟩=some (.int .u32 Rk.act)) V:=fun V hV=>⟨(hV.cell (p:=wr) zad).trans v0,(hV.cell (p:=⟨wr,2,none⟩) zad).trans v2,(hV.cell (p:=⟨mb,1,none⟩) (by show mb<_;simp;omega)).trans v1⟩;refine OQ (S:=(fun V=>V.cell? wr=some ↑(hx:Int)/\V.cell? ⟨wr,2,none⟩=some (.func (.func 105) #[] #[c])/\V.cell? ⟨mb,1,none⟩=some (.int .u32 Rk.act))) zab ⟨v0,v2,v1⟩ (fun u0=>?_);refine tD (some 22) 0 mb rfl u0 ?_;refine tD (some 23) 1 wr rfl u0 ?_;refine tD (some 24) 2 (.int .i64 hx) rfl u0 ?_;refine tD (some 25) 3 (wr,2) rfl u0 ?_;refine tD (some 26) 4 (.func (.func 105) #[] #[c]) rfl u0 ?_;exact zcM
   ·rw[hD]at WD HN;obtain⟨c,VS,Z3⟩:=WD;simp only[if_true]at Z3;obtain⟨d,Z3,hdb⟩:=Z3;subst Z3;have Um:c<wr.heap.size:=(Ov.1 VS).1;have XK:Hid (∀V:World,Below wr wr V->() 106 #[.int .u32 Rk.act,d,c] V fun e w'=>e=.returned (.int .u32 ((Y.lX ps Rk.act true po:Nat):Int))/\Below V.heap.size V w'):=fun V hV=>by
     unfold Y.lX;refine(xX V pb b cap ps c d Rk.act po.inside Wj (Uk.bG.sm hy po Vr).hi hina (Uk.below (hV.mono hlr)).bG (by have:=hV.size;have:=Uk.pb';omega) (by have:=hV.size;have:=Uk.b';omega) zbJ (Y.b8 TW (hV.mono hlr) hMk.tab5) (aB hdb hV hdb.lt) (by have:=hV.size;omega) ((hV.cell (p:=⟨c,5,none⟩) Um).trans (by rw[OA wr _ _ _ _ _ VS];rfl))).mono ?_;rintro e w' ⟨rfl,hb⟩;exact⟨by rw[OD rfl],hb⟩
    have hst:∀(W:World) (a:Addr),(store a (.func (.func 106) #[] #[d,c])).run prog W=stored prog W a (.func (.func 106) #[] #[d,c]) .plain:=fun W a=>Tz _ W a _ _ rfl;obtain⟨kv,Z3⟩:∃kv,Y.lX ps Rk.act true po=kv:=⟨_,rfl⟩;rw[Z3]at XK HN;cases bt
    ·exact zdu
    ·go_wp2_with(go_at_call 203;refine hha.mono ?_;rintro e w9 ⟨rfl,Pg⟩;rw[Pg];clear Pg w9);have v0:(wr.alloc (.cells #[(hx:Int),(hy:Int),(.func (.func 106) #[] #[d,c])] 258)).drew.cell? wr=some ↑(hx:Int):=OA _ _ 0 _ _ (0,0) (show(wr.alloc _).heap[wr.heap.size]?=some _ from OH wr _);have v2:(wr.alloc (.cells #[(hx:Int),(hy:Int),(.func (.func 106) #[] #[d,c])] 258)).drew.cell? (wr,2)=some (.func (.func 106) #[] #[d,c]):=OA _ _ 2 _ _ (0,0) (show(wr.alloc _).heap[wr.heap.size]?=some _ from OH wr _);have v1:(wr.alloc (.cells #[(hx:Int),(hy:Int),(.func (.func 106) #[] #[d,c])] 258)).drew.cell? (mb,1)=some (.int .u32 Rk.act):=(T5.drew.cell (p:=⟨mb,1,none⟩) VY).trans m1;have hca:=XK.out _ T5.drew;clear hha hst c0 c1 c2;have UF:∀V:World,Below (wr.alloc (.cells #[(hx:Int),(hy:Int),(.func (.func 106) #[] #[d,c])] 258)).drew.heap.size (wr.alloc (.cells #[(hx:Int),(hy:Int),(.func (.func 106) #[] #[d,c])] 258)).drew V->(fun V=>V.cell? wr=some ↑(hx:Int)/\V.cell? ⟨wr,2,none⟩=some (.func (.func 106) #[] #[d,c])/\V.cell? ⟨mb,1,none⟩=some (.int .u32 Rk.act)) V:=fun V hV=>⟨(hV.cell (p:=wr) zad).trans v0,(hV.cell (p:=⟨wr,2,none⟩) zad).trans v2,(hV.cell (p:=⟨mb,1,none⟩) (by show mb<_;simp;omega)).trans v1⟩;refine OQ (S:=(fun V=>V.cell? wr=some ↑(hx:Int)/\V.cell? ⟨wr,2,none⟩=some (.func (.func 106) #[] #[d,c])/\V.cell? ⟨mb,1,none⟩=some (.int .u32 Rk.act))) zab ⟨v0,v2,v1⟩ (fun u0=>?_);refine tD (some 22) 0 mb rfl u0 ?_;refine tD (some 23) 1 wr rfl u0 ?_;refine tD (some 24) 2 (.int .i64 hx) rfl u0 ?_;refine tD (some 25) 3 (wr,2) rfl u0 ?_;refine tD (some 26) 4 (.func (.func 106) #[] #[d,c]) rfl u0 ?_;exact zcM
  ·obtain rfl:k=H.length:=zaa;go_wp2;go_end0;exact⟨rfl,HM.out⟩
namespace Y
structure MvB(W:World)(m o l:Nat):Prop where
 c0:W.cell? m=some ↑(o:Int)
 c1:W.cell? (m,1)=some (.int .u32 l)
 hl:l<4294967296
 ty:∃c,W.heap[m]?=some (.cells c 266 (0,0))
theorem MvB.lt(h:MvB W m o l):m<W.heap.size:=iM h.c0
theorem MvB.below(h:MvB W m o l)(hb:Below W W W'):MvB W' m o l:=⟨(hb.cell (p:=m) h.lt).trans h.c0,(hb.cell (p:=⟨m,1,none⟩) h.lt).trans h.c1,h.hl,by
 obtain⟨c,hc⟩:=h.ty;exact⟨c,(hb.block m h.lt).trans hc⟩⟩
theorem MvB.mo(h:MvB W m o l)(hm:Mo P W W')(hn:¬P m):MvB W' m o l:=⟨(hm.cell (p:=m) h.lt hn).trans h.c0,(hm.cell (p:=⟨m,1,none⟩) h.lt hn).trans h.c1,h.hl,by
 obtain⟨c,hc⟩:=h.ty;exact⟨c,(hm.block m h.lt hn).trans hc⟩⟩
def eC(act l1 l2:Nat):Bool:=((l1&&&act)&&&(l2&&&act):Nat) != 0
structure TkB(W:World)(mb v B3 B5:Nat):Prop where
 b3:Boxed W B3 71 mb
 b5:Boxed W B5 263 v
theorem TkB.below{v B3 B5:Nat}(h:TkB W mb v B3 B5)(hb:Below W W W'):TkB W' mb v B3 B5:=⟨aB h.b3 hb h.b3.lt,aB h.b5 hb h.b5.lt⟩
end Y
theorem lY(w:World)(lo:Y.Lo)(mb pb:Nat)(r:Y.RSt)(m o l:Nat)(h:Y.MT w lo mb pb r)(hm:Y.MvB w m o l):
  () 152 #[mb,m] w fun e w'=>e=.returned (.int .u32 ((l&&&r.act:Nat):Int))/\Below w w w':=by
 obtain⟨qv,wh,a,b⟩:=h.ex;exact Cx w lo mb pb qv (r.m wh) m l a h.act hm.hl hm.c1
theorem qC(w:World)(lo:Y.Lo)(mb pb:Nat)(r:Y.RSt)(t ot lt v ov lv B3 B5:Nat)(hl:Y.Lw lo)(h:Y.MT w lo mb pb r)(ht:Y.MvB w t ot lt)(hv:Y.MvB w v ov lv)(hb:Y.TkB w mb v B3 B5):
  () 229 #[t,B3,B5] w fun e w'=>e=.returned (.bool (Y.eC r.act lt lv))/\Below w w w':=by
 have TX:∀V,Below w w V->() 152 #[mb,t] V fun e w'=>e=.returned (.int .u32 ((lt&&&r.act:Nat):Int))/\Below w w w':=fun V hV=>(lY V lo mb pb r t ot lt (h.below hl hV) (ht.below hV)).mono (fun e w' x=>⟨x.1,hV.trans (x.2.mono hV.size)⟩);have Xb:∀V,Below w w V->() 152 #[mb,v] V fun e w'=>e=.returned (.int .u32 ((lv&&&r.act:Nat):Int))/\Below w w w':=fun V hV=>(lY V lo mb pb r v ov lv (h.below hl hV) (hv.below hV)).mono (fun e w' x=>⟨x.1,hV.trans (x.2.mono hV.size)⟩);have l1:lt&&&r.act<4294967296:=Pm Qi ht.hl;have l2:lv&&&r.act<4294967296:=Pm Qi hv.hl;have hand:=RM _ _ l1 l2;have Um:Y.eC r.act lt lv=(((((lt&&&r.act)&&&(lv&&&r.act):Nat):Nat):Int) != 0):=by
  unfold Y.eC;cases hx:((lt&&&r.act)&&&(lv&&&r.act):Nat) with
  |zero=>rfl
  |succ n=>simp;omega
 generalize lt&&&r.act=a1 at *;generalize lv&&&r.act=a2 at *;have Wk:Hid _:=Um;clear Um;have TU:((((a1&&&a2:Nat):Nat):Int) != 0)=Y.eC r.act lt lv:=Wk.out.symm;generalize Y.eC r.act lt lv=cb at *;generalize a1&&&a2=a3 at *;have UF:∀V:World,Below w w V->V.cell? B3=some ↑mb/\V.cell? B5=some ↑v:=fun V hV=>⟨(hb.below hV).b3.cell,(hb.below hV).b5.cell⟩;have UB:=(Oy w w).drew;obtain⟨k1,k2⟩:=UF _ UB;clear h ht hv hb l1 l2 Wk;go_enter func229,ntmps229
 go_upto_region 1 with fail
 refine OQ (S:=(fun V=>V.cell? B3=some ↑mb/\V.cell? B5=some ↑v)) zab ⟨k1,k2⟩ (fun u0=>?_);refine tD (some 5) 0 mb rfl u0 ?_;refine tD (some 6) 1 t rfl u0 ?_;refine tD (some 8) 3 mb rfl u0 ?_;refine tD (some 9) 4 v rfl u0 ?_;refine zH 2 rfl fun K hK=>?_;go_simp;refine(TX _ zam).mono ?_;rintro e wA ⟨rfl,hA⟩;refine hK.out _ _ (UF wA hA) (fun u0=>?_);clear hK K;refine zH 5 rfl fun K hK=>?_;go_simp;refine(Xb _ zam).mono ?_;rintro e wA ⟨rfl,hA⟩;refine hK.out _ _ (UF wA hA) (fun u0=>?_);clear hK K;refine tD (some 11) 6 (.int .u32 a3) rfl u0 ?_;refine tD (some 12) 7 (.bool cb) rfl u0 ?_;refine tD (some 4) 8 (.bool cb) rfl u0 ?_;refine OY zab ?_ _;clear u0
 (try simp only[Act.put,List.setIfInBounds_toArray,List.set_cons_succ,List.set_cons_zero])
 go_wp2;go_ret;exact⟨rfl,zam⟩
theorem De(w:World)(lo:Y.Lo)(mb pb b cap:Nat)(r:Y.RSt)(ps:List Y.PS)(fin:Nat)(EN LV:Nat->List Y.PA)(t ot lt v ov lv B3 B5 B7:Nat)(pv:Y.PS)(hP:Y.gy w lo pb b cap ps fin EN LV)(h:Y.MT w lo mb pb r)(ht:Y.MvB w t ot lt)(hv:Y.MvB w v ov lv)(hb:Y.TkB w mb v B3 B5)(hpv:ps[ov]?=some pv)(hot:ot<32)
  (h7:Boxed w B7 399 (.func (.func 229) #[] #[B3,B5])):
  () 230 #[t,B7,B3,B5] w fun e w'=>e=.returned (.bool (Y.eC r.act lt lv&&!pv.around.testBit ot))/\Below w w w':=by
 have TW:=hP.lw;have TT:=h.lo';have Um:∀V,Below w w V->() 229 #[t,B3,B5] V fun e w'=>e=.returned (.bool (Y.eC r.act lt lv))/\Below w w w':=fun V hV=>(qC V lo mb pb r t ot lt v ov lv B3 B5 TW (h.below TW hV) (ht.below hV) (hv.below hV) (hb.below hV)).mono (fun e w' x=>⟨x.1,hV.trans (x.2.mono hV.size)⟩);have hii:∀V,Below w w V->() 231 #[pb,(ov:Int),(ot:Int)] V fun e w'=>e=.returned (.bool (pv.around.testBit ot))/\Below w w w':=fun V hV=>(Ij V pb b cap ps ov ot pv (hP.below (hV.mono TT)).bG hpv hot).mono (fun e w' x=>⟨x.1,by rw[x.2];exact hV⟩);have UF:∀V:World,Below w w V->V.cell? B7=some (.func (.func 229) #[] #[B3,B5])/\V.cell? B3=some ↑mb/\V.cell? B5=some ↑v/\V.cell? mb=some ↑pb/\V.cell? v=some ↑(ov:Int)/\V.cell? t=some ↑(ot:Int):=fun V hV=>⟨(aB h7 hV h7.lt).cell,(hb.below hV).b3.cell,(hb.below hV).b5.cell,(h.below TW hV).c0.1,(hv.below hV).c0,(ht.below hV).c0⟩;have UB:=(Oy w w).drew;obtain⟨k1,k2,k3,k4,k5,k6⟩:=UF _ UB;generalize Y.eC r.act lt lv=cb at *;generalize pv.around.testBit ot=ab at *;clear h ht hv hb h7 hP;cases cb
 ·go_enter func230,ntmps230
  go_upto_region 1 with fail
  refine OQ (S:=(fun V=>V.cell? B7=some (.func (.func 229) #[] #[B3,B5])/\V.cell? B3=some ↑mb/\V.cell? B5=some ↑v/\V.cell? mb=some ↑pb/\V.cell? v=some ↑(ov:Int)/\V.cell? t=some ↑(ot:Int))) zab ⟨k1,k2,k3,k4,k5,k6⟩ (fun u0=>?_);refine tD (some 6) 0 (.func (.func 229) #[] #[B3,B5]) rfl u0 ?_;refine tD (some 7) 1 t rfl u0 ?_;refine zH 2 rfl fun K hK=>?_;go_simp;refine(Um _ zam).mono ?_;rintro e wA ⟨rfl,hA⟩;refine hK.out _ _ (UF wA hA) (fun u0=>?_);clear hK K;refine tD (some 9) 3 (.bool false) rfl u0 ?_;refine tU (some 10) 4 rfl u0 ?_;refine tU (some 11) 5 rfl u0 ?_;refine tU (some 12) 6 rfl u0 ?_;refine tU (some 13) 7 rfl u0 ?_;refine tU (some 14) 8 rfl u0 ?_;refine tU (some 15) 9 rfl u0 ?_;refine tU (some 16) 10 rfl u0 ?_;refine tU (some 17) 11 rfl u0 ?_;refine tU (some 18) 12 rfl u0 ?_;refine tU (some 19) 13 rfl u0 ?_;refine tU (some 20) 14 rfl u0 ?_;refine tU (some 21) 15 rfl u0 ?_;refine tU (some 22) 16 rfl u0 ?_;refine tU (some 23) 17 rfl u0 ?_;refine tD (some 24) 18 (.bool false) rfl u0 ?_;refine tD (some 5) 19 (.bool false) rfl u0 ?_;exact zdO
 ·go_enter func230,ntmps230
  go_upto_region 1 with fail
  refine OQ (S:=(fun V=>V.cell? B7=some (.func (.func 229) #[] #[B3,B5])/\V.cell? B3=some ↑mb/\V.cell? B5=some ↑v/\V.cell? mb=some ↑pb/\V.cell? v=some ↑(ov:Int)/\V.cell? t=some ↑(ot:Int))) zab ⟨k1,k2,k3,k4,k5,k6⟩ (fun u0=>?_);refine tD (some 6) 0 (.func (.func 229) #[] #[B3,B5]) rfl u0 ?_;refine tD (some 7) 1 t rfl u0 ?_;refine zH 2 rfl fun K hK=>?_;go_simp;refine(Um _ zam).mono ?_;rintro e wA ⟨rfl,hA⟩;refine hK.out _ _ (UF wA hA) (fun u0=>?_);clear hK K;refine tD (some 9) 3 (.bool true) rfl u0 ?_;refine eh (d:=some 10) (i:=4) (v:=(.pointer (some ⟨mb,0,none⟩))) rfl rfl zab zab zab (fun _ _ _ h=>h) (Or.inl ⟨zab,fun w UL=>zai⟩) u0 ?_;refine eh (d:=some 11) (i:=5) (v:=(.pointer (some ⟨mb,0,none⟩))) rfl rfl zab zab zab (fun _ _ _ h=>h) (Or.inl ⟨zab,fun w UL=>zai⟩) u0 ?_;refine eh (d:=some 12) (i:=6) (v:=(.pointer (some ⟨mb,0,none⟩))) rfl rfl zab zab zab (fun _ _ _ h=>h) (Or.inl ⟨zab,fun w UL=>zai⟩) u0 ?_;refine eh (d:=some 13) (i:=7) (v:=(.pointer (some ⟨pb,0,none⟩))) rfl rfl zab zab zab (fun _ _ _ h=>h) (Or.inl ⟨zab,fun w UL=>zai⟩) u0 ?_;refine eh (d:=some 14) (i:=8) (v:=(.pointer (some ⟨v,0,none⟩))) rfl rfl zab zab zab (fun _ _ _ h=>h) (Or.inl ⟨zab,fun w UL=>zai⟩) u0 ?_;refine eh (d:=some 15) (i:=9) (v:=(.pointer (some ⟨v,0,none⟩))) rfl rfl zab zab zab (fun _ _ _ h=>h) (Or.inl ⟨zab,fun w UL=>zai⟩) u0 ?_;refine eh (d:=some 16) (i:=10) (v:=(.pointer (some ⟨v,0,none⟩))) rfl rfl zab zab zab (fun _ _ _ h=>h) (Or.inl ⟨zab,fun w UL=>zai⟩) u0 ?_;refine eh (d:=some 17) (i:=11) (v:=(.int .i64 ov)) rfl rfl zab zab zab (fun _ _ _ h=>h) (Or.inl ⟨zab,fun w UL=>zai⟩) u0 ?_;refine eh (d:=some 18) (i:=12) (v:=(.pointer (some ⟨t,0,none⟩))) rfl rfl zab zab zab (fun _ _ _ h=>h) (Or.inl ⟨zab,fun w UL=>zai⟩) u0 ?_;refine eh (d:=some 19) (i:=13) (v:=(.pointer (some ⟨t,0,none⟩))) rfl rfl zab zab zab (fun _ _ _ h=>h) (Or.inl ⟨zab,fun w UL=>zai⟩) u0 ?_;refine eh (d:=some 20) (i:=14) (v:=(.pointer (some ⟨t,0,none⟩))) rfl rfl zab zab zab (fun _ _ _ h=>h) (Or.inl ⟨zab,fun w UL=>zai⟩) u0 ?_;refine eh (d:=some 21) (i:=15) (v:=(.int .i64 ot)) rfl rfl zab zab zab (fun _ _ _ h=>h) (Or.inl ⟨zab,fun w UL=>zai⟩) u0 ?_;refine yH [16] ?_;refine pg rfl zab (fun K hK=>?_) P1;go_simp;refine(hii _ zam).mono ?_;rintro e wA ⟨rfl,hA⟩;refine hK.out _ _ (UF wA hA) (fun u0=>?_);clear hK K;refine eh (d:=some 23) (i:=17) (v:=(.bool (!ab))) rfl rfl zab zab zab (fun _ _ _ h=>h) (Or.inl ⟨zab,fun w UL=>zai⟩) u0 ?_;refine tD (some 24) 18 (.bool (!ab)) rfl u0 ?_;refine tD (some 5) 19 (.bool (!ab)) rfl u0 ?_;exact zdO
namespace Y
def ixF(p:Nat->Bool):List Nat->Int
 |[]=>-1
 |x::l=>if p x then 0 else if ixF p l=-1 then -1 else ixF p l+1
theorem sW{p:Nat->Bool}:∀{l:List Nat},(∀x∈l,p x=false)->ixF p l=-1
 |[],_=>rfl
 |x::l,h=>by
  unfold ixF;rw[OB (by rw[h x (O1 ..)];decide),OD (sW fun y hy=>h y (OZ _ hy))]
theorem Cr{p:Nat->Bool}:∀{l:List Nat} {k x:Nat},l[k]?=some x->p x=true->(∀(j y:Nat),j<k->l[j]?=some y->p y=false)->ixF p l=k
 |[],k,x,h,_,_=>by simp at h
 |y::l,0,x,h,hp,_=>by
  simp at h;subst h;unfold ixF;rw[OD hp];rfl
 |y::l,k+1,x,h,hp,hb=>by
  simp at h;have h0:=hb 0 y zaa rfl;have ih:=Cr (l:=l) h hp (fun j z hj hz=>hb (j+1) z zaa (by simpa using hz));unfold ixF;rw[OB (by rw[h0];decide),ih,OB zaa];omega
structure MvR(W:World)(g cap:Nat)(L:List Nat)(cur:Array Value):Prop where
 blk:W.heap[g]?=some (.cells cur 263 (0,0))
 size:cur.size=cap
 le:L.length<=cap
 at':∀(j x:Nat),L[j]?=some x->cur[j]?=some ↑x
theorem MvR.cell(h:MvR W g cap L cur)(hx:L[j]?=some x):W.cell? (g,j)=some ↑x:=by
 rw[OA W _ _ _ _ _ h.blk];exact h.at' j x hx
theorem MvR.mo(h:MvR W g cap L cur)(hm:Mo P W W')(hn:¬P g):MvR W' g cap L cur:=⟨(hm.block g (Ov.1 h.blk).1 hn).trans h.blk,h.size,h.le,h.at'⟩
end Y
theorem vh(n:Nat):(Builtin.zeroCells #[Value.pointer none] n).toList=List.replicate n (.pointer none):=by
 unfold Builtin.zeroCells;simp only[List.size_toArray,List.length_cons,List.length_nil,Nat.zero_add,Nat.mul_one,Nat.mod_one,Array.toList_map,Array.toList_range];rw[List.eq_replicate_iff];refine⟨zad,fun b hb=>?_⟩;obtain⟨_,_,rfl⟩:=O7.1 hb;rfl
theorem yI(W:World)(g i n c:Nat)(cur:Array Value)(ty:TypeId)(hg:W.heap[g]?=some (.cells cur 263 (0,0)))(hn:0<n)(X8:i+n<=cur.size):
  (Builtin.clear_ #[261] ty #[.slice (some (g,i)) n c]).run prog W=.ok (.tuple #[]) (W.setRow g (cur.toList.take i++List.replicate n (Value.pointer none)++cur.toList.drop (i+n)).toArray):=by
 obtain⟨m,rfl⟩:∃m,n=m+1:=⟨n-1,zaa⟩;obtain⟨i0,hi,Ue,Ub,Uf⟩:=PZ mO;have hst:=run_storeCells_at prog g i 263 (List.replicate (m+1) (.pointer none)) 0 cur W hg (by simpa using X8) (fun v hv=>by rw[(List.mem_replicate.1 hv).2];rfl);simp only[Nat.add_zero,List.length_replicate]at hst;unfold Builtin.clear_;simp[run_underlying underlying261,zeroValue,typeInfo,hi,Ue,Value.cells,vh,hst,Result.andThen]
theorem qV(w:World)(a:Option Addr)(c:Nat)(L:List Nat)(p:Nat->Bool)(B7 B3 B5:Nat)(hl:L.length<=1000)(hc:∀(j x:Nat),L[j]?=some x->∃g,a=some ⟨g,0,none⟩/\g<w.heap.size/\w.cell? ⟨g,j,none⟩=some ↑x)
  (hf:∀(V:World) (x:Nat),Below w w V->x∈L->() 230 #[x,B7,B3,B5] V fun e w'=>e=.returned (.bool (p x))/\Below w w w'):
  () 258 #[.slice a L.length c,.func (.func 230) #[] #[B7,B3,B5]] w fun e w'=>e=.returned (.int .i64 (Y.ixF p L))/\Below w w w':=by
 have HC:Hid _:=hc;have HF:Hid _:=hf;clear hc hf;go_enter func258,ntmps258;go_wp2
 go_loopw[8] (fun i wr=>∃k:Nat,i=.int .i64 k/\k<=L.length/\Hid ((∀(j y:Nat),j<k->L[j]?=some y->p y=false)/\Below w w wr)) (fun i _=>L.length-(intOf i).toNat)
 case atStart=>exact⟨0,rfl,zaa,fun j y hj=>zaa,Oy _ _⟩
 case round=>
  obtain⟨k,rfl,Vf,HK⟩:=hrel;by_cases hk:k<L.length
  ·obtain⟨x,hx⟩:∃x,L[k]?=some x:=⟨_,Ou hk⟩;obtain⟨g,ha,hg,hcx⟩:=HC.out k x hx;subst ha;have hcr:wr.cell? (g,k)=some ↑x:=(HK.out.2.cell (p:=(g,k)) hg).trans hcx;have UY:=HF.out wr x HK.out.2 (OG hx);have hki:((k:Int)<(L.length:Int)):=zaa;have HX:Hid _:=hx;clear hcx hx;obtain⟨b,hb⟩:∃b,p x=b:=⟨_,rfl⟩;rw[hb]at UY;have HB:Hid _:=hb;clear hb;cases b
   ·go_wp2_with(go_at_call 230;refine UY.mono ?_;rintro e w9 ⟨rfl,UR⟩);exact zdx
   ·go_wp2_with(go_at_call 230;refine UY.mono ?_;rintro e w9 ⟨rfl,UR⟩);exact zeU
  ·exact zdB
theorem ke(w:World)(a:Option Addr)(c:Nat)(L:List Nat)(p:Nat->Bool)(B3 B5:Nat)(hl:L.length<=1000)(hc:∀(j x:Nat),L[j]?=some x->∃g,a=some ⟨g,0,none⟩/\g<w.heap.size/\w.cell? ⟨g,j,none⟩=some ↑x)
  (hf:∀(V:World) (x:Nat),Below w w V->x∈L->() 229 #[x,B3,B5] V fun e w'=>e=.returned (.bool (p x))/\Below w w w'):
  () 258 #[.slice a L.length c,.func (.func 229) #[] #[B3,B5]] w fun e w'=>e=.returned (.int .i64 (Y.ixF p L))/\Below w w w':=by
 have HC:Hid _:=hc;have HF:Hid _:=hf;clear hc hf;go_enter func258,ntmps258;go_wp2
 go_loopw[8] (fun i wr=>∃k:Nat,i=.int .i64 k/\k<=L.length/\Hid ((∀(j y:Nat),j<k->L[j]?=some y->p y=false)/\Below w w wr)) (fun i _=>L.length-(intOf i).toNat)
 case atStart=>exact⟨0,rfl,zaa,fun j y hj=>zaa,Oy _ _⟩
 case round=>
  obtain⟨k,rfl,Vf,HK⟩:=hrel;by_cases hk:k<L.length
  ·obtain⟨x,hx⟩:∃x,L[k]?=some x:=⟨_,Ou hk⟩;obtain⟨g,ha,hg,hcx⟩:=HC.out k x hx;subst ha;have hcr:wr.cell? (g,k)=some ↑x:=(HK.out.2.cell (p:=(g,k)) hg).trans hcx;have UY:=HF.out wr x HK.out.2 (OG hx);have hki:((k:Int)<(L.length:Int)):=zaa;have HX:Hid _:=hx;clear hcx hx;obtain⟨b,hb⟩:∃b,p x=b:=⟨_,rfl⟩;rw[hb]at UY;have HB:Hid _:=hb;clear hb;cases b
   ·go_wp2_with(go_at_call 229;refine UY.mono ?_;rintro e w9 ⟨rfl,UR⟩);exact zdx
   ·go_wp2_with(go_at_call 229;refine UY.mono ?_;rintro e w9 ⟨rfl,UR⟩);exact zeU
  ·exact zdB
theorem uJ(w:World)(a:Option Addr)(c:Nat)(L:List Nat)(p:Nat->Bool)(B7 B3 B5:Nat)(hl:L.length<=1000)(hc:∀(j x:Nat),L[j]?=some x->∃g,a=some ⟨g,0,none⟩/\g<w.heap.size/\w.cell? ⟨g,j,none⟩=some ↑x)
  (hf:∀(V:World) (x:Nat),Below w w V->x∈L->() 230 #[x,B7,B3,B5] V fun e w'=>e=.returned (.bool (p x))/\Below w w w'):
  () 232 #[.slice a L.length c,.func (.func 230) #[] #[B7,B3,B5]] w fun e w'=>e=.returned (.bool (L.any p))/\Below w w w':=by
 have VR:=qV w a c L p B7 B3 B5 hl hc hf;have V8:(decide ((Y.ixF p L)>=0))=L.any p:=by
  clear VR hf hc hl
  induction L with
  |nil=>rfl
  |cons x L ih=>
   unfold Y.ixF;rw[List.any_cons];cases hp:p x
   ·rw[OB zac,SK,<- ih];split
    ·rename_i h;rw[h]
    ·rename_i h;have:Y.ixF p L>=0\/Y.ixF p L=-1:=by
      clear ih h hp
      induction L with
      |nil=>exact .inr rfl
      |cons y L ih2=>
       unfold Y.ixF;split
       ·exact .inl zaa
       ·split
        ·exact .inr rfl
        ·rename_i h2
         rcases ih2 with h3|h3
         ·exact .inl zaa
         ·exact absurd h3 h2
     have h4:Y.ixF p L>=0:=this.resolve_right h;simp[h4];omega
   ·rw[OD rfl,Rg];rfl
 generalize L.any p=bb at *;generalize Y.ixF p L=ix at *;have hge2:decide (0<=ix)=bb:=V8;clear hc hf V8;go_enter func232,ntmps232;go_wp2_with(go_at_call 258;refine VR.mono ?_;rintro e w9 ⟨rfl,UR⟩);go_ret;exact⟨by rw[<- hge2];rfl,UR⟩
namespace Y
def flt(p:Nat->Bool)(L:List Nat):List Nat:=L.filter fun x=>!p x
theorem Hx(p:Nat->Bool)(L:List Nat)(x:Nat):flt p (L++[x])=if p x then flt p L else flt p L++[x]:=by
 unfold flt;rw[Qg];cases h:p x<;>simp[h]
theorem Aa(p:Nat->Bool)(h:L[j]?=some x):flt p (L.take (j+1))=if p x then flt p (L.take j) else flt p (L.take j)++[x]:=by
 rw[<- Hx,PQ,h];rfl
theorem z8{p:Nat->Bool}(h:∀x∈L,p x=false):flt p L=L:=List.filter_eq_self.2 fun x hx=>by rw[h x hx];rfl
structure DlI(w:World)(g cap:Nat)(p:Nat->Bool)(L:List Nat)(i j:Nat)(V:World):Prop where
 ik:i=(flt p (L.take j)).length
 ij:i<j
 jl:j<=L.length
 mo:Mo (·=g) w V
 row:∃cur:Array Value,V.heap[g]?=some (.cells cur 263 (0,0))/\cur.size=cap/\(∀(a x:Nat),(flt p (L.take j))[a]?=some x->cur[a]?=some ↑x)/\∀(a x:Nat),j<=a->L[a]?=some x->cur[a]?=some ↑x
theorem vT(p:Nat->Bool):∀l:List Nat,ixF p l>=0\/ixF p l=-1
 |[]=>.inr rfl
 |y::l=>by
  unfold ixF;split
  ·exact .inl zaa
  ·split
   ·exact .inr rfl
   ·rename_i h2
    rcases vT p l with h3|h3
    ·exact .inl zaa
    ·exact absurd h3 h2
theorem Il{p:Nat->Bool}:∀{l:List Nat},ixF p l=-1->∀x∈l,p x=false
 |[],_,x,hx=>by cases hx
 |y::l,h,x,hx=>by
  unfold ixF at h;split at h
  ·omega
  ·rename_i h1;split at h
   ·rename_i h2
    rcases P2.1 hx with rfl|hx
    ·simpa using h1
    ·exact Il h2 x hx
   ·rename_i h2;have:ixF p l>=0\/ixF p l=-1:=vT p l;omega
theorem Am{p:Nat->Bool}:∀{l:List Nat},ixF p l≠-1->∃(k x:Nat),ixF p l=k/\l[k]?=some x/\p x=true/\∀(j y:Nat),j<k->l[j]?=some y->p y=false
 |[],h=>absurd rfl h
 |y::l,h=>by
  cases hp:p y
  ·have h2:ixF p l≠-1:=fun e=>h (by unfold ixF;rw[OB (by rw[hp];decide),OD e]);obtain⟨k,x,a,b,c,d⟩:=Am h2;refine⟨k+1,x,?_,by simpa using b,c,fun j z hj hz=>?_⟩
   ·unfold ixF;rw[OB (by rw[hp];decide),OB h2,a];omega
   ·cases j with
    |zero=>simp at hz;subst hz;exact hp
    |succ j=>exact d j z zaa (by simpa using hz)
  ·exact⟨0,y,by unfold ixF;rw[OD hp];rfl,rfl,hp,fun j _ hj=>zaa⟩
end Y
theorem zL(w:World)(g cap:Nat)(L:List Nat)(cur:Array Value)(p:Nat->Bool)(B3 B5:Nat)(hl:L.length<=1000)(hR:Y.MvR w g cap L cur)
  (hf:∀(V:World) (x:Nat),Mo (·=g) w V->x∈L->() 229 #[x,B3,B5] V fun e w'=>e=.returned (.bool (p x))/\Below V V w'):
  () 233 #[.slice g L.length cap,.func (.func 229) #[] #[B3,B5]] w fun e w'=>e=.returned (.slice g (Y.flt p L).length cap)/\(∃cur',Y.MvR w' g cap (Y.flt p L) cur')/\Mo (·=g) w w':=by
 have UN:=(Ov.1 hR.blk).1;have VR:=ke w (some ⟨g,0,none⟩) cap L p B3 B5 hl (fun j x hx=>⟨g,rfl,UN,hR.cell hx⟩) (fun V x hV hx=>(hf V x (az hV) hx).mono (fun e w' y=>⟨y.1,hV.trans (y.2.mono hV.size)⟩));have hle:=hR.le;have YA:=hR.size;by_cases hm:Y.ixF p L=-1
 ·have hfl:=Y.z8 (Y.Il hm);rw[hm]at VR;rw[hfl];have HR:Hid _:=hR;clear hR hf hfl;go_enter func233,ntmps233;go_wp2_with(go_at_call 258;refine VR.mono ?_;rintro e w9 ⟨rfl,UR⟩);go_ret;exact⟨rfl,⟨cur,HR.out.mo (P:=fun _=>False) (az UR) (fun h=>h)⟩,az UR⟩
 ·obtain⟨k,x0,hk,hx0,YE,hbef⟩:=Y.Am hm;have Vf:=(Oz.1 hx0).1;rw[hk]at VR;have hk1:((k:Int) == -1)=false:=zad;have hfk:Y.flt p (L.take k)=L.take k:=Y.z8 fun y hy=>by
   obtain⟨j,hj⟩:=O5.1 hy;have YM:j<k:=by have:=(Oz.1 hj).1;rw[PH]at this;omega
   rw[PC YM]at hj;exact hbef j y YM hj
  have HI:Hid (∀w9,Below w w w9->Y.DlI w g cap p L k (k+1) w9):=fun w9 hb=>by
   have U4:=hR.mo (P:=fun _=>False) (az hb) (fun h=>h);have e:Y.flt p (L.take (k+1))=L.take k:=by rw[Y.Aa p hx0,OD YE,hfk]
   refine⟨by rw[e,PH];omega,zaa,zaa,az hb,cur,U4.blk,YA,fun a x hx=>?_,fun a x _ hx=>U4.at' a x hx⟩;rw[e]at hx;have hak:a<k:=by have:=(Oz.1 hx).1;rw[PH]at this;omega
   rw[PC hak]at hx;exact U4.at' a x hx
  have HF:Hid _:=hf;clear hf hR hm hk hfk hbef hx0 YE;go_enter func233,ntmps233;go_wp2_with(go_at_call 258;refine VR.mono ?_;rintro e w9 ⟨rfl,UR⟩;have H9:Hid _:=HI.out w9 UR;clear UR)
  go_loopw[5,6] (fun iv jv wr=>∃i j:Nat,iv=.int .i64 i/\jv=.int .i64 j/\Hid (Y.DlI w g cap p L i j wr)) (fun _ jv _=>L.length-(intOf jv).toNat)
  case atStart=>exact⟨k,k+1,rfl,zad,H9⟩
  case round=>
   obtain⟨i,j,rfl,rfl,HD⟩:=hrel;clear H9 VR;obtain⟨d1,d2,d3,d4,cu,e1,e2,e3,e4⟩:=HD.out;by_cases hj:j<L.length
   ·obtain⟨x,hx⟩:∃x,L[j]?=some x:=⟨_,Ou hj⟩;have cx:wr.cell? (g,j)=some ↑x:=by rw[OA wr _ _ _ _ _ e1];exact e4 j x (Ow _) hx
    have UY:=HF.out wr x d4 (OG hx);have Wy:=Y.Aa p hx;obtain⟨b,hb⟩:∃b,p x=b:=⟨_,rfl⟩;rw[hb]at UY Wy;have HT:Hid _:=Wy;have D1:Hid _:=d1;have HX:Hid _:=hx;have E3:Hid _:=e3;have E4:Hid _:=e4;have E1:Hid _:=e1;have HB:Hid _:=hb;have Yf:((j:Int)<(L.length:Int)):=zaa;have hii:((i:Int)<(L.length:Int)):=zaa;clear Wy d1 hx e3 e4 hb;have Vk:∀V,Below wr wr V->V.heap[g]?=some (.cells cu 263 (0,0)):=fun V hV=>(hV.block g (Ov.1 e1).1).trans e1;have HG:Hid _:=Vk;clear Vk e1;cases b
    ·have HS:Hid (∀V,Below wr wr V->Y.DlI w g cap p L (i+1) (j+1) (V.setCell (g,i) x)/\V.frozen? (g,i)=false/\∃u,V.cell? (g,i)=some u):=fun V hV=>by
      have hgV:=HG.out V hV;have Wy:=HT.out;rw[OB zac]at Wy;refine⟨⟨by rw[Wy,OM,<- D1.out];rfl,zaa,zaa,(d4.trans (az hV)).set _ _ rfl,cu.setIfInBounds i x,OP V g i _ _ _ hgV,by simp[e2],fun a y hy=>?_,fun a y ha hy=>?_⟩,by simp[World.frozen?,hgV],cu[i]'(zaa),by rw[OA V _ _ _ _ _ hgV];exact Sk zaa⟩
      ·rw[Wy]at hy;by_cases ha:a<(Y.flt p (L.take j)).length
       ·rw[Pv ha]at hy;rw[P6 (by rw[D1.out];omega)];exact E3.out a y hy
       ·have hai:a=i:=by
         have:=(Oz.1 hy).1;rw[OM,Qu]at this;have:=D1.out;omega
        subst hai;rw[PE zaa,<- D1.out]at hy;simp at hy;subst hy;exact Qd zaa
      ·rw[P6 zaa];exact E4.out a y zaa hy
     go_wp2_with(go_at_call 229;refine UY.mono ?_;rintro e w9 ⟨rfl,UR⟩;obtain⟨x1,x2,u,x3⟩:=HS.out w9 UR;have X1:Hid _:=x1;clear x1)
     go_roundw
     case rel=>exact⟨i+1,j+1,zad,zad,X1⟩
     case measure=>simp only[intOf];omega
    ·have HS:Hid (∀V,Below wr wr V->Y.DlI w g cap p L i (j+1) V):=fun V hV=>by
      have Wy:=HT.out;rw[OD rfl]at Wy;exact⟨by rw[Wy];exact D1.out,zaa,zaa,d4.trans (az hV),cu,HG.out V hV,e2,fun a y hy=>E3.out a y (by rw[Wy]at hy;exact hy),fun a y ha hy=>E4.out a y zaa hy⟩
     go_wp2_with(go_at_call 229;refine UY.mono ?_;rintro e w9 ⟨rfl,UR⟩;have X1:Hid _:=HS.out w9 UR)
     go_roundw
     case rel=>exact⟨i,j+1,rfl,zad,X1⟩
     case measure=>simp only[intOf];omega
   ·obtain rfl:j=L.length:=zaa;rw[Pw]at d1 e3;have Um:=yI wr g i (L.length-i) (cap-i) cu 0 e1 zaa zaa;have D1:Hid _:=d1;have Vk:(wr.setRow g (cu.toList.take i++List.replicate (L.length-i) (Value.pointer none)++cu.toList.drop (i+(L.length-i))).toArray).heap[g]?=some (.cells (cu.toList.take i++List.replicate (L.length-i) (Value.pointer none)++cu.toList.drop (i+(L.length-i))).toArray 263 (0,0)):=Tq wr g _ _ _ _ e1;have Uh:Mo (·=g) wr (wr.setRow g (cu.toList.take i++List.replicate (L.length-i) (Value.pointer none)++cu.toList.drop (i+(L.length-i))).toArray):=Ea (iA wr g _);have HE:Hid ((∃cur',Y.MvR (wr.setRow g (cu.toList.take i++List.replicate (L.length-i) (Value.pointer none)++cu.toList.drop (i+(L.length-i))).toArray) g cap (Y.flt p L) cur')/\Mo (·=g) w (wr.setRow g (cu.toList.take i++List.replicate (L.length-i) (Value.pointer none)++cu.toList.drop (i+(L.length-i))).toArray)):=by
     refine⟨⟨_,Vk,?_,by rw[<- D1.out];omega,fun a x hx=>?_⟩,d4.trans Uh⟩
     ·simp;omega
     ·have ha:a<i:=by rw[D1.out];exact(Oz.1 hx).1
      have h1:=e3 a x hx;rw[Q0,Qn,Pv zae,PC ha,PN];exact h1
    have hi2:i<=L.length:=zaa;generalize wr.setRow g (cu.toList.take i++List.replicate (L.length-i) (Value.pointer none)++cu.toList.drop (i+(L.length-i))).toArray=W2 at *;clear d1 e3 e4 Vk Uh HD e1;go_wp2;go_ret;exact⟨by rw[<- D1.out];rfl,HE.out⟩
namespace Y
abbrev TkS(W:World)(base:Nat)(sv:Value)(L:List Nat):Prop:=W.ownsRow base 263 1 sv L.length (L.flatMap mu)
theorem zZ(L:List Nat)(j x:Nat)(h:L[j]?=some x):(L.flatMap mu)[j]?=some ↑x:=by
 induction L generalizing j with
 |nil=>simp at h
 |cons y L ih=>
  cases j with
  |zero=>simp at h;subst h;rfl
  |succ j=>simp at h;exact ih j h
theorem kc(L:List Nat):(L.flatMap mu).length=L.length:=by
 induction L with
 |nil=>rfl
 |cons y L ih=>rw[PO,OM,ih];simp[mu];omega
theorem TkS.form(h:TkS W base sv L):(sv=.slice none 0 0/\L=[])\/∃g cap cur,sv=.slice (some ⟨g,0,none⟩) L.length cap/\base<=g/\cap<=maxLen/\MvR W g cap L cur:=by
 rcases h.2 with⟨a,b⟩|⟨g,cap,cur,a,b,c,d,e,f,k⟩
 ·exact .inl ⟨a,Qx.1 b⟩
 ·refine .inr ⟨g,cap,cur,a,b,e,c,zaa,d,fun j x hx=>?_⟩;have h1:=zZ L j x hx;rw[<- k,RC,PC (Oz.1 hx).1,PN]at h1;exact h1
theorem TkS.of(h:MvR W g cap L cur)(hb:base<=g)(hc:cap<=maxLen):TkS W base (.slice g L.length cap) L:=by
 refine⟨by rw[kc];omega,.inr ⟨g,cap,cur,rfl,hb,h.blk,h.le,hc,by have:=h.size;omega,?_⟩⟩;refine Qo (fun j=>?_);rw[RC];by_cases hj:j<L.length
 ·rw[PC hj,PN,zZ L j _ (Ou hj)];exact h.at' j _ (Ou hj)
 ·rw[OV (by rw[PH];omega),OV (by rw[kc];omega)]
theorem TkS.kind(h:TkS W base sv L):∀k,sv.ownBlock=some k->base<=k/\k<W.heap.size/\∃c,W.heap[k]?=some (.cells c 263 (0,0)):=fun k hk=>by
 exact zdZ
theorem TkS.n(h:TkS W base sv L):∃a c,sv=.slice a L.length c:=by
 exact zei
theorem MT.moT(h:MT W lo mb pb r)(hl:Lw lo)(hm:Mo P W W')(hP:∀k,P k->lo<=k/\∃c,W.heap[k]?=some (.cells c 263 (0,0))):MT W' lo mb pb r:=by
 obtain⟨qv,wh,a,b⟩:=h.ex;have hb:Below lo W W':=⟨hm.os,hm.tape,hm.output,hm.size,fun k hk=>hm.block k (by have:=h.lo';omega) (fun hp=>zbZ)⟩;have hk:Kd (fun t=>t=263) W W':=gO hm (fun k c t f hp hc=>by
  obtain⟨_,c',TZ⟩:=hP k hp;rw[hc]at TZ;cases TZ
  rfl)
 refine⟨⟨qv,wh,a.mo hm (fun e=>?_) (fun g hg e=>?_),b.kd hk zac rfl rfl⟩,Ox h.lo' hm.size,h.act,h.now,h.tml,gH hl hb h.tab,b8 hl hb h.tab5⟩
 ·obtain⟨_,c,hc⟩:=hP _ e;obtain⟨arr,a1,_⟩:=a.blk;rw[hc]at a1;simp at a1
 ·obtain⟨_,c,hc⟩:=hP _ e;obtain⟨c',TZ⟩:=a.que.kind g hg;rw[hc]at TZ;simp at TZ
def mx(act:Nat)(lF oF:Nat->Nat)(ar:Nat)(L:List Nat)(v:Nat):List Nat:=if L.any (fun x=>eC act (lF x) (lF v)&&!ar.testBit (oF x)) then L else flt (fun x=>eC act (lF x) (lF v)) L++[v]
end Y
theorem zM(w:World)(base:Nat)(sv:Value)(L:List Nat)(p:Nat->Bool)(B3 B5:Nat)(hl:L.length<=1000)(h:Y.TkS w base sv L)
  (hf:∀(V:World) (x:Nat),Mo (fun k=>sv.ownBlock=some k) w V->x∈L->() 229 #[x,B3,B5] V fun e w'=>e=.returned (.bool (p x))/\Below V V w'):
  () 233 #[sv,.func (.func 229) #[] #[B3,B5]] w fun e w'=>∃sv',e=.returned sv'/\Y.TkS w' base sv' (Y.flt p L)/\sv'.ownBlock=sv.ownBlock/\Mo (fun k=>sv.ownBlock=some k) w w':=by
 rcases h.form with⟨rfl,rfl⟩|⟨g,cap,cur,rfl,hb,hc,hR⟩
 ·have VR:=ke w none 0 [] p B3 B5 zad (fun j x hx=>by simp at hx) (fun V x _ hx=>zau);have hi0:Y.ixF p []=-1:=rfl;rw[hi0]at VR;have HN:Hid (∀W:World,Y.TkS W base (.slice none 0 0) (Y.flt p [])):=fun W=>⟨rfl,.inl ⟨rfl,rfl⟩⟩;clear h hf;simp only[List.length_nil]at VR;go_enter func233,ntmps233;go_wp2_with(go_at_call 258;refine VR.mono ?_;rintro e w9 ⟨rfl,UR⟩);go_ret;exact⟨_,rfl,HN.out _,rfl,az UR⟩
 ·have hP:(fun k=>Value.ownBlock (.slice g L.length cap)=some k)=(·=g):=by
   funext k;exact propext ⟨fun e=>zba,fun e=>by subst e;rfl⟩
  rw[hP]at hf⊢;refine(zL w g cap L cur p B3 B5 hl hR hf).mono ?_;rintro e w' ⟨rfl,⟨cur',hR'⟩,hm⟩;exact⟨_,rfl,Y.TkS.of hR' hb hc,rfl,hm⟩
theorem Jz(w:World)(lo:Y.Lo)(mb pb b cap base:Nat)(r:Y.RSt)(ps:List Y.PS)(fin:Nat)(EN LV:Nat->List Y.PA)(sv:Value)(L:List Nat)(v:Nat)(pv:Y.PS)(lF oF:Nat->Nat)(hP:Y.gy w lo pb b cap ps fin EN LV)(h:Y.MT w lo mb pb r)(hT:Y.TkS w base sv L)(WM:lo<=base)(Ui:base<=w.heap.size)(hl:L.length<=900)(hM:∀x,x=v\/x∈L->Y.MvB w x (oF x) (lF x)/\oF x<32)(hpv:ps[oF v]?=some pv):
  () 202 #[mb,sv,v] w fun e w'=>∃sv',e=.returned sv'/\Y.TkS w' base sv' (Y.mx r.act lF oF pv.around L v)/\Mo (fun k=>sv.ownBlock=some k) w w':=by
 obtain⟨i0,hi,Ue,Ub,Uf⟩:=PZ mO;have TW:=hP.lw;have TT:=h.lo';obtain⟨sa,sc,rfl⟩:=hT.n;have VP:∀o1 o2 o3:Obj,Below w w (((w.alloc o1).alloc o2).alloc o3):=fun o1 o2 o3=>(((Oy _ w).alloc (Ow _) _).alloc zad _).alloc zae _;have hB:=VP (.cells #[mb] 71) (.cells #[v] 263) (.cells #[.func (.func 229) #[] #[w,↑(w.heap.size+1)]] 399);have x3:Boxed (((w.alloc (.cells #[mb] 71)).alloc (.cells #[v] 263)).alloc (.cells #[.func (.func 229) #[] #[w,↑(w.heap.size+1)]] 399)) w.heap.size 71 mb:=((O4 w _ _).alloc _).alloc _;have x5:Boxed (((w.alloc (.cells #[mb] 71)).alloc (.cells #[v] 263)).alloc (.cells #[.func (.func 229) #[] #[w,↑(w.heap.size+1)]] 399)) (w.heap.size+1) 263 v:=by
  have:=(O4 (w.alloc (.cells #[mb] 71)) 263 v).alloc (.cells #[.func (.func 229) #[] #[w,↑(w.heap.size+1)]] 399);rw[Py]at this;exact this
 have x7:Boxed (((w.alloc (.cells #[mb] 71)).alloc (.cells #[v] 263)).alloc (.cells #[.func (.func 229) #[] #[w,↑(w.heap.size+1)]] 399)) (w.heap.size+1+1) 399 (.func (.func 229) #[] #[w,↑(w.heap.size+1)]):=by
  have:=O4 ((w.alloc (.cells #[mb] 71)).alloc (.cells #[v] 263)) 399 (.func (.func 229) #[] #[w,↑(w.heap.size+1)]);rw[Py,Py]at this;exact this
 have Wg:(((w.alloc (.cells #[mb] 71)).alloc (.cells #[v] 263)).alloc (.cells #[.func (.func 229) #[] #[w,↑(w.heap.size+1)]] 399)).heap.size=w.heap.size+3:=zad;have hsto:∀(W:World) (a:Addr),(store a (.func (.func 229) #[] #[w,↑(w.heap.size+1)])).run prog W=stored prog W a (.func (.func 229) #[] #[w,↑(w.heap.size+1)]) .plain:=fun W a=>Tz _ W a _ _ rfl;have U8:=hT.kind;have HKD:Hid _:=U8;obtain⟨W1,Uj⟩:∃W1,(((w.alloc (.cells #[mb] 71)).alloc (.cells #[v] 263)).alloc (.cells #[.func (.func 229) #[] #[w,↑(w.heap.size+1)]] 399))=W1:=⟨_,rfl⟩;rw[Uj]at hB x3 x5 x7 Wg;have HT1:Hid (∀V,Below W1 W1 V->Y.TkS V base (.slice sa L.length sc) L):=fun V hV=>(az (P:=fun _=>False) (hB.trans (hV.mono hB.size))).own hT (fun _ _ h=>h);have HV:Hid (∀V W,Below W1 W1 V->Mo (fun k=>Value.ownBlock (.slice sa L.length sc)=some k) V W->Y.MT W lo mb pb r/\Y.gy W lo pb b cap ps fin EN LV/\(∀x,x=v\/x∈L->Y.MvB W x (oF x) (lF x))/\Y.TkB W mb v w (w.heap.size+1)/\Boxed W (w.heap.size+1+1) 399 (.func (.func 229) #[] #[w,↑(w.heap.size+1)])):=fun V W hV hm=>by
  have hwV:=hB.trans (hV.mono hB.size);have hk:∀k,Value.ownBlock (.slice sa L.length sc)=some k->lo<=k/\k<w.heap.size/\∃c,V.heap[k]?=some (.cells c 263 (0,0)):=fun k e=>by
   obtain⟨a,b',c,d⟩:=HKD.out k e;exact⟨zaa,b',c,(hwV.block k b').trans d⟩
  have UE:Below lo V W:=⟨hm.os,hm.tape,hm.output,hm.size,fun k UD=>hm.block k (by have:=hwV.size;omega) (fun e=>by have:=(hk k e).1;omega)⟩;refine⟨(h.below TW hwV).moT TW hm (fun k e=>⟨(hk k e).1,(hk k e).2.2⟩),hP.below ((hwV.mono TT).trans UE),fun x hx=>?_,⟨?_,?_⟩,?_⟩
  ·have hx1:=(hM x hx).1.below hwV;refine hx1.mo hm (fun e=>?_);obtain⟨_,_,c,hc⟩:=hk _ e;obtain⟨c',TZ⟩:=hx1.ty;rw[hc]at TZ;simp at TZ
  ·exact Boxed.mo (aB x3 hV zaa) hm (fun e=>zbX)
  ·exact Boxed.mo (aB x5 hV zaa) hm (fun e=>zbX)
  ·exact Boxed.mo (aB x7 hV zaa) hm (fun e=>zbX)
 have WV:=uJ W1 sa sc L (fun x=>Y.eC r.act (lF x) (lF v)&&!pv.around.testBit (oF x)) (w.heap.size+1+1) w.heap.size (w.heap.size+1) zaa (fun j x hx=>by
   rcases(HT1.out W1 (Oy _ _)).form with⟨_,e2⟩|⟨g,cp,cu,e1,e2,e3,e4⟩
   ·subst e2;simp at hx
   ·simp only[Value.slice.injEq]at e1;obtain⟨rfl,_,rfl⟩:=e1;exact⟨g,rfl,(Ov.1 e4.blk).1,e4.cell hx⟩)
  (fun V x hV hx=>by
   obtain⟨a1,a2,a3,a4,a5⟩:=HV.out V V hV (Mo.refl _ _);exact(De V lo mb pb b cap r ps fin EN LV x (oF x) (lF x) v (oF v) (lF v) _ _ _ pv a2 a1 (a3 x (.inr hx)) (a3 v (.inl rfl)) a4 hpv (hM x (.inr hx)).2 a5).mono (fun e w' y=>⟨y.1,hV.trans (y.2.mono hV.size)⟩))
 have hdel:∀V,Below W1 W1 V->() 233 #[.slice sa L.length sc,.func (.func 229) #[] #[w,↑(w.heap.size+1)]] V fun e w'=>∃sv',e=.returned sv'/\Y.TkS w' base sv' (Y.flt (fun x=>Y.eC r.act (lF x) (lF v)) L)/\sv'.ownBlock=Value.ownBlock (.slice sa L.length sc)/\Mo (fun k=>Value.ownBlock (.slice sa L.length sc)=some k) V w':=fun V hV=>
  zM V base (.slice sa L.length sc) L _ _ _ zaa (HT1.out V hV) (fun W x hW hx=>by
   obtain⟨a1,a2,a3,a4,a5⟩:=HV.out V W hV hW;exact qC W lo mb pb r x (oF x) (lF x) v (oF v) (lF v) _ _ TW a1 (a3 x (.inr hx)) (a3 v (.inl rfl)) a4)
 obtain⟨an,han⟩:∃an,L.any (fun x=>Y.eC r.act (lF x) (lF v)&&!pv.around.testBit (oF x))=an:=⟨_,rfl⟩;have HTK:Hid (Y.mx r.act lF oF pv.around L v=if an then L else Y.flt (fun x=>Y.eC r.act (lF x) (lF v)) L++[v]):=by
  unfold Hid Y.mx;rw[han]
 rw[han]at WV;have HFL:Hid ((Y.flt (fun x=>Y.eC r.act (lF x) (lF v)) L).length<=L.length):=PB _ _;generalize Y.flt (fun x=>Y.eC r.act (lF x) (lF v)) L=F at *;clear han h hP hM hT U8;cases an
 ·have k5:∀V W,Below W1 W1 V->Mo (fun k=>Value.ownBlock (.slice sa L.length sc)=some k) V W->W.cell? ↑(w.heap.size+1)=some ↑v/\W.cell? ↑(w.heap.size+1+1)=some (.func (.func 229) #[] #[w,↑(w.heap.size+1)]):=fun V W hV hm=>⟨(HV.out V W hV hm).2.2.2.1.b5.cell,(HV.out V W hV hm).2.2.2.2.cell⟩;go_enter func202,ntmps202
  go_upto_region 5 with(go_at_call 232;(try rw[Uj]);refine WV.mono ?_;rintro e w2 ⟨rfl,TP⟩)
  clear WV;have VV:=TP.drew;have hKB:∀V W,Below W1 W1 V->Mo (fun k=>Value.ownBlock (.slice sa L.length sc)=some k) V W->(fun V=>V.cell? ↑(w.heap.size+1)=some ↑v/\V.cell? ↑(w.heap.size+1+1)=some (.func (.func 229) #[] #[w,↑(w.heap.size+1)])) W:=k5;have hSa:∀(W:World) (o:Obj),(fun V=>V.cell? ↑(w.heap.size+1)=some ↑v/\V.cell? ↑(w.heap.size+1+1)=some (.func (.func 229) #[] #[w,↑(w.heap.size+1)])) W->(fun V=>V.cell? ↑(w.heap.size+1)=some ↑v/\V.cell? ↑(w.heap.size+1+1)=some (.func (.func 229) #[] #[w,↑(w.heap.size+1)])) (W.alloc o):=fun W o hW=>⟨ou ((Oy _ W).alloc (Ow _) o) hW.1,ou ((Oy _ W).alloc (Ow _) o) hW.2⟩;have hSg:∀(W W':World) (row:Option Nat),row=Value.ownBlock (.slice sa L.length sc)->W.grownBy W' row->(fun V=>V.cell? ↑(w.heap.size+1)=some ↑v/\V.cell? ↑(w.heap.size+1+1)=some (.func (.func 229) #[] #[w,↑(w.heap.size+1)])) W->(fun V=>V.cell? ↑(w.heap.size+1)=some ↑v/\V.cell? ↑(w.heap.size+1+1)=some (.func (.func 229) #[] #[w,↑(w.heap.size+1)])) W':=fun W W' row hr hg hW=>by
   subst hr;have TU:∀q,w.heap.size<=q->some q≠Value.ownBlock (.slice sa L.length sc):=fun q hq e=>by have:=(HKD.out q e.symm).2.1;omega
   exact⟨(OO (w:=W) (hg.block _ (iM hW.1) (TU (w.heap.size+1) zaa))).trans hW.1,(OO (w:=W) (hg.block _ (iM hW.2) (TU (w.heap.size+1+1) zaa))).trans hW.2⟩
  have hfl:=HFL.out;have WS:=VV.size;have hS0:(fun V=>V.cell? ↑(w.heap.size+1)=some ↑v/\V.cell? ↑(w.heap.size+1+1)=some (.func (.func 229) #[] #[w,↑(w.heap.size+1)])) w2.drew:=hKB _ _ VV (Mo.refl _ _);have UA:Below W1 W1 (w2.drew.alloc (.cells #[v] 263)):=VV.alloc WS _;refine OQ (S:=(fun V=>V.cell? ↑(w.heap.size+1)=some ↑v/\V.cell? ↑(w.heap.size+1+1)=some (.func (.func 229) #[] #[w,↑(w.heap.size+1)]))) zab hS0 (fun u0=>?_);refine tD (some 15) 0 (.slice sa L.length sc) rfl u0 ?_;refine tD (some 16) 1 (.func (.func 229) #[] #[w,↑(w.heap.size+1)]) rfl u0 ?_;refine tD (some 18) 3 v rfl u0 ?_;refine yH [2,4] ?_;refine Pb rfl (fun K hK=>?rg1) (Pb rfl (fun K hK=>?rg2) P1)
  case' rg1=>
   go_simp;refine(hdel _ zbe).mono ?_;rintro e w9 ⟨sv9,rfl,hT9,hO9,X3⟩;refine hK.out _ _ (hKB _ _ zbe X3) (fun u0=>?_);clear hK K;refine zH 4 rfl fun K hK=>?_;go_simp;refine hK.out _ _ (hSa _ _ u0) (fun u0=>?_);clear hK K;refine zH 5 rfl fun K hK=>?_
   first
    |(refine step_append_lies _ zaf _ _ _ zaf base 263 i0 _ 1 8 underlying261 hi Ue Ub Uf rfl zac sv9 F.length (F.flatMap Y.mu) zaf (hT9.alloc _) ⟨w9.heap.size,0,none⟩ 1 1 [.pointer (some ⟨v,0,none⟩)] zaf zaf (World.news_of_block (cs:=#[.pointer (some ⟨v,0,none⟩)]) (t:=263) (fr:=(0,0)) (OH w9 _)) (fun u hu=>zaL) zaa zah zaa (by have:=X3.size;simp;simp at this WS;omega) _ rfl ?_)
    |(refine step_append_lies _ zaf _ _ _ zaf base 263 i0 _ 1 8 underlying261 hi Ue Ub Uf rfl zac sv9 F.length (F.flatMap Y.mu) zaf hT9 ⟨w2.drew.heap.size,0,none⟩ 1 1 [.pointer (some ⟨v,0,none⟩)] zaf zaf (World.news_of_block (cs:=#[.pointer (some ⟨v,0,none⟩)]) (t:=263) (fr:=(0,0)) ((X3.block w2.drew.heap.size zad (fun e=>zcc)).trans (OH w2.drew _))) (fun u hu=>zaL) zaa zah zaa (by have:=X3.size;simp at this WS;omega) _ rfl ?_)
   intro g5 cap5 w5 TQ L8 Uy U2;refine hK.out _ _ (hSg _ _ _ hO9 L8 u0) (fun u0=>?_);clear hK K;refine tD (some 6) 6 (.slice g5 (F.length+1) cap5) rfl u0 ?_;refine OY zab ?_ _;clear u0;go_wp2;go_ret;rw[hO9]at L8;have X9:Mo (fun k=>Value.ownBlock (.slice sa L.length sc)=some k) _ w5:=⟨L8.os,L8.tape,L8.output,L8.size,fun k hk hn=>L8.block k hk (fun e=>hn e.symm)⟩;have hMo:Mo (fun k=>Value.ownBlock (.slice sa L.length sc)=some k) w w5:=by
    exact zdb
   refine⟨_,rfl,?_,hMo⟩;rw[HTK.out,OB zac];show w5.ownsRow base 263 1 _ (F++[v]).length ((F++[v]).flatMap Y.mu);rw[OM,Ph];exact TQ
  case' rg2=>
   go_simp;refine hK.out _ _ (hSa _ _ u0) (fun u0=>?_);clear hK K;refine zH 2 rfl fun K hK=>?_;go_simp;refine(hdel _ zbe).mono ?_;rintro e w9 ⟨sv9,rfl,hT9,hO9,X3⟩;refine hK.out _ _ (hKB _ _ zbe X3) (fun u0=>?_);clear hK K;refine zH 5 rfl fun K hK=>?_
   first
    |(refine step_append_lies _ zaf _ _ _ zaf base 263 i0 _ 1 8 underlying261 hi Ue Ub Uf rfl zac sv9 F.length (F.flatMap Y.mu) zaf (hT9.alloc _) ⟨w9.heap.size,0,none⟩ 1 1 [.pointer (some ⟨v,0,none⟩)] zaf zaf (World.news_of_block (cs:=#[.pointer (some ⟨v,0,none⟩)]) (t:=263) (fr:=(0,0)) (OH w9 _)) (fun u hu=>zaL) zaa zah zaa (by have:=X3.size;simp;simp at this WS;omega) _ rfl ?_)
    |(refine step_append_lies _ zaf _ _ _ zaf base 263 i0 _ 1 8 underlying261 hi Ue Ub Uf rfl zac sv9 F.length (F.flatMap Y.mu) zaf hT9 ⟨w2.drew.heap.size,0,none⟩ 1 1 [.pointer (some ⟨v,0,none⟩)] zaf zaf (World.news_of_block (cs:=#[.pointer (some ⟨v,0,none⟩)]) (t:=263) (fr:=(0,0)) ((X3.block w2.drew.heap.size zad (fun e=>zcc)).trans (OH w2.drew _))) (fun u hu=>zaL) zaa zah zaa (by have:=X3.size;simp at this WS;omega) _ rfl ?_)
   intro g5 cap5 w5 TQ L8 Uy U2;refine hK.out _ _ (hSg _ _ _ hO9 L8 u0) (fun u0=>?_);clear hK K;refine tD (some 6) 6 (.slice g5 (F.length+1) cap5) rfl u0 ?_;refine OY zab ?_ _;clear u0;go_wp2;go_ret;rw[hO9]at L8;have X9:Mo (fun k=>Value.ownBlock (.slice sa L.length sc)=some k) _ w5:=⟨L8.os,L8.tape,L8.output,L8.size,fun k hk hn=>L8.block k hk (fun e=>hn e.symm)⟩;have hMo:Mo (fun k=>Value.ownBlock (.slice sa L.length sc)=some k) w w5:=by
    exact zdb
   refine⟨_,rfl,?_,hMo⟩;rw[HTK.out,OB zac];show w5.ownsRow base 263 1 _ (F++[v]).length ((F++[v]).flatMap Y.mu);rw[OM,Ph];exact TQ
 ·go_enter func202,ntmps202;go_wp2_with(go_at_call 232;(try rw[Uj]);refine WV.mono ?_;rintro e w2 ⟨rfl,TP⟩);go_ret;exact⟨_,rfl,by rw[HTK.out,OD trivial];exact HT1.out _ TP,az (hB.trans (TP.mono hB.size))⟩
namespace Y
structure EB(w:World)(lo:Nat)(pb b N cap:Nat)(hv:Value)(fin mbm n:Nat)(T:()->Option (List (Option PM)))(M:()->Option Nat)(L:Nat->List (Option Nat)):Prop where
 pl:dz w pb b N cap hv fin (.map (some mbm))
 tab:Tab w pb b N mbm n T M L
theorem EB.rf{b N:Nat}{hv:Value}{fin mbm n:Nat}{T:()->Option (List (Option PM))}{M:()->Option Nat}{L:Nat->List (Option Nat)}(h:EB w lo pb b N cap hv fin mbm n T M L)(hR:Rf lo w w')(T8:pb<lo):EB w' lo pb b N cap hv fin mbm n T M L:=by
 refine⟨(hR.bel.block pb T8).trans h.pl,h.tab.kd (P:=(·≠mbm)) hR.kd (fun t ht=>?_) zaq ⟨hR.bel.os,hR.bel.tape,hR.bel.output,hR.bel.size,fun k hk hn=>?_⟩ (fun h=>h rfl)⟩
 ·rcases ht with rfl|rfl|rfl|rfl|rfl<;>(unfold cR;decide)
 ·have:k=mbm:=Qf hn;subst this;obtain⟨es,cl,hm⟩:=h.tab.map.kind;exact(hR.oth.same k _ hm rfl).trans hm.symm
def gJ(M:()->Option Nat)(L:Nat->List (Option Nat))(ev:())(l:List Nat):List Nat:=match M ev with
 |none=>[]
 |some g=>dC (L g) l
theorem nj{L:List (Option Nat)}:∀(l:List Nat) (acc:List Nat),(l.foldl (eP L) acc).length<=acc.length+l.length
 |[],acc=>Ow _
 |i::l,acc=>by
  have h1:=nj (L:=L) l (eP L acc i);have h2:=wY L acc i;show(l.foldl (eP L) (eP L acc i)).length<=_;rw[PR];omega
def arA(ps:List PS)(i:Nat):Nat:=match ps[i]? with|some p=>p.around|none=>0
def gB(ps:List PS)(act:Nat)(lF oF:Nat->Nat)(WL:List Nat):List Nat:=WL.foldl (fun acc v=>mx act lF oF (arA ps (oF v)) acc v) []
theorem sj(ps:List PS)(act:Nat)(lF oF:Nat->Nat)(WL:List Nat)(v:Nat):gB ps act lF oF (WL++[v])=mx act lF oF (arA ps (oF v)) (gB ps act lF oF WL) v:=by unfold gB;rw[Px];rfl
theorem Bf{act:Nat}{lF oF:Nat->Nat}{ar v:Nat}(h:x∈mx act lF oF ar L v):x=v\/x∈L:=by
 unfold mx at h;split at h
 ·exact .inr h
 ·rcases OT.1 h with h|h
  ·exact .inr (P3.1 h).1
  ·exact .inl (OE.1 h)
theorem Jy(act:Nat)(lF oF:Nat->Nat)(ar v:Nat)(L:List Nat):(mx act lF oF ar L v).length<=L.length+1:=by
 unfold mx;split
 ·omega
 ·rw[OM,Qu];have:(flt (fun x=>eC act (lF x) (lF v)) L).length<=L.length:=PB _ _;omega
theorem eW(ps:List PS)(act:Nat)(lF oF:Nat->Nat)(WL:List Nat):∀k,k<=WL.length->(∀x∈gB ps act lF oF (WL.take k),x∈WL)/\(gB ps act lF oF (WL.take k)).length<=k
 |0,_=>⟨fun x hx=>by simp[gB]at hx,by simp[gB]⟩
 |k+1,hk=>by
  obtain⟨h1,h2⟩:=eW ps act lF oF WL k zaa;obtain⟨v,hv⟩:∃v,WL[k]?=some v:=⟨_,Ou zaa⟩;have e:WL.take (k+1)=WL.take k++[v]:=by rw[PQ,hv];rfl
  rw[e,sj];refine⟨fun x hx=>?_,Ox (Jy ..) zaa⟩
  rcases Bf hx with rfl|hx
  ·exact OG hv
  ·exact h1 x hx
end Y
theorem Gl(w:World)(lo:Nat)(pb b N cap:Nat)(hv:Value)(fin mbm n:Nat)(T:()->Option (List (Option Y.PM)))(M:()->Option Nat)(L:Nat->List (Option Nat))(ev:())(s:Nat)(h:Y.EB w lo pb b N cap hv fin mbm n T M L)(Vg:ev.size<=1000000)(hs:s<4294967296)(Ux:∀i,i∈Y.els s->i<N)(hg:1<w.heap.size)(hT:TabAt 1 Lib.deBruijn32tab w):
  () 201 #[pb,ev,.int .u32 s] w fun e w'=>∃v:U.Sl,e=.returned (.slice v.a v.n v.c)/\Y.TkS w' w (.slice v.a v.n v.c) (Y.gJ M L ev (Y.els s))/\Below w w w':=by
 unfold Y.gJ;cases hM:M ev with
 |none=>
  refine(Bq w pb b cap N hv fin mbm n M ev s h.pl h.tab.map Vg hM).mono ?_;rintro e w' ⟨rfl,hb⟩;exact⟨⟨none,0,0⟩,rfl,⟨rfl,.inl ⟨rfl,rfl⟩⟩,hb⟩
 |some g=>
  obtain⟨h1,h2,row,h3,h4,h5⟩:=h.tab.row ev g hM;refine(Dv w pb b cap N hv fin mbm n M ev s g (L g) h.pl h.tab.map Vg hM h1 h2 hs Ux (fun i q hq=>?_) hg hT).mono ?_
  ·have:=h5 i;rw[hq]at this;cases hr:row[i]? with
   |none=>rw[hr]at this;exact this.elim
   |some z=>
    rw[hr]at this;cases z with
    |none=>exact this.elim
    |some z=>
     obtain⟨fv,hm,_⟩:=(this:Y.eI w pb b q z);exact⟨_,hm⟩
  ·rintro e w' ⟨v,rfl,hr,hb⟩;exact⟨v,rfl,hr,hb⟩
theorem BX(w:World)(lo:Y.Lo)(mb pb b cap:Nat)(r:Y.RSt)(ps:List Y.PS)(fin:Nat)(EN LV:Nat->List Y.PA)(hv:Value)(mbm n:Nat)(T:()->Option (List (Option Y.PM)))(M:()->Option Nat)(Lr:Nat->List (Option Nat))(ev:())(lF oF:Nat->Nat)(WL:List Nat)(hWL:WL=Y.gJ M Lr ev (Y.els (Y.inn ps r.act)))(hP:Y.gy w lo pb b cap ps fin EN LV)(hMv:Y.EB w lo pb b ps.length cap hv fin mbm n T M Lr)(h:Y.MT w lo mb pb r)(Vg:ev.size<=1000000)(Ux:∀i,i∈Y.els r.act->i<ps.length)(XW:∀i,i∈Y.els (Y.inn ps r.act)->i<ps.length)(hMB:∀x∈WL,Y.MvB w x (oF x) (lF x)/\oF x<ps.length):
  () 151 #[mb,ev] w fun e w'=>∃sv,e=.returned sv/\Y.TkS w' w sv (Y.gB ps r.act lF oF WL)/\Below w w w':=by
 have TW:=hP.lw;have TT:=h.lo';have Zl:=hP.bG.len;have hinl:Y.inn ps r.act<4294967296:=Y.Ig ps h.act;have hwl:WL.length<=32:=by
  rw[hWL];exact zdq
 have hRo:∀V,Below w w V->Y.Rf lo w V:=fun V hV=>Y.RfE.of hV TT;have hin0:∀V,Below w w V->() 107 #[pb,.int .u32 r.act] V fun e w'=>e=.returned (.int .u32 (Y.inn ps r.act))/\Below w w w':=fun V hV=>(ny V pb b cap ps r.act h.act Ux (hP.below (hV.mono TT)).bG (by have:=hV.size;have:=hP.pb';omega) (by have:=hV.size;have:=hP.b';omega) zbJ (Y.b8 TW (hV.mono TT) h.tab5)).mono (fun e w' x=>⟨x.1,hV.trans (x.2.mono hV.size)⟩);have hwa:∀V,Below w w V->() 201 #[pb,ev,.int .u32 (Y.inn ps r.act)] V fun e w'=>∃v:U.Sl,e=.returned (.slice v.a v.n v.c)/\Y.TkS w' w (.slice v.a v.n v.c) WL/\Below w w w':=fun V hV=>(Gl V lo pb b ps.length cap hv fin mbm n T M Lr ev _ (hMv.rf (hRo V hV) hP.pb') Vg hinl XW zbJ (Y.b8 TW (hV.mono TT) h.tab5)).mono (fun e w' x=>by
  obtain⟨v,x1,x2,x3⟩:=x;exact⟨v,x1,by rw[hWL];exact aC x2 hV.size,hV.trans (x3.mono hV.size)⟩)
 have UF:∀V:World,Below w w V->V.cell? mb=some ↑pb/\V.cell? ⟨mb,1,none⟩=some (.int .u32 r.act):=fun V hV=>⟨(h.below TW hV).c0.1,(h.below TW hV).c0.2.1⟩;have UB:=(Oy w w).drew;obtain⟨k1,k2⟩:=UF _ UB;obtain⟨inn,Xz⟩:∃i,Y.inn ps r.act=i:=⟨_,rfl⟩;rw[Xz]at hin0 hwa;have HTK:Hid (∀(w3 V:World) (sv:Value) (k x:Nat),Below w w w3->Below w3.heap.size w3 V->WL[k]?=some x->Y.TkS V w3.heap.size sv (Y.gB ps r.act lF oF (WL.take k))->() 202 #[mb,sv,.pointer (some ⟨x,0,none⟩)] V fun e w'=>∃sv',e=.returned sv'/\Y.TkS w' w3.heap.size sv' (Y.gB ps r.act lF oF (WL.take (k+1)))/\Below w3.heap.size w3 w'):=fun w3 V sv k x h3 hV hx hT=>by
  have hwV:=h3.trans (hV.mono h3.size);obtain⟨c1,c2⟩:=Y.eW ps r.act lF oF WL k (by have:=(Oz.1 hx).1;omega);have VI:x∈WL:=OG hx;obtain⟨pv,hpv⟩:∃pv,ps[oF x]?=some pv:=⟨_,Ou (hMB x VI).2⟩;have Vf:=(Oz.1 hx).1;refine(Jz V lo mb pb b cap w3 r ps fin EN LV sv _ x pv lF oF (hP.below (hwV.mono TT)) (h.below TW hwV) hT (by have:=h3.size;omega) hV.size zaa (fun y hy=>?_) hpv).mono ?_
  ·have hyl:y∈WL:=by
    rcases hy with rfl|hy
    ·exact VI
    ·exact c1 y hy
   exact⟨(hMB y hyl).1.below hwV,by have:=(hMB y hyl).2;omega⟩
  ·rintro e w' ⟨sv',rfl,a,m⟩;refine⟨sv',rfl,?_,m.below hV hV.size (fun i hi e=>by have:=(hT.kind i e).1;omega)⟩;have e1:WL.take (k+1)=WL.take k++[x]:=by rw[PQ,hx];rfl
   have e2:Y.arA ps (oF x)=pv.around:=by unfold Y.arA;rw[hpv]
   rw[e1,Y.sj,e2];exact a
 clear h hP hMv hRo hMB hWL Ux XW Xz;go_enter func151,ntmps151
 go_upto_region 2 with fail
 refine OQ (S:=(fun V=>V.cell? mb=some ↑pb/\V.cell? ⟨mb,1,none⟩=some (.int .u32 r.act))) zab ⟨k1,k2⟩ (fun u0=>?_);refine tD (some 8) 0 mb rfl u0 ?_;refine tD (some 9) 1 mb rfl u0 ?_;refine tD (some 10) 2 mb rfl u0 ?_;refine tD (some 11) 3 pb rfl u0 ?_;refine tD (some 12) 4 (.string ev) rfl u0 ?_;refine tD (some 13) 5 mb rfl u0 ?_;refine tD (some 14) 6 mb rfl u0 ?_;refine tD (some 15) 7 mb rfl u0 ?_;refine tD (some 16) 8 pb rfl u0 ?_;refine tD (some 17) 9 mb rfl u0 ?_;refine tD (some 18) 10 mb rfl u0 ?_;refine tD (some 19) 11 (mb,1) rfl u0 ?_;refine tD (some 20) 12 (.int .u32 r.act) rfl u0 ?_;refine tD (some 24) 16 (.int .i64 0) rfl u0 ?_;refine zH 13 rfl fun K hK=>?_;go_simp;refine(hin0 _ zam).mono ?_;rintro e wA ⟨rfl,hA⟩;refine hK.out _ _ (UF wA hA) (fun u0=>?_);clear hK K;refine zH 14 rfl fun K hK=>?_;go_simp;refine(hwa _ zam).mono ?_;rintro e w3 ⟨v3,rfl,hT3,VP⟩;obtain⟨va,vn,vc⟩:=v3;dsimp only at hT3;obtain⟨a3,c3,YF⟩:=hT3.n;simp only[Value.slice.injEq]at YF;obtain⟨rfl,rfl,rfl⟩:=YF;refine hK.out _ _ (UF w3 VP) (fun u0=>?_);clear hK K;refine tD (some 23) 15 (.int .i64 WL.length) rfl u0 ?_;refine OY zab ?_ _;clear u0;go_wp2
 (try simp only[Act.put,List.setIfInBounds_toArray,List.set_cons_succ,List.set_cons_zero])
 have HC:Hid (∀(k x:Nat) (V:World),Below w3 w3 V->WL[k]?=some x->∃g,va=some ⟨g,0,none⟩/\V.cell? ⟨g,k,none⟩=some (.pointer (some ⟨x,0,none⟩))):=fun k x V hV hx=>by
  rcases hT3.form with⟨_,e2⟩|⟨g,cp,cu,e1,e2,e3,e4⟩
  ·subst e2;simp at hx
  ·simp only[Value.slice.injEq]at e1;obtain⟨rfl,_,rfl⟩:=e1;exact⟨g,rfl,(hV.cell (p:=(g,k)) (Ov.1 e4.blk).1).trans (e4.cell hx)⟩
 go_loopw[24,5] (fun i t wr=>∃(k:Nat),i=.int .i64 k/\k<=WL.length/\Hid (Y.TkS wr w3 t (Y.gB ps r.act lF oF (WL.take k))/\Below w3 w3 wr)) (fun i _ _=>WL.length-(intOf i).toNat)
 case atStart=>exact⟨0,rfl,zaa,⟨rfl,.inl ⟨rfl,rfl⟩⟩,Oy _ _⟩
 case round=>
  obtain⟨k,rfl,Vf,HI⟩:=hrel;by_cases hk:k<WL.length
  ·obtain⟨x,hx⟩:∃x,WL[k]?=some x:=⟨_,Ou hk⟩;obtain⟨g,ha,hcx⟩:=HC.out k x wr HI.out.2 hx;subst ha;have UY:=HTK.out w3 wr u5 k x VP HI.out.2 hx HI.out.1;have hki:((k:Int)<(WL.length:Int)):=zaa;clear hT3 hx;go_wp2_with(go_at_call 202;refine UY.mono ?_;intro e w9 h9;obtain⟨sv9,rfl,t9,b9⟩:=h9;have T9:Hid _:=t9;clear t9)
   go_roundw
   case rel=>exact⟨k+1,zad,zaa,T9.out,b9⟩
   case measure=>simp only[intOf];omega
  ·obtain rfl:k=WL.length:=zaa;have HF:=HI.out;rw[Pw]at HF;have HF2:Hid _:=HF;clear HF;go_wp2;go_ret;exact⟨_,rfl,aC HF2.out.1 VP.size,VP.trans (HF2.out.2.mono VP.size)⟩
