import Derived.Test.YtibbecdlllchkaaGreatDoorM06
set_option maxRecDepth 100000
set_option maxHeartbeats 8000000
namespace Go.Proofs.YtibbecdlllchkaaGreatDoor
variable {zp:Prop}
theorem zcH(h:zp:=by
 refine tD (some 27) 5 mb rfl Pm ?_;refine tD (some 28) 6 mb rfl Pm ?_;refine tD (some 29) 7 (mb,1) rfl Pm ?_;refine tD (some 30) 8 (.int .u32 Rk.act) rfl Pm ?_;refine tD (some 32) 10 mb rfl Pm ?_;refine tD (some 33) 11 (mb,2) rfl Pm ?_;refine zH 9 rfl fun K hK=>?_;go_simp;refine hca.mono ?_;rintro e w9 ⟨rfl,VW⟩;obtain⟨x1,x2,x3,u,x4⟩:=HC.out w9 kv (Vh.drew.trans (VW.mono zad));have X1:Hid _:=x1;have X2:Hid _:=x2;clear x1 x2;refine hK.out _ _ (VO w9 VW) (fun Pm=>?_);clear hK K;refine tD (some 34) 12 (mb,2+hx) rfl Pm ?_;refine zH 13 rfl fun K hK=>?_;go_simp;refine hK.out _ _ (by
  have e:∀(a:Addr),a≠⟨mb,2+hx,none⟩->∀v,(w9.setCell (mb,2+hx) v).cell? a=w9.cell? a:=fun a ha v=>aA (fun h=>ha h.symm)
  (try dsimp only at Pm);(try dsimp only)
  rw[e _ zak,e _ zak,e _ zak];exact Pm) (fun Pm=>?_)
 clear hK K Pm;refine PX zab ?_ _
 (try simp only[Act.put,List.setIfInBounds_toArray,List.set_cons_succ,List.set_cons_zero])
 go_wp2
 go_roundw
 case rel=>exact⟨k+1,zad,zaa,by rw[HN.out,if_pos trivial];exact X1.out,X2.out⟩
 case measure=>simp only[intOf];omega):zp:=h
theorem zcS(h:zp:=by
 have h0:Mo (fun k=>Value.ownBlock (.slice sa L.length sc)=some k) w w2.drew:=az (hB.trans (WM.mono hB.size));have ZC:∀W:World,Mo (fun k=>Value.ownBlock (.slice sa L.length sc)=some k) W (W.alloc (.cells #[v] 267)):=fun W=>az ((Pq _ W).alloc (Po _) _)
 first
  |exact((h0.trans Zv).trans (ZC _)).trans ZE
  |exact((h0.trans (ZC _)).trans Zv).trans ZE):zp:=h
theorem zc5(h:zp:=by
 unfold Y.ia;split
 ·simp
 ·have h1:=Y.nU (L:=Lr ‹_›) (Y.els (Y.inn ps r.act)) [];have h2:(Y.els (Y.inn ps r.act)).length<=32:=by
   have:=QI (Y.inn ps r.act).testBit (List.range 32);exact zfG
  unfold Y.dO;simp at h1;omega):zp:=h
theorem zda(h:zp:=by
 go_wp2_with(go_at_call 204;refine hha.mono ?_;rintro e w9 ⟨rfl,U1⟩;rw[U1];clear U1 w9)
 go_roundw
 case rel=>exact⟨k+1,zad,zaa,zcm,HRF.out.trans (Y.RfE.of Vh hlr)⟩
 case measure=>simp only[intOf];omega):zp:=h
theorem zdc(h:zp:=by
 go_roundw
 case rel=>exact⟨k+1,zad,zaa,fun j y hj hy=>by
  by_cases e:j=k
  ·subst e;rw[HX.out]at hy;cases hy
   exact HB.out
  ·exact HK.out.1 j y zaa hy,VW⟩
 case measure=>simp only[intOf];omega):zp:=h
theorem zdg(h:zp:=by
 obtain rfl:k=L.length:=zaa;have HN:Hid (Y.ixF p L=-1):=Y.tE fun y hy=>by
  obtain⟨j,hj⟩:=P5.1 hy;exact HK.out.1 j y (Ps.1 hj).1 hj
 go_wp2;go_ret;exact⟨by rw[HN.out];rfl,HK.out.2⟩):zp:=h
theorem zds(h:zp:=by
 refine PX zab ?_ _;clear Pm
 (try simp only[Act.put,List.setIfInBounds_toArray,List.set_cons_succ,List.set_cons_zero])
 go_wp2;go_ret;exact⟨rfl,zal⟩):zp:=h
theorem zdD(h:zp:=by
 rcases h.2 with⟨a,b⟩|⟨g,cap,cur,a,b,c,_⟩
 ·subst a;cases hk
 ·subst a;cases hk
  exact⟨b,(Pn.1 c).1,cur,c⟩):zp:=h
theorem zdV(h:zp:=by
 rcases h.2 with⟨a,b⟩|⟨g,cap,cur,a,_⟩
 ·exact⟨none,0,by rw[a,b]⟩
 ·exact⟨_,_,a⟩):zp:=h
theorem zeH(h:zp:=by
 go_ret;exact⟨by rw[Y.C5 HX.out HB.out HK.out.1];rfl,VW⟩):zp:=h
theorem zau(h:zp:=by unfold dc;decide):zp:=h
theorem zaM(h:zp:=by simp at hu;subst hu;rfl):zp:=h
theorem zbe(h:zp:=by first|exact WM|exact VK):zp:=h
theorem zbJ(h:zp:=by have:=hV.size;have:=Vc.g5;omega):zp:=h
theorem zbW(h:zp:=by have:=(hk _ e).2.1;omega):zp:=h
theorem zbY(h:zp:=by have:=(hP k hp).1;omega):zp:=h
theorem zcb(h:zp:=by have:=(HKD.out _ e).2.1;have:w2.drew.heap.size=w2.heap.size:=rfl;have:=U4.size;omega):zp:=h
theorem zcm(h:zp:=by rw[HN.out,if_neg (by decide)];exact hMk.below Vc Vh):zp:=h
open Tryz
variable {W W' w w':World}{base pb mb m o l g cap j x:Nat}{lo:Y.Lo}{r:Y.RSt}{P:Nat->Prop}{L:List Nat}{cur:Array Value}{sv:Value}
section
open Go.RowKit Go.Proofs Go.Shelf
theorem Kd.row{E:TypeId->Prop}{size n:Nat}{e:TypeId}{v:Value}{xs:List Value}(hk:Kd E W W')(h:W.ownsRow base e size v n xs)(hE:¬E e):W'.ownsRow base e size v n xs:=by
 refine⟨h.1,?_⟩
 rcases h.2 with h'|⟨k,cap,cur,hv,hb,VB,r⟩
 ·exact .inl h'
 ·exact .inr ⟨k,cap,cur,hv,hb,(hk.aq _ _ _ _ VB hE).trans VB,r⟩
namespace Y
def oe(ps:List PS)(act:Nat)(deep:Bool)(po:PS):Nat:=if deep then inn ps act&&&po.inside else act&&&po.parts
structure zL(w:World)(pb:Nat)(ps:List PS)(hv:U.Sl)(H:List HV)(D:Nat->Bool):Prop where
 c1:w.cell? (pb,1)=some hv.v
 row:w.ownsRow 0 264 3 hv.v H.length (H.flatMap HV.cells)
 aq:∀(k:Nat) (h:HV),H[k]?=some h->h.idx<24/\h.own<ps.length/\∃po,ps[h.own]?=some po/\k8 w pb (D k) po h.aq
 len:H.length<=24
theorem zL.rf{ps:List PS}{hv:U.Sl}{H:List HV}{D:Nat->Bool}(h:zL w pb ps hv H D)(hR:Rf lo w w')(Vo:pb<lo):zL w' pb ps hv H D:=
 ⟨(hR.bel.cell (p:=⟨pb,1,none⟩) Vo).trans h.c1,Kd.row hR.kd h.row zau,fun k y hy=>by
  obtain⟨a,b,po,c,d⟩:=h.aq k y hy;exact⟨a,b,po,c,d.kd hR.kd zau zau⟩,h.len⟩
def nX(ps:List PS)(left:Nat)(D:Nat->Bool)(H:List HV)(r:RSt)(k:Nat):RSt:=match H[k]? with
 |none=>r
 |some h=>match ps[h.own]? with
  |none=>r
  |some po=>if left.testBit h.own then{ r with kept:=upd r.kept h.idx (oe ps r.act (D k) po) } else r
def fE(ps:List PS)(left:Nat)(D:Nat->Bool)(H:List HV)(r:RSt)(n:Nat):RSt:=(List.range n).foldl (nX ps left D H) r
theorem oH(ps:List PS)(left:Nat)(D:Nat->Bool)(H:List HV)(r:RSt)(n:Nat):fE ps left D H r (n+1)=nX ps left D H (fE ps left D H r n) n:=by unfold fE;rw[Ty,QQ];rfl
theorem wF(ps:List PS)(left:Nat)(D:Nat->Bool)(H:List HV)(r:RSt)(k:Nat):(nX ps left D H r k).act=r.act/\(nX ps left D H r k).q=r.q/\(nX ps left D H r k).tm=r.tm/\(nX ps left D H r k).now=r.now/\(nX ps left D H r k).fin=r.fin:=by
 unfold nX;split
 ·simp
 ·split
  ·simp
  ·split<;>simp
theorem jE(ps:List PS)(left:Nat)(D:Nat->Bool)(H:List HV)(r:RSt):∀n,(fE ps left D H r n).act=r.act/\(fE ps left D H r n).q=r.q/\(fE ps left D H r n).tm=r.tm/\(fE ps left D H r n).now=r.now/\(fE ps left D H r n).fin=r.fin
 |0=>⟨rfl,rfl,rfl,rfl,rfl⟩
 |n+1=>by
  obtain⟨a,b,c,d,e⟩:=jE ps left D H r n;obtain⟨a',b',c',d',e'⟩:=wF ps left D H (fE ps left D H r n) n;rw[oH];exact⟨a'.trans a,b'.trans b,c'.trans c,d'.trans d,e'.trans e⟩
end Y
theorem Y.MT.My(h:Y.MT W lo mb pb r)(hl:Y.Lw lo)(i a:Nat)(hi:i<24):Y.MT (W.setCell (mb,2+i) (.int .u32 a)) lo mb pb { r with kept:=Y.upd r.kept i a }/\Y.Rf lo W (W.setCell (mb,2+i) (.int .u32 a)):=by
 obtain⟨qv,wh,m,b⟩:=h.ex;have hM:Y.aw (W.setCell (mb,2+i) (.int .u32 a)) lo mb pb qv (({ r with kept:=Y.upd r.kept i a }:Y.RSt).m wh):=m.set (2+i) _ _ zaa rfl (fun j hj=>by
  by_cases e:j=2+i
  ·subst e;rw[PC rfl];unfold Y.fF;rw[Pu zaa,Pu zaa,PC zaa,show 2+i-2=i by omega];show Value.int .u32 ((Y.upd r.kept i a i:Nat):Int)=_;rw[Y.aE]
  ·rw[Pu e];unfold Y.fF;by_cases h2:j<26/\2<=j
   ·rw[Pu zaa,Pu zaa,PC zaa,Pu zaa,Pu zaa,PC zaa];show Value.int .u32 ((Y.upd r.kept i a (j-2):Nat):Int)=_;rw[Y.aH _ _ zaa];rfl
   ·by_cases h0:j=0
    ·subst h0;rfl
    ·by_cases h1:j=1
     ·subst h1;rfl
     ·simp only[if_neg h0,if_neg h1,if_neg (show ¬j<26 by omega)];rfl)
 have hR:Y.Rq lo W (W.setCell (mb,2+i) (.int .u32 a)):=Y.RfE.mo (P:=(·=mb)) ((Mo.refl _ _).set _ _ rfl) (fun k hk=>by
  obtain⟨arr,a1,_⟩:=m.blk;subst hk;exact⟨m.lo',arr,_,_,a1,.inl rfl⟩) h.lo'
 exact⟨h.rq hl b hM hR rfl rfl h.act,Y.xh hR⟩
theorem Jp(w:World)(lo:Y.Lo)(mb pb b cap:Nat)(r:Y.RSt)(ps:List Y.PS)(fin left:Nat)(EN LV:Nat->List Y.PA)(hv:U.Sl)(H:List Y.HV)(D:Nat->Bool)(hP:Y.gN w lo pb b cap ps fin EN LV)(hH:Y.zL w pb ps hv H D)(h:Y.MT w lo mb pb r)(hs:left<4294967296)(V9:∀i∈Y.els r.act,i<ps.length):
  () 156 #[mb,.int .u32 left] w fun e w'=>e=.returned (.tuple #[])/\Y.MT w' lo mb pb (Y.fE ps left D H r H.length)/\Y.Rf lo w w':=by
 have Vc:=hP.lw;obtain⟨m0,_,_⟩:=h.c0;have Yy:=hH.c1;have hHl:=hH.len;have hnH:hv.n=H.length:=by
  rcases hH.row.2 with⟨h0,h1⟩|⟨g,cap,cur,hv,_⟩
  ·unfold U.Sl.v at h0;simp at h0;omega
  ·unfold U.Sl.v at hv;simp at hv;exact hv.2.1
 obtain⟨ha,hn,hc⟩:=hv;dsimp only at hnH;subst hnH;unfold U.Sl.v at Yy;have H0:Hid _:=h;have HP:Hid _:=hP;have HH:Hid _:=hH;clear h hP hH;go_enter func156,ntmps156;go_wp2
 go_loopw[14] (fun i wr=>∃k:Nat,i=.int .i64 k/\k<=H.length/\Hid (Y.MT wr lo mb pb (Y.fE ps left D H r k)/\Y.Rf lo w wr)) (fun i _=>H.length-(intOf i).toNat)
 case atStart=>exact⟨0,rfl,zaa,H0.out,Y.RfE.refl _ _⟩
 case round=>
  obtain⟨k,rfl,WN,HM⟩:=hrel;clear m0 Yy;by_cases hk:k<H.length
  ·have hki:((k:Int)<(H.length:Int)):=zaa;obtain⟨hh,hhk⟩:∃hh,H[k]?=some hh:=⟨_,Pp hk⟩;have HR0:=HH.out.rf HM.out.2 HP.out.pb';obtain⟨kL,U2,po,WZ,X4⟩:=HR0.aq k hh hhk;obtain⟨g,cap',hgv⟩:=U.dy HR0.row zaa;unfold U.Sl.v at hgv;simp only[Value.slice.injEq]at hgv;obtain⟨rfl,_,rfl⟩:=hgv;have U5:=HR0.row;unfold U.Sl.v at U5;dsimp only at U5;have hHk:H[k]=hh:=by rw[Pp hk]at hhk;exact Qh hhk
   have cc:∀j,j<3->wr.cell? ⟨g,k*3+j,none⟩=hh.cells[j]?:=fun j hj=>by
    have:=Row.cell (f:=Y.HV.cells) (n:=3) (fun _=>rfl) (show Row wr 264 3 Y.HV.cells (.slice g H.length hc) H from U5) hj hk;rw[hHk]at this;exact this
   have c0:wr.cell? (g,k*3)=some ↑(hh.idx:Int):=cc 0 zac;have c1:wr.cell? (g,k*3+1)=some ↑(hh.own:Int):=cc 1 zac;have c2:wr.cell? (g,k*3+2)=some hh.aq:=cc 2 zac;have ho32:hh.own<32:=by have:=HP.out.bJ.len;omega
   have Vz:=HP.out.below HM.out.2.bel;obtain⟨Rk,hRk⟩:∃Rk,Y.fE ps left D H r k=Rk:=⟨_,rfl⟩;have hMk:Y.MT wr lo mb pb Rk:=hRk▸HM.out.1;have XE:=hMk.act;have hina:∀i,i∈Y.els Rk.act->i<ps.length:=fun i hi=>V9 i (by rw[<- hRk,(Y.jE ps left D H r k).1]at hi;exact hi);have HN:Hid (Y.fE ps left D H r (k+1)=if left.testBit hh.own then{ Rk with kept:=Y.upd Rk.kept hh.idx (Y.oe ps Rk.act (D k) po) } else Rk):=by
    unfold Hid;rw[Y.oH,hRk];unfold Y.nX;rw[hhk];dsimp only;rw[WZ]
   have HRF:Hid (Y.Rf lo w wr):=HM.out.2;have hlr:=hMk.lo';clear HM hRk HR0 cc U5 hHk hhk;have hha:=yy left hh.own (wr.alloc (.cells #[(hh.idx:Int),(hh.own:Int),hh.aq] 264)) ho32 hs;have Vh:Below wr wr (wr.alloc (.cells #[(hh.idx:Int),(hh.own:Int),hh.aq] 264)):=(Pq _ wr).alloc (Po _) _;have V5:=i1 c0;have Xr:=hMk.lt;obtain⟨bt,hbt⟩:∃bt,left.testBit hh.own=bt:=⟨_,rfl⟩;rw[hbt]at hha HN;obtain⟨m0,m1,mf⟩:=hMk.c0;have HC:Hid (∀(V:World) (a:Nat),Below wr wr V->Y.MT (V.setCell (mb,2+hh.idx) (.int .u32 a)) lo mb pb { Rk with kept:=Y.upd Rk.kept hh.idx a }/\Y.Rf lo w (V.setCell (mb,2+hh.idx) (.int .u32 a))/\V.frozen? (mb,2+hh.idx)=false/\∃u,V.cell? (mb,2+hh.idx)=some u):=fun V a hV=>by
    have h9:=hMk.below Vc hV;obtain⟨x1,x2⟩:=h9.My Vc hh.idx a kL;obtain⟨_,_,xf⟩:=h9.c0;obtain⟨qv,wh,m,_⟩:=h9.ex;exact⟨x1,HRF.out.trans ((Y.RfE.of hV hlr).trans x2),xf _,_,m.cell (2+hh.idx) zaa⟩
   obtain⟨hx,hy,hkp⟩:=hh;dsimp only at *;have hidx':((hx:Int)<24):=zaa;cases hD:D k
   ·rw[hD]at X4 HN;obtain⟨c,XK,hkv⟩:=X4;simp only[Bool.false_eq_true,if_false]at hkv;subst hkv;have Vu:c<wr.heap.size:=(Pn.1 XK).1;have Y3:Hid (∀V:World,Below wr wr V->() 107 #[.int .u32 Rk.act,c] V fun e w'=>e=.returned (.int .u32 ((Y.oe ps Rk.act false po:Nat):Int))/\Below V.heap.size V w'):=fun V hV=>by
     unfold Y.oe;refine(yF V c Rk.act po.parts XE (Vz.bJ.sm hy po WZ).hp ((hV.cell (p:=⟨c,4,none⟩) Vu).trans (by rw[Pt wr _ _ _ _ _ XK];rfl))).mono ?_;rintro e w' ⟨rfl,rfl⟩;exact⟨by rw[Pu zac],Pq _ _⟩
    have hst:∀(W:World) (a:Addr),(store a (.func (.func 107) #[] #[c])).run prog W=stored prog W a (.func (.func 107) #[] #[c]) .plain:=fun W a=>UH _ W a _ _ rfl;obtain⟨kv,hkv⟩:∃kv,Y.oe ps Rk.act false po=kv:=⟨_,rfl⟩;rw[hkv]at Y3 HN;cases bt
    ·exact zda
    ·go_wp2_with(go_at_call 204;refine hha.mono ?_;rintro e w9 ⟨rfl,U1⟩;rw[U1];clear U1 w9);have v0:(wr.alloc (.cells #[(hx:Int),(hy:Int),(.func (.func 107) #[] #[c])] 264)).drew.cell? wr=some ↑(hx:Int):=Pt _ _ 0 _ _ (0,0) (show(wr.alloc _).heap[wr.heap.size]?=some _ from PG wr _);have v2:(wr.alloc (.cells #[(hx:Int),(hy:Int),(.func (.func 107) #[] #[c])] 264)).drew.cell? (wr,2)=some (.func (.func 107) #[] #[c]):=Pt _ _ 2 _ _ (0,0) (show(wr.alloc _).heap[wr.heap.size]?=some _ from PG wr _);have v1:(wr.alloc (.cells #[(hx:Int),(hy:Int),(.func (.func 107) #[] #[c])] 264)).drew.cell? (mb,1)=some (.int .u32 Rk.act):=(Vh.drew.cell (p:=⟨mb,1,none⟩) Xr).trans m1;have hca:=Y3.out _ Vh.drew;clear hha hst c0 c1 c2;have VO:∀V:World,Below (wr.alloc (.cells #[(hx:Int),(hy:Int),(.func (.func 107) #[] #[c])] 264)).drew.heap.size (wr.alloc (.cells #[(hx:Int),(hy:Int),(.func (.func 107) #[] #[c])] 264)).drew V->(fun V=>V.cell? wr=some ↑(hx:Int)/\V.cell? ⟨wr,2,none⟩=some (.func (.func 107) #[] #[c])/\V.cell? ⟨mb,1,none⟩=some (.int .u32 Rk.act)) V:=fun V hV=>⟨(hV.cell (p:=wr) zad).trans v0,(hV.cell (p:=⟨wr,2,none⟩) zad).trans v2,(hV.cell (p:=⟨mb,1,none⟩) (by show mb<_;simp;omega)).trans v1⟩;refine PJ (S:=(fun V=>V.cell? wr=some ↑(hx:Int)/\V.cell? ⟨wr,2,none⟩=some (.func (.func 107) #[] #[c])/\V.cell? ⟨mb,1,none⟩=some (.int .u32 Rk.act))) zab ⟨v0,v2,v1⟩ (fun Pm=>?_);refine tD (some 22) 0 mb rfl Pm ?_;refine tD (some 23) 1 wr rfl Pm ?_;refine tD (some 24) 2 (.int .i64 hx) rfl Pm ?_;refine tD (some 25) 3 (wr,2) rfl Pm ?_;refine tD (some 26) 4 (.func (.func 107) #[] #[c]) rfl Pm ?_;exact zcH
   ·rw[hD]at X4 HN;obtain⟨c,XK,hkv⟩:=X4;simp only[if_true]at hkv;obtain⟨d,hkv,hdb⟩:=hkv;subst hkv;have Vu:c<wr.heap.size:=(Pn.1 XK).1;have Y3:Hid (∀V:World,Below wr wr V->() 108 #[.int .u32 Rk.act,d,c] V fun e w'=>e=.returned (.int .u32 ((Y.oe ps Rk.act true po:Nat):Int))/\Below V.heap.size V w'):=fun V hV=>by
     unfold Y.oe;refine(yE V pb b cap ps c d Rk.act po.inside XE (Vz.bJ.sm hy po WZ).hi hina (Vz.below (hV.mono hlr)).bJ (by have:=hV.size;have:=Vz.pb';omega) (by have:=hV.size;have:=Vz.b';omega) zbJ (Y.cC Vc (hV.mono hlr) hMk.tab5) (aD hdb hV hdb.lt) (by have:=hV.size;omega) ((hV.cell (p:=⟨c,5,none⟩) Vu).trans (by rw[Pt wr _ _ _ _ _ XK];rfl))).mono ?_;rintro e w' ⟨rfl,hb⟩;exact⟨by rw[PC rfl],hb⟩
    have hst:∀(W:World) (a:Addr),(store a (.func (.func 108) #[] #[d,c])).run prog W=stored prog W a (.func (.func 108) #[] #[d,c]) .plain:=fun W a=>UH _ W a _ _ rfl;obtain⟨kv,hkv⟩:∃kv,Y.oe ps Rk.act true po=kv:=⟨_,rfl⟩;rw[hkv]at Y3 HN;cases bt
    ·exact zda
    ·go_wp2_with(go_at_call 204;refine hha.mono ?_;rintro e w9 ⟨rfl,U1⟩;rw[U1];clear U1 w9);have v0:(wr.alloc (.cells #[(hx:Int),(hy:Int),(.func (.func 108) #[] #[d,c])] 264)).drew.cell? wr=some ↑(hx:Int):=Pt _ _ 0 _ _ (0,0) (show(wr.alloc _).heap[wr.heap.size]?=some _ from PG wr _);have v2:(wr.alloc (.cells #[(hx:Int),(hy:Int),(.func (.func 108) #[] #[d,c])] 264)).drew.cell? (wr,2)=some (.func (.func 108) #[] #[d,c]):=Pt _ _ 2 _ _ (0,0) (show(wr.alloc _).heap[wr.heap.size]?=some _ from PG wr _);have v1:(wr.alloc (.cells #[(hx:Int),(hy:Int),(.func (.func 108) #[] #[d,c])] 264)).drew.cell? (mb,1)=some (.int .u32 Rk.act):=(Vh.drew.cell (p:=⟨mb,1,none⟩) Xr).trans m1;have hca:=Y3.out _ Vh.drew;clear hha hst c0 c1 c2;have VO:∀V:World,Below (wr.alloc (.cells #[(hx:Int),(hy:Int),(.func (.func 108) #[] #[d,c])] 264)).drew.heap.size (wr.alloc (.cells #[(hx:Int),(hy:Int),(.func (.func 108) #[] #[d,c])] 264)).drew V->(fun V=>V.cell? wr=some ↑(hx:Int)/\V.cell? ⟨wr,2,none⟩=some (.func (.func 108) #[] #[d,c])/\V.cell? ⟨mb,1,none⟩=some (.int .u32 Rk.act)) V:=fun V hV=>⟨(hV.cell (p:=wr) zad).trans v0,(hV.cell (p:=⟨wr,2,none⟩) zad).trans v2,(hV.cell (p:=⟨mb,1,none⟩) (by show mb<_;simp;omega)).trans v1⟩;refine PJ (S:=(fun V=>V.cell? wr=some ↑(hx:Int)/\V.cell? ⟨wr,2,none⟩=some (.func (.func 108) #[] #[d,c])/\V.cell? ⟨mb,1,none⟩=some (.int .u32 Rk.act))) zab ⟨v0,v2,v1⟩ (fun Pm=>?_);refine tD (some 22) 0 mb rfl Pm ?_;refine tD (some 23) 1 wr rfl Pm ?_;refine tD (some 24) 2 (.int .i64 hx) rfl Pm ?_;refine tD (some 25) 3 (wr,2) rfl Pm ?_;refine tD (some 26) 4 (.func (.func 108) #[] #[d,c]) rfl Pm ?_;exact zcH
  ·obtain rfl:k=H.length:=zaa;go_wp2;go_end0;exact⟨rfl,HM.out⟩
namespace Y
structure MvB(W:World)(m o l:Nat):Prop where
 c0:W.cell? m=some ↑(o:Int)
 c1:W.cell? (m,1)=some (.int .u32 l)
 hl:l<4294967296
 ty:∃c,W.heap[m]?=some (.cells c 270 (0,0))
theorem MvB.lt(h:MvB W m o l):m<W.heap.size:=i1 h.c0
theorem MvB.below(h:MvB W m o l)(hb:Below W W W'):MvB W' m o l:=⟨(hb.cell (p:=m) h.lt).trans h.c0,(hb.cell (p:=⟨m,1,none⟩) h.lt).trans h.c1,h.hl,by
 obtain⟨c,hc⟩:=h.ty;exact⟨c,(hb.block m h.lt).trans hc⟩⟩
theorem MvB.mo(h:MvB W m o l)(hm:Mo P W W')(hn:¬P m):MvB W' m o l:=⟨(hm.cell (p:=m) h.lt hn).trans h.c0,(hm.cell (p:=⟨m,1,none⟩) h.lt hn).trans h.c1,h.hl,by
 obtain⟨c,hc⟩:=h.ty;exact⟨c,(hm.block m h.lt hn).trans hc⟩⟩
def gx(act l1 l2:Nat):Bool:=((l1&&&act)&&&(l2&&&act):Nat) != 0
structure TkB(W:World)(mb v B3 B5:Nat):Prop where
 b3:Boxed W B3 100 mb
 b5:Boxed W B5 267 v
theorem TkB.below{v B3 B5:Nat}(h:TkB W mb v B3 B5)(hb:Below W W W'):TkB W' mb v B3 B5:=⟨aD h.b3 hb h.b3.lt,aD h.b5 hb h.b5.lt⟩
end Y
theorem mI(w:World)(lo:Y.Lo)(mb pb:Nat)(r:Y.RSt)(m o l:Nat)(h:Y.MT w lo mb pb r)(hm:Y.MvB w m o l):
  () 155 #[mb,m] w fun e w'=>e=.returned (.int .u32 ((l&&&r.act:Nat):Int))/\Below w w w':=by
 obtain⟨qv,wh,a,b⟩:=h.ex;exact De w lo mb pb qv (r.m wh) m l a h.act hm.hl hm.c1
theorem qS(w:World)(lo:Y.Lo)(mb pb:Nat)(r:Y.RSt)(t ot lt v ov lv B3 B5:Nat)(hl:Y.Lw lo)(h:Y.MT w lo mb pb r)(ht:Y.MvB w t ot lt)(hv:Y.MvB w v ov lv)(hb:Y.TkB w mb v B3 B5):
  () 238 #[t,B3,B5] w fun e w'=>e=.returned (.bool (Y.gx r.act lt lv))/\Below w w w':=by
 have Vd:∀V,Below w w V->() 155 #[mb,t] V fun e w'=>e=.returned (.int .u32 ((lt&&&r.act:Nat):Int))/\Below w w w':=fun V hV=>(mI V lo mb pb r t ot lt (h.below hl hV) (ht.below hV)).mono (fun e w' x=>⟨x.1,hV.trans (x.2.mono hV.size)⟩);have Yp:∀V,Below w w V->() 155 #[mb,v] V fun e w'=>e=.returned (.int .u32 ((lv&&&r.act:Nat):Int))/\Below w w w':=fun V hV=>(mI V lo mb pb r v ov lv (h.below hl hV) (hv.below hV)).mono (fun e w' x=>⟨x.1,hV.trans (x.2.mono hV.size)⟩);have l1:lt&&&r.act<4294967296:=Qq Rh ht.hl;have l2:lv&&&r.act<4294967296:=Qq Rh hv.hl;have hand:=SW _ _ l1 l2;have Vu:Y.gx r.act lt lv=(((((lt&&&r.act)&&&(lv&&&r.act):Nat):Nat):Int) != 0):=by
  unfold Y.gx;cases hx:((lt&&&r.act)&&&(lv&&&r.act):Nat) with
  |zero=>rfl
  |succ n=>simp;omega
 generalize lt&&&r.act=a1 at *;generalize lv&&&r.act=a2 at *;have XF:Hid _:=Vu;clear Vu;have U9:((((a1&&&a2:Nat):Nat):Int) != 0)=Y.gx r.act lt lv:=XF.out.symm;generalize Y.gx r.act lt lv=cb at *;generalize a1&&&a2=a3 at *;have VO:∀V:World,Below w w V->V.cell? B3=some ↑mb/\V.cell? B5=some ↑v:=fun V hV=>⟨(hb.below hV).b3.cell,(hb.below hV).b5.cell⟩;have VL:=(Pq w w).drew;obtain⟨k1,k2⟩:=VO _ VL;clear h ht hv hb l1 l2 XF;go_enter func238,ntmps238
 go_upto_region 1 with fail
 refine PJ (S:=(fun V=>V.cell? B3=some ↑mb/\V.cell? B5=some ↑v)) zab ⟨k1,k2⟩ (fun Pm=>?_);refine tD (some 5) 0 mb rfl Pm ?_;refine tD (some 6) 1 t rfl Pm ?_;refine tD (some 8) 3 mb rfl Pm ?_;refine tD (some 9) 4 v rfl Pm ?_;refine zH 2 rfl fun K hK=>?_;go_simp;refine(Vd _ zal).mono ?_;rintro e wA ⟨rfl,hA⟩;refine hK.out _ _ (VO wA hA) (fun Pm=>?_);clear hK K;refine zH 5 rfl fun K hK=>?_;go_simp;refine(Yp _ zal).mono ?_;rintro e wA ⟨rfl,hA⟩;refine hK.out _ _ (VO wA hA) (fun Pm=>?_);clear hK K;refine tD (some 11) 6 (.int .u32 a3) rfl Pm ?_;refine tD (some 12) 7 (.bool cb) rfl Pm ?_;refine tD (some 4) 8 (.bool cb) rfl Pm ?_;refine PX zab ?_ _;clear Pm
 (try simp only[Act.put,List.setIfInBounds_toArray,List.set_cons_succ,List.set_cons_zero])
 go_wp2;go_ret;exact⟨rfl,zal⟩
theorem D4(w:World)(lo:Y.Lo)(mb pb b cap:Nat)(r:Y.RSt)(ps:List Y.PS)(fin:Nat)(EN LV:Nat->List Y.PA)(t ot lt v ov lv B3 B5 B7:Nat)(pv:Y.PS)(hP:Y.gN w lo pb b cap ps fin EN LV)(h:Y.MT w lo mb pb r)(ht:Y.MvB w t ot lt)(hv:Y.MvB w v ov lv)(hb:Y.TkB w mb v B3 B5)(hpv:ps[ov]?=some pv)(hot:ot<32)
  (h7:Boxed w B7 402 (.func (.func 238) #[] #[B3,B5])):
  () 239 #[t,B7,B3,B5] w fun e w'=>e=.returned (.bool (Y.gx r.act lt lv&&!pv.around.testBit ot))/\Below w w w':=by
 have Vc:=hP.lw;have U8:=h.lo';have Vu:∀V,Below w w V->() 238 #[t,B3,B5] V fun e w'=>e=.returned (.bool (Y.gx r.act lt lv))/\Below w w w':=fun V hV=>(qS V lo mb pb r t ot lt v ov lv B3 B5 Vc (h.below Vc hV) (ht.below hV) (hv.below hV) (hb.below hV)).mono (fun e w' x=>⟨x.1,hV.trans (x.2.mono hV.size)⟩);have hii:∀V,Below w w V->() 240 #[pb,(ov:Int),(ot:Int)] V fun e w'=>e=.returned (.bool (pv.around.testBit ot))/\Below w w w':=fun V hV=>(Jn V pb b cap ps ov ot pv (hP.below (hV.mono U8)).bJ hpv hot).mono (fun e w' x=>⟨x.1,by rw[x.2];exact hV⟩);have VO:∀V:World,Below w w V->V.cell? B7=some (.func (.func 238) #[] #[B3,B5])/\V.cell? B3=some ↑mb/\V.cell? B5=some ↑v/\V.cell? mb=some ↑pb/\V.cell? v=some ↑(ov:Int)/\V.cell? t=some ↑(ot:Int):=fun V hV=>⟨(aD h7 hV h7.lt).cell,(hb.below hV).b3.cell,(hb.below hV).b5.cell,(h.below Vc hV).c0.1,(hv.below hV).c0,(ht.below hV).c0⟩;have VL:=(Pq w w).drew;obtain⟨k1,k2,k3,k4,k5,k6⟩:=VO _ VL;generalize Y.gx r.act lt lv=cb at *;generalize pv.around.testBit ot=ab at *;clear h ht hv hb h7 hP;cases cb
 ·go_enter func239,ntmps239
  go_upto_region 1 with fail
  refine PJ (S:=(fun V=>V.cell? B7=some (.func (.func 238) #[] #[B3,B5])/\V.cell? B3=some ↑mb/\V.cell? B5=some ↑v/\V.cell? mb=some ↑pb/\V.cell? v=some ↑(ov:Int)/\V.cell? t=some ↑(ot:Int))) zab ⟨k1,k2,k3,k4,k5,k6⟩ (fun Pm=>?_);refine tD (some 6) 0 (.func (.func 238) #[] #[B3,B5]) rfl Pm ?_;refine tD (some 7) 1 t rfl Pm ?_;refine zH 2 rfl fun K hK=>?_;go_simp;refine(Vu _ zal).mono ?_;rintro e wA ⟨rfl,hA⟩;refine hK.out _ _ (VO wA hA) (fun Pm=>?_);clear hK K;refine tD (some 9) 3 (.bool false) rfl Pm ?_;refine tU (some 10) 4 rfl Pm ?_;refine tU (some 11) 5 rfl Pm ?_;refine tU (some 12) 6 rfl Pm ?_;refine tU (some 13) 7 rfl Pm ?_;refine tU (some 14) 8 rfl Pm ?_;refine tU (some 15) 9 rfl Pm ?_;refine tU (some 16) 10 rfl Pm ?_;refine tU (some 17) 11 rfl Pm ?_;refine tU (some 18) 12 rfl Pm ?_;refine tU (some 19) 13 rfl Pm ?_;refine tU (some 20) 14 rfl Pm ?_;refine tU (some 21) 15 rfl Pm ?_;refine tU (some 22) 16 rfl Pm ?_;refine tU (some 23) 17 rfl Pm ?_;refine tD (some 24) 18 (.bool false) rfl Pm ?_;refine tD (some 5) 19 (.bool false) rfl Pm ?_;exact zds
 ·go_enter func239,ntmps239
  go_upto_region 1 with fail
  refine PJ (S:=(fun V=>V.cell? B7=some (.func (.func 238) #[] #[B3,B5])/\V.cell? B3=some ↑mb/\V.cell? B5=some ↑v/\V.cell? mb=some ↑pb/\V.cell? v=some ↑(ov:Int)/\V.cell? t=some ↑(ot:Int))) zab ⟨k1,k2,k3,k4,k5,k6⟩ (fun Pm=>?_);refine tD (some 6) 0 (.func (.func 238) #[] #[B3,B5]) rfl Pm ?_;refine tD (some 7) 1 t rfl Pm ?_;refine zH 2 rfl fun K hK=>?_;go_simp;refine(Vu _ zal).mono ?_;rintro e wA ⟨rfl,hA⟩;refine hK.out _ _ (VO wA hA) (fun Pm=>?_);clear hK K;refine tD (some 9) 3 (.bool true) rfl Pm ?_;refine et (d:=some 10) (i:=4) (v:=(.pointer (some ⟨mb,0,none⟩))) rfl rfl zab zab zab (fun _ _ _ h=>h) (Or.inl ⟨zab,fun w VF=>zai⟩) Pm ?_;refine et (d:=some 11) (i:=5) (v:=(.pointer (some ⟨mb,0,none⟩))) rfl rfl zab zab zab (fun _ _ _ h=>h) (Or.inl ⟨zab,fun w VF=>zai⟩) Pm ?_;refine et (d:=some 12) (i:=6) (v:=(.pointer (some ⟨mb,0,none⟩))) rfl rfl zab zab zab (fun _ _ _ h=>h) (Or.inl ⟨zab,fun w VF=>zai⟩) Pm ?_;refine et (d:=some 13) (i:=7) (v:=(.pointer (some ⟨pb,0,none⟩))) rfl rfl zab zab zab (fun _ _ _ h=>h) (Or.inl ⟨zab,fun w VF=>zai⟩) Pm ?_;refine et (d:=some 14) (i:=8) (v:=(.pointer (some ⟨v,0,none⟩))) rfl rfl zab zab zab (fun _ _ _ h=>h) (Or.inl ⟨zab,fun w VF=>zai⟩) Pm ?_;refine et (d:=some 15) (i:=9) (v:=(.pointer (some ⟨v,0,none⟩))) rfl rfl zab zab zab (fun _ _ _ h=>h) (Or.inl ⟨zab,fun w VF=>zai⟩) Pm ?_;refine et (d:=some 16) (i:=10) (v:=(.pointer (some ⟨v,0,none⟩))) rfl rfl zab zab zab (fun _ _ _ h=>h) (Or.inl ⟨zab,fun w VF=>zai⟩) Pm ?_;refine et (d:=some 17) (i:=11) (v:=(.int .i64 ov)) rfl rfl zab zab zab (fun _ _ _ h=>h) (Or.inl ⟨zab,fun w VF=>zai⟩) Pm ?_;refine et (d:=some 18) (i:=12) (v:=(.pointer (some ⟨t,0,none⟩))) rfl rfl zab zab zab (fun _ _ _ h=>h) (Or.inl ⟨zab,fun w VF=>zai⟩) Pm ?_;refine et (d:=some 19) (i:=13) (v:=(.pointer (some ⟨t,0,none⟩))) rfl rfl zab zab zab (fun _ _ _ h=>h) (Or.inl ⟨zab,fun w VF=>zai⟩) Pm ?_;refine et (d:=some 20) (i:=14) (v:=(.pointer (some ⟨t,0,none⟩))) rfl rfl zab zab zab (fun _ _ _ h=>h) (Or.inl ⟨zab,fun w VF=>zai⟩) Pm ?_;refine et (d:=some 21) (i:=15) (v:=(.int .i64 ot)) rfl rfl zab zab zab (fun _ _ _ h=>h) (Or.inl ⟨zab,fun w VF=>zai⟩) Pm ?_;refine yH [16] ?_;refine pU rfl zab (fun K hK=>?_) QX;go_simp;refine(hii _ zal).mono ?_;rintro e wA ⟨rfl,hA⟩;refine hK.out _ _ (VO wA hA) (fun Pm=>?_);clear hK K;refine et (d:=some 23) (i:=17) (v:=(.bool (!ab))) rfl rfl zab zab zab (fun _ _ _ h=>h) (Or.inl ⟨zab,fun w VF=>zai⟩) Pm ?_;refine tD (some 24) 18 (.bool (!ab)) rfl Pm ?_;refine tD (some 5) 19 (.bool (!ab)) rfl Pm ?_;exact zds
namespace Y
def ixF(p:Nat->Bool):List Nat->Int
 |[]=>-1
 |x::l=>if p x then 0 else if ixF p l=-1 then -1 else ixF p l+1
theorem tE{p:Nat->Bool}:∀{l:List Nat},(∀x∈l,p x=false)->ixF p l=-1
 |[],_=>rfl
 |x::l,h=>by
  unfold ixF;rw[Pu (by rw[h x (PZ ..)];decide),PC (tE fun y hy=>h y (P3 _ hy))]
theorem C5{p:Nat->Bool}:∀{l:List Nat} {k x:Nat},l[k]?=some x->p x=true->(∀(j y:Nat),j<k->l[j]?=some y->p y=false)->ixF p l=k
 |[],k,x,h,_,_=>by simp at h
 |y::l,0,x,h,hp,_=>by
  simp at h;subst h;unfold ixF;rw[PC hp];rfl
 |y::l,k+1,x,h,hp,hb=>by
  simp at h;have h0:=hb 0 y zaa rfl;have ih:=C5 (l:=l) h hp (fun j z hj hz=>hb (j+1) z zaa (by simpa using hz));unfold ixF;rw[Pu (by rw[h0];decide),ih,Pu zaa];omega
structure MvR(W:World)(g cap:Nat)(L:List Nat)(cur:Array Value):Prop where
 blk:W.heap[g]?=some (.cells cur 267 (0,0))
 size:cur.size=cap
 le:L.length<=cap
 at':∀(j x:Nat),L[j]?=some x->cur[j]?=some ↑x
theorem MvR.cell(h:MvR W g cap L cur)(hx:L[j]?=some x):W.cell? (g,j)=some ↑x:=by
 rw[Pt W _ _ _ _ _ h.blk];exact h.at' j x hx
theorem MvR.mo(h:MvR W g cap L cur)(hm:Mo P W W')(hn:¬P g):MvR W' g cap L cur:=⟨(hm.block g (Pn.1 h.blk).1 hn).trans h.blk,h.size,h.le,h.at'⟩
end Y
theorem vO(n:Nat):(Builtin.zeroCells #[Value.pointer none] n).toList=List.replicate n (.pointer none):=by
 unfold Builtin.zeroCells;simp only[List.size_toArray,List.length_cons,List.length_nil,Nat.zero_add,Nat.mul_one,Nat.mod_one,Array.toList_map,Array.toList_range];rw[List.eq_replicate_iff];refine⟨zad,fun b hb=>?_⟩;obtain⟨_,_,rfl⟩:=P0.1 hb;rfl
theorem zo(W:World)(g i n c:Nat)(cur:Array Value)(ty:TypeId)(hg:W.heap[g]?=some (.cells cur 267 (0,0)))(hn:0<n)(ZD:i+n<=cur.size):
  (Builtin.clear_ #[265] ty #[.slice (some (g,i)) n c]).run prog W=.ok (.tuple #[]) (W.setRow g (cur.toList.take i++List.replicate n (Value.pointer none)++cur.toList.drop (i+n)).toArray):=by
 obtain⟨m,rfl⟩:∃m,n=m+1:=⟨n-1,zaa⟩;obtain⟨i0,hi,Vv,Vk,Vl⟩:=QV nC;have hst:=run_storeCells_at prog g i 267 (List.replicate (m+1) (.pointer none)) 0 cur W hg (by simpa using ZD) (fun v hv=>by rw[(List.mem_replicate.1 hv).2];rfl);simp only[Nat.add_zero,List.length_replicate]at hst;unfold Builtin.clear_;simp[run_underlying underlying265,zeroValue,typeInfo,hi,Vv,Value.cells,vO,hst,Result.andThen]
theorem rF(w:World)(a:Option Addr)(c:Nat)(L:List Nat)(p:Nat->Bool)(B7 B3 B5:Nat)(hl:L.length<=1000)(hc:∀(j x:Nat),L[j]?=some x->∃g,a=some ⟨g,0,none⟩/\g<w.heap.size/\w.cell? ⟨g,j,none⟩=some ↑x)
  (hf:∀(V:World) (x:Nat),Below w w V->x∈L->() 239 #[x,B7,B3,B5] V fun e w'=>e=.returned (.bool (p x))/\Below w w w'):
  () 265 #[.slice a L.length c,.func (.func 239) #[] #[B7,B3,B5]] w fun e w'=>e=.returned (.int .i64 (Y.ixF p L))/\Below w w w':=by
 have HC:Hid _:=hc;have HF:Hid _:=hf;clear hc hf;go_enter func265,ntmps265;go_wp2
 go_loopw[8] (fun i wr=>∃k:Nat,i=.int .i64 k/\k<=L.length/\Hid ((∀(j y:Nat),j<k->L[j]?=some y->p y=false)/\Below w w wr)) (fun i _=>L.length-(intOf i).toNat)
 case atStart=>exact⟨0,rfl,zaa,fun j y hj=>zaa,Pq _ _⟩
 case round=>
  obtain⟨k,rfl,WN,HK⟩:=hrel;by_cases hk:k<L.length
  ·obtain⟨x,hx⟩:∃x,L[k]?=some x:=⟨_,Pp hk⟩;obtain⟨g,ha,hg,hcx⟩:=HC.out k x hx;subst ha;have hcr:wr.cell? (g,k)=some ↑x:=(HK.out.2.cell (p:=(g,k)) hg).trans hcx;have V8:=HF.out wr x HK.out.2 (PD hx);have hki:((k:Int)<(L.length:Int)):=zaa;have HX:Hid _:=hx;clear hcx hx;obtain⟨b,hb⟩:∃b,p x=b:=⟨_,rfl⟩;rw[hb]at V8;have HB:Hid _:=hb;clear hb;cases b
   ·go_wp2_with(go_at_call 239;refine V8.mono ?_;rintro e w9 ⟨rfl,VW⟩);exact zdc
   ·go_wp2_with(go_at_call 239;refine V8.mono ?_;rintro e w9 ⟨rfl,VW⟩);exact zeH
  ·exact zdg
theorem kM(w:World)(a:Option Addr)(c:Nat)(L:List Nat)(p:Nat->Bool)(B3 B5:Nat)(hl:L.length<=1000)(hc:∀(j x:Nat),L[j]?=some x->∃g,a=some ⟨g,0,none⟩/\g<w.heap.size/\w.cell? ⟨g,j,none⟩=some ↑x)
  (hf:∀(V:World) (x:Nat),Below w w V->x∈L->() 238 #[x,B3,B5] V fun e w'=>e=.returned (.bool (p x))/\Below w w w'):
  () 265 #[.slice a L.length c,.func (.func 238) #[] #[B3,B5]] w fun e w'=>e=.returned (.int .i64 (Y.ixF p L))/\Below w w w':=by
 have HC:Hid _:=hc;have HF:Hid _:=hf;clear hc hf;go_enter func265,ntmps265;go_wp2
 go_loopw[8] (fun i wr=>∃k:Nat,i=.int .i64 k/\k<=L.length/\Hid ((∀(j y:Nat),j<k->L[j]?=some y->p y=false)/\Below w w wr)) (fun i _=>L.length-(intOf i).toNat)
 case atStart=>exact⟨0,rfl,zaa,fun j y hj=>zaa,Pq _ _⟩
 case round=>
  obtain⟨k,rfl,WN,HK⟩:=hrel;by_cases hk:k<L.length
  ·obtain⟨x,hx⟩:∃x,L[k]?=some x:=⟨_,Pp hk⟩;obtain⟨g,ha,hg,hcx⟩:=HC.out k x hx;subst ha;have hcr:wr.cell? (g,k)=some ↑x:=(HK.out.2.cell (p:=(g,k)) hg).trans hcx;have V8:=HF.out wr x HK.out.2 (PD hx);have hki:((k:Int)<(L.length:Int)):=zaa;have HX:Hid _:=hx;clear hcx hx;obtain⟨b,hb⟩:∃b,p x=b:=⟨_,rfl⟩;rw[hb]at V8;have HB:Hid _:=hb;clear hb;cases b
   ·go_wp2_with(go_at_call 238;refine V8.mono ?_;rintro e w9 ⟨rfl,VW⟩);exact zdc
   ·go_wp2_with(go_at_call 238;refine V8.mono ?_;rintro e w9 ⟨rfl,VW⟩);exact zeH
  ·exact zdg
theorem vg(w:World)(a:Option Addr)(c:Nat)(L:List Nat)(p:Nat->Bool)(B7 B3 B5:Nat)(hl:L.length<=1000)(hc:∀(j x:Nat),L[j]?=some x->∃g,a=some ⟨g,0,none⟩/\g<w.heap.size/\w.cell? ⟨g,j,none⟩=some ↑x)
  (hf:∀(V:World) (x:Nat),Below w w V->x∈L->() 239 #[x,B7,B3,B5] V fun e w'=>e=.returned (.bool (p x))/\Below w w w'):
  () 241 #[.slice a L.length c,.func (.func 239) #[] #[B7,B3,B5]] w fun e w'=>e=.returned (.bool (L.any p))/\Below w w w':=by
 have Xk:=rF w a c L p B7 B3 B5 hl hc hf;have ZB:(decide ((Y.ixF p L)>=0))=L.any p:=by
  clear Xk hf hc hl
  induction L with
  |nil=>rfl
  |cons x L ih=>
   unfold Y.ixF;rw[List.any_cons];cases hp:p x
   ·rw[Pu zac,TQ,<- ih];split
    ·rename_i h;rw[h]
    ·rename_i h;have:Y.ixF p L>=0\/Y.ixF p L=-1:=by
      clear ih h hp
      induction L with
      |nil=>exact .inr rfl
      |cons y L ih2=>
       unfold Y.ixF;split
       ·exact .inl zaa
       ·split
        ·exact .inr rfl
        ·rename_i h2
         rcases ih2 with h3|h3
         ·exact .inl zaa
         ·exact absurd h3 h2
     have h4:Y.ixF p L>=0:=this.resolve_right h;simp[h4];omega
   ·rw[PC rfl,Sk];rfl
 generalize L.any p=bb at *;generalize Y.ixF p L=ix at *;have hge2:decide (0<=ix)=bb:=ZB;clear hc hf ZB;go_enter func241,ntmps241;go_wp2_with(go_at_call 265;refine Xk.mono ?_;rintro e w9 ⟨rfl,VW⟩);go_ret;exact⟨by rw[<- hge2];rfl,VW⟩
namespace Y
def flt(p:Nat->Bool)(L:List Nat):List Nat:=L.filter fun x=>!p x
theorem I9(p:Nat->Bool)(L:List Nat)(x:Nat):flt p (L++[x])=if p x then flt p L else flt p L++[x]:=by
 unfold flt;rw[Re];cases h:p x<;>simp[h]
theorem AF(p:Nat->Bool)(h:L[j]?=some x):flt p (L.take (j+1))=if p x then flt p (L.take j) else flt p (L.take j)++[x]:=by
 rw[<- I9,QE,h];rfl
theorem AE{p:Nat->Bool}(h:∀x∈L,p x=false):flt p L=L:=List.filter_eq_self.2 fun x hx=>by rw[h x hx];rfl
structure DlI(w:World)(g cap:Nat)(p:Nat->Bool)(L:List Nat)(i j:Nat)(V:World):Prop where
 ik:i=(flt p (L.take j)).length
 ij:i<j
 jl:j<=L.length
 mo:Mo (·=g) w V
 row:∃cur:Array Value,V.heap[g]?=some (.cells cur 267 (0,0))/\cur.size=cap/\(∀(a x:Nat),(flt p (L.take j))[a]?=some x->cur[a]?=some ↑x)/\∀(a x:Nat),j<=a->L[a]?=some x->cur[a]?=some ↑x
theorem wE(p:Nat->Bool):∀l:List Nat,ixF p l>=0\/ixF p l=-1
 |[]=>.inr rfl
 |y::l=>by
  unfold ixF;split
  ·exact .inl zaa
  ·split
   ·exact .inr rfl
   ·rename_i h2
    rcases wE p l with h3|h3
    ·exact .inl zaa
    ·exact absurd h3 h2
theorem Jo{p:Nat->Bool}:∀{l:List Nat},ixF p l=-1->∀x∈l,p x=false
 |[],_,x,hx=>by cases hx
 |y::l,h,x,hx=>by
  unfold ixF at h;split at h
  ·omega
  ·rename_i h1;split at h
   ·rename_i h2
    rcases QH.1 hx with rfl|hx
    ·simpa using h1
    ·exact Jo h2 x hx
   ·rename_i h2;have:ixF p l>=0\/ixF p l=-1:=wE p l;omega
theorem AW{p:Nat->Bool}:∀{l:List Nat},ixF p l≠-1->∃(k x:Nat),ixF p l=k/\l[k]?=some x/\p x=true/\∀(j y:Nat),j<k->l[j]?=some y->p y=false
 |[],h=>absurd rfl h
 |y::l,h=>by
  cases hp:p y
  ·have h2:ixF p l≠-1:=fun e=>h (by unfold ixF;rw[Pu (by rw[hp];decide),PC e]);obtain⟨k,x,a,b,c,d⟩:=AW h2;refine⟨k+1,x,?_,by simpa using b,c,fun j z hj hz=>?_⟩
   ·unfold ixF;rw[Pu (by rw[hp];decide),Pu h2,a];omega
   ·cases j with
    |zero=>simp at hz;subst hz;exact hp
    |succ j=>exact d j z zaa (by simpa using hz)
  ·exact⟨0,y,by unfold ixF;rw[PC hp];rfl,rfl,hp,fun j _ hj=>zaa⟩
end Y
theorem Al(w:World)(g cap:Nat)(L:List Nat)(cur:Array Value)(p:Nat->Bool)(B3 B5:Nat)(hl:L.length<=1000)(hR:Y.MvR w g cap L cur)
  (hf:∀(V:World) (x:Nat),Mo (·=g) w V->x∈L->() 238 #[x,B3,B5] V fun e w'=>e=.returned (.bool (p x))/\Below V V w'):
  () 242 #[.slice g L.length cap,.func (.func 238) #[] #[B3,B5]] w fun e w'=>e=.returned (.slice g (Y.flt p L).length cap)/\(∃cur',Y.MvR w' g cap (Y.flt p L) cur')/\Mo (·=g) w w':=by
 have V5:=(Pn.1 hR.blk).1;have Xk:=kM w (some ⟨g,0,none⟩) cap L p B3 B5 hl (fun j x hx=>⟨g,rfl,V5,hR.cell hx⟩) (fun V x hV hx=>(hf V x (az hV) hx).mono (fun e w' y=>⟨y.1,hV.trans (y.2.mono hV.size)⟩));have hle:=hR.le;have YJ:=hR.size;by_cases hm:Y.ixF p L=-1
 ·have hfl:=Y.AE (Y.Jo hm);rw[hm]at Xk;rw[hfl];have HR:Hid _:=hR;clear hR hf hfl;go_enter func242,ntmps242;go_wp2_with(go_at_call 265;refine Xk.mono ?_;rintro e w9 ⟨rfl,VW⟩);go_ret;exact⟨rfl,⟨cur,HR.out.mo (P:=fun _=>False) (az VW) (fun h=>h)⟩,az VW⟩
 ·obtain⟨k,x0,hk,hx0,hp0,hbef⟩:=Y.AW hm;have WN:=(Ps.1 hx0).1;rw[hk]at Xk;have YB:((k:Int) == -1)=false:=zad;have hfk:Y.flt p (L.take k)=L.take k:=Y.AE fun y hy=>by
   obtain⟨j,hj⟩:=P5.1 hy;have hjk:j<k:=by have:=(Ps.1 hj).1;rw[QN]at this;omega
   rw[QK hjk]at hj;exact hbef j y hjk hj
  have HI:Hid (∀w9,Below w w w9->Y.DlI w g cap p L k (k+1) w9):=fun w9 hb=>by
   have Wg:=hR.mo (P:=fun _=>False) (az hb) (fun h=>h);have e:Y.flt p (L.take (k+1))=L.take k:=by rw[Y.AF p hx0,PC hp0,hfk]
   refine⟨by rw[e,QN];omega,zaa,zaa,az hb,cur,Wg.blk,YJ,fun a x hx=>?_,fun a x _ hx=>Wg.at' a x hx⟩;rw[e]at hx;have hak:a<k:=by have:=(Ps.1 hx).1;rw[QN]at this;omega
   rw[QK hak]at hx;exact Wg.at' a x hx
  have HF:Hid _:=hf;clear hf hR hm hk hfk hbef hx0 hp0;go_enter func242,ntmps242;go_wp2_with(go_at_call 265;refine Xk.mono ?_;rintro e w9 ⟨rfl,VW⟩;have H9:Hid _:=HI.out w9 VW;clear VW)
  go_loopw[5,6] (fun iv jv wr=>∃i j:Nat,iv=.int .i64 i/\jv=.int .i64 j/\Hid (Y.DlI w g cap p L i j wr)) (fun _ jv _=>L.length-(intOf jv).toNat)
  case atStart=>exact⟨k,k+1,rfl,zad,H9⟩
  case round=>
   obtain⟨i,j,rfl,rfl,HD⟩:=hrel;clear H9 Xk;obtain⟨d1,d2,d3,d4,cu,e1,e2,e3,e4⟩:=HD.out;by_cases hj:j<L.length
   ·obtain⟨x,hx⟩:∃x,L[j]?=some x:=⟨_,Pp hj⟩;have cx:wr.cell? (g,j)=some ↑x:=by rw[Pt wr _ _ _ _ _ e1];exact e4 j x (Po _) hx
    have V8:=HF.out wr x d4 (PD hx);have XV:=Y.AF p hx;obtain⟨b,hb⟩:∃b,p x=b:=⟨_,rfl⟩;rw[hb]at V8 XV;have HT:Hid _:=XV;have D1:Hid _:=d1;have HX:Hid _:=hx;have E3:Hid _:=e3;have E4:Hid _:=e4;have E1:Hid _:=e1;have HB:Hid _:=hb;have ZL:((j:Int)<(L.length:Int)):=zaa;have hii:((i:Int)<(L.length:Int)):=zaa;clear XV d1 hx e3 e4 hb;have Wv:∀V,Below wr wr V->V.heap[g]?=some (.cells cu 267 (0,0)):=fun V hV=>(hV.block g (Pn.1 e1).1).trans e1;have HG:Hid _:=Wv;clear Wv e1;cases b
    ·have HS:Hid (∀V,Below wr wr V->Y.DlI w g cap p L (i+1) (j+1) (V.setCell (g,i) x)/\V.frozen? (g,i)=false/\∃u,V.cell? (g,i)=some u):=fun V hV=>by
      have hgV:=HG.out V hV;have XV:=HT.out;rw[Pu zac]at XV;refine⟨⟨by rw[XV,PI,<- D1.out];rfl,zaa,zaa,(d4.trans (az hV)).set _ _ rfl,cu.setIfInBounds i x,PR V g i _ _ _ hgV,by simp[e2],fun a y hy=>?_,fun a y ha hy=>?_⟩,by simp[World.frozen?,hgV],cu[i]'(zaa),by rw[Pt V _ _ _ _ _ hgV];exact SC zaa⟩
      ·rw[XV]at hy;by_cases ha:a<(Y.flt p (L.take j)).length
       ·rw[Qo ha]at hy;rw[Q0 (by rw[D1.out];omega)];exact E3.out a y hy
       ·have hai:a=i:=by
         have:=(Ps.1 hy).1;rw[PI,Q6]at this;have:=D1.out;omega
        subst hai;rw[Qr zaa,<- D1.out]at hy;simp at hy;subst hy;exact Q8 zaa
      ·rw[Q0 zaa];exact E4.out a y zaa hy
     go_wp2_with(go_at_call 238;refine V8.mono ?_;rintro e w9 ⟨rfl,VW⟩;obtain⟨x1,x2,u,x3⟩:=HS.out w9 VW;have X1:Hid _:=x1;clear x1)
     go_roundw
     case rel=>exact⟨i+1,j+1,zad,zad,X1⟩
     case measure=>simp only[intOf];omega
    ·have HS:Hid (∀V,Below wr wr V->Y.DlI w g cap p L i (j+1) V):=fun V hV=>by
      have XV:=HT.out;rw[PC rfl]at XV;exact⟨by rw[XV];exact D1.out,zaa,zaa,d4.trans (az hV),cu,HG.out V hV,e2,fun a y hy=>E3.out a y (by rw[XV]at hy;exact hy),fun a y ha hy=>E4.out a y zaa hy⟩
     go_wp2_with(go_at_call 238;refine V8.mono ?_;rintro e w9 ⟨rfl,VW⟩;have X1:Hid _:=HS.out w9 VW)
     go_roundw
     case rel=>exact⟨i,j+1,rfl,zad,X1⟩
     case measure=>simp only[intOf];omega
   ·obtain rfl:j=L.length:=zaa;rw[Qy]at d1 e3;have Vu:=zo wr g i (L.length-i) (cap-i) cu 0 e1 zaa zaa;have D1:Hid _:=d1;have Wv:(wr.setRow g (cu.toList.take i++List.replicate (L.length-i) (Value.pointer none)++cu.toList.drop (i+(L.length-i))).toArray).heap[g]?=some (.cells (cu.toList.take i++List.replicate (L.length-i) (Value.pointer none)++cu.toList.drop (i+(L.length-i))).toArray 267 (0,0)):=UB wr g _ _ _ _ e1;have Vp:Mo (·=g) wr (wr.setRow g (cu.toList.take i++List.replicate (L.length-i) (Value.pointer none)++cu.toList.drop (i+(L.length-i))).toArray):=EW (iM wr g _);have HE:Hid ((∃cur',Y.MvR (wr.setRow g (cu.toList.take i++List.replicate (L.length-i) (Value.pointer none)++cu.toList.drop (i+(L.length-i))).toArray) g cap (Y.flt p L) cur')/\Mo (·=g) w (wr.setRow g (cu.toList.take i++List.replicate (L.length-i) (Value.pointer none)++cu.toList.drop (i+(L.length-i))).toArray)):=by
     refine⟨⟨_,Wv,?_,by rw[<- D1.out];omega,fun a x hx=>?_⟩,d4.trans Vp⟩
     ·simp;omega
     ·have ha:a<i:=by rw[D1.out];exact(Ps.1 hx).1
      have h1:=e3 a x hx;rw[R9,Qd,Qo zaf,QK ha,QJ];exact h1
    have hi2:i<=L.length:=zaa;generalize wr.setRow g (cu.toList.take i++List.replicate (L.length-i) (Value.pointer none)++cu.toList.drop (i+(L.length-i))).toArray=W2 at *;clear d1 e3 e4 Wv Vp HD e1;go_wp2;go_ret;exact⟨by rw[<- D1.out];rfl,HE.out⟩
namespace Y
abbrev TkS(W:World)(base:Nat)(sv:Value)(L:List Nat):Prop:=W.ownsRow base 267 1 sv L.length (L.flatMap mY)
theorem AB(L:List Nat)(j x:Nat)(h:L[j]?=some x):(L.flatMap mY)[j]?=some ↑x:=by
 induction L generalizing j with
 |nil=>simp at h
 |cons y L ih=>
  cases j with
  |zero=>simp at h;subst h;rfl
  |succ j=>simp at h;exact ih j h
theorem kK(L:List Nat):(L.flatMap mY).length=L.length:=by
 induction L with
 |nil=>rfl
 |cons y L ih=>rw[QB,PI,ih];simp[mY];omega
theorem TkS.form(h:TkS W base sv L):(sv=.slice none 0 0/\L=[])\/∃g cap cur,sv=.slice (some ⟨g,0,none⟩) L.length cap/\base<=g/\cap<=maxLen/\MvR W g cap L cur:=by
 rcases h.2 with⟨a,b⟩|⟨g,cap,cur,a,b,c,d,e,f,k⟩
 ·exact .inl ⟨a,RC.1 b⟩
 ·refine .inr ⟨g,cap,cur,a,b,e,c,zaa,d,fun j x hx=>?_⟩;have h1:=AB L j x hx;rw[<- k,SK,QK (Ps.1 hx).1,QJ]at h1;exact h1
theorem TkS.of(h:MvR W g cap L cur)(hb:base<=g)(hc:cap<=maxLen):TkS W base (.slice g L.length cap) L:=by
 refine⟨by rw[kK];omega,.inr ⟨g,cap,cur,rfl,hb,h.blk,h.le,hc,by have:=h.size;omega,?_⟩⟩;refine RA (fun j=>?_);rw[SK];by_cases hj:j<L.length
 ·rw[QK hj,QJ,AB L j _ (Pp hj)];exact h.at' j _ (Pp hj)
 ·rw[P6 (by rw[QN];omega),P6 (by rw[kK];omega)]
theorem TkS.kind(h:TkS W base sv L):∀k,sv.ownBlock=some k->base<=k/\k<W.heap.size/\∃c,W.heap[k]?=some (.cells c 267 (0,0)):=fun k hk=>by
 exact zdD
theorem TkS.n(h:TkS W base sv L):∃a c,sv=.slice a L.length c:=by
 exact zdV
theorem MT.moT(h:MT W lo mb pb r)(hl:Lw lo)(hm:Mo P W W')(hP:∀k,P k->lo<=k/\∃c,W.heap[k]?=some (.cells c 267 (0,0))):MT W' lo mb pb r:=by
 obtain⟨qv,wh,a,b⟩:=h.ex;have hb:Below lo W W':=⟨hm.os,hm.tape,hm.output,hm.size,fun k hk=>hm.block k (by have:=h.lo';omega) (fun hp=>zbY)⟩;have hk:Kd (fun t=>t=267) W W':=gS hm (fun k c t f hp hc=>by
  obtain⟨_,c',Ve⟩:=hP k hp;rw[hc]at Ve;cases Ve
  rfl)
 refine⟨⟨qv,wh,a.mo hm (fun e=>?_) (fun g hg e=>?_),b.kd hk zac rfl rfl⟩,Pr h.lo' hm.size,h.act,h.now,h.tml,fY hl hb h.tab,cC hl hb h.tab5⟩
 ·obtain⟨_,c,hc⟩:=hP _ e;obtain⟨arr,a1,_⟩:=a.blk;rw[hc]at a1;simp at a1
 ·obtain⟨_,c,hc⟩:=hP _ e;obtain⟨c',Ve⟩:=a.que.kind g hg;rw[hc]at Ve;simp at Ve
def qi(act:Nat)(lF oF:Nat->Nat)(ar:Nat)(L:List Nat)(v:Nat):List Nat:=if L.any (fun x=>gx act (lF x) (lF v)&&!ar.testBit (oF x)) then L else flt (fun x=>gx act (lF x) (lF v)) L++[v]
end Y
theorem Am(w:World)(base:Nat)(sv:Value)(L:List Nat)(p:Nat->Bool)(B3 B5:Nat)(hl:L.length<=1000)(h:Y.TkS w base sv L)
  (hf:∀(V:World) (x:Nat),Mo (fun k=>sv.ownBlock=some k) w V->x∈L->() 238 #[x,B3,B5] V fun e w'=>e=.returned (.bool (p x))/\Below V V w'):
  () 242 #[sv,.func (.func 238) #[] #[B3,B5]] w fun e w'=>∃sv',e=.returned sv'/\Y.TkS w' base sv' (Y.flt p L)/\sv'.ownBlock=sv.ownBlock/\Mo (fun k=>sv.ownBlock=some k) w w':=by
 rcases h.form with⟨rfl,rfl⟩|⟨g,cap,cur,rfl,hb,hc,hR⟩
 ·have Xk:=kM w none 0 [] p B3 B5 zad (fun j x hx=>by simp at hx) (fun V x _ hx=>by cases hx);have hi0:Y.ixF p []=-1:=rfl;rw[hi0]at Xk;have HN:Hid (∀W:World,Y.TkS W base (.slice none 0 0) (Y.flt p [])):=fun W=>⟨rfl,.inl ⟨rfl,rfl⟩⟩;clear h hf;simp only[List.length_nil]at Xk;go_enter func242,ntmps242;go_wp2_with(go_at_call 265;refine Xk.mono ?_;rintro e w9 ⟨rfl,VW⟩);go_ret;exact⟨_,rfl,HN.out _,rfl,az VW⟩
 ·have hP:(fun k=>Value.ownBlock (.slice g L.length cap)=some k)=(·=g):=by
   funext k;exact propext ⟨fun e=>za8,fun e=>by subst e;rfl⟩
  rw[hP]at hf⊢;refine(Al w g cap L cur p B3 B5 hl hR hf).mono ?_;rintro e w' ⟨rfl,⟨cur',hR'⟩,hm⟩;exact⟨_,rfl,Y.TkS.of hR' hb hc,rfl,hm⟩
theorem Kx(w:World)(lo:Y.Lo)(mb pb b cap base:Nat)(r:Y.RSt)(ps:List Y.PS)(fin:Nat)(EN LV:Nat->List Y.PA)(sv:Value)(L:List Nat)(v:Nat)(pv:Y.PS)(lF oF:Nat->Nat)(hP:Y.gN w lo pb b cap ps fin EN LV)(h:Y.MT w lo mb pb r)(hT:Y.TkS w base sv L)(Yd:lo<=base)(Vy:base<=w.heap.size)(hl:L.length<=900)(hM:∀x,x=v\/x∈L->Y.MvB w x (oF x) (lF x)/\oF x<32)(hpv:ps[oF v]?=some pv):
  () 203 #[mb,sv,v] w fun e w'=>∃sv',e=.returned sv'/\Y.TkS w' base sv' (Y.qi r.act lF oF pv.around L v)/\Mo (fun k=>sv.ownBlock=some k) w w':=by
 obtain⟨i0,hi,Vv,Vk,Vl⟩:=QV nC;have Vc:=hP.lw;have U8:=h.lo';obtain⟨sa,sc,rfl⟩:=hT.n;have Xi:∀o1 o2 o3:Obj,Below w w (((w.alloc o1).alloc o2).alloc o3):=fun o1 o2 o3=>(((Pq _ w).alloc (Po _) _).alloc zad _).alloc zaf _;have hB:=Xi (.cells #[mb] 100) (.cells #[v] 267) (.cells #[.func (.func 238) #[] #[w,↑(w.heap.size+1)]] 402);have x3:Boxed (((w.alloc (.cells #[mb] 100)).alloc (.cells #[v] 267)).alloc (.cells #[.func (.func 238) #[] #[w,↑(w.heap.size+1)]] 402)) w.heap.size 100 mb:=((P9 w _ _).alloc _).alloc _;have x5:Boxed (((w.alloc (.cells #[mb] 100)).alloc (.cells #[v] 267)).alloc (.cells #[.func (.func 238) #[] #[w,↑(w.heap.size+1)]] 402)) (w.heap.size+1) 267 v:=by
  have:=(P9 (w.alloc (.cells #[mb] 100)) 267 v).alloc (.cells #[.func (.func 238) #[] #[w,↑(w.heap.size+1)]] 402);rw[QL]at this;exact this
 have x7:Boxed (((w.alloc (.cells #[mb] 100)).alloc (.cells #[v] 267)).alloc (.cells #[.func (.func 238) #[] #[w,↑(w.heap.size+1)]] 402)) (w.heap.size+1+1) 402 (.func (.func 238) #[] #[w,↑(w.heap.size+1)]):=by
  have:=P9 ((w.alloc (.cells #[mb] 100)).alloc (.cells #[v] 267)) 402 (.func (.func 238) #[] #[w,↑(w.heap.size+1)]);rw[QL,QL]at this;exact this
 have WR:(((w.alloc (.cells #[mb] 100)).alloc (.cells #[v] 267)).alloc (.cells #[.func (.func 238) #[] #[w,↑(w.heap.size+1)]] 402)).heap.size=w.heap.size+3:=zad;have hsto:∀(W:World) (a:Addr),(store a (.func (.func 238) #[] #[w,↑(w.heap.size+1)])).run prog W=stored prog W a (.func (.func 238) #[] #[w,↑(w.heap.size+1)]) .plain:=fun W a=>UH _ W a _ _ rfl;have Wj:=hT.kind;have HKD:Hid _:=Wj;obtain⟨W1,Vj⟩:∃W1,(((w.alloc (.cells #[mb] 100)).alloc (.cells #[v] 267)).alloc (.cells #[.func (.func 238) #[] #[w,↑(w.heap.size+1)]] 402))=W1:=⟨_,rfl⟩;rw[Vj]at hB x3 x5 x7 WR;have HT1:Hid (∀V,Below W1 W1 V->Y.TkS V base (.slice sa L.length sc) L):=fun V hV=>(az (P:=fun _=>False) (hB.trans (hV.mono hB.size))).own hT (fun _ _ h=>h);have HV:Hid (∀V W,Below W1 W1 V->Mo (fun k=>Value.ownBlock (.slice sa L.length sc)=some k) V W->Y.MT W lo mb pb r/\Y.gN W lo pb b cap ps fin EN LV/\(∀x,x=v\/x∈L->Y.MvB W x (oF x) (lF x))/\Y.TkB W mb v w (w.heap.size+1)/\Boxed W (w.heap.size+1+1) 402 (.func (.func 238) #[] #[w,↑(w.heap.size+1)])):=fun V W hV hm=>by
  have hwV:=hB.trans (hV.mono hB.size);have hk:∀k,Value.ownBlock (.slice sa L.length sc)=some k->lo<=k/\k<w.heap.size/\∃c,V.heap[k]?=some (.cells c 267 (0,0)):=fun k e=>by
   obtain⟨a,b',c,d⟩:=HKD.out k e;exact⟨zaa,b',c,(hwV.block k b').trans d⟩
  have VM:Below lo V W:=⟨hm.os,hm.tape,hm.output,hm.size,fun k VB=>hm.block k (by have:=hwV.size;omega) (fun e=>by have:=(hk k e).1;omega)⟩;refine⟨(h.below Vc hwV).moT Vc hm (fun k e=>⟨(hk k e).1,(hk k e).2.2⟩),hP.below ((hwV.mono U8).trans VM),fun x hx=>?_,⟨?_,?_⟩,?_⟩
  ·have hx1:=(hM x hx).1.below hwV;refine hx1.mo hm (fun e=>?_);obtain⟨_,_,c,hc⟩:=hk _ e;obtain⟨c',Ve⟩:=hx1.ty;rw[hc]at Ve;simp at Ve
  ·exact Boxed.mo (aD x3 hV zaa) hm (fun e=>zbW)
  ·exact Boxed.mo (aD x5 hV zaa) hm (fun e=>zbW)
  ·exact Boxed.mo (aD x7 hV zaa) hm (fun e=>zbW)
 have Yk:=vg W1 sa sc L (fun x=>Y.gx r.act (lF x) (lF v)&&!pv.around.testBit (oF x)) (w.heap.size+1+1) w.heap.size (w.heap.size+1) zaa (fun j x hx=>by
   rcases(HT1.out W1 (Pq _ _)).form with⟨_,e2⟩|⟨g,cp,cu,e1,e2,e3,e4⟩
   ·subst e2;simp at hx
   ·simp only[Value.slice.injEq]at e1;obtain⟨rfl,_,rfl⟩:=e1;exact⟨g,rfl,(Pn.1 e4.blk).1,e4.cell hx⟩)
  (fun V x hV hx=>by
   obtain⟨a1,a2,a3,a4,a5⟩:=HV.out V V hV (Mo.refl _ _);exact(D4 V lo mb pb b cap r ps fin EN LV x (oF x) (lF x) v (oF v) (lF v) _ _ _ pv a2 a1 (a3 x (.inr hx)) (a3 v (.inl rfl)) a4 hpv (hM x (.inr hx)).2 a5).mono (fun e w' y=>⟨y.1,hV.trans (y.2.mono hV.size)⟩))
 have hdel:∀V,Below W1 W1 V->() 242 #[.slice sa L.length sc,.func (.func 238) #[] #[w,↑(w.heap.size+1)]] V fun e w'=>∃sv',e=.returned sv'/\Y.TkS w' base sv' (Y.flt (fun x=>Y.gx r.act (lF x) (lF v)) L)/\sv'.ownBlock=Value.ownBlock (.slice sa L.length sc)/\Mo (fun k=>Value.ownBlock (.slice sa L.length sc)=some k) V w':=fun V hV=>
  Am V base (.slice sa L.length sc) L _ _ _ zaa (HT1.out V hV) (fun W x hW hx=>by
   obtain⟨a1,a2,a3,a4,a5⟩:=HV.out V W hV hW;exact qS W lo mb pb r x (oF x) (lF x) v (oF v) (lF v) _ _ Vc a1 (a3 x (.inr hx)) (a3 v (.inl rfl)) a4)
 obtain⟨an,han⟩:∃an,L.any (fun x=>Y.gx r.act (lF x) (lF v)&&!pv.around.testBit (oF x))=an:=⟨_,rfl⟩;have HTK:Hid (Y.qi r.act lF oF pv.around L v=if an then L else Y.flt (fun x=>Y.gx r.act (lF x) (lF v)) L++[v]):=by
  unfold Hid Y.qi;rw[han]
 rw[han]at Yk;have HFL:Hid ((Y.flt (fun x=>Y.gx r.act (lF x) (lF v)) L).length<=L.length):=QI _ _;generalize Y.flt (fun x=>Y.gx r.act (lF x) (lF v)) L=F at *;clear han h hP hM hT Wj;cases an
 ·have k5:∀V W,Below W1 W1 V->Mo (fun k=>Value.ownBlock (.slice sa L.length sc)=some k) V W->W.cell? ↑(w.heap.size+1)=some ↑v/\W.cell? ↑(w.heap.size+1+1)=some (.func (.func 238) #[] #[w,↑(w.heap.size+1)]):=fun V W hV hm=>⟨(HV.out V W hV hm).2.2.2.1.b5.cell,(HV.out V W hV hm).2.2.2.2.cell⟩;go_enter func203,ntmps203
  go_upto_region 5 with(go_at_call 241;(try rw[Vj]);refine Yk.mono ?_;rintro e w2 ⟨rfl,U4⟩)
  clear Yk;have WM:=U4.drew;have hKB:∀V W,Below W1 W1 V->Mo (fun k=>Value.ownBlock (.slice sa L.length sc)=some k) V W->(fun V=>V.cell? ↑(w.heap.size+1)=some ↑v/\V.cell? ↑(w.heap.size+1+1)=some (.func (.func 238) #[] #[w,↑(w.heap.size+1)])) W:=k5;have hSa:∀(W:World) (o:Obj),(fun V=>V.cell? ↑(w.heap.size+1)=some ↑v/\V.cell? ↑(w.heap.size+1+1)=some (.func (.func 238) #[] #[w,↑(w.heap.size+1)])) W->(fun V=>V.cell? ↑(w.heap.size+1)=some ↑v/\V.cell? ↑(w.heap.size+1+1)=some (.func (.func 238) #[] #[w,↑(w.heap.size+1)])) (W.alloc o):=fun W o hW=>⟨o8 ((Pq _ W).alloc (Po _) o) hW.1,o8 ((Pq _ W).alloc (Po _) o) hW.2⟩;have hSg:∀(W W':World) (row:Option Nat),row=Value.ownBlock (.slice sa L.length sc)->W.grownBy W' row->(fun V=>V.cell? ↑(w.heap.size+1)=some ↑v/\V.cell? ↑(w.heap.size+1+1)=some (.func (.func 238) #[] #[w,↑(w.heap.size+1)])) W->(fun V=>V.cell? ↑(w.heap.size+1)=some ↑v/\V.cell? ↑(w.heap.size+1+1)=some (.func (.func 238) #[] #[w,↑(w.heap.size+1)])) W':=fun W W' row hr hg hW=>by
   subst hr;have U9:∀q,w.heap.size<=q->some q≠Value.ownBlock (.slice sa L.length sc):=fun q hq e=>by have:=(HKD.out q e.symm).2.1;omega
   exact⟨(PN (w:=W) (hg.block _ (i1 hW.1) (U9 (w.heap.size+1) zaa))).trans hW.1,(PN (w:=W) (hg.block _ (i1 hW.2) (U9 (w.heap.size+1+1) zaa))).trans hW.2⟩
  have hfl:=HFL.out;have Yi:=WM.size;have hS0:(fun V=>V.cell? ↑(w.heap.size+1)=some ↑v/\V.cell? ↑(w.heap.size+1+1)=some (.func (.func 238) #[] #[w,↑(w.heap.size+1)])) w2.drew:=hKB _ _ WM (Mo.refl _ _);have VK:Below W1 W1 (w2.drew.alloc (.cells #[v] 267)):=WM.alloc Yi _;refine PJ (S:=(fun V=>V.cell? ↑(w.heap.size+1)=some ↑v/\V.cell? ↑(w.heap.size+1+1)=some (.func (.func 238) #[] #[w,↑(w.heap.size+1)]))) zab hS0 (fun Pm=>?_);refine tD (some 15) 0 (.slice sa L.length sc) rfl Pm ?_;refine tD (some 16) 1 (.func (.func 238) #[] #[w,↑(w.heap.size+1)]) rfl Pm ?_;refine tD (some 18) 3 v rfl Pm ?_;refine yH [2,4] ?_;refine Qk rfl (fun K hK=>?rg1) (Qk rfl (fun K hK=>?rg2) QX)
  case' rg1=>
   go_simp;refine(hdel _ zbe).mono ?_;rintro e w9 ⟨sv9,rfl,hT9,hO9,Zv⟩;refine hK.out _ _ (hKB _ _ zbe Zv) (fun Pm=>?_);clear hK K;refine zH 4 rfl fun K hK=>?_;go_simp;refine hK.out _ _ (hSa _ _ Pm) (fun Pm=>?_);clear hK K;refine zH 5 rfl fun K hK=>?_
   first
    |(refine step_append_lies _ zae _ _ _ zae base 267 i0 _ 1 8 underlying265 hi Vv Vk Vl rfl zac sv9 F.length (F.flatMap Y.mY) zae (hT9.alloc _) ⟨w9.heap.size,0,none⟩ 1 1 [.pointer (some ⟨v,0,none⟩)] zae zae (World.news_of_block (cs:=#[.pointer (some ⟨v,0,none⟩)]) (t:=267) (fr:=(0,0)) (PG w9 _)) (fun u hu=>zaM) zaa zag zaa (by have:=Zv.size;simp;simp at this Yi;omega) _ rfl ?_)
    |(refine step_append_lies _ zae _ _ _ zae base 267 i0 _ 1 8 underlying265 hi Vv Vk Vl rfl zac sv9 F.length (F.flatMap Y.mY) zae hT9 ⟨w2.drew.heap.size,0,none⟩ 1 1 [.pointer (some ⟨v,0,none⟩)] zae zae (World.news_of_block (cs:=#[.pointer (some ⟨v,0,none⟩)]) (t:=267) (fr:=(0,0)) ((Zv.block w2.drew.heap.size zad (fun e=>zcb)).trans (PG w2.drew _))) (fun u hu=>zaM) zaa zag zaa (by have:=Zv.size;simp at this Yi;omega) _ rfl ?_)
   intro g5 cap5 w5 U6 Pg VJ We;refine hK.out _ _ (hSg _ _ _ hO9 Pg Pm) (fun Pm=>?_);clear hK K;refine tD (some 6) 6 (.slice g5 (F.length+1) cap5) rfl Pm ?_;refine PX zab ?_ _;clear Pm;go_wp2;go_ret;rw[hO9]at Pg;have ZE:Mo (fun k=>Value.ownBlock (.slice sa L.length sc)=some k) _ w5:=⟨Pg.os,Pg.tape,Pg.output,Pg.size,fun k hk hn=>Pg.block k hk (fun e=>hn e.symm)⟩;have hMo:Mo (fun k=>Value.ownBlock (.slice sa L.length sc)=some k) w w5:=by
    exact zcS
   refine⟨_,rfl,?_,hMo⟩;rw[HTK.out,Pu zac];show w5.ownsRow base 267 1 _ (F++[v]).length ((F++[v]).flatMap Y.mY);rw[PI,Qc];exact U6
  case' rg2=>
   go_simp;refine hK.out _ _ (hSa _ _ Pm) (fun Pm=>?_);clear hK K;refine zH 2 rfl fun K hK=>?_;go_simp;refine(hdel _ zbe).mono ?_;rintro e w9 ⟨sv9,rfl,hT9,hO9,Zv⟩;refine hK.out _ _ (hKB _ _ zbe Zv) (fun Pm=>?_);clear hK K;refine zH 5 rfl fun K hK=>?_
   first
    |(refine step_append_lies _ zae _ _ _ zae base 267 i0 _ 1 8 underlying265 hi Vv Vk Vl rfl zac sv9 F.length (F.flatMap Y.mY) zae (hT9.alloc _) ⟨w9.heap.size,0,none⟩ 1 1 [.pointer (some ⟨v,0,none⟩)] zae zae (World.news_of_block (cs:=#[.pointer (some ⟨v,0,none⟩)]) (t:=267) (fr:=(0,0)) (PG w9 _)) (fun u hu=>zaM) zaa zag zaa (by have:=Zv.size;simp;simp at this Yi;omega) _ rfl ?_)
    |(refine step_append_lies _ zae _ _ _ zae base 267 i0 _ 1 8 underlying265 hi Vv Vk Vl rfl zac sv9 F.length (F.flatMap Y.mY) zae hT9 ⟨w2.drew.heap.size,0,none⟩ 1 1 [.pointer (some ⟨v,0,none⟩)] zae zae (World.news_of_block (cs:=#[.pointer (some ⟨v,0,none⟩)]) (t:=267) (fr:=(0,0)) ((Zv.block w2.drew.heap.size zad (fun e=>zcb)).trans (PG w2.drew _))) (fun u hu=>zaM) zaa zag zaa (by have:=Zv.size;simp at this Yi;omega) _ rfl ?_)
   intro g5 cap5 w5 U6 Pg VJ We;refine hK.out _ _ (hSg _ _ _ hO9 Pg Pm) (fun Pm=>?_);clear hK K;refine tD (some 6) 6 (.slice g5 (F.length+1) cap5) rfl Pm ?_;refine PX zab ?_ _;clear Pm;go_wp2;go_ret;rw[hO9]at Pg;have ZE:Mo (fun k=>Value.ownBlock (.slice sa L.length sc)=some k) _ w5:=⟨Pg.os,Pg.tape,Pg.output,Pg.size,fun k hk hn=>Pg.block k hk (fun e=>hn e.symm)⟩;have hMo:Mo (fun k=>Value.ownBlock (.slice sa L.length sc)=some k) w w5:=by
    exact zcS
   refine⟨_,rfl,?_,hMo⟩;rw[HTK.out,Pu zac];show w5.ownsRow base 267 1 _ (F++[v]).length ((F++[v]).flatMap Y.mY);rw[PI,Qc];exact U6
 ·go_enter func203,ntmps203;go_wp2_with(go_at_call 241;(try rw[Vj]);refine Yk.mono ?_;rintro e w2 ⟨rfl,U4⟩);go_ret;exact⟨_,rfl,by rw[HTK.out,PC trivial];exact HT1.out _ U4,az (hB.trans (U4.mono hB.size))⟩
namespace Y
structure Fo(w:World)(lo:Nat)(pb b N cap:Nat)(hv:Value)(fin mbm n:Nat)(T:()->Option (List (Option PM)))(M:()->Option Nat)(L:Nat->List (Option Nat)):Prop where
 pl:dB w pb b N cap hv fin (.map (some mbm))
 tab:Tab w pb b N mbm n T M L
theorem Fo.rf{b N:Nat}{hv:Value}{fin mbm n:Nat}{T:()->Option (List (Option PM))}{M:()->Option Nat}{L:Nat->List (Option Nat)}(h:Fo w lo pb b N cap hv fin mbm n T M L)(hR:Rf lo w w')(Vo:pb<lo):Fo w' lo pb b N cap hv fin mbm n T M L:=by
 refine⟨(hR.bel.block pb Vo).trans h.pl,h.tab.kd (P:=(·≠mbm)) hR.kd (fun t ht=>?_) zau ⟨hR.bel.os,hR.bel.tape,hR.bel.output,hR.bel.size,fun k hk hn=>?_⟩ (fun h=>h rfl)⟩
 ·rcases ht with rfl|rfl|rfl|rfl|rfl<;>(unfold dc;decide)
 ·have:k=mbm:=Ra hn;subst this;obtain⟨es,cl,hm⟩:=h.tab.map.kind;exact(hR.oth.same k _ hm rfl).trans hm.symm
def ia(M:()->Option Nat)(L:Nat->List (Option Nat))(ev:())(l:List Nat):List Nat:=match M ev with
 |none=>[]
 |some g=>dO (L g) l
theorem nU{L:List (Option Nat)}:∀(l:List Nat) (acc:List Nat),(l.foldl (fH L) acc).length<=acc.length+l.length
 |[],acc=>Po _
 |i::l,acc=>by
  have h1:=nU (L:=L) l (fH L acc i);have h2:=xF L acc i;show(l.foldl (fH L) (fH L acc i)).length<=_;rw[Qw];omega
def arA(ps:List PS)(i:Nat):Nat:=match ps[i]? with|some p=>p.around|none=>0
def gR(ps:List PS)(act:Nat)(lF oF:Nat->Nat)(WL:List Nat):List Nat:=WL.foldl (fun acc v=>qi act lF oF (arA ps (oF v)) acc v) []
theorem sL(ps:List PS)(act:Nat)(lF oF:Nat->Nat)(WL:List Nat)(v:Nat):gR ps act lF oF (WL++[v])=qi act lF oF (arA ps (oF v)) (gR ps act lF oF WL) v:=by unfold gR;rw[QQ];rfl
theorem BX{act:Nat}{lF oF:Nat->Nat}{ar v:Nat}(h:x∈qi act lF oF ar L v):x=v\/x∈L:=by
 unfold qi at h;split at h
 ·exact .inr h
 ·rcases PQ.1 h with h|h
  ·exact .inr (Q2.1 h).1
  ·exact .inl (PB.1 h)
theorem Kw(act:Nat)(lF oF:Nat->Nat)(ar v:Nat)(L:List Nat):(qi act lF oF ar L v).length<=L.length+1:=by
 unfold qi;split
 ·omega
 ·rw[PI,Q6];have:(flt (fun x=>gx act (lF x) (lF v)) L).length<=L.length:=QI _ _;omega
theorem gd(ps:List PS)(act:Nat)(lF oF:Nat->Nat)(WL:List Nat):∀k,k<=WL.length->(∀x∈gR ps act lF oF (WL.take k),x∈WL)/\(gR ps act lF oF (WL.take k)).length<=k
 |0,_=>⟨fun x hx=>by simp[gR]at hx,by simp[gR]⟩
 |k+1,hk=>by
  obtain⟨h1,h2⟩:=gd ps act lF oF WL k zaa;obtain⟨v,hv⟩:∃v,WL[k]?=some v:=⟨_,Pp zaa⟩;have e:WL.take (k+1)=WL.take k++[v]:=by rw[QE,hv];rfl
  rw[e,sL];refine⟨fun x hx=>?_,Pr (Kw ..) zaa⟩
  rcases BX hx with rfl|hx
  ·exact PD hv
  ·exact h1 x hx
end Y
theorem Ho(w:World)(lo:Nat)(pb b N cap:Nat)(hv:Value)(fin mbm n:Nat)(T:()->Option (List (Option Y.PM)))(M:()->Option Nat)(L:Nat->List (Option Nat))(ev:())(s:Nat)(h:Y.Fo w lo pb b N cap hv fin mbm n T M L)(Wq:ev.size<=1000000)(hs:s<4294967296)(V9:∀i,i∈Y.els s->i<N)(hg:1<w.heap.size)(hT:TabAt 1 Lib.deBruijn32tab w):
  () 202 #[pb,ev,.int .u32 s] w fun e w'=>∃v:U.Sl,e=.returned (.slice v.a v.n v.c)/\Y.TkS w' w (.slice v.a v.n v.c) (Y.ia M L ev (Y.els s))/\Below w w w':=by
 unfold Y.ia;cases hM:M ev with
 |none=>
  refine(Cg w pb b cap N hv fin mbm n M ev s h.pl h.tab.map Wq hM).mono ?_;rintro e w' ⟨rfl,hb⟩;exact⟨⟨none,0,0⟩,rfl,⟨rfl,.inl ⟨rfl,rfl⟩⟩,hb⟩
 |some g=>
  obtain⟨h1,h2,row,h3,h4,h5⟩:=h.tab.row ev g hM;refine(Ej w pb b cap N hv fin mbm n M ev s g (L g) h.pl h.tab.map Wq hM h1 h2 hs V9 (fun i q hq=>?_) hg hT).mono ?_
  ·have:=h5 i;rw[hq]at this;cases hr:row[i]? with
   |none=>rw[hr]at this;exact this.elim
   |some z=>
    rw[hr]at this;cases z with
    |none=>exact this.elim
    |some z=>
     obtain⟨fv,hm,_⟩:=(this:Y.eP w pb b q z);exact⟨_,hm⟩
  ·rintro e w' ⟨v,rfl,hr,hb⟩;exact⟨v,rfl,hr,hb⟩
theorem CH(w:World)(lo:Y.Lo)(mb pb b cap:Nat)(r:Y.RSt)(ps:List Y.PS)(fin:Nat)(EN LV:Nat->List Y.PA)(hv:Value)(mbm n:Nat)(T:()->Option (List (Option Y.PM)))(M:()->Option Nat)(Lr:Nat->List (Option Nat))(ev:())(lF oF:Nat->Nat)(WL:List Nat)(hWL:WL=Y.ia M Lr ev (Y.els (Y.inn ps r.act)))(hP:Y.gN w lo pb b cap ps fin EN LV)(hMv:Y.Fo w lo pb b ps.length cap hv fin mbm n T M Lr)(h:Y.MT w lo mb pb r)(Wq:ev.size<=1000000)(V9:∀i,i∈Y.els r.act->i<ps.length)(Zn:∀i,i∈Y.els (Y.inn ps r.act)->i<ps.length)(hMB:∀x∈WL,Y.MvB w x (oF x) (lF x)/\oF x<ps.length):
  () 154 #[mb,ev] w fun e w'=>∃sv,e=.returned sv/\Y.TkS w' w sv (Y.gR ps r.act lF oF WL)/\Below w w w':=by
 have Vc:=hP.lw;have U8:=h.lo';have hps:=hP.bJ.len;have hinl:Y.inn ps r.act<4294967296:=Y.Jk ps h.act;have hwl:WL.length<=32:=by
  rw[hWL];exact zc5
 have hRo:∀V,Below w w V->Y.Rf lo w V:=fun V hV=>Y.RfE.of hV U8;have hin0:∀V,Below w w V->() 109 #[pb,.int .u32 r.act] V fun e w'=>e=.returned (.int .u32 (Y.inn ps r.act))/\Below w w w':=fun V hV=>(od V pb b cap ps r.act h.act V9 (hP.below (hV.mono U8)).bJ (by have:=hV.size;have:=hP.pb';omega) (by have:=hV.size;have:=hP.b';omega) zbJ (Y.cC Vc (hV.mono U8) h.tab5)).mono (fun e w' x=>⟨x.1,hV.trans (x.2.mono hV.size)⟩);have hwa:∀V,Below w w V->() 202 #[pb,ev,.int .u32 (Y.inn ps r.act)] V fun e w'=>∃v:U.Sl,e=.returned (.slice v.a v.n v.c)/\Y.TkS w' w (.slice v.a v.n v.c) WL/\Below w w w':=fun V hV=>(Ho V lo pb b ps.length cap hv fin mbm n T M Lr ev _ (hMv.rf (hRo V hV) hP.pb') Wq hinl Zn zbJ (Y.cC Vc (hV.mono U8) h.tab5)).mono (fun e w' x=>by
  obtain⟨v,x1,x2,x3⟩:=x;exact⟨v,x1,by rw[hWL];exact aJ x2 hV.size,hV.trans (x3.mono hV.size)⟩)
 have VO:∀V:World,Below w w V->V.cell? mb=some ↑pb/\V.cell? ⟨mb,1,none⟩=some (.int .u32 r.act):=fun V hV=>⟨(h.below Vc hV).c0.1,(h.below Vc hV).c0.2.1⟩;have VL:=(Pq w w).drew;obtain⟨k1,k2⟩:=VO _ VL;obtain⟨inn,YT⟩:∃i,Y.inn ps r.act=i:=⟨_,rfl⟩;rw[YT]at hin0 hwa;have HTK:Hid (∀(w3 V:World) (sv:Value) (k x:Nat),Below w w w3->Below w3.heap.size w3 V->WL[k]?=some x->Y.TkS V w3.heap.size sv (Y.gR ps r.act lF oF (WL.take k))->() 203 #[mb,sv,.pointer (some ⟨x,0,none⟩)] V fun e w'=>∃sv',e=.returned sv'/\Y.TkS w' w3.heap.size sv' (Y.gR ps r.act lF oF (WL.take (k+1)))/\Below w3.heap.size w3 w'):=fun w3 V sv k x h3 hV hx hT=>by
  have hwV:=h3.trans (hV.mono h3.size);obtain⟨c1,c2⟩:=Y.gd ps r.act lF oF WL k (by have:=(Ps.1 hx).1;omega);have Xo:x∈WL:=PD hx;obtain⟨pv,hpv⟩:∃pv,ps[oF x]?=some pv:=⟨_,Pp (hMB x Xo).2⟩;have WN:=(Ps.1 hx).1;refine(Kx V lo mb pb b cap w3 r ps fin EN LV sv _ x pv lF oF (hP.below (hwV.mono U8)) (h.below Vc hwV) hT (by have:=h3.size;omega) hV.size zaa (fun y hy=>?_) hpv).mono ?_
  ·have hyl:y∈WL:=by
    rcases hy with rfl|hy
    ·exact Xo
    ·exact c1 y hy
   exact⟨(hMB y hyl).1.below hwV,by have:=(hMB y hyl).2;omega⟩
  ·rintro e w' ⟨sv',rfl,a,m⟩;refine⟨sv',rfl,?_,m.below hV hV.size (fun i hi e=>by have:=(hT.kind i e).1;omega)⟩;have e1:WL.take (k+1)=WL.take k++[x]:=by rw[QE,hx];rfl
   have e2:Y.arA ps (oF x)=pv.around:=by unfold Y.arA;rw[hpv]
   rw[e1,Y.sL,e2];exact a
 clear h hP hMv hRo hMB hWL V9 Zn YT;go_enter func154,ntmps154
 go_upto_region 2 with fail
 refine PJ (S:=(fun V=>V.cell? mb=some ↑pb/\V.cell? ⟨mb,1,none⟩=some (.int .u32 r.act))) zab ⟨k1,k2⟩ (fun Pm=>?_);refine tD (some 8) 0 mb rfl Pm ?_;refine tD (some 9) 1 mb rfl Pm ?_;refine tD (some 10) 2 mb rfl Pm ?_;refine tD (some 11) 3 pb rfl Pm ?_;refine tD (some 12) 4 (.string ev) rfl Pm ?_;refine tD (some 13) 5 mb rfl Pm ?_;refine tD (some 14) 6 mb rfl Pm ?_;refine tD (some 15) 7 mb rfl Pm ?_;refine tD (some 16) 8 pb rfl Pm ?_;refine tD (some 17) 9 mb rfl Pm ?_;refine tD (some 18) 10 mb rfl Pm ?_;refine tD (some 19) 11 (mb,1) rfl Pm ?_;refine tD (some 20) 12 (.int .u32 r.act) rfl Pm ?_;refine tD (some 24) 16 (.int .i64 0) rfl Pm ?_;refine zH 13 rfl fun K hK=>?_;go_simp;refine(hin0 _ zal).mono ?_;rintro e wA ⟨rfl,hA⟩;refine hK.out _ _ (VO wA hA) (fun Pm=>?_);clear hK K;refine zH 14 rfl fun K hK=>?_;go_simp;refine(hwa _ zal).mono ?_;rintro e w3 ⟨v3,rfl,Zk,Xi⟩;obtain⟨va,vn,vc⟩:=v3;dsimp only at Zk;obtain⟨a3,c3,hv3⟩:=Zk.n;simp only[Value.slice.injEq]at hv3;obtain⟨rfl,rfl,rfl⟩:=hv3;refine hK.out _ _ (VO w3 Xi) (fun Pm=>?_);clear hK K;refine tD (some 23) 15 (.int .i64 WL.length) rfl Pm ?_;refine PX zab ?_ _;clear Pm;go_wp2
 (try simp only[Act.put,List.setIfInBounds_toArray,List.set_cons_succ,List.set_cons_zero])
 have HC:Hid (∀(k x:Nat) (V:World),Below w3 w3 V->WL[k]?=some x->∃g,va=some ⟨g,0,none⟩/\V.cell? ⟨g,k,none⟩=some (.pointer (some ⟨x,0,none⟩))):=fun k x V hV hx=>by
  rcases Zk.form with⟨_,e2⟩|⟨g,cp,cu,e1,e2,e3,e4⟩
  ·subst e2;simp at hx
  ·simp only[Value.slice.injEq]at e1;obtain⟨rfl,_,rfl⟩:=e1;exact⟨g,rfl,(hV.cell (p:=(g,k)) (Pn.1 e4.blk).1).trans (e4.cell hx)⟩
 go_loopw[24,5] (fun i t wr=>∃(k:Nat),i=.int .i64 k/\k<=WL.length/\Hid (Y.TkS wr w3 t (Y.gR ps r.act lF oF (WL.take k))/\Below w3 w3 wr)) (fun i _ _=>WL.length-(intOf i).toNat)
 case atStart=>exact⟨0,rfl,zaa,⟨rfl,.inl ⟨rfl,rfl⟩⟩,Pq _ _⟩
 case round=>
  obtain⟨k,rfl,WN,HI⟩:=hrel;by_cases hk:k<WL.length
  ·obtain⟨x,hx⟩:∃x,WL[k]?=some x:=⟨_,Pp hk⟩;obtain⟨g,ha,hcx⟩:=HC.out k x wr HI.out.2 hx;subst ha;have V8:=HTK.out w3 wr u5 k x Xi HI.out.2 hx HI.out.1;have hki:((k:Int)<(WL.length:Int)):=zaa;clear Zk hx;go_wp2_with(go_at_call 203;refine V8.mono ?_;intro e w9 h9;obtain⟨sv9,rfl,t9,b9⟩:=h9;have T9:Hid _:=t9;clear t9)
   go_roundw
   case rel=>exact⟨k+1,zad,zaa,T9.out,b9⟩
   case measure=>simp only[intOf];omega
  ·obtain rfl:k=WL.length:=zaa;have HF:=HI.out;rw[Qy]at HF;have HF2:Hid _:=HF;clear HF;go_wp2;go_ret;exact⟨_,rfl,aJ HF2.out.1 Xi.size,Xi.trans (HF2.out.2.mono Xi.size)⟩
