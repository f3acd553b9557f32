import Derived.Test.YtibbecdlllchkaaGreatDoorM24
set_option maxRecDepth 100000
set_option maxHeartbeats 8000000
namespace Go.Proofs.YtibbecdlllchkaaGreatDoor
theorem zeh{zp:Prop}(h:zp:=by
 clear U4;dsimp only;go_wp2;go_ret3;unfold Sm.jy;rw[hR];exact⟨rfl,HB⟩):zp:=h
open Tryz
section
open Go.RowKit Go.Proofs
namespace J
theorem tO{d:Nat}{M:List U.Move}(hd:d<=10)(h:∀m∈M,U.gL m):∀j,(aX d M j).size<=j*90000000
 |0=>Po _
 |j+1=>by
  have ih:=tO hd h j;rw[aX];split
  ·rename_i m hm;have X7:=h m (PD hm);have h1:(iK d (ee m) m.ai).size<=90000000:=by
    unfold iK;have h1:=U.fT X7.ai X7.len;have h2:=fy X7;exact zek
   rw[P2,R1];exact Nat.add_le_add ih h1
  ·exact Pr ih (Qx _ (UX j))
theorem Fu(X:List U.State):∀k,0<k->k<=X.length->0<(cn X k).size
 |0,h,_=>absurd h zaa
 |k+1,_,hk=>by
  rw[cn,Pp hk];have e:U.bNl.size=1:=rfl;dsimp only;unfold ej pw iK;simp only[ByteArray.size_append',e];omega
end J
theorem BH{w:World}{x:J.DS}{M:List J.PV}(h:eF w x M):(J.ej x.s).size<=400000000000:=by
 have hd:=h.dep;have hd0:=h.dep0;have h1:=J.jX (d:=x.s.depth.toNat) (h:=J.eH (J.aj x.s) x.s.name) (A:=[]) zaa (by have:=J.jm (k:=J.aj x.s) h.name;omega) J.iE.nil;have h2:=J.jB (d:=x.s.depth.toNat+1) (h:=J.fU) (A:=x.s.enter) zaa zac h.enterG;have h3:=J.jB (d:=x.s.depth.toNat+1) (h:=J.eS) (A:=x.s.leave) zaa zac h.leaveG;have Wk:x.s.aa.length<=4096:=by rw[<- h.mv,PE];exact h.mlen
 have h4:=J.tO (d:=x.s.depth.toNat+1) (M:=x.s.aa) zaa (fun m hm=>by
  rw[<- h.mv]at hm;obtain⟨z,hz,rfl⟩:=P0.1 hm;exact(h.actsG z hz).1) x.s.aa.length
 have h5:x.s.aa.length*90000000<=4096*90000000:=Qx _ Wk;unfold J.ej J.pw;simp only[ByteArray.size_append'];omega
theorem Ky(cb:Nat)(sv:U.Sl)(X:List J.DS)(w:World)(hc:w.heap[cb]?=some (.cells #[.slice sv.a sv.n sv.c] 123 (0,0)))(hC:jx w sv X)(Xl:X.length<=24)(Vw:∀x∈X,J.nY x.s)(hv:Env w):
  () 25 #[cb] w fun e w'=>e=.returned (.string (J.cn ((X.map (·.s)).map J.fj) X.length))/\Below w w w':=by
 obtain⟨S,hS⟩:∃S,S=(X.map (·.s)).map J.fj:=⟨_,rfl⟩;have YK:S.length=X.length:=by rw[hS,PE,PE]
 rw[<- hS];have U3:Below w w (w.alloc (.cells #[.pointer none,.slice none 0 0] 129)):=(Pq _ _).alloc (Po _) _;have hf:(w.alloc (.cells #[.pointer none,.slice none 0 0] 129)).heap[w.heap.size]?=some (.cells #[.pointer none,.slice none 0 0] 129 (0,0)):=PG _ _;have Vg:dS w.heap.size w.heap.size [] (w.alloc (.cells #[.pointer none,.slice none 0 0] 129)):=Lib.IsBuilderF.of (Lib.fresh_isBuilder _ _ w);have Vu:=(Pn.1 hc).1;have hd:() 40 #[cb] (w.alloc (.cells #[.pointer none,.slice none 0 0] 129)) (Er X (w.alloc (.cells #[.pointer none,.slice none 0 0] 129))):=
  sQ cb sv X _ ((U3.block _ Vu).trans hc) (hC.fG (e:=5) (cG U3) zac zac zac) zaa Vw
 have HS:Hid _:=hS;have HSl:Hid _:=YK;have Yv:Hid _:=hv;have HD:Hid _:=hd;clear hS YK hv hd hC hc Vw;go_enter func25,ntmps25;go_wp2_with fail;change Calls _ _ _ (w.alloc (.cells #[.pointer none,.slice none 0 0] 129)) _;generalize w.alloc (.cells #[.pointer none,.slice none 0 0] 129)=W1 at U3 hf Vg HD⊢;refine Pw HD.out ?_;rintro e w2 ⟨U4,cb2,⟨ta,tn,tc⟩,Z,rfl,hcb2,D⟩;have c2:w2.cell? cb2=some (.slice ta tn tc):=by rw[Pt w2 _ _ _ _ _ hcb2];rfl
 have hZl:=D.len;have hnX:tn=X.length:=by rw[<- hZl];exact JX (v:=⟨ta,tn,tc⟩) D.row
 subst hnX;have hf2:=(U4.block _ (Pn.1 hf).1).trans hf;have Zf:=Vg.aq U4;have Wm:Below w w w2:=U3.trans (U4.mono U3.size);have HDD:Hid _:=D;have HZl:Hid _:=hZl;have HZ:Hid (∀i (h:i<Z.length) (h':i<S.length),Z[i].s=S[i]):=by
  intro i h h';have hX:i<X.length:=by rw[<- hZl];exact h
  have:=(D.done i h hX hX).1;rw[this];have e:S[i]?=some (J.fj X[i].s):=by rw[HS.out,Pv,Pv,Pp hX];rfl
  rw[Pp h']at e;exact(Qh e).symm
 clear D hcb2 hZl hf U4 Vg HD;dsimp only;go_wp2
 go_loopg[12] X.length (fun q i wr=>∃k:Nat,q=X.length-k/\k<=X.length/\i=.int .i64 k/\dS w.heap.size w (Lib.strCells (J.cn S k)) wr/\Below w w wr/\aY w.heap.size w2 wr/\(J.cn S k).size<=k*400000000000/\(k=0->wr.heap[w.heap.size]?=some (.cells #[.pointer none,.slice none 0 0] 129 (0,0))))
 case atStart=>exact⟨0,rfl,PK _,rfl,Zf,Wm,bf (Pq _ _),PK _,fun _=>hf2⟩
 case round=>
  obtain⟨k,hq,hk,rfl,Xd,VR,X6,Vf,h0⟩:=hrel;clear c2 Wm;by_cases Vx:k<X.length
  ·have hZl:=HZl.out;have hkz:k<Z.length:=zaa;have U5:=gX HDD.out.row X6 Zf zac zac;obtain⟨g,cap,hvv⟩:=U.dy U5 zaa;simp only[U.Sl.v,Value.slice.injEq]at hvv;obtain⟨rfl,-,rfl⟩:=hvv;have Vp:wr.ownsRow 0 134 8 (.slice g Z.length tc) Z.length (Z.flatMap J.aM):=by
    have:=aJ U5 (PK _);unfold U.Sl.v at this;rw[show X.length=Z.length from hZl.symm]at this;exact this
   have Va:=Row.range (f:=J.aM) (n:=8) (fun _=>rfl) Vp hkz;have hcm:X.length<=tc:=by
    rcases Vp.2 with⟨h,_⟩|⟨g',cap',cur,h,_,_,hle,_⟩
    ·cases h
    ·simp at h;rw[h.2];omega
   obtain⟨-,M,hWS⟩:=HDD.out.done k hkz Vx Vx;have hks:k<S.length:=by rw[HSl.out];exact Vx
   have HN:Hid (J.cn S (k+1)=J.cn S k++J.ej Z[k].s):=by
    unfold Hid;rw[J.cn,Pp hks,HZ.out k hkz hks]
   obtain⟨y,hy⟩:∃y,y=Z[k]:=⟨_,rfl⟩;rw[<- hy]at Va hWS HN;have hWr:=hWS.wr X6 Zf;have hsl:=BH hWS;have hmul:k*400000000000<=24*400000000000:=Qx _ zaa;have hyE:y.ve.n=y.s.enter.length:=iO hWS.enter;unfold J.aM at Va;have HW:Hid _:=hWr;have HK0:Hid _:=h0;have HHW:Hid (dS w w.heap.size (Lib.strCells (J.cn S k)) wr):=Xd;have HHB:Hid (Below w w wr):=VR;have HHK:Hid (aY w w2 wr):=X6;clear Vp U5 hWS hWr hy hZl hkz hks h0 Xd VR X6 hyE;go_wp2_with(first
    |(refine QA rfl 134 (.tmp 14) rfl g (k*8) rfl _ _ Va underlying134 rfl cB ?_)
    |(refine aB rfl 134 (.tmp 5) (.tmp 15) rfl 134 _ _ rfl rfl cB rfl rfl ?_)
    |fail)
   have VU:Below wr wr (wr.alloc (.cells #[.int .i64 (J.aj y.s),y.s.name,(y.s.depth:Int),(y.s.up:Int),.slice y.vp.a y.vp.n y.vp.c,.slice y.ve.a y.ve.n y.ve.c,.slice y.vl.a y.vl.n y.vl.c,.slice y.vm.a y.vm.n y.vm.c] 134)):=(Pq _ _).alloc (Po _) _;have WY:=HHB.out.trans (VU.mono HHB.out.size);have VN:aY w.heap.size wr (wr.alloc (.cells #[.int .i64 (J.aj y.s),y.s.name,(y.s.depth:Int),(y.s.up:Int),.slice y.vp.a y.vp.n y.vp.c,.slice y.ve.a y.ve.n y.ve.c,.slice y.vl.a y.vl.n y.vl.c,.slice y.vm.a y.vm.n y.vm.c] 134)):=bf VU;have hkk:aY w.heap.size w2 (wr.alloc (.cells #[.int .i64 (J.aj y.s),y.s.name,(y.s.depth:Int),(y.s.up:Int),.slice y.vp.a y.vp.n y.vp.c,.slice y.ve.a y.ve.n y.ve.c,.slice y.vl.a y.vl.n y.vl.c,.slice y.vm.a y.vm.n y.vm.c] 134)):=Lib.OthersKept.trans HHK.out VN;refine Pw (Eo w w.heap.size (Lib.strCells (J.cn S k)) y M _ (dS.aq HHW.out VU) WY.size ⟨w,Po _,Yv.out,WY⟩ (HW.out.wr VN HHW.out) (by rw[bY];omega)) ?_;rintro e w6 ⟨rfl,hw6,Z9,XS⟩;have hw6':dS w.heap.size w (Lib.strCells (J.cn S (k+1))) w6:=by
    rw[HN.out,bX];exact hw6
   have hs6:(J.cn S (k+1)).size<=(k+1)*400000000000:=by
    rw[HN.out,P2,R1];omega
   have hk6':=hkk.trans XS;have WK:=WY.trans Z9;have HP:Hid (dS w w.heap.size (Lib.strCells (J.cn S (k+1))) w6/\Below w w w6/\aY w.heap.size w2 w6/\(J.cn S (k+1)).size<=(k+1)*400000000000):=⟨hw6',WK,hk6',hs6⟩;clear VU WY VN hkk hw6 Z9 XS hw6' hs6 hk6' WK;dsimp only;go_wp2
   go_roundg (X.length-(k+1))
   case measure=>omega
   case rel=>exact⟨k+1,rfl,zaa,zah,HP.out.1,HP.out.2.1,HP.out.2.2.1,HP.out.2.2.2,fun h=>absurd h zaa⟩
  ·have ZM:k=X.length:=zaa;subst ZM;go_wp2_with fail;have HSt:Hid (() 45 #[w] wr fun e w'=>e=.returned (.string (J.cn S X.length))/\Below w wr w'):=by
    unfold Hid;by_cases hX0:X.length=0
    ·rw[hX0];exact Cf w w.heap.size _ wr (h0 hX0)
    ·have Xf:=J.Fu S X.length zaa (by rw[HSl.out];exact Po _);have:=MP w.heap.size w (J.cn S X.length).data.toList wr Xd (fun e=>by
      have h1:(J.cn S X.length).size=(J.cn S X.length).data.toList.length:=by rw[Uf];rfl
      have h2:(J.cn S X.length).size=0:=h1.trans zaT;omega)
     simpa using this
   refine Pw HSt.out ?_;rintro e w7 ⟨rfl,hb7⟩;have HB7:Hid _:=VR.trans hb7;clear hb7 Xd VR X6 Vf h0 HSt;dsimp only;go_wp2;go_ret;exact⟨rfl,HB7.out⟩
end
section
open Go.RowKit Go.Proofs Go.Shelf
namespace Sm
def jy(s:()):Ending:=match J.read s with
 |.fault c l=>.returned (.tuple #[.string ⟨#[]⟩,.int .i64 c,.int .i64 l])
 |.dX S=>.returned (.tuple #[.string (txt S),.int .i64 0,.int .i64 0])
end Sm
theorem Dt(s:())(w:World)(hv:qp w)(hs:s.size<=1073741824):
  () 7 #[s] w fun e w'=>e=Sm.jy s/\Hid (Below w w w'):=by
 have HV:Hid _:=hv;have HR:Hid _:=Bv s w hv.lib hs;have HL:Hid (() 14 #[s] w fun e w'=>(∃b c l,J.read s=.fault c l/\e=.returned (.tuple #[.string ⟨#[]⟩,.iface 73 (.pointer (some ⟨b,0,none⟩))])/\Hid (w'.heap[b]?=some (.cells #[(c:Int),(l:Int)] 77 (0,0))/\Below w w w'))\/∃S,J.read s=.dX S/\e=.returned (.tuple #[.string (Sm.txt S),.nilIface])/\Hid (Below w w w')):=by
  unfold Hid;clear hv;go_enter func14,ntmps14;go_wp2_with fail;refine Pw HR.out ?_;rintro e w1 ⟨U3,hp⟩;cases hR:J.read s with
  |fault c l=>
   rw[hR]at hp;obtain⟨b,rfl,Wl⟩:=hp;have HB:Hid _:=And.intro Wl U3;have Zg:Hid _:=hR;clear hR Wl U3;dsimp only;go_wp2;go_ret2;exact .inl ⟨b,c,l,Zg.out,rfl,HB.out⟩
  |dX S=>
   rw[hR]at hp;obtain⟨cb,sv,X,rfl,XK,hXS,hC,YK⟩:=hp;have hCK:=J.oR (by rw[<- J.nL];exact hR);have Xl:X.length<=24:=by rw[<- hXS,PE]at YK;exact YK
   have HT:Hid _:=Ky cb sv X w1 XK hC Xl (fun x hx=>(hCK.low x.s (by rw[<- hXS];exact QT hx)).1) (HV.out.lib.aq U3).env;rw[hXS,show X.length=S.length by rw[<- hXS,PE]]at HT;have Zg:Hid _:=hR;clear hR hXS YK Xl hC XK hCK;dsimp only;go_wp2_with fail;refine Pw HT.out ?_;rintro e w2 ⟨rfl,U4⟩;have HB:Hid _:=U3.trans (U4.mono U3.size);clear U4 U3;dsimp only;go_wp2;go_ret2;exact .inr ⟨S,Zg.out,rfl,HB.out⟩
 clear hv;go_enter func7,ntmps7;go_wp2_with fail;refine Pw HL.out ?_;rintro e w1 (⟨b,c,l,hR,rfl,h1⟩|⟨S,hR,rfl,h1⟩)
 ·have HT:Hid _:=uI b c l w1 (HV.out.aq h1.out.2).s9 h1.out.1;have X8:Hid _:=h1.out.2;dsimp only;go_wp2_with fail;refine Pw HT.out ?_;rintro e w2 ⟨rfl,U4⟩;have HB:Hid _:=X8.out.trans (U4.mono X8.out.size);exact zeh
 ·have HT:Hid _:=uJ w1;dsimp only;go_wp2_with fail;refine Pw HT.out ?_;rintro e w2 ⟨rfl,U4⟩;have HB:Hid _:=h1.out.trans (U4.mono h1.out.size);exact zeh
theorem G7(s:())(a ra:Option Addr)(c rc:Nat)(L:List ())(T:List Int)(w:World)(hv:qp w)(Vu:∀ev:(),ev.size<=1000000->sf ev)(hE:F.Fl w a L)(hI:F.Hv w ra T)(WM:s.size+L.length+T.length+F.tot L<=4194304):
  () 3 #[s,.slice a L.length c,.slice ra T.length rc] w fun e w'=>e=.returned true/\Below w w w':=by
 have HF:Hid _:=Ls s a ra c T.length rc L w hE WM;by_cases XI:8192<s.size+L.length+T.length+F.tot L
 ·rw[Qp XI]at HF;clear XI;go_enter func3,ntmps3;go_wp2_with(go_at_call 5;refine Pw HF.out ?_;rintro e w1 ⟨rfl,Vg⟩;rw[Vg];clear Vg w1);go_ret;exact⟨rfl,Pq _ _⟩
 rw[Ql XI]at HF;have HV:Hid _:=hv;have HLW:Hid (∀(u:()) V,u.size<=1073741824->Below w w V->() 7 #[.string u] V fun e w'=>e=Sm.jy u/\Hid (Below V.heap.size V w')):=fun u V hu hb=>Dt u V (hv.aq hb) hu;have Y2:s.size<=1073741824:=zaa;cases hR:J.read s with
 |fault fc fl=>
  have HBS:Hid (() 6 #[s] w fun e w'=>e=.returned (.tuple #[.pointer none,.slice none 0 0,true])/\Hid (Below w w w')):=(vV s w hv zaa).mono fun e w' ⟨h1,h2⟩=>by
   rw[hR]at h2;exact⟨h2,h1⟩
  have XC:Hid (Sm.jy s=.returned (.tuple #[.string ⟨#[]⟩,(fc:Int),(fl:Int)])):=by unfold Hid Sm.jy;rw[hR]
  have hfc:=J.Bu hR;have hfc':¬(fc=0):=zaa;clear hR hv Vu hE hI XI hfc;go_enter func3,ntmps3;go_wp2_with(go_at_call 5;refine Pw HF.out ?_;rintro e w1 ⟨rfl,Vg⟩;rw[Vg];clear Vg w1);refine Pw HBS.out ?_;rintro e w1 ⟨rfl,h1⟩;dsimp only;go_wp2_with fail;refine Pw (HLW.out s w1 Y2 h1.out) ?_;rintro e w2 ⟨rfl,h2⟩;have HB:Hid (Below w w w2):=h1.out.trans (h2.out.mono h1.out.size);rw[XC.out];dsimp only;go_wp2;go_ret;exact⟨by first|rfl|simp[hfc'],HB.out⟩
 |dX S=>
  have HBS:Hid (∀V,Below w w V->∀u:(),u.size<=1000000->∀S',J.read u=.dX S'->() 6 #[.string u] V fun e w'=>∃xb sb,e=.returned (.tuple #[.pointer (some ⟨xb,0,none⟩),.slice (some ⟨sb,0,none⟩) 1 1,true])/\Hid (Below V.heap.size V w'/\∃b ps,Y.Sn w' w xb b ps (Y.anS S') (Y.stS S') (fun k=>V.heap.size<=k/\k<w'.heap.size)/\Y.bR ps=Y.bR (Y.psF (Y.X0 S'))/\Y.LN w' b b ps (.slice (some ⟨sb,0,none⟩) 1 1) [(⟨#[]⟩,Y.stS S')])):=fun V hb u hu S' hRu=>(vV u V (hv.aq hb) hu).mono fun e w' ⟨h1,h2⟩=>by
   rw[hRu]at h2;obtain⟨xb,sb,b,ps,e1,h3,h4,h5,_⟩:=h2;exact⟨xb,sb,e1,h1,b,ps,F.Sn.low h3 hb.size,h4,h5⟩
  have X8:Hid _:=HBS.out w (Pq _ _) s zaa S hR;have XC:Hid (Sm.jy s=.returned (.tuple #[.string (Sm.txt S),(0:Int),(0:Int)])):=by unfold Hid Sm.jy;rw[hR]
  have Vc:=hv.lw;by_cases XX:1500<(Sm.txt S).size
  ·have hbig':(1500:Int)<((Sm.txt S).size:Int):=zaa;clear hR hv Vu hE hI XI XX;generalize Sm.txt S=t at *;go_enter func3,ntmps3;go_wp2_with(go_at_call 5;refine Pw HF.out ?_;rintro e w1 ⟨rfl,Vg⟩;rw[Vg];clear Vg w1);refine Pw X8.out ?_;rintro e w1 ⟨xb,sb,rfl,h1⟩;dsimp only;go_wp2_with fail;refine Pw (HLW.out s w1 Y2 h1.out.1) ?_;rintro e w2 ⟨rfl,h2⟩;have HB:Hid (Below w w w2):=h1.out.1.trans (h2.out.mono h1.out.1.size);rw[XC.out];exact zfa
  have hbig':¬(1500:Int)<((Sm.txt S).size:Int):=zaa;obtain⟨S',hR',hcl'⟩:=Sm.Gm hR zaa;have ZU:Hid (∀V,Below w w V->() 6 #[.string (Sm.txt S)] V fun e w'=>∃xb sb,e=.returned (.tuple #[.pointer (some ⟨xb,0,none⟩),.slice (some ⟨sb,0,none⟩) 1 1,true])/\Hid (Below V.heap.size V w'/\∃b ps,Y.Sn w' w xb b ps (Y.anS S) (Y.stS S) (fun k=>V.heap.size<=k/\k<w'.heap.size)/\Y.bR ps=Y.bR (Y.psF (Y.X0 S))/\Y.LN w' b b ps (.slice (some ⟨sb,0,none⟩) 1 1) [(⟨#[]⟩,Y.stS S)])):=fun V hb=>by
   have:=HBS.out V hb (Sm.txt S) zaa S' hR';rw[Sm.MX hcl',Sm.OX hcl',Sm.Cj hcl']at this;exact this
  have HLE2:Hid (Sm.jy (Sm.txt S)=.returned (.tuple #[.string (Sm.txt S),(0:Int),(0:Int)])):=by
   unfold Hid Sm.jy;rw[hR'];show Ending.returned (.tuple #[.string (Sm.txt S'),_,_])=_;rw[Sm.Ok hcl']
  have WR:(Sm.txt S).size<=1073741824:=zaa;have HA:Hid (∀W,Below w w W->F.Arg w.heap.size W a ra L T):=fun W hb=>⟨fun W' _ hb'=>⟨fun i x hx=>by
   obtain⟨b,off,e,hc⟩:=hE i x hx;exact⟨b,off,e,((hb.trans hb').cell (p:=⟨b,off+i,none⟩) (PW _ _ hc)).trans hc⟩,fun i x hx=>by
   obtain⟨b,off,e,hc⟩:=hI i x hx;exact⟨b,off,e,((hb.trans hb').cell (p:=(b,off+i)) (PW _ _ hc)).trans hc⟩⟩,zaa,zaa,fun x hx=>by
   obtain⟨i,hi⟩:=P5.1 hx;have:=F.MI hi;omega⟩
  have hLb:max L.length T.length*202<=4000000:=zaa;have XF:Hid _:=Vu;clear hR hR' hcl' hv Vu hE hI XI WM HBS XX;generalize Sm.txt S=t at *;go_enter func3,ntmps3;go_wp2_with(go_at_call 5;refine Pw HF.out ?_;rintro e w1 ⟨rfl,Vg⟩;rw[Vg];clear Vg w1);refine Pw X8.out ?_;rintro e w1 ⟨xb,sb,rfl,h1⟩;dsimp only;go_wp2_with fail;refine Pw (HLW.out s w1 Y2 h1.out.1) ?_;rintro e w2 ⟨rfl,h2⟩;have h2b:Hid (Below w w w2):=h1.out.1.trans (h2.out.mono h1.out.1.size);rw[XC.out];dsimp only;go_wp2_with fail;refine Pw (ZU.out w2 h2b.out) ?_;rintro e w3 ⟨yb,sy,rfl,h3⟩;obtain⟨bx,b2,psx,psy,HT⟩:∃bx b2 psx psy,Hid (F.TwS w xb yb bx b2 psx psy (Y.anS S) (.pointer none) (Y.stS S) (Y.stS S) w3/\(∀A:List (()×Y.RSt),A.map (F.tdS psx)=A.map (F.tdS psy))/\() 8 #[.slice sb 1 1,.slice sy 1 1] w3 fun e w'=>e=.returned true/\Below w3 w3 w'):=by
   obtain⟨p1,bx,psx,p2,p3,p4⟩:=h1.out;obtain⟨r1,b2,psy,r2,r3,r4⟩:=h3.out;have q1:=h2.out;have s1:=p1.size;have s2:=q1.size;have htd:∀A:List (()×Y.RSt),A.map (F.tdS psx)=A.map (F.tdS psy):=fun A=>by
    have:F.tdS psx=F.tdS psy:=by unfold F.tdS;rw[p3,r3]
    rw[this]
   refine⟨bx,b2,psx,psy,⟨h2b.out.trans (r1.mono h2b.out.size),_,_,fun _=>False,(p2.aq q1 Vc).aq r1 Vc,r2,.inl ⟨rfl,fun _ h=>h⟩,fun k a b=>zaa,fun k a b=>b,fun k a b=>b⟩,htd,?_⟩;have t1:=F.r8 (v:=⟨some ⟨sb,0,none⟩,1,1⟩) ((p4.no (bB q1)).no (bB r1));rw[htd]at t1;exact vT w3 ⟨some ⟨sb,0,none⟩,1,1⟩ ⟨some ⟨sy,0,none⟩,1,1⟩ _ t1 (F.r8 (v:=⟨some ⟨sy,0,none⟩,1,1⟩) r4) zad
  clear h1 h2 h3 h2b X8 ZU HF;have HAL:Hid _:=HT.out.2.2;have HTD:Hid _:=HT.out.2.1;generalize Y.stS S=r0 at *;generalize Y.anS S=an at *;dsimp only;go_wp2_with fail;refine Pw HAL.out ?_;rintro e w4 ⟨rfl,WH⟩;have HT4:Hid (F.TwS w xb yb bx b2 psx psy an (.pointer none) r0 r0 w4):=HT.out.1.aq WH Vc;clear WH HT HAL;dsimp only;go_wp2_with fail;refine Pw (HT4.out.px HV.out XF.out (HA.out w4 HT4.out.1) c rc) ?_;rintro e w5 ⟨sla,rfl,h5⟩;dsimp only;go_wp2_with fail;refine Pw (h5.out.1.py HV.out XF.out (HA.out w5 h5.out.1.1) c rc) ?_;rintro e w6 ⟨slb,rfl,h6⟩;obtain⟨Sa,hSa⟩:∃Sa,F.plA an L T r0=Sa:=⟨_,rfl⟩;have HAL:Hid (() 8 #[.slice sla.a sla.n sla.c,.slice slb.a slb.n slb.c] w6 fun e w'=>e=.returned true/\Hid (Below w w w')):=by
   obtain⟨_,hLA,_⟩:=h5.out;obtain⟨hT7,hLB,hK7⟩:=h6.out;have tA:=F.r8 (hLA.kd hK7 zaw zaw);rw[HTD.out]at tA;exact(vT w6 sla slb _ tA (F.r8 hLB) (by rw[PE];exact Pr (F.zj an L T r0 _) hLb)).mono fun e w' x=>⟨x.1,hT7.1.trans (x.2.mono hT7.1.size)⟩
  rw[hSa];clear hSa h5 h6 HT4 HTD HA;dsimp only;go_wp2_with fail;refine Pw HAL.out ?_;rintro e w7 ⟨rfl,h7⟩;dsimp only;go_wp2_with fail;refine Pw (HLW.out t w7 WR h7.out) ?_;rintro e w8 ⟨rfl,h8⟩;have HB:Hid (Below w w w8):=h7.out.trans (h8.out.mono h7.out.size);rw[HLE2.out];have hst:(t.toList == t.toList)=true:=zad;dsimp only;go_wp2;go_ret;exact⟨by first|rfl|simp,HB.out⟩
