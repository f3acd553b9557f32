import Derived.Test.YtibbecdlllchkaaGreatDoorM13
import Derived.Stop.Asserts
set_option maxRecDepth 100000
set_option maxHeartbeats 8000000
namespace Go.Proofs.YtibbecdlllchkaaGreatDoor
variable {zp:Prop}
theorem zfB(h:zp:=by
 rw[hm,PC rfl]at h3;have HM:Hid (lG D tm y.m=true):=by
  rw[Qe]at hm;unfold Hid;rw[HBad.out,hm.1,hm.2];simp
 obtain⟨hb,b,h5,h6,rfl⟩:=h3;dsimp only;refine⟨rfl,?_⟩;unfold ig;rw[HM.out,PC rfl];exact⟨Vy.trans (hb.mono Vy.size),b,Pr Vy.size h5,h6,rfl⟩):zp:=h
theorem zfE(h:zp:=by
 dsimp only;refine⟨rfl,?_⟩;unfold ig;rw[HM.out,PC rfl];exact⟨Vy.trans (hb.mono Vy.size),b,Pr Vy.size h5,h6,rfl⟩):zp:=h
theorem zcC(h:zp:=by
 cases haf:y.m.after with
 |true=>
  have b3t:=b3;rw[haf]at b3t;have HAf:Hid _:=haf;clear haf b3;go_wp2_with fail;refine Pw (HA.out _ WM) ?_;rintro e w3 h3;unfold fZ at h3;have Vy:=U3.trans (Below.mono WM VZ);cases hm:(tm&&U.eA y.m.ai) with
  |true=>
   exact zfB
  |false=>
   rw[hm,Pu zad]at h3;obtain⟨rfl,VA⟩:=h3;have HM:Hid (lG D tm y.m=false):=by
    unfold Hid;rw[HBad.out];rw[HAf.out];cases tm with
     |false=>simp
     |true=>simp only[Bool.true_and]at hm;rw[hm];simp
   clear hm;dsimp only;go_wp2;go_end0;unfold ig;rw[HM.out,Pu zad];exact⟨rfl,Vy.trans (VA.mono Vy.size)⟩
 |false=>
  have b3t:=b3;rw[haf]at b3t;have HAf:Hid _:=haf;clear haf b3;go_wp2_with fail;refine Pw (HR.out _ WM) ?_;rintro e w4 h4;unfold ld at h4;have hbe:Below W1 W1 ((W1.drew).alloc (.cells #[y.m.event] 9)):=WM.alloc (Po _) _;have hresv:J.kz [y.m.event]=U.cy y.m.event U.bA:=by simp[J.kz]
  rw[hresv]at h4;cases hr:(tm&&U.cy y.m.event U.bA) with
  |true=>
   rw[hr,PC rfl]at h4;have HM:Hid (lG D tm y.m=true):=by
    rw[Qe]at hr;unfold Hid;rw[HBad.out,HAf.out,hr.1,hr.2];simp
   have Vy:=U3.trans (hbe.mono VZ);obtain⟨hb,b,h5,h6,rfl⟩:=h4;exact zfE
  |false=>
   rw[hr,Pu zad]at h4;obtain⟨rfl,WH⟩:=h4;have hbd4:Below W1 W1 w4:=hbe.trans (WH.mono hbe.size);obtain⟨a0,a1,a2,a3,a5,a6⟩:=HBx.out w4 hbd4;have HRr:Hid _:=hr;clear hr hresv;dsimp only;go_wp2_with fail;refine Pw (HA.out _ hbd4) ?_;rintro e w3 h3;unfold fZ at h3;have Vy:=U3.trans (Below.mono hbd4 VZ);cases hm:(tm&&U.eA y.m.ai) with
   |true=>
    exact zfB
   |false=>
    rw[hm,Pu zad]at h3;obtain⟨rfl,VA⟩:=h3;have HM:Hid (lG D tm y.m=false):=by
     unfold Hid;rw[HBad.out];have hr:=HRr.out;rw[HAf.out];cases tm with
      |false=>simp
      |true=>simp only[Bool.true_and]at hm hr;rw[hm,hr];simp
    clear hm;dsimp only;go_wp2;go_end0;unfold ig;rw[HM.out,Pu zad];exact⟨rfl,Vy.trans (VA.mono Vy.size)⟩):zp:=h
theorem zcT(h:zp:=by
 rw[hts]at h2;obtain⟨rfl,DA2⟩:=h2;have HN:Hid (U.aT (U.aF P n) (k+1)=some S'):=zbc;have HP':Hid (0<S'.length):=HPos.out S' hts;have HD2:Hid _:=DA2;clear hts DA2;dsimp only;go_wp2
 go_roundg (n-(k+1))
 case measure=>omega
 case rel=>exact⟨k+1,S',rfl,zaa,zah,HN.out,fun _=>HP'.out,(let⟨_,_,_,_,_,_,_,_,G⟩:=HD2.out.mem;G.bel),HD2.out⟩):zp:=h
theorem zcU(h:zp:=by
 rw[hts]at h2;have HN:Hid (U.aT (U.aF P n) n=none/\U.iq (U.aF P n) n=k+1):=by
  have h1:U.aT (U.aF P n) (k+1)=none:=zbm;exact⟨gG h1 n zaa,U.kI zbt h1 n Vx⟩
 obtain⟨hb,b,h5,h6,rfl⟩:=h2;dsimp only;refine⟨rfl,?_⟩;unfold fg;rw[HN.out.1,HN.out.2];exact⟨VR.trans (hb.mono VR.size),b,Pr VR.size h5,h6,rfl⟩):zp:=h
theorem zdf(h:zp:=by
 split at h
 ·cases h
 ·split at h
  ·cases h
  ·rename_i u hu;have:u<S.length:=fk S S.length u (PD hu);split at h
   ·cases h
   ·split at h
    ·cases h
    ·cases h;unfold U.fu;rw[PO];omega):zp:=h
theorem zdp(h:zp:=by
 refine hK.out _ _ ⟨k0,k2⟩ (fun Pm=>?_);clear hK K;refine tH 8 (.slice g5 2 cap5) rfl Pm ?_;refine PX zab ?_ _;go_wp2;go_ret;exact⟨g5,cap5,rfl,U6,HB5.out⟩):zp:=h
theorem zdq(h:zp:=by
 rw[Pt w g k _ _ _ hg];have h5:(cur.toList.take (A.length*1))[k]?=(A.map bo)[k]?:=by rw[h4]
 rw[Sz,PC zaa]at h5;rw[<- QJ,h5];simp[List.getElem?_eq_getElem hk]):zp:=h
theorem zdw(h:zp:=by
 by_cases h3:x.id.size=0
 ·rw[PC h3,PC h3];exact .inr (.inr (.inl ⟨rfl,rfl⟩))
 ·rw[Pu h3,Pu h3];exact .inr (.inr (.inr ⟨rfl,rfl⟩))):zp:=h
theorem zdM(h:zp:=by
 rcases hA.2 with⟨h,h0⟩|⟨g,cap,cur,h,_⟩
 ·simp at h;rw[h0];exact h.2.1
 ·simp at h;exact h.2.1):zp:=h
theorem zd0(h:zp:=by
 rw[RV]at h1;obtain⟨y,hy,hy2⟩:=h1;show List.any _ _=true;rw[RV];exact⟨y,Si hy,hy2⟩):zp:=h
theorem zec(h:zp:=by
 simp only[Bool.false_eq_true,if_false,if_true];exact .inr (.inl ⟨zav,zav⟩)):zp:=h
theorem zeg(h:zp:=by
 rw[PC h2];exact hP.mono fun e w' h=>by rw[PC (.inr (Ry.2 h2))]at h;exact h):zp:=h
theorem zes(h:zp:=by
 rw[PC hb];exact hP.mono fun e w' h=>by rw[PC (.inl hb)]at h;exact h):zp:=h
theorem zev(h:zp:=by
 split at h
 ·cases h
 ·obtain⟨q,h1,h2⟩:=PU.1 h;cases h2;trivial):zp:=h
theorem zeB(h:zp:=by
 exact⟨Wm.trans (hb.mono Wm.size),b,Pr Wm.size h5,h6,rfl⟩):zp:=h
theorem zeQ(h:zp:=by
 obtain⟨⟨A,r'⟩,h1,h2⟩:=PU.1 h;cases h2;exact wo h1):zp:=h
theorem ze4(h:zp:=by
 rw[hup];rcases how2 with h|⟨u,h,_⟩<;>omega):zp:=h
theorem zfo(h:zp:=by
 unfold U.fu;rw[<- WE];exact this):zp:=h
theorem zfp(h:zp:=by
 have h:=WS;rw[WN,Qy]at h;exact h):zp:=h
theorem zan(h:zp:=by rw[hns]):zp:=h
theorem zar(h:zp:=by rw[Vj];simp):zp:=h
theorem za6(h:zp:=by rw[PE];omega):zp:=h
theorem zbc(h:zp:=by unfold Hid;rw[HSt.out];exact hts):zp:=h
theorem zbm(h:zp:=by rw[HSt.out];exact hts):zp:=h
theorem zbt(h:zp:=by rw[HS.out];rfl):zp:=h
theorem zcj(h:zp:=by rw[Vj];exact bP (e:=0) (G.aq U3).map (cG (Pq _ _).drew)):zp:=h
open Tryz
variable {i u k n:Nat}{S:List U.State}{l r P:List ()}{L:J.PL}
section
open Go.RowKit
structure gJ(w0 w:World)(db:Nat)(S:List U.State)(i:Nat):Prop where
 mem:∃sv pv ov mb X nm,X.map (·.s)=S/\nm<=S.length/\ax w0 w db sv pv ov mb (J.bU S) X (J.dZ S) (J.opn S) (J.parts S) nm (J.aV S S.length)
 inv:J.Inv S i
def dG(w0:World)(db:Nat)(S:List U.State)(i d:Nat)(L:J.PL)(w:World)(e:Ending)(w':World):Prop:=match U.aR S i (J.aC (i+1) L) (d:Int) with
 |none=>br 3 ((i+1:Nat):Int) w e w'
 |some S'=>e=.returned (.tuple #[])/\gJ w0 w' db S' (i+1)
theorem On(h:i<=1000000):(Lit.int .i64 ((i:Nat):Int)).wf=true:=WalkArith.wf_i64 zaa
theorem rV{X:List J.DS}(h:X.map (·.s)=S)(hu:u<S.length):∃hx:u<X.length,X[u].s=S.getD u U.st0:=by
 have hl:X.length=S.length:=by rw[<- h,PE]
 refine⟨zaa,?_⟩;subst h;rw[J.getD_eq hu,RU]
theorem DM(w0 w:World)(db:Nat)(S:List U.State)(i d:Nat)(k:Int)(n:())(H:gJ w0 w db S i)(hk0:0<=k)(hk4:k<=4)(hn:n.size<=1000000)(hd:d<=1000000)(hi:i<=100000):
  () 349 #[.agg (eX ((i+1:Nat):Int) d k n),db] w (dG w0 db S i d (.state k n) w):=by
 obtain⟨⟨sv,pv,ov,mb,X,nm,hX,VD,G⟩,I⟩:=H;have Xl:X.length=S.length:=zaH;have hlen:=I.len;have YR:=J.kR S S.length;change(J.opn S).length<=S.length at YR;unfold dG;rw[J.uC];by_cases Wo:0<d/\U.cQ S d<0
 ·rw[PC Wo];refine rK _ d k n G Wo.1 ?_ zaa
  rcases Rr (J.opn S).length d with h|h
  ·exact h
  ·obtain⟨d',rfl⟩:∃d',d=d'+1:=⟨d-1,zaa⟩;have:=(J.Fi I (k:=d') zaa).1;have h2:=Wo.2;rw[this]at h2;omega
 ·rw[Pu Wo];obtain⟨ns,hns⟩:∃ns:U.State,ns=⟨J.bm k,n,decide (k=4),U.cQ S d,d,((i+1:Nat):Int),[],[],[],0,0⟩:=⟨_,rfl⟩;have XT:d<=(J.opn S).length:=by
   rcases Rr (J.opn S).length d with h|h
   ·exact absurd ⟨zaa,by rw[J.MK I h];decide⟩ Wo
   ·exact h
  have how:(d=0/\U.cQ S d=-1)\/∃(k u:Nat) (hk:k<(J.opn S).length),d=k+1/\(J.opn S)[k]=u/\U.cQ S d=u/\u<X.length:=by
   by_cases h0:d=0
   ·subst h0;exact .inl ⟨rfl,rfl⟩
   ·obtain⟨d',rfl⟩:∃d',d=d'+1:=⟨d-1,zaa⟩;obtain⟨h1,h2⟩:=J.Fi I (k:=d') zaa;exact .inr ⟨d',_,zaa,rfl,rfl,h1,zaa⟩
  have how2:U.cQ S d=-1\/∃u:Nat,U.cQ S d=u/\u<S.length:=by
   rcases how with⟨_,h⟩|⟨_,u,_,_,_,h,hu⟩
   ·exact .inl h
   ·exact .inr ⟨u,h,zaa⟩
  have hw:J.gO ns:=⟨k,hk0,hk4,zan,zan⟩;have Wj:J.aj ns=k:=J.eC hk0 hk4 zan zan;have ZD:=J.Lx I hw (dep:=d) zan hX (by rw[hns];exact how2);have hst:=uz ((i+1:Nat):Int) d k (U.cQ S d) n ns G zaa (by unfold J.dZ;rw[PE];omega) zaa (fun j=>by have:=J.mX S j S.length;exact Pr this zaa) zaa
   Wj zan zan zan zan zan zan XT hn (On zaa) how (by
    rw[Xl];exact J.pS _ (fun j hj e=>by have:=(I.up j hj).2;omega))
  refine Pw hst ?_;intro e w' h;have hup:ns.up=U.cQ S d:=zan;rw[Wj,hup]at ZD;change _=jH X (J.parts S) d (U.cQ S d) k at ZD;rw[<- hns,ZD];cases Vw:jH X (J.parts S) d (U.cQ S d) k
  ·rw[Vw]at h;exact h
  ·rw[Vw]at h;obtain⟨rfl,sv',pv',ov',X',hX',G'⟩:=h;have Zo:S.length≠24:=by
    intro e;unfold jH at Vw;rw[Xl,Qp e]at Vw;cases Vw
   refine⟨rfl,⟨sv',pv',ov',mb,X',nm+1,by rw[hX',hX],zaf,?_⟩,?_⟩
   ·have e1:J.bU (S++[ns])=J.bU S:=J.zE S ns zan;have e2:J.dZ (S++[ns])=J.dZ S++[(((i+1:Nat):Int),(d:Int))]:=by rw[J.zz,hns]
    have e3:J.opn (S++[ns])=(J.opn S).take d++[X.length]:=by rw[J.DG,Xl,hns];rfl
    have e4:J.parts (S++[ns])=fun j:Nat=>if(j:Int)=U.cQ S d then J.parts S j++[X.length] else J.parts S j:=by
     funext j;rw[J.zi,Xl,hup]
    have e5:J.aV (S++[ns]) (S++[ns]).length=if Go.Maps.has (J.aV S S.length) (.string n.data.toList) then J.aV S S.length else(J.aV S S.length).put (.string n.data.toList) (.lit (.int .i64 ((i+1:Nat):Int))):=by rw[J.yw,hns]
    rw[e1,e2,e3,e4,e5];exact G'
   ·refine J.C3 I Zo hw (by rw[hns];show(0:Int)<=(d:Int);omega) (by rw[hns];simpa using XT) ?_ ?_ zan zan zan zan zan
    ·exact ze4
    ·exact ze4
theorem lx{w0 w':World}{db:Nat}{sv pv ov:U.Sl}{mb nm:Nat}{X:List J.DS}{x':J.DS}{tm:Bool}(hX:X.map (·.s)=S)(VD:nm<=S.length)(I:J.Inv S i)(hu:u<S.length)
  (h:x'.s.word=(S.getD u U.st0).word/\x'.s.name=(S.getD u U.st0).name/\x'.s.deep=(S.getD u U.st0).deep/\x'.s.up=(S.getD u U.st0).up/\x'.s.depth=(S.getD u U.st0).depth/\x'.s.line=(S.getD u U.st0).line)
  (h0:0<x'.s.has0↔x'.s.enter≠[]) (h1:0<x'.s.has1↔x'.s.leave≠[]) (hm:x'.s.aa.length<=i+1) (ht:J.bU (S.set u x'.s)=tm)
  (G:ax w0 w' db sv pv ov mb tm (X.set u x') (J.dZ S) (J.opn S) (J.parts S) nm (J.aV S S.length)):gJ w0 w' db (S.set u x'.s) (i+1):=by
 have H:=J.wy h;refine⟨⟨sv,pv,ov,mb,X.set u x',nm,?_,by rw[PO];exact VD,?_⟩,J.LD I hu h h0 h1 hm⟩
 ·rw[RB,hX]
 ·have e4:J.parts (S.set u x'.s)=J.parts S:=funext fun j=>H.parts j;rw[ht,H.jK,H.opn,e4,H.len,H.first];exact G
theorem GK(w0 w:World)(db:Nat)(S:List U.State)(i d:Nat)(ev t:())(af:Bool)(dl:Int)(A:List U.Act)(v:U.Sl)(H:gJ w0 w db S i)(hd:d<=1000000)(hi:i<=100000)(hA:w0.ownsRow 0 275 1 v.v A.length (A.map bo)):
  () 354 #[.agg #[.int .i64 ((i+1:Nat):Int),(d:Int),ev,af,.int .u64 dl,t,.slice v.a v.n v.c],db] w (dG w0 db S i d (.move ev af dl t A) w):=by
 obtain⟨⟨sv,pv,ov,mb,X,nm,hX,VD,G⟩,I⟩:=H;have Xl:X.length=S.length:=zaH;have hlen:=I.len;have YR:=J.kR S S.length;change(J.opn S).length<=S.length at YR;have y:J.PV:=⟨⟨ev,t,af,dl,A,((i+1:Nat):Int)⟩,v⟩;unfold dG;rw[J.xr I];by_cases h0:d=0
 ·rw[PC h0];exact mL _ d ⟨⟨ev,t,af,dl,A,((i+1:Nat):Int)⟩,v⟩ G (.inl h0) zaa
 ·rw[Pu h0];obtain⟨d',rfl⟩:∃d',d=d'+1:=⟨d-1,zaa⟩;rw[show d'+1-1=d' from rfl]
  rcases Rr d' (J.opn S).length with hk|hk
  ·rw[Pp hk];have hu:(J.opn S)[d']<S.length:=J.fk S S.length _ (P7 hk);obtain⟨u,hue⟩:∃u,u=(J.opn S)[d']:=⟨_,rfl⟩;rw[<- hue]at hu⊢;obtain⟨hux,WE⟩:=rV hX hu;obtain⟨g,cap,rfl⟩:=G.DV zaa;simp only;by_cases hb:J.aj (S.getD u U.st0)∈([2,3,4]:List Int)
   ·rw[PC hb];exact vA _ (d'+1) ⟨⟨ev,t,af,dl,A,((i+1:Nat):Int)⟩,v⟩ d' u g cap G hk rfl zaa hue.symm hux (by rw[WE];exact hb)
   ·rw[Pu hb];have Wk:=I.aa _ (J.bp hu);refine Pw (vB _ (d'+1) ⟨⟨ev,t,af,dl,A,((i+1:Nat):Int)⟩,v⟩ d' u g cap G hk rfl zaa hue.symm hux (by rw[WE];exact hb) hA (by rw[WE];omega)) ?_;rintro e w' ⟨rfl,vm',G'⟩;refine⟨rfl,?_⟩;have he:=I.enter _ (J.bp hu);have hl:=I.leave _ (J.bp hu);have:=lx (x':=J.dx X[u] ⟨⟨ev,t,af,dl,A,((i+1:Nat):Int)⟩,v⟩ vm') hX VD I hu (by simp[J.dx,WE]) (by simpa[J.dx,WE] using he) (by simpa[J.dx,WE] using hl) (by simp[J.dx,WE];simpa using Wk) (J.uM hu (m:=⟨ev,t,af,dl,A,((i+1:Nat):Int)⟩) (by simp[J.dx,WE])) G';exact zfo
  ·rw[P6 hk];exact mL _ (d'+1) ⟨⟨ev,t,af,dl,A,((i+1:Nat):Int)⟩,v⟩ G (.inr zaa) zaa
theorem DK(w0 w:World)(db:Nat)(S:List U.State)(i d:Nat)(A:List U.Act)(v:U.Sl)(H:gJ w0 w db S i)(hd:d<=1000000)(hA:w0.ownsRow 0 275 1 v.v A.length (A.map bo))(hA0:A≠[]):
  () 359 #[.agg #[.int .i64 ((i+1:Nat):Int),(d:Int),.slice v.a v.n v.c],db] w (dG w0 db S i d (.enter A) w):=by
 obtain⟨⟨sv,pv,ov,mb,X,nm,hX,VD,G⟩,I⟩:=H;have Xl:X.length=S.length:=zaH;have hlen:=I.len;have YR:=J.kR S S.length;change(J.opn S).length<=S.length at YR;unfold dG;rw[J.uA I];by_cases h0:d=0
 ·rw[PC h0];exact lO (.inl ⟨rfl,rfl,rfl⟩) _ d v.a v.n v.c G (.inl h0) zaa
 ·rw[Pu h0];obtain⟨d',rfl⟩:∃d',d=d'+1:=⟨d-1,zaa⟩;rw[show d'+1-1=d' from rfl]
  rcases Rr d' (J.opn S).length with hk|hk
  ·rw[Pp hk];have hu:(J.opn S)[d']<S.length:=J.fk S S.length _ (P7 hk);obtain⟨u,hue⟩:∃u,u=(J.opn S)[d']:=⟨_,rfl⟩;rw[<- hue]at hu⊢;obtain⟨hux,WE⟩:=rV hX hu;obtain⟨g,cap,rfl⟩:=G.DV zaa;simp only;have hvn:X[u].ve.n=(S.getD u U.st0).enter.length:=by
    rw[<- WE]
    rcases(G.deep u hux).enter.2 with⟨h,h0⟩|⟨g,cap,cur,h,_⟩
    ·exact zfi
    ·exact zfu
   have hP:=uf (.inl ⟨rfl,rfl,rfl⟩) ((i+1:Nat):Int) (d'+1) v.a v.n v.c d' u g cap G hk rfl zaa hue.symm hux X[u].ve (G.BE hux 5 _ rfl) (J.i6 X[u] ((i+1:Nat):Int) A v) (fun w4 w5 Xm VU=>(G.E6 (v':=v) (x':=J.i6 X[u] ((i+1:Nat):Int) A v) (j:=5) Xm hux zac rfl rfl rfl rfl hA (G.deep u hux).leave).aq (VU.mono zad));rw[hvn,WE]at hP;by_cases hb:J.aj (S.getD u U.st0)∈([3,4]:List Int)
   ·exact zes
   ·rw[Pu hb];by_cases h2:(S.getD u U.st0).enter≠[]
    ·exact zeg
    ·rw[Pu h2];have h2':(S.getD u U.st0).enter=[]:=Classical.not_not.1 h2;refine hP.mono fun e w' h=>?_;rw[h2',Pu (fun h=>h.elim hb zad)]at h;obtain⟨rfl,G'⟩:=h;refine⟨rfl,?_⟩;have he:=I.enter _ (J.bp hu);have hl:=I.leave _ (J.bp hu);have Wk:=I.aa _ (J.bp hu);have:=lx (x':=J.i6 X[u] ((i+1:Nat):Int) A v) hX VD I hu (by simp[J.i6,WE]) (by simp[J.i6];exact hA0) (by simpa[J.i6,WE] using hl) (by simp[J.i6,WE];have:=Wk;simp at this;omega) (J.nj (by simp[J.i6,WE])) G';exact zfo
  ·rw[P6 hk];exact lO (.inl ⟨rfl,rfl,rfl⟩) _ (d'+1) v.a v.n v.c G (.inr zaa) zaa
theorem DL(w0 w:World)(db:Nat)(S:List U.State)(i d:Nat)(A:List U.Act)(v:U.Sl)(H:gJ w0 w db S i)(hd:d<=1000000)(hA:w0.ownsRow 0 275 1 v.v A.length (A.map bo))(hA0:A≠[]):
  () 361 #[.agg #[.int .i64 ((i+1:Nat):Int),(d:Int),.slice v.a v.n v.c],db] w (dG w0 db S i d (.leave A) w):=by
 obtain⟨⟨sv,pv,ov,mb,X,nm,hX,VD,G⟩,I⟩:=H;have Xl:X.length=S.length:=zaH;have hlen:=I.len;have YR:=J.kR S S.length;change(J.opn S).length<=S.length at YR;unfold dG;rw[J.uB I];by_cases h0:d=0
 ·rw[PC h0];exact lO (.inr ⟨rfl,rfl,rfl⟩) _ d v.a v.n v.c G (.inl h0) zaa
 ·rw[Pu h0];obtain⟨d',rfl⟩:∃d',d=d'+1:=⟨d-1,zaa⟩;rw[show d'+1-1=d' from rfl]
  rcases Rr d' (J.opn S).length with hk|hk
  ·rw[Pp hk];have hu:(J.opn S)[d']<S.length:=J.fk S S.length _ (P7 hk);obtain⟨u,hue⟩:∃u,u=(J.opn S)[d']:=⟨_,rfl⟩;rw[<- hue]at hu⊢;obtain⟨hux,WE⟩:=rV hX hu;obtain⟨g,cap,rfl⟩:=G.DV zaa;simp only;have hvn:X[u].vl.n=(S.getD u U.st0).leave.length:=by
    rw[<- WE]
    rcases(G.deep u hux).leave.2 with⟨h,h0⟩|⟨g,cap,cur,h,_⟩
    ·exact zfi
    ·exact zfu
   have hP:=uf (.inr ⟨rfl,rfl,rfl⟩) ((i+1:Nat):Int) (d'+1) v.a v.n v.c d' u g cap G hk rfl zaa hue.symm hux X[u].vl (G.BE hux 6 _ rfl) (J.ja X[u] ((i+1:Nat):Int) A v) (fun w4 w5 Xm VU=>(G.E6 (v':=v) (x':=J.ja X[u] ((i+1:Nat):Int) A v) (j:=6) Xm hux zac rfl rfl rfl rfl (G.deep u hux).enter hA).aq (VU.mono zad));rw[hvn,WE]at hP;by_cases hb:J.aj (S.getD u U.st0)∈([3,4]:List Int)
   ·exact zes
   ·rw[Pu hb];by_cases h2:(S.getD u U.st0).leave≠[]
    ·exact zeg
    ·rw[Pu h2];have h2':(S.getD u U.st0).leave=[]:=Classical.not_not.1 h2;refine hP.mono fun e w' h=>?_;rw[h2',Pu (fun h=>h.elim hb zad)]at h;obtain⟨rfl,G'⟩:=h;refine⟨rfl,?_⟩;have he:=I.enter _ (J.bp hu);have hl:=I.leave _ (J.bp hu);have Wk:=I.aa _ (J.bp hu);have:=lx (x':=J.ja X[u] ((i+1:Nat):Int) A v) hX VD I hu (by simp[J.ja,WE]) (by simpa[J.ja,WE] using he) (by simp[J.ja];exact hA0) (by simp[J.ja,WE];have:=Wk;simp at this;omega) (J.nj (by simp[J.ja,WE])) G';exact zfo
  ·rw[P6 hk];exact lO (.inr ⟨rfl,rfl,rfl⟩) _ (d'+1) v.a v.n v.c G (.inr zaa) zaa
variable {w0 w:World}{db mb nm:Nat}{sv pv ov:U.Sl}{tm:Bool}{X:List J.DS}{SP:List (Int×Int)}{O:List Nat}{PT:Nat->List Nat}{D:DataW Nat}
def dJ(X:List J.DS)(p:List Nat):Bool:=p.any fun j=>match X[j]? with|some x=>!J.dF (J.aj x.s)|none=>false
theorem oD(u:Nat)(G:ax w0 w db sv pv ov mb tm X SP O PT nm D)(hu:u<X.length)(hX:X.length<=1000)(hPT:∀j∈PT u,j<X.length)(hPl:(PT u).length<=1000):
  () 121 #[db,.agg #[.int .i64 (J.aj X[u].s),.string X[u].s.name,.int .i64 X[u].s.depth,.int .i64 X[u].s.up,.slice X[u].vp.a (PT u).length X[u].vp.c,.slice X[u].ve.a X[u].ve.n X[u].ve.c,.slice X[u].vl.a X[u].vl.n X[u].vl.c,.slice X[u].vm.a X[u].vm.n X[u].vm.c]] w fun e w'=>e=.returned (.bool (dJ X (PT u)))/\Below w w w':=by
 obtain⟨g,cap,rfl⟩:=G.DV zaa;obtain⟨Ww,V5,_⟩:=G.CF;have V4:=G.dlt;obtain⟨c0,_,_,_,_⟩:=G.cells;have HR:Hid (∀j (hj:j<X.length),w.cell? ⟨g,j*8,none⟩=some (.int .i64 (J.aj X[j].s))):=fun j hj=>by
  have:=G.BE hj 0 (.int .i64 (J.aj X[j].s)) rfl;simpa using this
 have HV:Hid (∀k (hk:k<(PT u).length),∃gp,X[u].vp.a=some ⟨gp,0,none⟩/\gp<w.heap.size/\w.cell? ⟨gp,k,none⟩=some (.int .i64 ((PT u)[k]:Nat))/\(PT u).length<=X[u].vp.c):=fun k hk=>by
  have ho:=G.parts u hu;obtain⟨gp,cp,e⟩:=U.dy ho zaa;have h:=ho;rw[e]at h;have hc:=Row.cell (α:=Nat) (n:=1) (j:=0) (f:=eT) (fun _=>rfl) (aJ h (PK _)) zac hk;have Ve:w.cell? (gp,k)=some (.int .i64 ((PT u)[k]:Nat)):=by simpa[eT] using hc
  simp only[U.Sl.v,Value.slice.injEq]at e;refine⟨gp,e.1,PW _ _ Ve,Ve,?_⟩
  rcases h.2 with⟨h,_⟩|⟨g',cap',cur,h,_,_,hle,_⟩
  ·cases h
  ·simp at h;rw[e.2.2,h.2];exact hle
 have HP:Hid _:=hPT;generalize Wj:J.aj X[u].s=kd0;generalize hva:X[u].vp.a=va at *;generalize hvc:X[u].vp.c=vc at *;clear Wj hva hvc hPT G;go_enter func121,ntmps121;go_wp2
 go_loop[10] (fun i=>∃k:Nat,k<=(PT u).length/\i=.int .i64 k/\dJ X ((PT u).take k)=false) (fun i=>(PT u).length-(intOf i).toNat)
 case atStart=>exact⟨0,PK _,rfl,rfl⟩
 case round=>
  obtain⟨k,hk,rfl,WS⟩:=hrel;by_cases Vx:k<(PT u).length
  ·obtain⟨gp,rfl,hgp,cp,hcp⟩:=HV.out k Vx;have hj:=HP.out _ (P7 Vx);obtain⟨j,hje⟩:∃j,j=(PT u)[k]:=⟨_,rfl⟩;rw[<- hje]at cp hj;have cK:=HR.out j hj;have HN:Hid (dJ X ((PT u).take (k+1))=(dJ X ((PT u).take k)||!J.dF (J.aj X[j].s))):=by
    unfold Hid dJ;rw[QE,Pp Vx,Tb,<- hje];simp[hj]
   generalize hq:J.aj X[j].s=kj at *;clear hq;have HNo:Hid _:=WS;clear WS hje;go_wp2_with fail;refine(kh kj _).mono ?_;rintro e w9 ⟨rfl,U1⟩;rw[U1];clear U1 w9;obtain⟨h,hh⟩:∃h,h=J.dF kj:=⟨_,rfl⟩;have hi:(decide (kj=3)||decide (kj=4))=h:=hh.symm;rw[hi];rw[<- hh]at HN;clear hh hi;cases h with
   |true=>
    dsimp only;go_wp2
    go_round
    case rel=>exact⟨k+1,zaa,zah,by rw[HN.out,HNo.out];rfl⟩
    case measure=>simp[intOf];omega
   |false=>
    have HT:Hid (dJ X (PT u)=true):=by
     have h1:dJ X ((PT u).take (k+1))=true:=by rw[HN.out,HNo.out];rfl
     unfold dJ at h1;exact zd0
    dsimp only;go_wp2;go_ret;exact⟨by rw[HT.out];rfl,(Pq _ _).alloc (Po _) _⟩
  ·have WN:k=(PT u).length:=zaa;have HF:Hid (dJ X (PT u)=false):=by
    exact zfp
   clear WS;go_wp2;go_ret;exact⟨by rw[HF.out];rfl,(Pq _ _).alloc (Po _) _⟩
namespace J
theorem vI(hI:Inv S i){X:List DS}(hX:X.map (·.s)=S)(k:Nat):(U.regions (S.map U.emb) k).isEmpty=!dJ X (parts S k):=by
 have Vs:∀(m:Nat) (x:Nat),x∈U.mZ (S.map U.emb) k m↔x<m/\∃h:x<S.length,S[x].up=k/\dF (aj S[x])=false:=by
  intro m
  induction m with
  |zero=>intro x;simp[U.mZ]
  |succ m ih=>
   intro x;rw[U.mZ];by_cases hm:m<S.length
   ·have e:((S.map U.emb)[m]?.map (U.ET k)).getD false=(decide (S[m].up=k)&&!dF (aj S[m])):=by
     rw[Pv,Pp hm];simp only[Option.map_some,Option.getD_some,U.ET,U.emb];rw[jw (hI.words _ (P7 hm))]
    rw[e];by_cases hc:(decide (S[m].up=(k:Int))&&!dF (aj S[m]))=true
    ·rw[PC hc,PQ,ih,PB];rw[Qe,SG,Uw]at hc;constructor
     ·rintro(⟨h1,h2⟩|rfl)
      ·exact⟨zaa,h2⟩
      ·exact⟨zaa,hm,hc.1,hc.2⟩
     ·rintro⟨h1,h2⟩;by_cases ex:x=m
      ·exact .inr ex
      ·exact .inl ⟨zaa,h2⟩
    ·rw[Pu hc,ih];constructor
     ·exact zfn
     ·rintro⟨h1,h2⟩;refine⟨?_,h2⟩;have:x≠m:=by
       rintro rfl;obtain⟨_,h3,h4⟩:=h2;apply hc
       rw[Qp h3,h4];rfl
      omega
   ·have e:((S.map U.emb)[m]?.map (U.ET k)).getD false=false:=by
     rw[P6 za6];rfl
    rw[e];simp only[Bool.false_eq_true,if_false];rw[ih];constructor
    ·exact zfn
    ·rintro⟨h1,h2,h3⟩;exact⟨zaa,h2,h3⟩
 unfold U.regions;rw[PE];have Xl:X.length=S.length:=zaH;have hXs:∀x (h:x<S.length),(X[x]'(zaa)).s=S[x]:=fun x h=>by
  subst hX;rw[RU]
 cases hp:dJ X (parts S k)
 ·show _=true;rw[Ri];unfold dJ at hp;rw[Ti]at hp;rw[List.eq_nil_iff_forall_not_mem];intro x hx;obtain⟨h1,h2,h3,h4⟩:=(Vs S.length x).1 hx;have:=hp x ((js S.length).2 ⟨h2,by rw[getD_eq h2];exact h3⟩);rw[Pp zaa]at this;simp only[hXs x h2,h4]at this;exact this rfl
 ·show _=false;unfold dJ at hp;rw[RV]at hp;obtain⟨x,hx,Y9⟩:=hp;obtain⟨h1,h2⟩:=(js S.length).1 hx;rw[Pp zaa]at Y9;simp only[hXs x h1,Bool.not_eq_true']at Y9;rw[getD_eq h1]at h2;have hm:=(Vs S.length x).2 ⟨h1,h1,h2,Y9⟩;cases hr:U.mZ (S.map U.emb) k S.length with
  |nil=>rw[hr]at hm;cases hm
  |cons a b=>rfl
theorem DI(hI:Inv S i){X:List DS}(hX:X.map (·.s)=S)(hk:k<S.length)(h:U.dE S k=none):U.dE S (k+1)=if aj (S.getD k U.st0)=1/\dJ X (parts S k)=false then some (S.getD k U.st0).line else none:=by
 rw[U.dE,h];simp only;rw[Ch (hI.words _ (bp hk)),vI hI hX];by_cases h1:aj (S.getD k U.st0)=1
 ·rw[Qp h1];cases hp:dJ X (parts S k)
  ·rw[PC zae,PC ⟨h1,rfl⟩]
  ·rw[Pu zad,Pu zad]
 ·rw[Ql h1,Pu zad,Pu (fun h=>h1 h.1)]
end J
def rM(S:List U.State)(w:World)(e:Ending)(w':World):Prop:=match U.dE S S.length with
 |some l=>br 3 l w e w'
 |none=>e=.returned (.tuple #[])/\Below w.heap.size w w'
theorem oA(w0 w:World)(db:Nat)(S:List U.State)(i:Nat)(H:gJ w0 w db S i)(hS:0<S.length):
  () 77 #[db] w (rM S w):=by
 obtain⟨⟨sv,pv,ov,mb,X,nm,hX,VD,G⟩,I⟩:=H;have Xl:X.length=S.length:=zaH;have hlen:=I.len;obtain⟨g,cap,rfl⟩:=G.DV zaa;obtain⟨hsvc,V5,_⟩:=G.CF;have V4:=G.dlt;obtain⟨c0,c1,_,_,_⟩:=G.cells;have hpn:=G.OT;rw[hpn]at c1;have hspl:(J.dZ S).length=X.length:=by unfold J.dZ;rw[PE,Xl]
 rw[hspl]at c1;have HSp:Hid (∀k (hk:k<X.length),∃gs,pv.a=some ⟨gs,0,none⟩/\w.cell? ⟨gs,k*2,none⟩=some (.int .i64 (S.getD k U.st0).line)/\w.cell? ⟨gs,k*2+1,none⟩=some (.int .i64 (S.getD k U.st0).depth)/\X.length<=pv.c):=fun k hk=>by
  have ho:=G.jK;obtain⟨gs,cs,e⟩:=U.dy ho zaa;have h:=ho;rw[e]at h;have hr:=Row.range (f:=J.jt) (n:=2) (fun _=>rfl) (aJ h (PK _)) (show k<(J.dZ S).length by omega);have es:(J.dZ S)[k]'(zaa)=((S.getD k U.st0).line,(S.getD k U.st0).depth):=by unfold J.dZ;rw[RU,J.getD_eq (show k<S.length by omega)]
  rw[es]at hr;simp only[U.Sl.v,Value.slice.injEq]at e;refine⟨gs,e.1,by have:=hr 0 _ rfl;simpa using this,hr 1 _ rfl,?_⟩
  rcases h.2 with⟨h,_⟩|⟨g',cap',cur,h,_,_,hle,_⟩
  ·cases h
  ·simp at h;rw[e.2.2,h.2,<- hspl];exact hle
 have HRow:Hid (∀k (hk:k<X.length),w.rangeAt g (k*8) [.int .i64 (J.aj X[k].s),.string X[k].s.name,.int .i64 X[k].s.depth,.int .i64 X[k].s.up,.slice X[k].vp.a (J.parts S k).length X[k].vp.c,.slice X[k].ve.a X[k].ve.n X[k].ve.c,.slice X[k].vl.a X[k].vl.n X[k].vl.c,.slice X[k].vm.a X[k].vm.n X[k].vm.c]):=fun k hk=>by
  have:=G.BE hk;rw[J.aM,G.Nc hk]at this;exact this
 have HHas:Hid (∀k (hk:k<X.length) w',Below w w w'->() 121 #[db,.agg #[.int .i64 (J.aj X[k].s),.string X[k].s.name,.int .i64 X[k].s.depth,.int .i64 X[k].s.up,.slice X[k].vp.a (J.parts S k).length X[k].vp.c,.slice X[k].ve.a X[k].ve.n X[k].ve.c,.slice X[k].vl.a X[k].vl.n X[k].vl.c,.slice X[k].vm.a X[k].vm.n X[k].vm.c]] w' fun e w''=>e=.returned (.bool (dJ X (J.parts S k)))/\Below w'.heap.size w' w''):=fun k hk w' hb=>
  oD k (G.aq hb) hk zaa (fun j hj=>by have:=((J.js S.length).1 hj).1;omega) (Pr (J.mX S k S.length) zaa)
 have HXs:Hid (∀k (hk:k<X.length),J.aj X[k].s=J.aj (S.getD k U.st0)):=fun k hk=>by
  rw[(rV hX (show k<S.length by omega)).2]
 have HI:Hid _:=I;have HXm:Hid _:=hX;have HXl:Hid _:=Xl;have hXb:X.length<=24:=zaa;clear hX Xl hlen hpn hspl I G VD hS;go_enter func77,ntmps77;go_wp2
 go_loopg[9] X.length (fun q i wr=>∃k:Nat,q=X.length-k/\k<=X.length/\i=.int .i64 k/\U.dE S k=none/\Below w w wr)
 case atStart=>exact⟨0,rfl,PK _,rfl,rfl,Pq _ _⟩
 case round=>
  obtain⟨k,hq,hk,rfl,ZP,VR⟩:=hrel;have VZ:=VR.size;by_cases Vx:k<X.length
  ·have Va:=HRow.out k Vx;have hrng':wr.rangeAt g (k*8) [.int .i64 (J.aj X[k].s),.string X[k].s.name,.int .i64 X[k].s.depth,.int .i64 X[k].s.up,.slice X[k].vp.a (J.parts S k).length X[k].vp.c,.slice X[k].ve.a X[k].ve.n X[k].ve.c,.slice X[k].vl.a X[k].vl.n X[k].vl.c,.slice X[k].vm.a X[k].vm.n X[k].vm.c]:=fun j v hj=>(PN (w:=w) (VR.block g V5)).trans (Va j v hj);have HP1:Hid _:=J.DI HI.out HXm.out (k:=k) (by have:=HXl.out;omega) ZP;have hkk:=HXs.out k Vx;have HPar:Hid _:=ZP;clear Va ZP;by_cases h1:J.aj X[k].s=1
   ·have HH:Hid _:=HHas.out k Vx;have HS1:Hid (J.aj (S.getD k U.st0)=1):=by unfold Hid;rw[<- hkk];exact h1
    rw[h1]at hrng' HH;clear hkk h1;go_wp2_with(first
     |(refine QA rfl 134 (.tmp 12) rfl g (k*8) rfl _ _ hrng' underlying134 rfl cB ?_)
     |(refine aB rfl 134 (.tmp 3) (.tmp 13) rfl 134 _ _ rfl rfl cB rfl rfl ?_))
    have WG:Below w w (wr.alloc (.cells #[(1:Int),.string X[k].s.name,.int .i64 X[k].s.depth,.int .i64 X[k].s.up,.slice X[k].vp.a (J.parts S k).length X[k].vp.c,.slice X[k].ve.a X[k].ve.n X[k].ve.c,.slice X[k].vl.a X[k].vl.n X[k].vl.c,.slice X[k].vm.a X[k].vm.n X[k].vm.c] 134)):=VR.alloc VZ _;refine Pw (HH.out _ WG) ?_;rintro e w2 ⟨rfl,U4⟩;have Wm:=WG.trans (U4.mono WG.size);clear WG U4 hrng';have d1:w2.cell? (db,1)=some (.slice pv.a X.length pv.c):=(PN (w:=w) (Wm.block db V4)).trans c1;cases hp:dJ X (J.parts S k) with
    |true=>
     have HN:Hid (U.dE S (k+1)=none):=by unfold Hid;rw[HP1.out,Pu (by rw[hp];simp)]
     clear hp;dsimp only;go_wp2
     go_roundg (X.length-(k+1))
     case measure=>omega
     case rel=>exact⟨k+1,rfl,zaa,zah,HN.out,Wm⟩
    |false=>
     have HN:Hid (U.dE S S.length=some (S.getD k U.st0).line):=U.tZ (i:=k+1) (by rw[HP1.out,PC ⟨HS1.out,hp⟩]) _ (by have:=HXl.out;omega);obtain⟨gs,hpva,s0,s1,hpc⟩:=HSp.out k Vx;have hgs:=PW _ _ s0;have t0:=(PN (w:=w) (w':=w2) (a:=⟨gs,k*2,none⟩) (Wm.block gs hgs)).trans s0;have t1:=(PN (w:=w) (w':=w2) (a:=⟨gs,k*2+1,none⟩) (Wm.block gs hgs)).trans s1;rw[hpva]at d1;clear hp s0 s1 hpva;generalize hln:(S.getD k U.st0).line=ln at *;generalize hdp:(S.getD k U.st0).depth=dp at *;clear hln hdp;dsimp only;go_wp2_with fail;refine(ba ln dp 3 _).mono ?_;rintro e w3 ⟨hb,b,h5,h6,rfl⟩;dsimp only;refine⟨rfl,?_⟩;unfold rM;rw[HN.out];exact zeB
   ·have HN:Hid (U.dE S (k+1)=none):=by unfold Hid;rw[HP1.out,Pu (fun h=>h1 (by rw[hkk];exact h.1))]
    have h1':(J.aj X[k].s == 1)=false:=by simpa using h1
    generalize Wj:J.aj X[k].s=kd at *;clear Wj hkk h1;go_wp2_with(first
     |(refine QA rfl 134 (.tmp 12) rfl g (k*8) rfl _ _ hrng' underlying134 rfl cB ?_)
     |(refine aB rfl 134 (.tmp 3) (.tmp 13) rfl 134 _ _ rfl rfl cB rfl rfl ?_))
    go_roundg (X.length-(k+1))
    case measure=>omega
    case rel=>exact⟨k+1,rfl,zaa,zah,HN.out,VR.alloc VZ _⟩
  ·have ZM:k=X.length:=zaa;have HN:Hid (U.dE S S.length=none):=by
    have:=ZP;rw[ZM,HXl.out]at this;exact this
   clear ZP;go_wp2;go_end0;unfold rM;rw[HN.out];exact⟨rfl,VR⟩
namespace J
def Good:PL->Prop
 |.state k n=>0<=k/\k<=4/\n.size<=8
 |.move _ _ _ _ _=>True
 |.enter A=>A≠[]
 |.leave A=>A≠[]
theorem jI{s:()}(h:U.plain s=true):s.size<=8:=by
 rw[U.plain,Qe,Qe,SG,SG]at h;exact h.2.2
theorem wo{A:List U.Act}(h:bW l=some (A,r)):A≠[]:=by
 unfold bW at h;split at h
 ·cases h
 ·cases h
 ·cases h;simp
theorem F0{n:()}{k:Int}(h:cI l=some ((n,k),r)):0<=k/\k<=4/\n.size<=8:=by
 unfold cI at h;split at h
 ·cases h
 ·rename_i hq;cases h
  exact⟨zac,zac,jI (iQ hq).1⟩
 ·rename_i hq;split at h
  ·cases h;exact⟨zac,zac,jI (iQ hq).1⟩
  ·cases h;exact⟨zac,zac,jI (iQ hq).1⟩
theorem Gk{num:Nat}{l r:List ()}{L:PL}(h:bj num l=some (L,r)):Good L:=by
 cases l with
 |nil=>cases h
 |cons x t=>
  rw[bj]at h;have st:∀k:Int,0<=k->k<=4->((pOf U.plain t).map fun q=>(PL.state k q.1,q.2))=some (L,r)->Good L:=by
   intro k h0 h4 h;obtain⟨⟨n,r'⟩,h1,h2⟩:=PU.1 h;cases h2
   exact⟨h0,h4,jI (iQ h1).1⟩
  split at h
  ·exact st 0 zac zac h
  ·split at h
   ·exact st 1 zac zac h
   ·split at h
    ·exact st 2 zac zac h
    ·split at h
     ·obtain⟨⟨⟨n,k⟩,r'⟩,h1,h2⟩:=PU.1 h;cases h2
      exact F0 h1
     ·split at h
      ·exact zev
      ·split at h
       ·exact zev
       ·split at h
        ·exact zeQ
        ·split at h
         ·exact zeQ
         ·cases h
theorem oV{num:Nat}(h:aS num l=some L):Good L:=by
 unfold aS at h;split at h
 ·rename_i L' h1;cases h
  exact Gk h1
 ·cases h
theorem step_pos{S S':List U.State}{i num d:Nat}{L:PL}(hI:Inv S i)(h:U.aR S i (aC num L) (d:Int)=some S'):0<S'.length:=by
 cases L with
 |state k n=>
  rw[uC]at h;split at h
  ·cases h
  ·split at h
   ·cases h;simp
   ·cases h
 |move ev af dl t A=>
  rw[xr hI]at h;split at h
  ·cases h
  ·split at h
   ·cases h
   ·rename_i u hu;split at h
    ·cases h
    ·have:u<S.length:=fk S S.length u (PD hu);cases h;unfold U.fu;rw[PO];omega
 |enter A=>
  rw[uA hI]at h;exact zdf
 |leave A=>
  rw[uB hI]at h;exact zdf
end J
theorem Ba(hk:k<n)(h:J.aS (k+1) (J.wl P k)=some L):(U.aF P n)[k]?=some (J.aC (k+1) L,(U.cW (U.pc P k):Int)):=by
 unfold U.aF;rw[Pv,Tu hk,Ud,J.mJ h]
theorem Ca(hk:k<n)(h:J.aS (k+1) (J.wl P k)=some L)(hS:U.aT (U.aF P n) k=some S):U.aT (U.aF P n) (k+1)=U.aR S k (J.aC (k+1) L) (U.cW (U.pc P k):Int):=by
 rw[U.aT,hS];simp only;rw[Ba hk h]
def fg(P:List ())(n:Nat)(w:World)(e:Ending)(w':World):Prop:=match U.aT (U.aF P n) n with
 |none=>br 3 (U.iq (U.aF P n) n:Int) w e w'
 |some S=>match U.dE S S.length with
  |some l=>br 3 l w e w'
  |none=>∃db,e=.returned (.pointer (some ⟨db,0,none⟩))/\Below w.heap.size w w'/\gJ w w' db S n
theorem FR(w:World):gJ w ((w.alloc (.map #[] 0)).alloc (.cells #[.slice none 0 0,.slice none 0 0,.slice none 0 0,.map (some w.heap.size),false] 121)) (w.heap.size+1) [] 0:=by
 refine⟨⟨U.Sl.nil,U.Sl.nil,U.Sl.nil,w.heap.size,[],0,rfl,Po _,?_⟩,J.Inv.nil⟩;have hb:Below w w ((w.alloc (.map #[] 0)).alloc (.cells #[.slice none 0 0,.slice none 0 0,.slice none 0 0,.map (some w.heap.size),false] 121)):=((Pq _ _).alloc (Po _) _).alloc zad _;refine⟨hb,zaa,Po _,cA _ _ _,QC _ _ _ _,QC _ _ _ _,QC _ _ _ _,fun i h=>absurd h zad,fun i h=>absurd h zad,fun i j h=>absurd h zad,fun i h=>absurd h zad,fun i j h=>absurd h zad,?_⟩;exact bP (e:=0) (Up w _ _ _) (cG ((Pq _ _).alloc (Po _) _))
theorem Ma(a b c d:Value)(w:World):(method 596 345 (.agg #[a,b,c,d]) "charts/reader.place").run prog w=.ok (349,.agg #[a,b,c,d]) w:=zab
theorem L9(a b c d e f g:Value)(w:World):(method 596 349 (.agg #[a,b,c,d,e,f,g]) "charts/reader.place").run prog w=.ok (354,.agg #[a,b,c,d,e,f,g]) w:=zab
theorem L7(a b c:Value)(w:World):(method 596 356 (.agg #[a,b,c]) "charts/reader.place").run prog w=.ok (359,.agg #[a,b,c]) w:=zab
theorem L8(a b c:Value)(w:World):(method 596 357 (.agg #[a,b,c]) "charts/reader.place").run prog w=.ok (361,.agg #[a,b,c]) w:=zab
theorem ub(P:List ())(n lb:Nat)(vs:List Value)(LS:List J.PL)(w:World)(hlb:w.heap[lb]?=some (.cells vs.toArray 115 (0,0)))(HL:k9 w P n vs LS)(hn0:0<n)(hn:n<=1500)(Vf:∀j,(U.pc P j).size<=1500):
  () 43 #[.slice lb n n] w (fg P n w):=by
 have Yp:=HL.lv;have hll:=HL.ll;have hlbl:=(Pn.1 hlb).1;have HSZ:Hid _:=Vf;have HLN:Hid _:=HL;have X7:=@run_makeMap prog;have D0:=FR w;have HLV:Hid (vs.length=n):=Yp;have HLL:Hid (LS.length=n):=hll;clear Vf HL Yp hll;go_enter func43,ntmps43;go_wp2
 go_loopg[11] n (fun q i wr=>∃(k:Nat) (S:List U.State),q=n-k/\k<=n/\i=.int .i64 k/\U.aT (U.aF P n) k=some S/\(0<k->0<S.length)/\Below w w wr/\gJ w wr (w.heap.size+1) S k)
 case atStart=>exact⟨0,[],rfl,PK _,rfl,rfl,fun h=>zaa,((Pq _ _).alloc (Po _) _).alloc zad _,D0⟩
 case round=>
  obtain⟨k,S,hq,hk,rfl,hS,hS0,VR,DA⟩:=hrel;by_cases Vx:k<n
  ·obtain⟨hp,hv⟩:=HLN.out.row k Vx;have VS:=J.oV hp;have VM:U.cW (U.pc P k)<=1500:=Pr (U.vX _) (HSZ.out k);have cv:wr.cell? (lb,k)=some (vs[k]'(by have:=HLV.out;omega)):=by
    rw[PN (w:=w) (VR.block lb hlbl),Pt w _ k _ _ _ hlb,R9,Pp]
   obtain⟨L,hL⟩:∃L,L=LS[k]'(by have:=HLL.out;omega):=⟨_,rfl⟩;obtain⟨v,hve⟩:∃v,v=vs[k]'(by have:=HLV.out;omega):=⟨_,rfl⟩;obtain⟨dp,hdp⟩:∃dp,dp=U.cW (U.pc P k):=⟨_,rfl⟩;rw[<- hL,<- hve,<- hdp]at hv;rw[<- hL]at hp VS;rw[<- hve]at cv;have XG:=Ca Vx hp hS;rw[<- hdp]at XG VM;have HSt:Hid _:=XG;have HPos:Hid _:=fun S'=>J.step_pos (S':=S') (num:=k+1) (d:=dp) (L:=L) DA.inv;have HS:Hid _:=hS;have HS0:Hid _:=hS0;clear hL hve hdp hp hS XG hS0;cases L with
   |state kd nme=>
    have hv:v=_:=hv;subst hv;have hmS:=Ma;go_wp2_with fail;refine Pw (DM w wr (w.heap.size+1) S k dp kd nme DA VS.1 VS.2.1 (Pr VS.2.2 zac) zaa zaa) ?_;rintro e w2 h2;unfold dG at h2;cases hts:U.aR S k (J.aC (k+1) (.state kd nme)) (dp:Int) with
    |none=>
     exact zcU
    |some S'=>
     exact zcT
   |move ev af dl t A=>
    obtain⟨va,vn,vc,hv,U2⟩:=hv;subst hv;have hmS:=L9;go_wp2_with fail;refine Pw (GK w wr (w.heap.size+1) S k dp ev t af dl A ⟨va,vn,vc⟩ DA zaa zaa U2) ?_;rintro e w2 h2;unfold dG at h2;cases hts:U.aR S k (J.aC (k+1) (.move ev af dl t A)) (dp:Int) with
    |none=>
     exact zcU
    |some S'=>
     exact zcT
   |enter A=>
    obtain⟨va,vn,vc,hv,U2⟩:=hv;subst hv;have hmS:=L7;go_wp2_with fail;refine Pw (DK w wr (w.heap.size+1) S k dp A ⟨va,vn,vc⟩ DA zaa U2 VS) ?_;rintro e w2 h2;unfold dG at h2;cases hts:U.aR S k (J.aC (k+1) (.enter A)) (dp:Int) with
    |none=>
     exact zcU
    |some S'=>
     exact zcT
   |leave A=>
    obtain⟨va,vn,vc,hv,U2⟩:=hv;subst hv;have hmS:=L8;go_wp2_with fail;refine Pw (DL w wr (w.heap.size+1) S k dp A ⟨va,vn,vc⟩ DA zaa U2 VS) ?_;rintro e w2 h2;unfold dG at h2;cases hts:U.aR S k (J.aC (k+1) (.leave A)) (dp:Int) with
    |none=>
     exact zcU
    |some S'=>
     exact zcT
  ·obtain rfl:k=n:=zaa;have HN:Hid _:=hS;have hSp:=hS0 hn0;clear hS hS0;go_wp2_with fail;refine(oA w wr (w.heap.size+1) S k DA hSp).mono ?_;rintro e w2 h2;unfold rM at h2;cases X3:U.dE S S.length with
   |some l=>
    rw[X3]at h2;have HPt:Hid _:=X3;obtain⟨hb,b,h5,h6,rfl⟩:=h2;dsimp only;refine⟨rfl,?_⟩;unfold fg;rw[HN.out];simp only;rw[HPt.out];exact⟨VR.trans (hb.mono VR.size),b,Pr VR.size h5,h6,rfl⟩
   |none=>
    rw[X3]at h2;obtain⟨rfl,U4⟩:=h2;have HPt:Hid _:=X3;have HD2:Hid (gJ w w2 (w.heap.size+1) S k):=⟨let⟨sv,pv,ov,mb,X,nm,h1,h2,G⟩:=DA.mem;⟨sv,pv,ov,mb,X,nm,h1,h2,G.aq U4⟩,DA.inv⟩;have VA:=VR.trans (U4.mono VR.size);clear X3 DA;dsimp only;go_wp2;go_ret;unfold fg;rw[HN.out];simp only;rw[HPt.out];exact⟨w.heap.size+1,rfl,VA,HD2.out⟩
namespace J
def gU(a:U.Act):List ():=
 if a.how.toList == U.cd then[a.event]
 else if a.how.toList == U.bO then[a.id]
 else if a.id.size=0 then[a.event] else[a.event,a.id]
def kz(l:List ()):Bool:=l.any fun s=>U.cy s U.bA
def Shape(a:U.Act):Prop:=(a.how=gb/\a.id=ByteArray.empty)\/(a.how=cZ/\a.event=ByteArray.empty)\/a.how=gP
theorem lj:U.cy ByteArray.empty U.bA=false:=zac
theorem DU{a:U.Act}(h:Shape a):kz (gU a)=U.yS a:=by
 unfold U.yS gU
 rcases h with⟨h1,h2⟩|⟨h1,h2⟩|h1
 ·rw[h1,h2,iz,PC zac,lj];simp[kz]
 ·rw[h1,h2,eB,Pu zac,PC zac,lj];simp[kz]
 ·rw[h1,fB,Pu zac,Pu zac];by_cases hi:a.id.size=0
  ·have he:a.id=ByteArray.empty:=by
    have:=SX a.id;have h0:a.id.data.toList=[]:=RC.1 zaa;rw[<- UW a.id,h0];rfl
   rw[PC hi,he,lj];simp[kz]
  ·rw[Pu hi];simp[kz]
theorem xR{l r:List ()}{a:U.Act}(h:bh l=some (a,r)):Shape a:=by
 cases l with
 |nil=>cases h
 |cons x t=>
  rw[bh]at h;split at h
  ·obtain⟨q,h1,h2⟩:=PU.1 h;cases h2;exact .inl ⟨rfl,rfl⟩
  ·split at h
   ·obtain⟨q,h1,h2⟩:=PU.1 h;cases h2;exact .inr (.inr rfl)
   ·split at h
    ·obtain⟨q,h1,h2⟩:=PU.1 h;cases h2;exact .inr (.inl ⟨rfl,rfl⟩)
    ·cases h
theorem sx:∀(f:Nat) (l r:List ()) (A:List U.Act),fm f l=some (A,r)->∀a∈A,Shape a
 |0,l,r,A,h=>by cases h;simp
 |f+1,[],r,A,h=>by cases h;simp
 |f+1,x::t,r,A,h=>by
  rw[fm]at h;split at h
  ·split at h
   ·cases h
   ·rename_i a r' h1;split at h
    ·cases h
    ·rename_i A' t' h2;cases h
     intro b hb
     rcases QH.1 hb with rfl|hb
     ·exact xR h1
     ·exact sx f r' r A' h2 b hb
  ·cases h;simp
end J
def vP(l:List ())(w:World)(e:Ending)(w':World):Prop:=∃nb c,e=.returned (.slice (some ⟨nb,0,none⟩) l.length c)/\w'.ownsRow w 9 1 (.slice (some ⟨nb,0,none⟩) l.length c) l.length (l.map Value.string)/\Below w w w'
theorem nF(s:())(w:World):() 337 #[.agg #[s]] w (vP [s] w):=by
 go_enter func337,ntmps337;go_wp2;go_ret;refine⟨w.heap.size+1,1,rfl,?_,((Pq _ _).alloc (Po _) _).alloc zad _⟩;refine⟨rfl,.inr ⟨w.heap.size+1,1,#[s],rfl,zaa,cA w _ _,Po _,zag,rfl,rfl⟩⟩
theorem JZ{w:World}{base nb c:Nat}(h:w.ownsRow base 9 1 (.slice nb l.length c) l.length (l.map Value.string)):rD w nb 0 l/\nb<w.heap.size/\l.length<=c:=by
 rcases h.2 with⟨h',_⟩|⟨g,cap,cur,hv,hb,hg,h1,h2,h3,h4⟩
 ·cases h'
 ·simp only[Value.slice.injEq,Option.some.injEq,Addr.mk.injEq,and_true,true_and]at hv;obtain⟨rfl,rfl⟩:=hv;refine⟨fun i hi=>?_,(Pn.1 hg).1,h1⟩;rw[Rz,Pt w nb i _ _ _ hg];have h5:(cur.toList.take (l.length*1))[i]?=(l.map Value.string)[i]?:=by rw[h4]
  rw[Sz,PC zaa]at h5;rw[<- QJ,h5];simp[U.at',List.getD_eq_getElem?_getD,List.getElem?_eq_getElem hi]
theorem Jj:(Tryz.prog.info? 9).map (fun i=>(i.zero,i.size,i.bytes))=some (some ↑ByteArray.empty,1,16):=zab
theorem Gy(s a:())(d:Int)(w:World):() 343 #[.agg #[s,.int .u64 d,a]] w (vP [s,a] w):=by
 obtain⟨i0,hi,Vv,Vk,Vl⟩:=QV Jj;have U3:Below w w (w.alloc (.cells #[s,.int .u64 d,a] 282)):=(Pq _ _).alloc (Po _) _;obtain⟨W1,Vj⟩:∃y,y=w.alloc (.cells #[s,.int .u64 d,a] 282):=⟨_,rfl⟩;have b0:W1.cell? w=some ↑s:=zar;have b2:W1.cell? (w,2)=some ↑a:=zar;have Vc:w.heap.size<W1.heap.size:=zar;go_enter func343,ntmps343
 go_upto_region 1 with fail
 change Code.wp _ _ _ _ (w.alloc (.cells #[s,.int .u64 d,a] 282));rw[<- Vj]at U3⊢;clear Vj;have VZ:=U3.size;refine PJ (S:=(fun W=>W.cell? w=some ↑s/\W.cell? ⟨w,2,none⟩=some ↑a)) zab ⟨b0,b2⟩ (fun Pm=>?_);refine tH 0 w rfl Pm ?_;refine tH 1 w rfl Pm ?_;refine tH 2 (.agg #[s]) rfl Pm ?_;refine tH 4 (w,2) rfl Pm ?_;refine tH 5 (.string a) rfl Pm ?_;refine yH [3,6] ?_;refine Qk rfl (fun K hK=>?_) (Qk rfl (fun K hK=>?_) QX)
 ·go_simp;refine(nF s _).mono ?_;rintro e w2 ⟨nb,c2,rfl,U2,U4⟩;have Vn:Below W1 W1 w2:=((Pq _ _).drew).trans U4;have k0:=(PN (w:=W1) (w':=w2) (a:=⟨w,0,none⟩) (Vn.block _ Vc)).trans b0;have k2:=(PN (w:=W1) (w':=w2) (a:=⟨w,2,none⟩) (Vn.block _ Vc)).trans b2;have hlw2:w.heap.size<w2.heap.size:=PY Vc Vn.size;dsimp only;refine hK.out _ _ ⟨k0,k2⟩ (fun Pm=>?_);clear hK K;refine zH 6 rfl fun K hK=>?_;go_simp;refine hK.out _ _ zam (fun Pm=>?_);clear hK K;refine zH 7 rfl fun K hK=>?_;have Vt:=aJ U2 (show w.heap.size<=W1.heap.size from VZ);refine step_append_lies _ zae _ _ _ zae w.heap.size 9 i0 _ 1 16 underlying22 hi Vv Vk Vl rfl zac (.slice nb 1 c2) 1 [s] zae (RK Vt _) ⟨w2,0,none⟩ 1 1 [a] zae zae (World.news_of_block (cs:=#[a]) (t:=9) (fr:=(0,0)) (PG w2 _)) zap zaa zag zaa zaf (w2.heap.size+1) zad ?_;intro g5 cap5 w5 U6 Pg VJ We;have Ye:Hid (some w.heap.size≠Value.ownBlock (.slice nb 1 c2)):=fun e=>by
   have h1:=(Qf U2 _ e.symm).1;have h2:W1.drew.heap.size=W1.heap.size:=rfl;omega
  have k0:=((Pg.cell_far ⟨w,0,none⟩ zaf Ye.out).trans (((Pq w2 w2).alloc (Po _) _).cell (p:=w) hlw2)).trans k0;have k2:=((Pg.cell_far ⟨w,2,none⟩ zaf Ye.out).trans (((Pq w2 w2).alloc (Po _) _).cell (p:=⟨w,2,none⟩) hlw2)).trans k2;have HB5:Hid (Below w w w5):=((U3.trans (Vn.mono VZ)).alloc zaa _).grown Pg zaf (fun k h=>by have:=(Qf Vt k h).1;exact this);exact zdp
 ·go_simp;refine hK.out _ _ zam (fun Pm=>?_);clear hK K;refine zH 3 rfl fun K hK=>?_;go_simp;refine(nF s _).mono ?_;rintro e w2 ⟨nb,c2,rfl,U2,U4⟩;have hbW:Below W1 W1 ((W1.drew).alloc (.cells #[a] 9)):=((Pq _ _).drew).alloc (Po _) _;have VM:W1.heap.size<((W1.drew).alloc (.cells #[a] 9)).heap.size:=zad;have Vn:Below W1 W1 w2:=hbW.trans (U4.mono hbW.size);have hel:w2.heap[W1.heap.size]?=some (.cells #[a] 9 (0,0)):=(U4.block _ VM).trans (PG _ _);have k0:=(PN (w:=W1) (w':=w2) (a:=⟨w,0,none⟩) (Vn.block _ Vc)).trans b0;have k2:=(PN (w:=W1) (w':=w2) (a:=⟨w,2,none⟩) (Vn.block _ Vc)).trans b2;have hlw2:w.heap.size<w2.heap.size:=PY Vc Vn.size;have hszl:W1.heap.size<=((W1.drew).alloc (.cells #[a] 9)).heap.size:=UO VM;dsimp only;refine hK.out _ _ ⟨k0,k2⟩ (fun Pm=>?_);clear hK K;refine zH 7 rfl fun K hK=>?_;have Vt:=aJ U2 (show w.heap.size<=((W1.drew).alloc (.cells #[a] 9)).heap.size by omega);refine step_append_lies _ zae _ _ _ zae w.heap.size 9 i0 _ 1 16 underlying22 hi Vv Vk Vl rfl zac (.slice nb 1 c2) 1 [s] zae Vt ⟨W1,0,none⟩ 1 1 [a] zae zae (World.news_of_block (cs:=#[a]) (t:=9) (fr:=(0,0)) hel) zap zaa zag zaa zaa w2.heap.size rfl ?_;intro g5 cap5 w5 U6 Pg VJ We;have Ye:Hid (some w.heap.size≠Value.ownBlock (.slice nb 1 c2)):=fun e=>by
   have h1:W1.heap.size+1<=w.heap.size:=by simpa using(Qf U2 _ e.symm).1
   omega
  have k0:=(Pg.cell_far ⟨w,0,none⟩ hlw2 Ye.out).trans k0;have k2:=(Pg.cell_far ⟨w,2,none⟩ hlw2 Ye.out).trans k2;have HB5:Hid (Below w w w5):=(U3.trans (Vn.mono VZ)).grown Pg zaa (fun k h=>by have:=(Qf Vt k h).1;exact this);exact zdp
def ld(tm:Bool)(num:Int)(l:List ())(w:World)(e:Ending)(w':World):Prop:=if tm&&J.kz l then br 4 num w e w' else e=.returned (.tuple #[])/\Below w w w'
theorem jT(db:Nat)(num dep:Int)(tm:Bool)(l:List ())(nb c:Nat)(w:World)(hd:w.cell? (db,4)=some (.bool tm))(hs:rD w nb 0 l)(hnb:nb<w.heap.size)(hl:l.length<=10):
  () 355 #[db,.agg #[(num:Int),(dep:Int)],.slice nb l.length c] w (ld tm num l w):=by
 have V4:=PW _ _ hd;have HS:Hid _:=hs;clear hs;go_enter func355,ntmps355;go_wp2
 go_loop[10] (fun i=>∃k:Nat,k<=l.length/\i=.int .i64 k/\(tm&&J.kz (l.take k))=false) (fun i=>l.length-(intOf i).toNat)
 case atStart=>exact⟨0,PK _,rfl,by cases tm<;>rfl⟩
 case round=>
  obtain⟨k,hk,rfl,WS⟩:=hrel;by_cases Vx:k<l.length
  ·have ck:w.cell? (nb,k)=some (.string l[k]):=by
    have:=HS.out k Vx;simpa[U.at',List.getD_eq_getElem?_getD,List.getElem?_eq_getElem Vx] using this
   obtain⟨x,hx⟩:∃x,x=l[k]:=⟨_,rfl⟩;rw[<- hx]at ck;have HN:Hid (J.kz (l.take (k+1))=(J.kz (l.take k)||U.cy x U.bA)):=by
    unfold Hid J.kz;rw[QE,Pp Vx,Tb,<- hx];simp
   have HNo:Hid _:=WS;clear WS hx;cases tm with
   |false=>
    go_wp2
    go_round
    case rel=>exact⟨k+1,zaa,zah,rfl⟩
    case measure=>simp[intOf];omega
   |true=>
    go_wp2_with fail;refine(strings_HasPrefix x U.bA _).mono ?_;rintro e w9 ⟨rfl,U1⟩;rw[U1,il];clear U1 w9;cases hb:U.cy x U.bA with
    |false=>
     have HN2:Hid (J.kz (l.take (k+1))=false):=by
      have:=HNo.out;unfold Hid;rw[HN.out,hb];simpa using this
     clear hb;dsimp only;go_wp2
     go_round
     case rel=>exact⟨k+1,zaa,zah,by rw[HN2.out];rfl⟩
     case measure=>simp[intOf];omega
    |true=>
     have HT:Hid (J.kz l=true):=by
      have h1:J.kz (l.take (k+1))=true:=by rw[HN.out,hb];simp
      unfold J.kz at h1;exact zd0
     clear hb;dsimp only;go_wp2_with fail;refine(ba num dep 4 _).mono ?_;rintro e w2 ⟨hb,b,h5,h6,rfl⟩;dsimp only;refine⟨rfl,?_⟩;unfold ld;rw[HT.out,PC zae];exact⟨((Pq w w).alloc (Po _) _).trans (hb.mono zad),b,by simp at h5;omega,h6,rfl⟩
  ·have WN:k=l.length:=zaa;have HF:Hid ((tm&&J.kz l)=false):=by
    exact zfp
   clear WS;go_wp2;go_end0;unfold ld;rw[HF.out];exact⟨rfl,(Pq _ _).alloc (Po _) _⟩
theorem L5(a:Value)(w:World):(method 596 425 (.agg #[a]) "Names").run prog w=.ok (337,.agg #[a]) w:=zab
theorem L4(a:Value)(w:World):(method 596 284 (.agg #[a]) "Names").run prog w=.ok (337,.agg #[a]) w:=zab
theorem L6(a b:Value)(w:World):(method 596 280 (.agg #[a,b]) "Names").run prog w=.ok (337,.agg #[a]) w:=zab
theorem L3(a b c:Value)(w:World):(method 596 282 (.agg #[a,b,c]) "Names").run prog w=.ok (343,.agg #[a,b,c]) w:=zab
theorem Fs(x:U.Act):(bo x=.iface 425 (.agg #[x.event])/\J.gU x=[x.event])\/(bo x=.iface 284 (.agg #[x.id])/\J.gU x=[x.id])\/(bo x=.iface 280 (.agg #[x.event,.int .u64 x.delay])/\J.gU x=[x.event])\/(bo x=.iface 282 (.agg #[x.event,.int .u64 x.delay,x.id])/\J.gU x=[x.event,x.id]):=by
 unfold bo J.gU;cases h1:(x.how.toList == U.cd)
 ·cases h2:(x.how.toList == U.bO)
  ·simp only[Bool.false_eq_true,if_false];exact zdw
  ·exact zec
 ·simp only[if_true];exact .inl ⟨zav,zav⟩
def fZ(tm:Bool)(num:Int)(A:List U.Act)(w:World)(e:Ending)(w':World):Prop:=if tm&&U.eA A then br 4 num w e w' else e=.returned (.tuple #[])/\Below w w w'
theorem kF(db:Nat)(num dep:Int)(tm:Bool)(A:List U.Act)(a:Option Addr)(n c:Nat)(w:World)(hd:w.cell? (db,4)=some (.bool tm))(hA:w.ownsRow 0 275 1 (.slice a n c) A.length (A.map bo))(hS:∀x∈A,J.Shape x)(hl:A.length<=100000):
  () 356 #[db,.agg #[(num:Int),(dep:Int)],.slice a n c] w (fZ tm num A w):=by
 have V4:=PW _ _ hd;have hn:n=A.length:=by
  exact zdM
 subst hn;have HC:Hid (∀k (hk:k<A.length),∃ab,a=some ⟨ab,0,none⟩/\w.cell? ⟨ab,k,none⟩=some (bo A[k])/\A.length<=c):=fun k hk=>by
  rcases hA.2 with⟨_,h0⟩|⟨g,cap,cur,h,_,hg,hle,_,_,h4⟩
  ·omega
  ·simp at h;refine⟨g,h.1,?_,by rw[h.2];exact hle⟩;exact zdq
 have HSh:Hid _:=hS;clear hA hS;go_enter func356,ntmps356;go_wp2
 go_loopg[10] A.length (fun q i wr=>∃k:Nat,q=A.length-k/\k<=A.length/\i=.int .i64 k/\(tm&&U.eA (A.take k))=false/\Below w w wr/\wr.heap[w.heap.size]?=some (.cells #[(num:Int),(dep:Int)] 198 (0,0)))
 case atStart=>exact⟨0,rfl,PK _,rfl,by cases tm<;>rfl,(Pq _ _).alloc (Po _) _,PG _ _⟩
 case round=>
  obtain⟨k,hq,hk,rfl,WS,VR,VP⟩:=hrel;have VZ:=VR.size;have Vc:=(Pn.1 VP).1;by_cases Vx:k<A.length
  ·obtain⟨ab,ha,ck,hcc⟩:=HC.out k Vx;subst ha;have hab:=PW _ _ ck;obtain⟨x,hx⟩:∃x,x=A[k]:=⟨_,rfl⟩;have cr:wr.cell? (ab,k)=some (bo x):=by rw[hx];exact(PN (w:=w) (VR.block ab hab)).trans ck
   have b0:wr.cell? w=some ↑(num:Int):=by rw[Pt wr _ _ _ _ _ VP];rfl
   have b1:wr.cell? (w,1)=some ↑(dep:Int):=by rw[Pt wr _ _ _ _ _ VP];rfl
   have HN:Hid (U.eA (A.take (k+1))=(U.eA (A.take k)||J.kz (J.gU x))):=by
    unfold Hid U.eA;rw[QE,Pp Vx,Tb,<- hx,J.DU (HSh.out x (by rw[hx];exact P7 Vx))];simp
   have HT:Hid (U.eA (A.take (k+1))=true->U.eA A=true):=by
    intro h;unfold U.eA at h⊢;rw[RV]at h⊢;obtain⟨y,hy,hy2⟩:=h;exact⟨y,Si hy,hy2⟩
   have HNo:Hid _:=WS;have HD:Hid (∀w2,Below wr wr w2->w2.cell? ⟨db,4,none⟩=some (.bool tm)/\w2.heap[w.heap.size]?=some (.cells #[(num:Int),(dep:Int)] 198 (0,0))/\w2.cell? w=some ↑(num:Int)/\w2.cell? ⟨w,1,none⟩=some ↑(dep:Int)/\Below w w w2):=by
    intro w2 U4;have Y9:=(U4.block _ Vc).trans VP;have VA:=VR.trans (U4.mono VZ);exact⟨(PN (w:=w) (VA.block db V4)).trans hd,Y9,by rw[Pt w2 _ _ _ _ _ Y9];rfl,by rw[Pt w2 _ _ _ _ _ Y9];rfl,VA⟩
   clear WS hx ck;have hR:=L5;have hC:=L4;have hS:=L6;have hA:=L3
   rcases Fs x with⟨hv,VD⟩|⟨hv,VD⟩|⟨hv,VD⟩|⟨hv,VD⟩
   all_goals
    rw[hv]at cr;have HL:Hid _:=VD;clear hv VD
    go_upto_region 4 with fail
    refine PJ (S:=(fun W=>W.cell? w=some ↑(num:Int)/\W.cell? ⟨w,1,none⟩=some ↑(dep:Int))) zab ⟨b0,b1⟩ (fun Pm=>?_);refine tH 0 db rfl Pm ?_;refine tH 1 (.agg #[(num:Int),(dep:Int)]) rfl Pm ?_;refine zH 2 rfl fun K hK=>?_;go_simp;refine hK.out _ _ ⟨b0,b1⟩ (fun Pm=>?_);clear hK K;refine zH 3 rfl fun K hK=>?_;go_simp
    first|refine Pw (nF x.event _) ?_|refine Pw (nF x.id _) ?_|refine Pw (Gy x.event x.id x.delay _) ?_
    rintro e w2 h2;rw[<- HL.out]at h2;obtain⟨nb,c2,rfl,U2,U4⟩:=h2;have Vn:Below wr wr w2:=((Pq _ _).drew).trans U4;obtain⟨e4,Y9,e0,e1,Wm⟩:=HD.out w2 Vn;obtain⟨hst,hnbl,_⟩:=JZ (l:=J.gU x) U2;dsimp only;refine hK.out _ _ ⟨e0,e1⟩ (fun Pm=>?_);clear hK K;refine zH 4 rfl fun K hK=>?_;go_simp;refine Pw (jT db num dep tm (J.gU x) nb c2 w2 e4 hst hnbl (by rw[HL.out];simp)) ?_;rintro e w3 h3;unfold ld at h3;cases hr:(tm&&J.kz (J.gU x)) with
    |true=>
     rw[hr,PC rfl]at h3;have HM:Hid ((tm&&U.eA A)=true):=by
      rw[Qe]at hr;unfold Hid;rw[hr.1,HT.out (by rw[HN.out,hr.2];simp)];rfl
     obtain⟨hb,b,h5,h6,rfl⟩:=h3;dsimp only;refine⟨rfl,?_⟩;unfold fZ;rw[PC HM.out];exact zeB
    |false=>
     rw[hr,Pu zad]at h3;obtain⟨rfl,VA⟩:=h3;have HM:Hid ((tm&&U.eA (A.take (k+1)))=false):=by
      unfold Hid;have h1:=HNo.out;rw[HN.out];cases tm with
      |false=>rfl
      |true=>simp only[Bool.true_and]at h1 hr⊢;rw[h1,hr];rfl
     have WX:=Wm.trans (VA.mono Wm.size);have hbx3:=(VA.block _ (Pn.1 Y9).1).trans Y9;clear hr;dsimp only;refine hK.out _ _ (by constructor<;>(rw[Pt w3 _ _ _ _ _ hbx3];rfl)) (fun Pm=>?_);clear hK K Pm;refine PX zab ?_ _;go_wp2
     go_roundg (A.length-(k+1))
     case measure=>omega
     case rel=>exact⟨k+1,rfl,zaa,zah,HM.out,WX,hbx3⟩
  ·have WN:k=A.length:=zaa;have HF:Hid ((tm&&U.eA A)=false):=by
    exact zfp
   clear WS;go_wp2;go_end0;unfold fZ;rw[HF.out];exact⟨rfl,VR⟩
variable {w0 w:World}{db mb nm:Nat}{sv pv ov:U.Sl}{tm:Bool}{X:List J.DS}{SP:List (Int×Int)}{O:List Nat}{PT:Nat->List Nat}{D:DataW Nat}
def jV(D:DataW Nat)(n:()):Option Int:=match D.atKey (.string n.data.toList) (.lit (.int .i64 0)) with
 |.lit (.int .i64 c)=>some c
 |_=>none
def xO(D:DataW Nat)(nme:())(num:Int)(w:World)(e:Ending)(w':World):Prop:=if jV D nme=some num then e=.returned (.tuple #[])/\Below w w w' else br 4 num w e w'
theorem uy(num dep kd:Int)(nme:())(G:ax w0 w db sv pv ov mb tm X SP O PT nm D)(hs:nme.size<=1000000):
  () 348 #[.agg #[(num:Int),(dep:Int),(kd:Int),nme],db] w (xO D nme num w):=by
 have V4:=G.dlt;have U3:Below w w (w.alloc (.cells #[(num:Int),(dep:Int),(kd:Int),nme] 345)):=(Pq _ _).alloc (Po _) _;obtain⟨_,_,_,c3,_⟩:=(G.aq U3).cells;obtain⟨W1,Vj⟩:∃y,y=w.alloc (.cells #[(num:Int),(dep:Int),(kd:Int),nme] 345):=⟨_,rfl⟩;have b0:W1.cell? w=some ↑(num:Int):=zar;have b1:W1.cell? (w,1)=some ↑(dep:Int):=zar;have b3:W1.cell? (w,3)=some ↑nme:=zar;have law:Go.Maps.Keyed prog 9:=Tj underlying9;have zeroE:∀w:World,(zeroValue 3).run prog w=.ok (.int .i64 0) w:=fun w=>zab;have Yj:keyOf prog 9 (.string nme)=some (.string nme.data.toList):=Sr underlying9 zag;have Yf:kB W1.drew mb nm D:=zcj;obtain⟨cc,Wu,VJ,_⟩:=Yf.lookup_int law underlying119 underlying3 (zeroE _) Yj;have HF:Hid (jV D nme=some cc):=by unfold Hid jV;rw[VJ]
 rw[<- Vj]at c3 U3;go_enter func348,ntmps348
 go_upto_region 1 with fail
 change Code.wp _ _ _ _ (w.alloc (.cells #[(num:Int),(dep:Int),(kd:Int),nme] 345));rw[<- Vj];clear Vj VJ;have VZ:=U3.size;refine PJ (S:=(fun W=>W.cell? ⟨db,3,none⟩=some (.map (some mb))/\W.cell? w=some ↑(num:Int)/\W.cell? ⟨w,3,none⟩=some ↑nme)) zab ⟨c3,b0,b3⟩ (fun Pm=>?_);refine tH 0 db rfl Pm ?_;refine tH 1 db rfl Pm ?_;refine tH 2 (db,3) rfl Pm ?_;refine tH 3 (.map (some mb)) rfl Pm ?_;refine tH 4 (w,3) rfl Pm ?_;refine tH 5 (.string nme) rfl Pm ?_;refine tH 7 w rfl Pm ?_;refine tH 8 w rfl Pm ?_;refine tH 9 (.int .i64 num) rfl Pm ?_;refine zH 6 rfl fun K hK=>?_;go_simp;refine hK.out _ _ Pm (fun Pm=>?_);clear hK K Wu;by_cases hcc:cc=num
 ·subst hcc;refine zH 10 rfl fun K hK=>?_;go_simp;refine hK.out _ _ Pm (fun Pm=>?_);clear hK K;refine PX zab ?_ _;go_wp2;go_end0;unfold xO;rw[HF.out,PC rfl];exact⟨rfl,U3.drew⟩
 ·have U9:(cc != num)=true:=by simpa using hcc
  refine zH 10 rfl fun K hK=>?_;go_simp;refine hK.out _ _ Pm (fun Pm=>?_);clear hK K;refine PX zab ?_ _;go_wp2_with fail;refine(ba num dep 4 _).mono ?_;rintro e w2 ⟨hb,b,h5,h6,rfl⟩;dsimp only;refine⟨rfl,?_⟩;unfold xO;rw[HF.out,Pu (by simpa using hcc)];exact⟨U3.drew.trans (hb.mono VZ),b,Pr VZ h5,h6,rfl⟩
theorem l7(num dep:Int)(A:List U.Act)(a:Option Addr)(n c:Nat)(G:ax w0 w db sv pv ov mb tm X SP O PT nm D)(hA:w0.ownsRow 0 275 1 (.slice a n c) A.length (A.map bo))(hS:∀x∈A,J.Shape x)(hl:A.length<=100000):
  () 358 #[.agg #[(num:Int),(dep:Int),.slice a n c],db] w (fZ tm num A w):=by
 have U3:Below w w (w.alloc (.cells #[(num:Int),(dep:Int),.slice a n c] 353)):=(Pq _ _).alloc (Po _) _;have G1:=G.aq U3;obtain⟨_,_,_,_,c4⟩:=G1.cells;have hA1:=bz hA (G1.bel);have HC:Hid (∀W:World,W=w.alloc (.cells #[(num:Int),(dep:Int),.slice a n c] 353)->() 356 #[db,.agg #[(num:Int),(dep:Int)],.slice a n c] W (fZ tm num A W)):=by
  rintro W rfl;exact kF db num dep tm A a n c _ c4 hA1 hS hl
 clear G1 c4 hA1;go_enter func358,ntmps358;go_wp2_with fail;refine Pw (HC.out _ rfl) ?_;rintro e w2 h2;unfold fZ at h2;cases hm:(tm&&U.eA A) with
 |true=>
  rw[hm,PC rfl]at h2;obtain⟨hb,b,h5,h6,rfl⟩:=h2;dsimp only;refine⟨rfl,?_⟩;unfold fZ;rw[hm,PC rfl];exact⟨U3.trans (hb.mono U3.size),b,Pr U3.size h5,h6,rfl⟩
 |false=>
  rw[hm,Pu zad]at h2;obtain⟨rfl,U4⟩:=h2;have HM:Hid _:=hm;clear hm;dsimp only;go_wp2;go_end0;unfold fZ;rw[HM.out,Pu zad];exact⟨rfl,U3.trans (U4.mono U3.size)⟩
def lG(D:DataW Nat)(tm:Bool)(m:U.Move):Bool:=(!m.to.toList.isEmpty&&!Go.Maps.has D (.string m.to.data.toList))||(tm&&(U.eA m.ai||(!m.after&&U.cy m.event U.bA)))
def ig(D:DataW Nat)(tm:Bool)(m:U.Move)(num:Int)(w:World)(e:Ending)(w':World):Prop:=if lG D tm m then br 4 num w e w' else e=.returned (.tuple #[])/\Below w w w'
theorem vz(num:Int)(dep:Nat)(y:J.PV)(G:ax w0 w db sv pv ov mb tm X SP O PT nm D)(hs:y.m.to.size<=1000000)(hA:w0.ownsRow 0 275 1 y.v.v y.m.ai.length (y.m.ai.map bo))(hS:∀x∈y.m.ai,J.Shape x)(hl:y.m.ai.length<=100000):
  () 353 #[.agg (dz num dep y),db] w (ig D tm y.m num w):=by
 have V4:=G.dlt;have U3:Below w w (w.alloc (.cells (dz num dep y) 349)):=(Pq _ _).alloc (Po _) _;obtain⟨_,_,_,c3,_⟩:=(G.aq U3).cells;obtain⟨W1,Vj⟩:∃z,z=w.alloc (.cells (dz num dep y) 349):=⟨_,rfl⟩;have VP:W1.heap[w.heap.size]?=some (.cells (dz num dep y) 349 (0,0)):=by rw[Vj];exact PG _ _
 have HBx:Hid (∀W2,Below W1 W1 W2->W2.cell? w=some ↑(num:Int)/\W2.cell? ⟨w,1,none⟩=some ↑(dep:Int)/\W2.cell? ⟨w,2,none⟩=some ↑y.m.event/\W2.cell? ⟨w,3,none⟩=some (.bool y.m.after)/\W2.cell? ⟨w,5,none⟩=some ↑y.m.to/\W2.cell? ⟨w,6,none⟩=some (.slice y.v.a y.v.n y.v.c)):=by
  intro W2 U4;have h2:=(U4.block _ (Pn.1 VP).1).trans VP;refine⟨?_,?_,?_,?_,?_,?_⟩<;>rw[Pt W2 _ _ _ _ _ h2]<;>rfl
 have HA:Hid (∀W2,Below W1 W1 W2->() 356 #[db,.agg #[(num:Int),(dep:Int)],.slice y.v.a y.v.n y.v.c] W2 (fZ tm num y.m.ai W2)):=by
  intro W2 U4;have G2:=(G.aq U3).aq (by rw[<- Vj];exact U4);obtain⟨_,_,_,_,c4⟩:=G2.cells;exact kF db num dep tm y.m.ai _ _ _ _ c4 (bz hA G2.bel) hS hl
 have HR:Hid (∀W2,Below W1 W1 W2->() 355 #[db,.agg #[(num:Int),(dep:Int)],.slice (some ⟨W2.heap.size,0,none⟩) 1 1] (W2.alloc (.cells #[y.m.event] 9)) (ld tm num [y.m.event] (W2.alloc (.cells #[y.m.event] 9)))):=by
  intro W2 U4;have G2:=((G.aq U3).aq (by rw[<- Vj];exact U4)).aq ((Pq _ W2).alloc (Po _) (.cells #[y.m.event] 9));obtain⟨_,_,_,_,c4⟩:=G2.cells;exact jT db num dep tm [y.m.event] W2.heap.size 1 _ c4 (uD (l:=[y.m.event]) (PG W2 _)) zad zad
 have law:Go.Maps.Keyed prog 9:=Tj underlying9;have zeroE:∀w:World,(zeroValue 3).run prog w=.ok (.int .i64 0) w:=fun w=>zab;have Yj:keyOf prog 9 (.string y.m.to)=some (.string y.m.to.data.toList):=Sr underlying9 zag;have Yf:kB W1.drew mb nm D:=zcj;obtain⟨vv,ps,Wu,hvv⟩:=Yf.look_ok law underlying119 (zeroE _) (UD underlying3 zac) Yj;obtain⟨cc,rfl,_,_⟩:=plainElem_int_inv underlying3 hvv;clear hvv hA hS;rw[<- Vj]at c3 U3;obtain⟨b0,b1,b2,b3,b5,b6⟩:=HBx.out W1 (Pq _ _);have VZ:=U3.size;unfold dz at Vj⊢;go_enter func353,ntmps353
 go_upto_region 1 with fail
 change Code.wp _ _ _ _ (w.alloc (.cells #[(num:Int),(dep:Int),y.m.event,y.m.after,.int .u64 y.m.delay,y.m.to,.slice y.v.a y.v.n y.v.c] 349));rw[<- Vj];clear Vj G VP;refine PJ (S:=(fun W=>W.cell? ⟨db,3,none⟩=some (.map (some mb))/\W.cell? ⟨w,5,none⟩=some ↑y.m.to)) zab ⟨c3,b5⟩ (fun Pm=>?_);refine tH 0 db rfl Pm ?_;refine tH 1 db rfl Pm ?_;refine tH 2 (db,3) rfl Pm ?_;refine tH 3 (.map (some mb)) rfl Pm ?_;refine tH 4 (w,2) rfl Pm ?_;refine tH 5 (w,5) rfl Pm ?_;refine tH 6 (.string y.m.to) rfl Pm ?_;refine zH 7 rfl fun K hK=>?_;go_simp;refine hK.out _ _ Pm (fun Pm=>?_);clear hK K;refine tH 8 (.tuple #[(cc:Int),.bool (Go.Maps.has D (.string y.m.to.data.toList))]) rfl Pm ?_;refine tH 9 (.int .i64 cc) rfl Pm ?_;refine tH 10 (.bool (Go.Maps.has D (.string y.m.to.data.toList))) rfl Pm ?_;refine tH 11 (.int .i64 cc) rfl Pm ?_;refine tH 12 (.bool (Go.Maps.has D (.string y.m.to.data.toList))) rfl Pm ?_;refine PX zab ?_ _;clear Wu;obtain⟨Y2,hhs⟩:∃h,h=Go.Maps.has D (.string y.m.to.data.toList):=⟨_,rfl⟩;obtain⟨te,hte⟩:∃h,h=y.m.to.toList.isEmpty:=⟨_,rfl⟩;have HBad:Hid (lG D tm y.m=((!te&&!Y2)||(tm&&(U.eA y.m.ai||(!y.m.after&&U.cy y.m.event U.bA))))):=by unfold Hid lG;rw[hhs,hte]
 rw[<- hhs];have HTe:Hid _:=hte;clear hhs hte Pm;have WM:Below W1 W1 W1.drew:=(Pq _ _).drew;cases Y2 with
 |true=>
  exact zcC
 |false=>
  cases te with
  |true=>
   have hte':y.m.to.toList=[]:=Ri.1 HTe.out.symm;have hte2:y.m.to.toList.isEmpty=true:=HTe.out.symm;exact zcC
  |false=>
   have hte2:y.m.to.toList.isEmpty=false:=HTe.out.symm;have U9:(y.m.to.toList == [])=false:=by
    cases h:y.m.to.toList with
    |nil=>rw[h]at hte2;cases hte2
    |cons a b=>rfl
   have HM:Hid (lG D tm y.m=true):=by unfold Hid;rw[HBad.out];rfl
   go_wp2_with fail;refine(ba num dep 4 _).mono ?_;rintro e w2 ⟨hb,b,h5,h6,rfl⟩;have Vy:=U3.trans (WM.mono VZ);exact zfE
theorem CG(p q:Addr)(w:World):
  CallsD prog 41 #[.pointer (some p),.pointer (some q)] .returning w fun e u' w'=>e=.returned (.tuple #[])/\u'=.returning/\w'=w:=by
 refine callsD_of_wpS func41 rfl fun c₀ cs hu=>?_;apply wpS_seq
 apply wpS_region
 simp[wpOpsS,go_sem,recoverD,hu,ntmps41,Exit.thenS];refine wpS_of_wp ?_;go_wp2;cases c₀
 simp_all [bodyPostS,results,Tryz.results41]
theorem vf(f:Nat)(w:World):(Instr.typeAssert (.iface 109 (.agg #[f])) 20 109 true).run prog w=.ok (.tuple #[.agg #[f],true]) w:=zab
theorem cD(p q:Nat)(a b:Value)(f:Nat)(older:List PanicEntry)(w:World)(hp:w.heap[p]?=some (.cells #[a] 69 (0,0)))(hq:w.heap[q]?=some (.cells #[b] 42 (0,0)))(hpq:p≠q):
  CallsD prog 41 #[p,q] (.panicking ({ v:=.iface 109 (.agg #[f]),recovered:=false }::older)) w fun e u' w'=>
   e=.returned (.tuple #[])/\u'=.panicking ({ v:=.iface 109 (.agg #[f]),recovered:=true }::older)/\∃W,Below w ((w.setCell p (.pointer none)).setCell q (.iface 73 f)) W/\w'=W:=by
 refine callsD_of_wpS func41 rfl fun c₀ cs hu=>?_;apply wpS_seq
 apply wpS_region
 simp[wpOpsS,go_sem,recoverD,hu,ntmps41,Exit.thenS];refine wpS_of_wp ?_;have hta:=vf f;have cp:w.cell? p=some a:=by rw[Pt w _ _ _ _ _ hp];rfl
 have cq:w.cell? q=some b:=by rw[Pt w _ _ _ _ _ hq];rfl
 have fp:w.frozen? p=false:=zbZ;have fq:w.frozen? q=false:=by simp[World.frozen?,hq]
 have lp:=(Pn.1 hp).1;have lq:=(Pn.1 hq).1;have hqp:¬q=p:=fun h=>hpq h.symm
 go_upto_region 7 with fail
 go_region
 all_goals(
  go_wp2;refine⟨rfl,_,rfl,.tuple #[],by simp[results,Tryz.results41],rfl,rfl,?_⟩;exact((Pq _ _).alloc zad _).drew)
