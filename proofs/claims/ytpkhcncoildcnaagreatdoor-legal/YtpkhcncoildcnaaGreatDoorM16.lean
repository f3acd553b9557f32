import Derived.Test.YtpkhcncoildcnaaGreatDoorM15
import Derived.Stop.Asserts
set_option maxRecDepth 100000
set_option maxHeartbeats 8000000
namespace Go.Proofs.YtpkhcncoildcnaaGreatDoor
variable {zp:Prop}
theorem zfR(h:zp:=by
 rw[hm,OD rfl]at h3;have HM:Hid (kT D tm y.m=true):=by
  rw[O2]at hm;unfold Hid;rw[HBad.out,hm.1,hm.2];simp
 obtain⟨hb,b,h5,h6,rfl⟩:=h3;dsimp only;refine⟨rfl,?_⟩;unfold gR;rw[HM.out,OD rfl];exact⟨Ui.trans (hb.mono Ui.size),b,Ox Ui.size h5,h6,rfl⟩):zp:=h
theorem zfS(h:zp:=by
 rw[hr,OD rfl]at h3;have HM:Hid ((tm&&U.cD A)=true):=by
  rw[O2]at hr;unfold Hid;rw[hr.1,HT.out zay];rfl
 obtain⟨hb,b,h5,h6,rfl⟩:=h3;dsimp only;refine⟨rfl,?_⟩;unfold dD;rw[OD HM.out];exact⟨UJ.trans (hb.mono UJ.size),b,Ox UJ.size h5,h6,rfl⟩):zp:=h
theorem zfY(h:zp:=by
 unfold Hid;have h1:=HNo.out;rw[HN.out];cases tm with
 |false=>rfl
 |true=>simp only[Bool.true_and]at h1 hr⊢;rw[h1,hr];rfl):zp:=h
theorem zfZ(h:zp:=by
 dsimp only;refine⟨rfl,?_⟩;unfold gR;rw[HM.out,OD rfl];exact⟨Ui.trans (hb.mono Ui.size),b,Ox Ui.size h5,h6,rfl⟩):zp:=h
theorem za7(h:zp:=by
 refine yA [1,3] ?_;refine OC rfl (fun K hK=>?_) (OC rfl (fun K hK=>?_) OX)
 ·go_simp;refine hK _ _ ?_;clear hK K;refine zA 3 rfl fun K hK=>?_;go_simp;refine OI (ga x.event _) ?_;rintro e w2 ⟨nb,c2,rfl,TN,TP⟩;have Us:Below wr wr w2:=((Oy _ _).drew).trans TP;obtain⟨e4,VJ,e0,e1,UJ⟩:=HD.out w2 Us;obtain⟨hst,Xg,_⟩:=iC (l:=[x.event]) TN;dsimp only;refine hK _ _ ?_;clear hK K;refine zA 4 rfl fun K hK=>?_;go_simp;have ZB:=bD db num dep tm [x.event] nb c2 w2 e4 hst Xg zad;refine OI ZB ?_;rintro e w3 h3;unfold eK at h3;cases hr:(tm&&J.gN [x.event]) with
  |true=>
   exact zfS
  |false=>
   rw[hr,OB zad]at h3;obtain⟨rfl,Ug⟩:=h3;have HM:Hid ((tm&&U.cD (A.take (k+1)))=false):=by
    exact zfY
   have V3:=UJ.trans (Ug.mono UJ.size);have Xf:=(Ug.block _ (Ov.1 VJ).1).trans VJ;clear hr;dsimp only;refine hK _ _ ?_;clear hK K;refine P0 zab ?_ _;go_wp2
   go_roundg (A.length-(k+1))
   case measure=>omega
   case rel=>exact⟨k+1,rfl,zaa,zag,HM.out,V3,Xf⟩
 ·go_simp;refine OI (ga x.event _) ?_;rintro e w2 ⟨nb,c2,rfl,TN,TP⟩;have Us:Below wr wr w2:=((Oy _ _).drew).trans TP;obtain⟨e4,VJ,e0,e1,UJ⟩:=HD.out w2 Us;obtain⟨hst,Xg,_⟩:=iC (l:=[x.event]) TN;dsimp only;refine hK _ _ ?_;clear hK K;refine zA 1 rfl fun K hK=>?_;go_simp;refine hK _ _ ?_;clear hK K;refine zA 4 rfl fun K hK=>?_;go_simp;have ZB:=bD db num dep tm [x.event] nb c2 w2 e4 hst Xg zad;refine OI ZB ?_;rintro e w3 h3;unfold eK at h3;cases hr:(tm&&J.gN [x.event]) with
  |true=>
   exact zfS
  |false=>
   rw[hr,OB zad]at h3;obtain⟨rfl,Ug⟩:=h3;have HM:Hid ((tm&&U.cD (A.take (k+1)))=false):=by
    exact zfY
   have V3:=UJ.trans (Ug.mono UJ.size);have Xf:=(Ug.block _ (Ov.1 VJ).1).trans VJ;clear hr;dsimp only;refine hK _ _ ?_;clear hK K;refine P0 zab ?_ _;go_wp2
   go_roundg (A.length-(k+1))
   case measure=>omega
   case rel=>exact⟨k+1,rfl,zaa,zag,HM.out,V3,Xf⟩):zp:=h
theorem zcB(h:zp:=by
 cases haf:y.m.after with
 |true=>
  have b3t:=b3;rw[haf]at b3t;have HAf:Hid _:=haf;clear haf b3;go_wp2_with fail;refine OI (HA.out _ VV) ?_;rintro e w3 h3;unfold dD at h3;have Ui:=TM.trans (Below.mono VV U5);cases hm:(tm&&U.cD y.m.aw) with
  |true=>
   exact zfR
  |false=>
   rw[hm,OB zad]at h3;obtain⟨rfl,Ug⟩:=h3;have HM:Hid (kT D tm y.m=false):=by
    unfold Hid;rw[HBad.out];rw[HAf.out];cases tm with
     |false=>simp
     |true=>simp only[Bool.true_and]at hm;rw[hm];simp
   clear hm;dsimp only;go_wp2;go_end0;unfold gR;rw[HM.out,OB zad];exact⟨rfl,Ui.trans (Ug.mono Ui.size)⟩
 |false=>
  have b3t:=b3;rw[haf]at b3t;have HAf:Hid _:=haf;clear haf b3;go_wp2_with fail;refine OI (HR.out _ VV) ?_;rintro e w4 h4;unfold eK at h4;have hbe:Below W1 W1 ((W1.drew).alloc (.cells #[y.m.event] 9)):=VV.alloc (Ow _) _;have hresv:J.gN [y.m.event]=U.cI y.m.event U.bQ:=by simp[J.gN]
  rw[hresv]at h4;cases hr:(tm&&U.cI y.m.event U.bQ) with
  |true=>
   rw[hr,OD rfl]at h4;have HM:Hid (kT D tm y.m=true):=by
    rw[O2]at hr;unfold Hid;rw[HBad.out,HAf.out,hr.1,hr.2];simp
   have Ui:=TM.trans (hbe.mono U5);obtain⟨hb,b,h5,h6,rfl⟩:=h4;exact zfZ
  |false=>
   rw[hr,OB zad]at h4;obtain⟨rfl,TY⟩:=h4;have hbd4:Below W1 W1 w4:=hbe.trans (TY.mono hbe.size);obtain⟨a0,a1,a2,a3,a5,a6⟩:=HBx.out w4 hbd4;have HRr:Hid _:=hr;clear hr hresv;dsimp only;go_wp2_with fail;refine OI (HA.out _ hbd4) ?_;rintro e w3 h3;unfold dD at h3;have Ui:=TM.trans (Below.mono hbd4 U5);cases hm:(tm&&U.cD y.m.aw) with
   |true=>
    exact zfR
   |false=>
    rw[hm,OB zad]at h3;obtain⟨rfl,Ug⟩:=h3;have HM:Hid (kT D tm y.m=false):=by
     unfold Hid;rw[HBad.out];have hr:=HRr.out;rw[HAf.out];cases tm with
      |false=>simp
      |true=>simp only[Bool.true_and]at hm hr;rw[hm,hr];simp
    clear hm;dsimp only;go_wp2;go_end0;unfold gR;rw[HM.out,OB zad];exact⟨rfl,Ui.trans (Ug.mono Ui.size)⟩):zp:=h
theorem zcN(h:zp:=by
 refine hK _ _ ?_;clear hK K;refine zA 4 rfl fun K hK=>?_;go_simp;have ZB:=bD db num dep tm [x.event,x.id] nb c2 w2 e4 hst Xg zad;refine OI ZB ?_;rintro e w3 h3;unfold eK at h3;cases hr:(tm&&J.gN [x.event,x.id]) with
 |true=>
  exact zfS
 |false=>
  rw[hr,OB zad]at h3;obtain⟨rfl,Ug⟩:=h3;have HM:Hid ((tm&&U.cD (A.take (k+1)))=false):=by
   exact zfY
  have V3:=UJ.trans (Ug.mono UJ.size);have Xf:=(Ug.block _ (Ov.1 VJ).1).trans VJ;clear hr;dsimp only;refine hK _ _ ?_;clear hK K;refine P0 zab ?_ _;go_wp2
  go_roundg (A.length-(k+1))
  case measure=>omega
  case rel=>exact⟨k+1,rfl,zaa,zag,HM.out,V3,Xf⟩):zp:=h
theorem zcO(h:zp:=by
 refine hK _ _ ?_;clear hK K;refine zA 4 rfl fun K hK=>?_;go_simp;have ZB:=bD db num dep tm [x.id] nb c2 w2 e4 hst Xg zad;refine OI ZB ?_;rintro e w3 h3;unfold eK at h3;cases hr:(tm&&J.gN [x.id]) with
 |true=>
  exact zfS
 |false=>
  rw[hr,OB zad]at h3;obtain⟨rfl,Ug⟩:=h3;have HM:Hid ((tm&&U.cD (A.take (k+1)))=false):=by
   exact zfY
  have V3:=UJ.trans (Ug.mono UJ.size);have Xf:=(Ug.block _ (Ov.1 VJ).1).trans VJ;clear hr;dsimp only;refine hK _ _ ?_;clear hK K;refine P0 zab ?_ _;go_wp2
  go_roundg (A.length-(k+1))
  case measure=>omega
  case rel=>exact⟨k+1,rfl,zaa,zag,HM.out,V3,Xf⟩):zp:=h
theorem zdc(h:zp:=by
 rw[hts]at h2;obtain⟨rfl,DA2⟩:=h2;have HN:Hid (U.aZ (U.aK P n) (k+1)=some S'):=zbc;have HP':Hid (0<S'.length):=HPos.out S' hts;have HD2:Hid _:=DA2;clear hts DA2;dsimp only;go_wp2
 go_roundg (n-(k+1))
 case measure=>omega
 case rel=>exact⟨k+1,S',rfl,zaa,zag,HN.out,fun _=>HP'.out,(let⟨_,_,_,_,_,_,_,_,G⟩:=HD2.out.mem;G.bel),HD2.out⟩):zp:=h
theorem zdd(h:zp:=by
 rw[hts]at h2;have HN:Hid (U.aZ (U.aK P n) n=none/\U.gV (U.aK P n) n=k+1):=by
  have h1:U.aZ (U.aK P n) (k+1)=none:=zbn;exact⟨gi h1 n zaa,U.j8 zbv h1 n UC⟩
 obtain⟨hb,b,h5,h6,rfl⟩:=h2;dsimp only;refine⟨rfl,?_⟩;unfold eV;rw[HN.out.1,HN.out.2];exact⟨Vt.trans (hb.mono Vt.size),b,Ox Vt.size h5,h6,rfl⟩):zp:=h
theorem zdA(h:zp:=by
 split at h
 ·cases h
 ·split at h
  ·cases h
  ·rename_i u hu;have:u<S.length:=eZ S S.length u (OG hu);split at h
   ·cases h
   ·split at h
    ·cases h
    ·cases h;unfold U.gu;rw[ON];omega):zp:=h
theorem zdK(h:zp:=by
 refine hK.out _ _ ⟨k0,k2⟩ (fun u0=>?_);clear hK K;refine tH 8 (.slice g5 2 cap5) rfl u0 ?_;refine OY zab ?_ _;go_wp2;go_ret;exact⟨g5,cap5,rfl,TQ,HB5.out⟩):zp:=h
theorem zeK(h:zp:=by
 split at h
 ·cases h
 ·obtain⟨q,h1,h2⟩:=O0.1 h;cases h2;trivial):zp:=h
theorem ze4(h:zp:=by
 obtain⟨⟨A,r'⟩,h1,h2⟩:=O0.1 h;cases h2;exact vK h1):zp:=h
theorem zay(h:zp:=by rw[HN.out,hr.2];simp):zp:=h
theorem zaV(h:zp:=by rw[Uj];simp):zp:=h
theorem zbc(h:zp:=by unfold Hid;rw[HSt.out];exact hts):zp:=h
theorem zbn(h:zp:=by rw[HSt.out];exact hts):zp:=h
theorem zbv(h:zp:=by rw[HS.out];rfl):zp:=h
theorem zck(h:zp:=by rw[Uj];exact bM (e:=0) (G.aq TM).map (cT (Oy _ _).drew)):zp:=h
open Tryz
variable {l r P:List ()}{n k:Nat}{L:J.PL}
section
open Go.RowKit
namespace J
def Good:PL->Prop
 |.state k n=>0<=k/\k<=4/\n.size<=8
 |.move _ _ _ _ _=>True
 |.enter A=>A≠[]
 |.leave A=>A≠[]
theorem jg{s:()}(h:U.plain s=true):s.size<=8:=by
 rw[U.plain,O2,O2,RA,RA]at h;exact h.2.2
theorem vK{A:List U.Act}(h:cW l=some (A,r)):A≠[]:=by
 unfold cW at h;split at h
 ·cases h
 ·cases h
 ·cases h;simp
theorem Fg{n:()}{k:Int}(h:dw l=some ((n,k),r)):0<=k/\k<=4/\n.size<=8:=by
 unfold dw at h;split at h
 ·cases h
 ·rename_i hq;cases h
  exact⟨zac,zac,jg (iE hq).1⟩
 ·rename_i hq;split at h
  ·cases h;exact⟨zac,zac,jg (iE hq).1⟩
  ·cases h;exact⟨zac,zac,jg (iE hq).1⟩
theorem FB{num:Nat}{l r:List ()}{L:PL}(h:bo num l=some (L,r)):Good L:=by
 cases l with
 |nil=>cases h
 |cons x t=>
  rw[bo]at h;have st:∀k:Int,0<=k->k<=4->((pOf U.plain t).map fun q=>(PL.state k q.1,q.2))=some (L,r)->Good L:=by
   intro k h0 h4 h;obtain⟨⟨n,r'⟩,h1,h2⟩:=O0.1 h;cases h2
   exact⟨h0,h4,jg (iE h1).1⟩
  split at h
  ·exact st 0 zac zac h
  ·split at h
   ·exact st 1 zac zac h
   ·split at h
    ·exact st 2 zac zac h
    ·split at h
     ·obtain⟨⟨⟨n,k⟩,r'⟩,h1,h2⟩:=O0.1 h;cases h2
      exact Fg h1
     ·split at h
      ·exact zeK
      ·split at h
       ·exact zeK
       ·split at h
        ·exact ze4
        ·split at h
         ·exact ze4
         ·cases h
theorem n8{num:Nat}(h:bp num l=some L):Good L:=by
 unfold bp at h;split at h
 ·rename_i L' h1;cases h
  exact FB h1
 ·cases h
theorem step_pos{S S':List U.State}{i num d:Nat}{L:PL}(hI:Inv S i)(h:U.bk S i (aF num L) (d:Int)=some S'):0<S'.length:=by
 cases L with
 |state k n=>
  rw[ub]at h;split at h
  ·cases h
  ·split at h
   ·cases h;simp
   ·cases h
 |move ev af dl t A=>
  rw[wK hI]at h;split at h
  ·cases h
  ·split at h
   ·cases h
   ·rename_i u hu;split at h
    ·cases h
    ·have:u<S.length:=eZ S S.length u (OG hu);cases h;unfold U.gu;rw[ON];omega
 |enter A=>
  rw[tY hI]at h;exact zdA
 |leave A=>
  rw[tZ hI]at h;exact zdA
end J
theorem Aw(hk:k<n)(h:J.bp (k+1) (J.wl P k)=some L):(U.aK P n)[k]?=some (J.aF (k+1) L,(U.aY (U.pc P k):Int)):=by
 unfold U.aK;rw[OF,RF hk,TF,J.qK h]
theorem Bl{S:List U.State}(hk:k<n)(h:J.bp (k+1) (J.wl P k)=some L)(hS:U.aZ (U.aK P n) k=some S):U.aZ (U.aK P n) (k+1)=U.bk S k (J.aF (k+1) L) (U.aY (U.pc P k):Int):=by
 rw[U.aZ,hS];simp only;rw[Aw hk h]
def eV(P:List ())(n:Nat)(w:World)(e:Ending)(w':World):Prop:=match U.aZ (U.aK P n) n with
 |none=>bc 3 (U.gV (U.aK P n) n:Int) w e w'
 |some S=>match U.dW S S.length with
  |some l=>bc 3 l w e w'
  |none=>∃db,e=.returned (.pointer (some ⟨db,0,none⟩))/\Below w.heap.size w w'/\gx w w' db S n
theorem E7(w:World):gx w ((w.alloc (.map #[] 0)).alloc (.cells #[.slice none 0 0,.slice none 0 0,.slice none 0 0,.map (some w.heap.size),false] 173)) (w.heap.size+1) [] 0:=by
 refine⟨⟨U.Sl.nil,U.Sl.nil,U.Sl.nil,w.heap.size,[],0,rfl,Ow _,?_⟩,J.Inv.nil⟩;have hb:Below w w ((w.alloc (.map #[] 0)).alloc (.cells #[.slice none 0 0,.slice none 0 0,.slice none 0 0,.map (some w.heap.size),false] 173)):=((Oy _ _).alloc (Ow _) _).alloc zad _;refine⟨hb,zaa,Ow _,bU _ _ _,Pt _ _ _ _,Pt _ _ _ _,Pt _ _ _ _,fun i h=>absurd h zad,fun i h=>absurd h zad,fun i j h=>absurd h zad,fun i h=>absurd h zad,fun i j h=>absurd h zad,?_⟩;exact bM (e:=0) (Te w _ _ _) (cT ((Oy _ _).alloc (Ow _) _))
theorem K8(a b c d:Value)(w:World):(method 599 364 (.agg #[a,b,c,d]) "charts/reader.place").run prog w=.ok (348,.agg #[a,b,c,d]) w:=zab
theorem K7(a b c d e f g:Value)(w:World):(method 599 368 (.agg #[a,b,c,d,e,f,g]) "charts/reader.place").run prog w=.ok (353,.agg #[a,b,c,d,e,f,g]) w:=zab
theorem K5(a b c:Value)(w:World):(method 599 375 (.agg #[a,b,c]) "charts/reader.place").run prog w=.ok (358,.agg #[a,b,c]) w:=zab
theorem K6(a b c:Value)(w:World):(method 599 376 (.agg #[a,b,c]) "charts/reader.place").run prog w=.ok (360,.agg #[a,b,c]) w:=zab
theorem tz(P:List ())(n lb:Nat)(vs:List Value)(LS:List J.PL)(w:World)(hlb:w.heap[lb]?=some (.cells vs.toArray 167 (0,0)))(HL:kE w P n vs LS)(Xt:0<n)(hn:n<=1500)(T6:∀j,(U.pc P j).size<=1500):
  () 61 #[.slice lb n n] w (eV P n w):=by
 have Xb:=HL.lv;have hll:=HL.ll;have hlbl:=(Ov.1 hlb).1;have HSZ:Hid _:=T6;have HLN:Hid _:=HL;have XB:=@run_makeMap prog;have D0:=E7 w;have HLV:Hid (vs.length=n):=Xb;have HLL:Hid (LS.length=n):=hll;clear T6 HL Xb hll;go_enter func61,ntmps61;go_wp2
 go_loopg[11] n (fun q i wr=>∃(k:Nat) (S:List U.State),q=n-k/\k<=n/\i=.int .i64 k/\U.aZ (U.aK P n) k=some S/\(0<k->0<S.length)/\Below w w wr/\gx w wr (w.heap.size+1) S k)
 case atStart=>exact⟨0,[],rfl,OL _,rfl,rfl,fun h=>zaa,((Oy _ _).alloc (Ow _) _).alloc zad _,D0⟩
 case round=>
  obtain⟨k,S,hq,hk,rfl,hS,hS0,Vt,DA⟩:=hrel;by_cases UC:k<n
  ·obtain⟨hp,hv⟩:=HLN.out.row k UC;have UO:=J.n8 hp;have UE:U.aY (U.pc P k)<=1500:=Ox (U.vx _) (HSZ.out k);have cv:wr.cell? (lb,k)=some (vs[k]'(by have:=HLV.out;omega)):=by
    rw[OO (w:=w) (Vt.block lb hlbl),OA w _ k _ _ _ hlb,Q0,Ou]
   obtain⟨L,hL⟩:∃L,L=LS[k]'(by have:=HLL.out;omega):=⟨_,rfl⟩;obtain⟨v,hve⟩:∃v,v=vs[k]'(by have:=HLV.out;omega):=⟨_,rfl⟩;obtain⟨dp,Z6⟩:∃dp,dp=U.aY (U.pc P k):=⟨_,rfl⟩;rw[<- hL,<- hve,<- Z6]at hv;rw[<- hL]at hp UO;rw[<- hve]at cv;have Wl:=Bl UC hp hS;rw[<- Z6]at Wl UE;have HSt:Hid _:=Wl;have HPos:Hid _:=fun S'=>J.step_pos (S':=S') (num:=k+1) (d:=dp) (L:=L) DA.inv;have HS:Hid _:=hS;have HS0:Hid _:=hS0;clear hL hve Z6 hp hS Wl hS0;cases L with
   |state kd nme=>
    have hv:v=_:=hv;subst hv;have hmS:=K8;go_wp2_with fail;refine OI (CY w wr (w.heap.size+1) S k dp kd nme DA UO.1 UO.2.1 (Ox UO.2.2 zac) zaa zaa) ?_;rintro e w2 h2;unfold dF at h2;cases hts:U.bk S k (J.aF (k+1) (.state kd nme)) (dp:Int) with
    |none=>
     exact zdd
    |some S'=>
     exact zdc
   |move ev af dl t A=>
    obtain⟨va,vn,vc,hv,TN⟩:=hv;subst hv;have hmS:=K7;go_wp2_with fail;refine OI (FP w wr (w.heap.size+1) S k dp ev t af dl A ⟨va,vn,vc⟩ DA zaa zaa TN) ?_;rintro e w2 h2;unfold dF at h2;cases hts:U.bk S k (J.aF (k+1) (.move ev af dl t A)) (dp:Int) with
    |none=>
     exact zdd
    |some S'=>
     exact zdc
   |enter A=>
    obtain⟨va,vn,vc,hv,TN⟩:=hv;subst hv;have hmS:=K5;go_wp2_with fail;refine OI (CW w wr (w.heap.size+1) S k dp A ⟨va,vn,vc⟩ DA zaa TN UO) ?_;rintro e w2 h2;unfold dF at h2;cases hts:U.bk S k (J.aF (k+1) (.enter A)) (dp:Int) with
    |none=>
     exact zdd
    |some S'=>
     exact zdc
   |leave A=>
    obtain⟨va,vn,vc,hv,TN⟩:=hv;subst hv;have hmS:=K6;go_wp2_with fail;refine OI (CX w wr (w.heap.size+1) S k dp A ⟨va,vn,vc⟩ DA zaa TN UO) ?_;rintro e w2 h2;unfold dF at h2;cases hts:U.bk S k (J.aF (k+1) (.leave A)) (dp:Int) with
    |none=>
     exact zdd
    |some S'=>
     exact zdc
  ·obtain rfl:k=n:=zaa;have HN:Hid _:=hS;have hSp:=hS0 Xt;clear hS hS0;go_wp2_with fail;refine(nJ w wr (w.heap.size+1) S k DA hSp).mono ?_;rintro e w2 h2;unfold ry at h2;cases We:U.dW S S.length with
   |some l=>
    rw[We]at h2;have HPt:Hid _:=We;obtain⟨hb,b,h5,h6,rfl⟩:=h2;dsimp only;refine⟨rfl,?_⟩;unfold eV;rw[HN.out];simp only;rw[HPt.out];exact⟨Vt.trans (hb.mono Vt.size),b,Ox Vt.size h5,h6,rfl⟩
   |none=>
    rw[We]at h2;obtain⟨rfl,TP⟩:=h2;have HPt:Hid _:=We;have HD2:Hid (gx w w2 (w.heap.size+1) S k):=⟨let⟨sv,pv,ov,mb,X,nm,h1,h2,G⟩:=DA.mem;⟨sv,pv,ov,mb,X,nm,h1,h2,G.aq TP⟩,DA.inv⟩;have Ug:=Vt.trans (TP.mono Vt.size);clear We DA;dsimp only;go_wp2;go_ret;unfold eV;rw[HN.out];simp only;rw[HPt.out];exact⟨w.heap.size+1,rfl,Ug,HD2.out⟩
namespace J
def jD(a:U.Act):List ():=
 if a.how.toList == U.fC then[a.event]
 else if a.how.toList == U.fi then[a.id]
 else if a.id.size=0 then[a.event] else[a.event,a.id]
def gN(l:List ()):Bool:=l.any fun s=>U.cI s U.bQ
def Shape(a:U.Act):Prop:=(a.how=pS/\a.id=ByteArray.empty)\/(a.how=ia/\a.event=ByteArray.empty)\/a.how=nu
theorem kH:U.cI ByteArray.empty U.bQ=false:=zac
theorem C5{a:U.Act}(h:Shape a):gN (jD a)=U.ym a:=by
 unfold U.ym jD
 rcases h with⟨h1,h2⟩|⟨h1,h2⟩|h1
 ·rw[h1,h2,nY,OD zac,kH];simp[gN]
 ·rw[h1,h2,iu,OB zac,OD zac,kH];simp[gN]
 ·rw[h1,mZ,OB zac,OB zac];by_cases hi:a.id.size=0
  ·have he:a.id=ByteArray.empty:=by
    have:=RN a.id;have h0:a.id.data.toList=[]:=Qx.1 zaa;rw[<- TJ a.id,h0];rfl
   rw[OD hi,he,kH];simp[gN]
  ·rw[OB hi];simp[gN]
theorem xr{l r:List ()}{a:U.Act}(h:bI l=some (a,r)):Shape a:=by
 cases l with
 |nil=>cases h
 |cons x t=>
  rw[bI]at h;split at h
  ·obtain⟨q,h1,h2⟩:=O0.1 h;cases h2;exact .inl ⟨rfl,rfl⟩
  ·split at h
   ·obtain⟨q,h1,h2⟩:=O0.1 h;cases h2;exact .inr (.inr rfl)
   ·split at h
    ·obtain⟨q,h1,h2⟩:=O0.1 h;cases h2;exact .inr (.inl ⟨rfl,rfl⟩)
    ·cases h
theorem rW:∀(f:Nat) (l r:List ()) (A:List U.Act),gP f l=some (A,r)->∀a∈A,Shape a
 |0,l,r,A,h=>by cases h;simp
 |f+1,[],r,A,h=>by cases h;simp
 |f+1,x::t,r,A,h=>by
  rw[gP]at h;split at h
  ·split at h
   ·cases h
   ·rename_i a r' h1;split at h
    ·cases h
    ·rename_i A' t' h2;cases h
     intro b hb
     rcases P2.1 hb with rfl|hb
     ·exact xr h1
     ·exact rW f r' r A' h2 b hb
  ·cases h;simp
end J
def vi(l:List ())(w:World)(e:Ending)(w':World):Prop:=∃nb c,e=.returned (.slice (some ⟨nb,0,none⟩) l.length c)/\w'.ownsRow w 9 1 (.slice (some ⟨nb,0,none⟩) l.length c) l.length (l.map Value.string)/\Below w w w'
theorem ga(s:())(w:World):() 336 #[.agg #[s]] w (vi [s] w):=by
 go_enter func336,ntmps336;go_wp2;go_ret;refine⟨w.heap.size+1,1,rfl,?_,((Oy _ _).alloc (Ow _) _).alloc zad _⟩;refine⟨rfl,.inr ⟨w.heap.size+1,1,#[s],rfl,zaa,bU w _ _,Ow _,zah,rfl,rfl⟩⟩
theorem iC{w:World}{base nb c:Nat}(h:w.ownsRow base 9 1 (.slice nb l.length c) l.length (l.map Value.string)):rT w nb 0 l/\nb<w.heap.size/\l.length<=c:=by
 rcases h.2 with⟨h',_⟩|⟨g,cap,cur,hv,hb,hg,h1,h2,h3,h4⟩
 ·cases h'
 ·simp only[Value.slice.injEq,Option.some.injEq,Addr.mk.injEq,and_true,true_and]at hv;obtain⟨rfl,rfl⟩:=hv;refine⟨fun i hi=>?_,(Ov.1 hg).1,h1⟩;rw[QC,OA w nb i _ _ _ hg];have h5:(cur.toList.take (l.length*1))[i]?=(l.map Value.string)[i]?:=by rw[h4]
  rw[RV,OD zaa]at h5;rw[<- PN,h5];simp[U.at',List.getD_eq_getElem?_getD,List.getElem?_eq_getElem hi]
theorem Ic:(Tryz.prog.info? 9).map (fun i=>(i.zero,i.size,i.bytes))=some (some ↑ByteArray.empty,1,16):=zab
theorem wi(s a:())(d:Int)(w:World):() 342 #[.agg #[s,.int .u64 d,a]] w (vi [s,a] w):=by
 obtain⟨i0,hi,Ue,Ub,Uf⟩:=PZ Ic;have TM:Below w w (w.alloc (.cells #[s,.int .u64 d,a] 278)):=(Oy _ _).alloc (Ow _) _;obtain⟨W1,Uj⟩:∃y,y=w.alloc (.cells #[s,.int .u64 d,a] 278):=⟨_,rfl⟩;have b0:W1.cell? w=some ↑s:=zaV;have b2:W1.cell? (w,2)=some ↑a:=zaV;have TW:w.heap.size<W1.heap.size:=zaV;go_enter func342,ntmps342
 go_upto_region 1 with fail
 change Code.wp _ _ _ _ (w.alloc (.cells #[s,.int .u64 d,a] 278));rw[<- Uj]at TM⊢;clear Uj;have U5:=TM.size;refine OQ (S:=(fun W=>W.cell? w=some ↑s/\W.cell? ⟨w,2,none⟩=some ↑a)) zab ⟨b0,b2⟩ (fun u0=>?_);refine tH 0 w rfl u0 ?_;refine tH 1 w rfl u0 ?_;refine tH 2 (.agg #[s]) rfl u0 ?_;refine tH 4 (w,2) rfl u0 ?_;refine tH 5 (.string a) rfl u0 ?_;refine yH [3,6] ?_;refine Pb rfl (fun K hK=>?_) (Pb rfl (fun K hK=>?_) P1)
 ·go_simp;refine(ga s _).mono ?_;rintro e w2 ⟨nb,c2,rfl,TN,TP⟩;have Us:Below W1 W1 w2:=((Oy _ _).drew).trans TP;have k0:=(OO (w:=W1) (w':=w2) (a:=⟨w,0,none⟩) (Us.block _ TW)).trans b0;have k2:=(OO (w:=W1) (w':=w2) (a:=⟨w,2,none⟩) (Us.block _ TW)).trans b2;have hlw2:w.heap.size<w2.heap.size:=OS TW Us.size;dsimp only;refine hK.out _ _ ⟨k0,k2⟩ (fun u0=>?_);clear hK K;refine zH 6 rfl fun K hK=>?_;go_simp;refine hK.out _ _ zal (fun u0=>?_);clear hK K;refine zH 7 rfl fun K hK=>?_;have Uz:=aC TN (show w.heap.size<=W1.heap.size from U5);refine step_append_lies _ zaf _ _ _ zaf w.heap.size 9 i0 _ 1 16 underlying22 hi Ue Ub Uf rfl zac (.slice nb 1 c2) 1 [s] zaf (QH Uz _) ⟨w2,0,none⟩ 1 1 [a] zaf zaf (World.news_of_block (cs:=#[a]) (t:=9) (fr:=(0,0)) (OH w2 _)) zao zaa zah zaa zae (w2.heap.size+1) zad ?_;intro g5 cap5 w5 TQ L8 Uy U2;have WN:Hid (some w.heap.size≠Value.ownBlock (.slice nb 1 c2)):=fun e=>by
   have h1:=(O8 TN _ e.symm).1;have h2:W1.drew.heap.size=W1.heap.size:=rfl;omega
  have k0:=((L8.cell_far ⟨w,0,none⟩ zae WN.out).trans (((Oy w2 w2).alloc (Ow _) _).cell (p:=w) hlw2)).trans k0;have k2:=((L8.cell_far ⟨w,2,none⟩ zae WN.out).trans (((Oy w2 w2).alloc (Ow _) _).cell (p:=⟨w,2,none⟩) hlw2)).trans k2;have HB5:Hid (Below w w w5):=((TM.trans (Us.mono U5)).alloc zaa _).grown L8 zae (fun k h=>by have:=(O8 Uz k h).1;exact this);exact zdK
 ·go_simp;refine hK.out _ _ zal (fun u0=>?_);clear hK K;refine zH 3 rfl fun K hK=>?_;go_simp;refine(ga s _).mono ?_;rintro e w2 ⟨nb,c2,rfl,TN,TP⟩;have hbW:Below W1 W1 ((W1.drew).alloc (.cells #[a] 9)):=((Oy _ _).drew).alloc (Ow _) _;have UE:W1.heap.size<((W1.drew).alloc (.cells #[a] 9)).heap.size:=zad;have Us:Below W1 W1 w2:=hbW.trans (TP.mono hbW.size);have hel:w2.heap[W1.heap.size]?=some (.cells #[a] 9 (0,0)):=(TP.block _ UE).trans (OH _ _);have k0:=(OO (w:=W1) (w':=w2) (a:=⟨w,0,none⟩) (Us.block _ TW)).trans b0;have k2:=(OO (w:=W1) (w':=w2) (a:=⟨w,2,none⟩) (Us.block _ TW)).trans b2;have hlw2:w.heap.size<w2.heap.size:=OS TW Us.size;have hszl:W1.heap.size<=((W1.drew).alloc (.cells #[a] 9)).heap.size:=TC UE;dsimp only;refine hK.out _ _ ⟨k0,k2⟩ (fun u0=>?_);clear hK K;refine zH 7 rfl fun K hK=>?_;have Uz:=aC TN (show w.heap.size<=((W1.drew).alloc (.cells #[a] 9)).heap.size by omega);refine step_append_lies _ zaf _ _ _ zaf w.heap.size 9 i0 _ 1 16 underlying22 hi Ue Ub Uf rfl zac (.slice nb 1 c2) 1 [s] zaf Uz ⟨W1,0,none⟩ 1 1 [a] zaf zaf (World.news_of_block (cs:=#[a]) (t:=9) (fr:=(0,0)) hel) zao zaa zah zaa zaa w2.heap.size rfl ?_;intro g5 cap5 w5 TQ L8 Uy U2;have WN:Hid (some w.heap.size≠Value.ownBlock (.slice nb 1 c2)):=fun e=>by
   have h1:W1.heap.size+1<=w.heap.size:=by simpa using(O8 TN _ e.symm).1
   omega
  have k0:=(L8.cell_far ⟨w,0,none⟩ hlw2 WN.out).trans k0;have k2:=(L8.cell_far ⟨w,2,none⟩ hlw2 WN.out).trans k2;have HB5:Hid (Below w w w5):=(TM.trans (Us.mono U5)).grown L8 zaa (fun k h=>by have:=(O8 Uz k h).1;exact this);exact zdK
def eK(tm:Bool)(num:Int)(l:List ())(w:World)(e:Ending)(w':World):Prop:=if tm&&J.gN l then bc 4 num w e w' else e=.returned (.tuple #[])/\Below w w w'
theorem bD(db:Nat)(num dep:Int)(tm:Bool)(l:List ())(nb c:Nat)(w:World)(hd:w.cell? (db,4)=some (.bool tm))(hs:rT w nb 0 l)(hnb:nb<w.heap.size)(hl:l.length<=10):
  () 354 #[db,.agg #[(num:Int),(dep:Int)],.slice nb l.length c] w (eK tm num l w):=by
 have UH:=OW _ _ hd;have HS:Hid _:=hs;clear hs;go_enter func354,ntmps354;go_wp2
 go_loop[10] (fun i=>∃k:Nat,k<=l.length/\i=.int .i64 k/\(tm&&J.gN (l.take k))=false) (fun i=>l.length-(intOf i).toNat)
 case atStart=>exact⟨0,OL _,rfl,by cases tm<;>rfl⟩
 case round=>
  obtain⟨k,hk,rfl,Va⟩:=hrel;by_cases UC:k<l.length
  ·have ck:w.cell? (nb,k)=some (.string l[k]):=by
    have:=HS.out k UC;simpa[U.at',List.getD_eq_getElem?_getD,List.getElem?_eq_getElem UC] using this
   obtain⟨x,hx⟩:∃x,x=l[k]:=⟨_,rfl⟩;rw[<- hx]at ck;have HN:Hid (J.gN (l.take (k+1))=(J.gN (l.take k)||U.cI x U.bQ)):=by
    unfold Hid J.gN;rw[PQ,Ou UC,R8,<- hx];simp
   have HNo:Hid _:=Va;clear Va hx;cases tm with
   |false=>
    go_wp2
    go_round
    case rel=>exact⟨k+1,zaa,zag,rfl⟩
    case measure=>simp[intOf];omega
   |true=>
    go_wp2_with fail;refine(strings_HasPrefix x U.bQ _).mono ?_;rintro e w9 ⟨rfl,Pg⟩;rw[Pg,gS];clear Pg w9;cases hb:U.cI x U.bQ with
    |false=>
     have HN2:Hid (J.gN (l.take (k+1))=false):=by
      have:=HNo.out;unfold Hid;rw[HN.out,hb];simpa using this
     clear hb;dsimp only;go_wp2
     go_round
     case rel=>exact⟨k+1,zaa,zag,by rw[HN2.out];rfl⟩
     case measure=>simp[intOf];omega
    |true=>
     have HT:Hid (J.gN l=true):=by
      have h1:J.gN (l.take (k+1))=true:=by rw[HN.out,hb];simp
      unfold J.gN at h1;exact zeo
     clear hb;dsimp only;go_wp2_with fail;refine(aV num dep 4 _).mono ?_;rintro e w2 ⟨hb,b,h5,h6,rfl⟩;dsimp only;refine⟨rfl,?_⟩;unfold eK;rw[HT.out,OD zaf];exact⟨((Oy w w).alloc (Ow _) _).trans (hb.mono zad),b,by simp at h5;omega,h6,rfl⟩
  ·have Vf:k=l.length:=zaa;have HF:Hid ((tm&&J.gN l)=false):=by
    exact zfD
   clear Va;go_wp2;go_end0;unfold eK;rw[HF.out];exact⟨rfl,(Oy _ _).alloc (Ow _) _⟩
theorem K3(a:Value)(w:World):(method 599 428 (.agg #[a]) "Names").run prog w=.ok (336,.agg #[a]) w:=zab
theorem K1(a:Value)(w:World):(method 599 280 (.agg #[a]) "Names").run prog w=.ok (336,.agg #[a]) w:=zab
theorem K4(a b:Value)(w:World):(method 599 276 (.agg #[a,b]) "Names").run prog w=.ok (336,.agg #[a]) w:=zab
theorem K0(a b c:Value)(w:World):(method 599 278 (.agg #[a,b,c]) "Names").run prog w=.ok (342,.agg #[a,b,c]) w:=zab
theorem EE(x:U.Act):(bm x=.iface 428 (.agg #[x.event])/\J.jD x=[x.event])\/(bm x=.iface 280 (.agg #[x.id])/\J.jD x=[x.id])\/(bm x=.iface 276 (.agg #[x.event,.int .u64 x.delay])/\J.jD x=[x.event])\/(bm x=.iface 278 (.agg #[x.event,.int .u64 x.delay,x.id])/\J.jD x=[x.event,x.id]):=by
 unfold bm J.jD;cases h1:(x.how.toList == U.fC)
 ·cases h2:(x.how.toList == U.fi)
  ·simp only[Bool.false_eq_true,if_false];by_cases h3:x.id.size=0
   ·rw[OD h3,OD h3];exact .inr (.inr (.inl ⟨rfl,rfl⟩))
   ·rw[OB h3,OB h3];exact .inr (.inr (.inr ⟨rfl,rfl⟩))
  ·simp only[Bool.false_eq_true,if_false,if_true];exact .inr (.inl ⟨zaM,zaM⟩)
 ·simp only[if_true];exact .inl ⟨zaM,zaM⟩
def dD(tm:Bool)(num:Int)(A:List U.Act)(w:World)(e:Ending)(w':World):Prop:=if tm&&U.cD A then bc 4 num w e w' else e=.returned (.tuple #[])/\Below w w w'
theorem j5(db:Nat)(num dep:Int)(tm:Bool)(A:List U.Act)(a:Option Addr)(n c:Nat)(w:World)(hd:w.cell? (db,4)=some (.bool tm))(hA:w.ownsRow 0 271 1 (.slice a n c) A.length (A.map bm))(hS:∀x∈A,J.Shape x)(hl:A.length<=100000):
  () 355 #[db,.agg #[(num:Int),(dep:Int)],.slice a n c] w (dD tm num A w):=by
 have UH:=OW _ _ hd;have hn:n=A.length:=by
  rcases hA.2 with⟨h,h0⟩|⟨g,cap,cur,h,_⟩
  ·simp at h;rw[h0];exact h.2.1
  ·simp at h;exact h.2.1
 subst hn;have HC:Hid (∀k (hk:k<A.length),∃ab,a=some ⟨ab,0,none⟩/\w.cell? ⟨ab,k,none⟩=some (bm A[k])/\A.length<=c):=fun k hk=>by
  rcases hA.2 with⟨_,h0⟩|⟨g,cap,cur,h,_,hg,hle,_,_,h4⟩
  ·omega
  ·simp at h;refine⟨g,h.1,?_,by rw[h.2];exact hle⟩;rw[OA w g k _ _ _ hg];have h5:(cur.toList.take (A.length*1))[k]?=(A.map bm)[k]?:=by rw[h4]
   rw[RV,OD zaa]at h5;rw[<- PN,h5];simp[List.getElem?_eq_getElem hk]
 have HSh:Hid _:=hS;clear hA hS;go_enter func355,ntmps355;go_wp2
 go_loopg[10] A.length (fun q i wr=>∃k:Nat,q=A.length-k/\k<=A.length/\i=.int .i64 k/\(tm&&U.cD (A.take k))=false/\Below w w wr/\wr.heap[w.heap.size]?=some (.cells #[(num:Int),(dep:Int)] 244 (0,0)))
 case atStart=>exact⟨0,rfl,OL _,rfl,by cases tm<;>rfl,(Oy _ _).alloc (Ow _) _,OH _ _⟩
 case round=>
  obtain⟨k,hq,hk,rfl,Va,Vt,UI⟩:=hrel;have U5:=Vt.size;have TW:=(Ov.1 UI).1;by_cases UC:k<A.length
  ·obtain⟨ab,ha,ck,hcc⟩:=HC.out k UC;subst ha;have hab:=OW _ _ ck;obtain⟨x,hx⟩:∃x,x=A[k]:=⟨_,rfl⟩;have cr:wr.cell? (ab,k)=some (bm x):=by rw[hx];exact(OO (w:=w) (Vt.block ab hab)).trans ck
   have b0:wr.cell? w=some ↑(num:Int):=by rw[OA wr _ _ _ _ _ UI];rfl
   have b1:wr.cell? (w,1)=some ↑(dep:Int):=by rw[OA wr _ _ _ _ _ UI];rfl
   have HN:Hid (U.cD (A.take (k+1))=(U.cD (A.take k)||J.gN (J.jD x))):=by
    unfold Hid U.cD;rw[PQ,Ou UC,R8,<- hx,J.C5 (HSh.out x (by rw[hx];exact Pl UC))];simp
   have HT:Hid (U.cD (A.take (k+1))=true->U.cD A=true):=by
    intro h;unfold U.cD at h⊢;rw[Q4]at h⊢;obtain⟨y,hy,hy2⟩:=h;exact⟨y,Qz hy,hy2⟩
   have HNo:Hid _:=Va;have HD:Hid (∀w2,Below wr wr w2->w2.cell? ⟨db,4,none⟩=some (.bool tm)/\w2.heap[w.heap.size]?=some (.cells #[(num:Int),(dep:Int)] 244 (0,0))/\w2.cell? w=some ↑(num:Int)/\w2.cell? ⟨w,1,none⟩=some ↑(dep:Int)/\Below w w w2):=by
    intro w2 TP;have VJ:=(TP.block _ TW).trans UI;have Ug:=Vt.trans (TP.mono U5);exact⟨(OO (w:=w) (Ug.block db UH)).trans hd,VJ,by rw[OA w2 _ _ _ _ _ VJ];rfl,by rw[OA w2 _ _ _ _ _ VJ];rfl,Ug⟩
   clear Va hx ck
   rcases EE x with⟨hv,Uq⟩|⟨hv,Uq⟩|⟨hv,Uq⟩|⟨hv,Uq⟩
   ·rw[hv]at cr;rw[Uq]at HN;clear hv Uq;have hmN:=K3
    go_upto_region 4 with fail
    refine Qh zab ?_;change wpAny _ _ _ _ _ _ _ (World.drew _);refine tA 0 db rfl ?_;refine tA 2 (.iface 428 (.agg #[x.event])) rfl ?_;exact za7
   ·rw[hv]at cr;rw[Uq]at HN;clear hv Uq;have hmN:=K1
    go_upto_region 4 with fail
    refine Qh zab ?_;change wpAny _ _ _ _ _ _ _ (World.drew _);refine tA 0 db rfl ?_;refine tA 2 (.iface 280 (.agg #[x.id])) rfl ?_;refine yA [1,3] ?_;refine OC rfl (fun K hK=>?_) (OC rfl (fun K hK=>?_) OX)
    ·go_simp;refine hK _ _ ?_;clear hK K;refine zA 3 rfl fun K hK=>?_;go_simp;refine OI (ga x.id _) ?_;rintro e w2 ⟨nb,c2,rfl,TN,TP⟩;have Us:Below wr wr w2:=((Oy _ _).drew).trans TP;obtain⟨e4,VJ,e0,e1,UJ⟩:=HD.out w2 Us;obtain⟨hst,Xg,_⟩:=iC (l:=[x.id]) TN;dsimp only;exact zcO
    ·go_simp;refine OI (ga x.id _) ?_;rintro e w2 ⟨nb,c2,rfl,TN,TP⟩;have Us:Below wr wr w2:=((Oy _ _).drew).trans TP;obtain⟨e4,VJ,e0,e1,UJ⟩:=HD.out w2 Us;obtain⟨hst,Xg,_⟩:=iC (l:=[x.id]) TN;dsimp only;refine hK _ _ ?_;clear hK K;refine zA 1 rfl fun K hK=>?_;go_simp;exact zcO
   ·rw[hv]at cr;rw[Uq]at HN;clear hv Uq;have hmN:=K4
    go_upto_region 4 with fail
    refine Qh zab ?_;change wpAny _ _ _ _ _ _ _ (World.drew _);refine tA 0 db rfl ?_;refine tA 2 (.iface 276 (.agg #[x.event,.int .u64 x.delay])) rfl ?_;exact za7
   ·rw[hv]at cr;rw[Uq]at HN;clear hv Uq;have hmN:=K0
    go_upto_region 4 with fail
    refine Qh zab ?_;change wpAny _ _ _ _ _ _ _ (World.drew _);refine tA 0 db rfl ?_;refine tA 2 (.iface 278 (.agg #[x.event,.int .u64 x.delay,x.id])) rfl ?_;refine yA [1,3] ?_;refine OC rfl (fun K hK=>?_) (OC rfl (fun K hK=>?_) OX)
    ·go_simp;refine hK _ _ ?_;clear hK K;refine zA 3 rfl fun K hK=>?_;go_simp;refine OI (wi x.event x.id x.delay _) ?_;rintro e w2 ⟨nb,c2,rfl,TN,TP⟩;have Us:Below wr wr w2:=((Oy _ _).drew).trans TP;obtain⟨e4,VJ,e0,e1,UJ⟩:=HD.out w2 Us;obtain⟨hst,Xg,_⟩:=iC (l:=[x.event,x.id]) TN;dsimp only;exact zcN
    ·go_simp;refine OI (wi x.event x.id x.delay _) ?_;rintro e w2 ⟨nb,c2,rfl,TN,TP⟩;have Us:Below wr wr w2:=((Oy _ _).drew).trans TP;obtain⟨e4,VJ,e0,e1,UJ⟩:=HD.out w2 Us;obtain⟨hst,Xg,_⟩:=iC (l:=[x.event,x.id]) TN;dsimp only;refine hK _ _ ?_;clear hK K;refine zA 1 rfl fun K hK=>?_;go_simp;exact zcN
  ·have Vf:k=A.length:=zaa;have HF:Hid ((tm&&U.cD A)=false):=by
    exact zfD
   clear Va;go_wp2;go_end0;unfold dD;rw[HF.out];exact⟨rfl,Vt⟩
variable {w0 w:World}{db mb nm:Nat}{sv pv ov:U.Sl}{tm:Bool}{X:List J.DS}{SP:List (Int×Int)}{O:List Nat}{PT:Nat->List Nat}{D:DataW Nat}
def jA(D:DataW Nat)(n:()):Option Int:=match D.atKey (.string n.data.toList) (.lit (.int .i64 0)) with
 |.lit (.int .i64 c)=>some c
 |_=>none
def xp(D:DataW Nat)(nme:())(num:Int)(w:World)(e:Ending)(w':World):Prop:=if jA D nme=some num then e=.returned (.tuple #[])/\Below w w w' else bc 4 num w e w'
theorem tV(num dep kd:Int)(nme:())(G:ao w0 w db sv pv ov mb tm X SP O PT nm D)(hs:nme.size<=1000000):
  () 347 #[.agg #[(num:Int),(dep:Int),(kd:Int),nme],db] w (xp D nme num w):=by
 have UH:=G.dlt;have TM:Below w w (w.alloc (.cells #[(num:Int),(dep:Int),(kd:Int),nme] 364)):=(Oy _ _).alloc (Ow _) _;obtain⟨_,_,_,c3,_⟩:=(G.aq TM).cells;obtain⟨W1,Uj⟩:∃y,y=w.alloc (.cells #[(num:Int),(dep:Int),(kd:Int),nme] 364):=⟨_,rfl⟩;have b0:W1.cell? w=some ↑(num:Int):=zaV;have b1:W1.cell? (w,1)=some ↑(dep:Int):=zaV;have b3:W1.cell? (w,3)=some ↑nme:=zaV;have law:Go.Maps.Keyed prog 9:=Sb underlying9;have zeroE:∀w:World,(zeroValue 3).run prog w=.ok (.int .i64 0) w:=fun w=>zab;have WU:keyOf prog 9 (.string nme)=some (.string nme.data.toList):=Rj underlying9 zah;have WO:jV W1.drew mb nm D:=zck;obtain⟨cc,Vj,Uy,_⟩:=WO.lookup_int law underlying171 underlying3 (zeroE _) WU;have HF:Hid (jA D nme=some cc):=by unfold Hid jA;rw[Uy]
 rw[<- Uj]at c3 TM;go_enter func347,ntmps347
 go_upto_region 1 with fail
 change Code.wp _ _ _ _ (w.alloc (.cells #[(num:Int),(dep:Int),(kd:Int),nme] 364));rw[<- Uj];clear Uj Uy;have U5:=TM.size;refine OQ (S:=(fun W=>W.cell? ⟨db,3,none⟩=some (.map (some mb))/\W.cell? w=some ↑(num:Int)/\W.cell? ⟨w,3,none⟩=some ↑nme)) zab ⟨c3,b0,b3⟩ (fun u0=>?_);refine tH 0 db rfl u0 ?_;refine tH 1 db rfl u0 ?_;refine tH 2 (db,3) rfl u0 ?_;refine tH 3 (.map (some mb)) rfl u0 ?_;refine tH 4 (w,3) rfl u0 ?_;refine tH 5 (.string nme) rfl u0 ?_;refine tH 7 w rfl u0 ?_;refine tH 8 w rfl u0 ?_;refine tH 9 (.int .i64 num) rfl u0 ?_;refine zH 6 rfl fun K hK=>?_;go_simp;refine hK.out _ _ u0 (fun u0=>?_);clear hK K Vj;by_cases hcc:cc=num
 ·subst hcc;refine zH 10 rfl fun K hK=>?_;go_simp;refine hK.out _ _ u0 (fun u0=>?_);clear hK K;refine OY zab ?_ _;go_wp2;go_end0;unfold xp;rw[HF.out,OD rfl];exact⟨rfl,TM.drew⟩
 ·have TU:(cc != num)=true:=by simpa using hcc
  refine zH 10 rfl fun K hK=>?_;go_simp;refine hK.out _ _ u0 (fun u0=>?_);clear hK K;refine OY zab ?_ _;go_wp2_with fail;refine(aV num dep 4 _).mono ?_;rintro e w2 ⟨hb,b,h5,h6,rfl⟩;dsimp only;refine⟨rfl,?_⟩;unfold xp;rw[HF.out,OB (by simpa using hcc)];exact⟨TM.drew.trans (hb.mono U5),b,Ox U5 h5,h6,rfl⟩
theorem lz(num dep:Int)(A:List U.Act)(a:Option Addr)(n c:Nat)(G:ao w0 w db sv pv ov mb tm X SP O PT nm D)(hA:w0.ownsRow 0 271 1 (.slice a n c) A.length (A.map bm))(hS:∀x∈A,J.Shape x)(hl:A.length<=100000):
  () 357 #[.agg #[(num:Int),(dep:Int),.slice a n c],db] w (dD tm num A w):=by
 have TM:Below w w (w.alloc (.cells #[(num:Int),(dep:Int),.slice a n c] 372)):=(Oy _ _).alloc (Ow _) _;have G1:=G.aq TM;obtain⟨_,_,_,_,c4⟩:=G1.cells;have hA1:=bj hA (G1.bel);have HC:Hid (∀W:World,W=w.alloc (.cells #[(num:Int),(dep:Int),.slice a n c] 372)->() 355 #[db,.agg #[(num:Int),(dep:Int)],.slice a n c] W (dD tm num A W)):=by
  rintro W rfl;exact j5 db num dep tm A a n c _ c4 hA1 hS hl
 clear G1 c4 hA1;go_enter func357,ntmps357;go_wp2_with fail;refine OI (HC.out _ rfl) ?_;rintro e w2 h2;unfold dD at h2;cases hm:(tm&&U.cD A) with
 |true=>
  rw[hm,OD rfl]at h2;obtain⟨hb,b,h5,h6,rfl⟩:=h2;dsimp only;refine⟨rfl,?_⟩;unfold dD;rw[hm,OD rfl];exact⟨TM.trans (hb.mono TM.size),b,Ox TM.size h5,h6,rfl⟩
 |false=>
  rw[hm,OB zad]at h2;obtain⟨rfl,TP⟩:=h2;have HM:Hid _:=hm;clear hm;dsimp only;go_wp2;go_end0;unfold dD;rw[HM.out,OB zad];exact⟨rfl,TM.trans (TP.mono TM.size)⟩
def kT(D:DataW Nat)(tm:Bool)(m:U.Move):Bool:=(!m.to.toList.isEmpty&&!Go.Maps.has D (.string m.to.data.toList))||(tm&&(U.cD m.aw||(!m.after&&U.cI m.event U.bQ)))
def gR(D:DataW Nat)(tm:Bool)(m:U.Move)(num:Int)(w:World)(e:Ending)(w':World):Prop:=if kT D tm m then bc 4 num w e w' else e=.returned (.tuple #[])/\Below w w w'
theorem uP(num:Int)(dep:Nat)(y:J.PV)(G:ao w0 w db sv pv ov mb tm X SP O PT nm D)(hs:y.m.to.size<=1000000)(hA:w0.ownsRow 0 271 1 y.v.v y.m.aw.length (y.m.aw.map bm))(hS:∀x∈y.m.aw,J.Shape x)(hl:y.m.aw.length<=100000):
  () 352 #[.agg (dy num dep y),db] w (gR D tm y.m num w):=by
 have UH:=G.dlt;have TM:Below w w (w.alloc (.cells (dy num dep y) 368)):=(Oy _ _).alloc (Ow _) _;obtain⟨_,_,_,c3,_⟩:=(G.aq TM).cells;obtain⟨W1,Uj⟩:∃z,z=w.alloc (.cells (dy num dep y) 368):=⟨_,rfl⟩;have UI:W1.heap[w.heap.size]?=some (.cells (dy num dep y) 368 (0,0)):=by rw[Uj];exact OH _ _
 have HBx:Hid (∀W2,Below W1 W1 W2->W2.cell? w=some ↑(num:Int)/\W2.cell? ⟨w,1,none⟩=some ↑(dep:Int)/\W2.cell? ⟨w,2,none⟩=some ↑y.m.event/\W2.cell? ⟨w,3,none⟩=some (.bool y.m.after)/\W2.cell? ⟨w,5,none⟩=some ↑y.m.to/\W2.cell? ⟨w,6,none⟩=some (.slice y.v.a y.v.n y.v.c)):=by
  intro W2 TP;have h2:=(TP.block _ (Ov.1 UI).1).trans UI;refine⟨?_,?_,?_,?_,?_,?_⟩<;>rw[OA W2 _ _ _ _ _ h2]<;>rfl
 have HA:Hid (∀W2,Below W1 W1 W2->() 355 #[db,.agg #[(num:Int),(dep:Int)],.slice y.v.a y.v.n y.v.c] W2 (dD tm num y.m.aw W2)):=by
  intro W2 TP;have G2:=(G.aq TM).aq (by rw[<- Uj];exact TP);obtain⟨_,_,_,_,c4⟩:=G2.cells;exact j5 db num dep tm y.m.aw _ _ _ _ c4 (bj hA G2.bel) hS hl
 have HR:Hid (∀W2,Below W1 W1 W2->() 354 #[db,.agg #[(num:Int),(dep:Int)],.slice (some ⟨W2.heap.size,0,none⟩) 1 1] (W2.alloc (.cells #[y.m.event] 9)) (eK tm num [y.m.event] (W2.alloc (.cells #[y.m.event] 9)))):=by
  intro W2 TP;have G2:=((G.aq TM).aq (by rw[<- Uj];exact TP)).aq ((Oy _ W2).alloc (Ow _) (.cells #[y.m.event] 9));obtain⟨_,_,_,_,c4⟩:=G2.cells;exact bD db num dep tm [y.m.event] W2.heap.size 1 _ c4 (ud (l:=[y.m.event]) (OH W2 _)) zad zad
 have law:Go.Maps.Keyed prog 9:=Sb underlying9;have zeroE:∀w:World,(zeroValue 3).run prog w=.ok (.int .i64 0) w:=fun w=>zab;have WU:keyOf prog 9 (.string y.m.to)=some (.string y.m.to.data.toList):=Rj underlying9 zah;have WO:jV W1.drew mb nm D:=zck;obtain⟨vv,ps,Vj,hvv⟩:=WO.look_ok law underlying171 (zeroE _) (Tv underlying3 zac) WU;obtain⟨cc,rfl,_,_⟩:=plainElem_int_inv underlying3 hvv;clear hvv hA hS;rw[<- Uj]at c3 TM;obtain⟨b0,b1,b2,b3,b5,b6⟩:=HBx.out W1 (Oy _ _);have U5:=TM.size;unfold dy at Uj⊢;go_enter func352,ntmps352
 go_upto_region 1 with fail
 change Code.wp _ _ _ _ (w.alloc (.cells #[(num:Int),(dep:Int),y.m.event,y.m.after,.int .u64 y.m.delay,y.m.to,.slice y.v.a y.v.n y.v.c] 368));rw[<- Uj];clear Uj G UI;refine OQ (S:=(fun W=>W.cell? ⟨db,3,none⟩=some (.map (some mb))/\W.cell? ⟨w,5,none⟩=some ↑y.m.to)) zab ⟨c3,b5⟩ (fun u0=>?_);refine tH 0 db rfl u0 ?_;refine tH 1 db rfl u0 ?_;refine tH 2 (db,3) rfl u0 ?_;refine tH 3 (.map (some mb)) rfl u0 ?_;refine tH 4 (w,2) rfl u0 ?_;refine tH 5 (w,5) rfl u0 ?_;refine tH 6 (.string y.m.to) rfl u0 ?_;refine zH 7 rfl fun K hK=>?_;go_simp;refine hK.out _ _ u0 (fun u0=>?_);clear hK K;refine tH 8 (.tuple #[(cc:Int),.bool (Go.Maps.has D (.string y.m.to.data.toList))]) rfl u0 ?_;refine tH 9 (.int .i64 cc) rfl u0 ?_;refine tH 10 (.bool (Go.Maps.has D (.string y.m.to.data.toList))) rfl u0 ?_;refine tH 11 (.int .i64 cc) rfl u0 ?_;refine tH 12 (.bool (Go.Maps.has D (.string y.m.to.data.toList))) rfl u0 ?_;refine OY zab ?_ _;clear Vj;obtain⟨XR,hhs⟩:∃h,h=Go.Maps.has D (.string y.m.to.data.toList):=⟨_,rfl⟩;obtain⟨te,hte⟩:∃h,h=y.m.to.toList.isEmpty:=⟨_,rfl⟩;have HBad:Hid (kT D tm y.m=((!te&&!XR)||(tm&&(U.cD y.m.aw||(!y.m.after&&U.cI y.m.event U.bQ))))):=by unfold Hid kT;rw[hhs,hte]
 rw[<- hhs];have HTe:Hid _:=hte;clear hhs hte u0;have VV:Below W1 W1 W1.drew:=(Oy _ _).drew;cases XR with
 |true=>
  exact zcB
 |false=>
  cases te with
  |true=>
   have hte':y.m.to.toList=[]:=Rp.1 HTe.out.symm;have hte2:y.m.to.toList.isEmpty=true:=HTe.out.symm;exact zcB
  |false=>
   have hte2:y.m.to.toList.isEmpty=false:=HTe.out.symm;have TU:(y.m.to.toList == [])=false:=by
    cases h:y.m.to.toList with
    |nil=>rw[h]at hte2;cases hte2
    |cons a b=>rfl
   have HM:Hid (kT D tm y.m=true):=by unfold Hid;rw[HBad.out];rfl
   go_wp2_with fail;refine(aV num dep 4 _).mono ?_;rintro e w2 ⟨hb,b,h5,h6,rfl⟩;have Ui:=TM.trans (VV.mono U5);exact zfZ
theorem BW(p q:Addr)(w:World):
  CallsD prog 59 #[.pointer (some p),.pointer (some q)] .returning w fun e u' w'=>e=.returned (.tuple #[])/\u'=.returning/\w'=w:=by
 refine callsD_of_wpS func59 rfl fun c₀ cs hu=>?_;apply wpS_seq
 apply wpS_region
 simp[wpOpsS,go_sem,recoverD,hu,ntmps59,Exit.thenS];refine wpS_of_wp ?_;go_wp2;cases c₀
 simp_all [bodyPostS,results,Tryz.results59]
theorem uG(f:Nat)(w:World):(Instr.typeAssert (.iface 161 (.agg #[f])) 20 161 true).run prog w=.ok (.tuple #[.agg #[f],true]) w:=zab
theorem bX(p q:Nat)(a b:Value)(f:Nat)(older:List PanicEntry)(w:World)(hp:w.heap[p]?=some (.cells #[a] 98 (0,0)))(hq:w.heap[q]?=some (.cells #[b] 48 (0,0)))(hpq:p≠q):
  CallsD prog 59 #[p,q] (.panicking ({ v:=.iface 161 (.agg #[f]),recovered:=false }::older)) w fun e u' w'=>
   e=.returned (.tuple #[])/\u'=.panicking ({ v:=.iface 161 (.agg #[f]),recovered:=true }::older)/\∃W,Below w ((w.setCell p (.pointer none)).setCell q (.iface 74 f)) W/\w'=W:=by
 refine callsD_of_wpS func59 rfl fun c₀ cs hu=>?_;apply wpS_seq
 apply wpS_region
 simp[wpOpsS,go_sem,recoverD,hu,ntmps59,Exit.thenS];refine wpS_of_wp ?_;have hta:=uG f;have cp:w.cell? p=some a:=by rw[OA w _ _ _ _ _ hp];rfl
 have cq:w.cell? q=some b:=by rw[OA w _ _ _ _ _ hq];rfl
 have fp:w.frozen? p=false:=zb0;have fq:w.frozen? q=false:=by simp[World.frozen?,hq]
 have lp:=(Ov.1 hp).1;have lq:=(Ov.1 hq).1;have hqp:¬q=p:=fun h=>hpq h.symm
 go_upto_region 7 with fail
 go_region
 all_goals(
  go_wp2;refine⟨rfl,_,rfl,.tuple #[],by simp[results,Tryz.results59],rfl,rfl,?_⟩;exact((Oy _ _).alloc zad _).drew)
