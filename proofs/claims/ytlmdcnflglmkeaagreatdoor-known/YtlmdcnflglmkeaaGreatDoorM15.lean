import Derived.Test.YtlmdcnflglmkeaaGreatDoorM14
import Derived.Stop.Asserts
set_option maxRecDepth 100000
set_option maxHeartbeats 8000000
namespace Go.Proofs.YtlmdcnflglmkeaaGreatDoor
variable {zp:Prop}
theorem zfu (h:zp:=by
 rw [hm,LA rfl] at h3;have HM:Hid (ka D tm y.m=true):=by
  rw [L1] at hm;unfold Hid;rw [HBad.out,hm.1,hm.2];simp
 obtain ⟨hb,b,h5,h6,rfl⟩:=h3;dsimp only;refine ⟨rfl,?_⟩;unfold gw;rw [HM.out,LA rfl];exact ⟨hbw.trans (hb.mono hbw.size),b,Fq hbw.size h5,h6,rfl⟩):zp:=h
theorem zfv (h:zp:=by
 rw [hr,LA rfl] at h3;have HM:Hid ((tm&&Ref.bY A)=true):=by
  rw [L1] at hr;unfold Hid;rw [hr.1,HT.out zax];rfl
 obtain ⟨hb,b,h5,h6,rfl⟩:=h3;dsimp only;refine ⟨rfl,?_⟩;unfold du;rw [LA HM.out];exact ⟨hbw2.trans (hb.mono hbw2.size),b,Fq hbw2.size h5,h6,rfl⟩):zp:=h
theorem zfB (h:zp:=by
 unfold Hid;have h1:=HNo.out;rw [HN.out];cases tm with
 | false=>rfl
 | true=>simp only [Bool.true_and] at h1 hr ⊢;rw [h1,hr];rfl):zp:=h
theorem zfC (h:zp:=by
 dsimp only;refine ⟨rfl,?_⟩;unfold gw;rw [HM.out,LA rfl];exact ⟨hbw.trans (hb.mono hbw.size),b,Fq hbw.size h5,h6,rfl⟩):zp:=h
theorem za4 (h:zp:=by
 refine yA [1,3] ?_;refine Li rfl (fun K hK => ?_) (Li rfl (fun K hK => ?_) LW)
 ·go_simp;refine hK _ _ ?_;clear hK K;refine zA 3 rfl fun K hK => ?_;go_simp;refine LF (fE x.event _) ?_;rintro e w2 ⟨nb,c2,rfl,hown,hb2⟩;have hb2':Below wr wr w2:=((FP _ _).drew).trans hb2;obtain ⟨e4,hx2,e0,e1,hbw2⟩:=HD.out w2 hb2';obtain ⟨hst,hnbl,_⟩:=gR (l:=[x.event]) hown;dsimp only;refine hK _ _ ?_;clear hK K;refine zA 4 rfl fun K hK => ?_;go_simp;have hq4:=bA db num dep tm [x.event] nb c2 w2 e4 hst hnbl zad;refine LF hq4 ?_;rintro e w3 h3;unfold ej at h3;cases hr:(tm&&Pro.gd [x.event]) with
  | true =>
   exact zfv
  | false =>
   rw [hr,KQ zad] at h3;obtain ⟨rfl,hb3⟩:=h3;have HM:Hid ((tm&&Ref.bY (A.take (k+1)))=false):=by
    exact zfB
   have hbw3:=hbw2.trans (hb3.mono hbw2.size);have hbx3:=(hb3.block _ (ph.1 hx2).1).trans hx2;clear hr;dsimp only;refine hK _ _ ?_;clear hK K;refine MY zab ?_ _;go_wp2
   go_roundg (A.length-(k+1))
   case measure=>omega
   case rel=>exact ⟨k+1,rfl,zaa,zah,HM.out,hbw3,hbx3⟩
 ·go_simp;refine LF (fE x.event _) ?_;rintro e w2 ⟨nb,c2,rfl,hown,hb2⟩;have hb2':Below wr wr w2:=((FP _ _).drew).trans hb2;obtain ⟨e4,hx2,e0,e1,hbw2⟩:=HD.out w2 hb2';obtain ⟨hst,hnbl,_⟩:=gR (l:=[x.event]) hown;dsimp only;refine hK _ _ ?_;clear hK K;refine zA 1 rfl fun K hK => ?_;go_simp;refine hK _ _ ?_;clear hK K;refine zA 4 rfl fun K hK => ?_;go_simp;have hq4:=bA db num dep tm [x.event] nb c2 w2 e4 hst hnbl zad;refine LF hq4 ?_;rintro e w3 h3;unfold ej at h3;cases hr:(tm&&Pro.gd [x.event]) with
  | true =>
   exact zfv
  | false =>
   rw [hr,KQ zad] at h3;obtain ⟨rfl,hb3⟩:=h3;have HM:Hid ((tm&&Ref.bY (A.take (k+1)))=false):=by
    exact zfB
   have hbw3:=hbw2.trans (hb3.mono hbw2.size);have hbx3:=(hb3.block _ (ph.1 hx2).1).trans hx2;clear hr;dsimp only;refine hK _ _ ?_;clear hK K;refine MY zab ?_ _;go_wp2
   go_roundg (A.length-(k+1))
   case measure=>omega
   case rel=>exact ⟨k+1,rfl,zaa,zah,HM.out,hbw3,hbx3⟩):zp:=h
theorem zct (h:zp:=by
 cases haf:y.m.after with
 | true =>
  have b3t:=b3;rw [haf] at b3t;have HAf:Hid _:=haf;clear haf b3;go_wp2_with fail;refine LF (HA.out _ hbd) ?_;rintro e w3 h3;unfold du at h3;have hbw:=hb1.trans (Below.mono hbd hbs);cases hm:(tm&&Ref.bY y.m.au) with
  | true =>
   exact zfu
  | false =>
   rw [hm,KQ zad] at h3;obtain ⟨rfl,hb3⟩:=h3;have HM:Hid (ka D tm y.m=false):=by
    unfold Hid;rw [HBad.out];rw [HAf.out];cases tm with
     | false=>simp
     | true=>simp only [Bool.true_and] at hm;rw [hm];simp
   clear hm;dsimp only;go_wp2;go_end0;unfold gw;rw [HM.out,KQ zad];exact ⟨rfl,hbw.trans (hb3.mono hbw.size)⟩
 | false =>
  have b3t:=b3;rw [haf] at b3t;have HAf:Hid _:=haf;clear haf b3;go_wp2_with fail;refine LF (HR.out _ hbd) ?_;rintro e w4 h4;unfold ej at h4;have hbe:Below W1 W1 ((W1.drew).alloc (.cells #[y.m.event] 9)):=hbd.alloc (u0 _) _;have hresv:Pro.gd [y.m.event]=Ref.cn y.m.event Ref.bK:=by simp [Pro.gd]
  rw [hresv] at h4;cases hr:(tm&&Ref.cn y.m.event Ref.bK) with
  | true =>
   rw [hr,LA rfl] at h4;have HM:Hid (ka D tm y.m=true):=by
    rw [L1] at hr;unfold Hid;rw [HBad.out,HAf.out,hr.1,hr.2];simp
   have hbw:=hb1.trans (hbe.mono hbs);obtain ⟨hb,b,h5,h6,rfl⟩:=h4;exact zfC
  | false =>
   rw [hr,KQ zad] at h4;obtain ⟨rfl,hb4⟩:=h4;have hbd4:Below W1 W1 w4:=hbe.trans (hb4.mono hbe.size);obtain ⟨a0,a1,a2,a3,a5,a6⟩:=HBx.out w4 hbd4;have HRr:Hid _:=hr;clear hr hresv;dsimp only;go_wp2_with fail;refine LF (HA.out _ hbd4) ?_;rintro e w3 h3;unfold du at h3;have hbw:=hb1.trans (Below.mono hbd4 hbs);cases hm:(tm&&Ref.bY y.m.au) with
   | true =>
    exact zfu
   | false =>
    rw [hm,KQ zad] at h3;obtain ⟨rfl,hb3⟩:=h3;have HM:Hid (ka D tm y.m=false):=by
     unfold Hid;rw [HBad.out];have hr:=HRr.out;rw [HAf.out];cases tm with
      | false=>simp
      | true=>simp only [Bool.true_and] at hm hr;rw [hm,hr];simp
    clear hm;dsimp only;go_wp2;go_end0;unfold gw;rw [HM.out,KQ zad];exact ⟨rfl,hbw.trans (hb3.mono hbw.size)⟩):zp:=h
theorem zcF (h:zp:=by
 refine hK _ _ ?_;clear hK K;refine zA 4 rfl fun K hK => ?_;go_simp;have hq4:=bA db num dep tm [x.event,x.id] nb c2 w2 e4 hst hnbl zad;refine LF hq4 ?_;rintro e w3 h3;unfold ej at h3;cases hr:(tm&&Pro.gd [x.event,x.id]) with
 | true =>
  exact zfv
 | false =>
  rw [hr,KQ zad] at h3;obtain ⟨rfl,hb3⟩:=h3;have HM:Hid ((tm&&Ref.bY (A.take (k+1)))=false):=by
   exact zfB
  have hbw3:=hbw2.trans (hb3.mono hbw2.size);have hbx3:=(hb3.block _ (ph.1 hx2).1).trans hx2;clear hr;dsimp only;refine hK _ _ ?_;clear hK K;refine MY zab ?_ _;go_wp2
  go_roundg (A.length-(k+1))
  case measure=>omega
  case rel=>exact ⟨k+1,rfl,zaa,zah,HM.out,hbw3,hbx3⟩):zp:=h
theorem zcG (h:zp:=by
 refine hK _ _ ?_;clear hK K;refine zA 4 rfl fun K hK => ?_;go_simp;have hq4:=bA db num dep tm [x.id] nb c2 w2 e4 hst hnbl zad;refine LF hq4 ?_;rintro e w3 h3;unfold ej at h3;cases hr:(tm&&Pro.gd [x.id]) with
 | true =>
  exact zfv
 | false =>
  rw [hr,KQ zad] at h3;obtain ⟨rfl,hb3⟩:=h3;have HM:Hid ((tm&&Ref.bY (A.take (k+1)))=false):=by
   exact zfB
  have hbw3:=hbw2.trans (hb3.mono hbw2.size);have hbx3:=(hb3.block _ (ph.1 hx2).1).trans hx2;clear hr;dsimp only;refine hK _ _ ?_;clear hK K;refine MY zab ?_ _;go_wp2
  go_roundg (A.length-(k+1))
  case measure=>omega
  case rel=>exact ⟨k+1,rfl,zaa,zah,HM.out,hbw3,hbx3⟩):zp:=h
theorem zc4 (h:zp:=by
 rw [hts] at h2;obtain ⟨rfl,DA2⟩:=h2;have HN:Hid (Ref.a8 (Ref.aN P n) (k+1)=some S'):=za8;have HP':Hid (0<S'.length):=HPos.out S' hts;have HD2:Hid _:=DA2;clear hts DA2;dsimp only;go_wp2
 go_roundg (n-(k+1))
 case measure=>omega
 case rel=>exact ⟨k+1,S',rfl,zaa,zah,HN.out,fun _=>HP'.out,(let ⟨_,_,_,_,_,_,_,_,G⟩:=HD2.out.mem;G.bel),HD2.out⟩):zp:=h
theorem zc5 (h:zp:=by
 rw [hts] at h2;have HN:Hid (Ref.a8 (Ref.aN P n) n=none/\Ref.gy (Ref.aN P n) n=k+1):=by
  have h1:Ref.a8 (Ref.aN P n) (k+1)=none:=zbj;exact ⟨fI h1 n zaa,Ref.jA zbp h1 n hkn⟩
 obtain ⟨hb,b,h5,h6,rfl⟩:=h2;dsimp only;refine ⟨rfl,?_⟩;unfold eC;rw [HN.out.1,HN.out.2];exact ⟨hbr.trans (hb.mono hbr.size),b,Fq hbr.size h5,h6,rfl⟩):zp:=h
theorem zds (h:zp:=by
 split at h
 ·cases h
 ·split at h
  ·cases h
  ·rename_i u hu;have:u<S.length:=eF S S.length u (LG hu);split at h
   ·cases h
   ·split at h
    ·cases h
    ·cases h;unfold Ref.gh;rw [LK];omega):zp:=h
theorem zdC (h:zp:=by
 refine hK.out _ _ ⟨k0,k2⟩ (fun ds => ?_);clear hK K;refine tH 8 (.slice g5 2 cap5) rfl ds ?_;refine LX zab ?_ _;go_wp2;go_ret;exact ⟨g5,cap5,rfl,hown5,HB5.out⟩):zp:=h
theorem zev (h:zp:=by
 split at h
 ·cases h
 ·obtain ⟨q,h1,h2⟩:=LZ.1 h;cases h2;trivial):zp:=h
theorem zeL (h:zp:=by
 obtain ⟨⟨A,r'⟩,h1,h2⟩:=LZ.1 h;cases h2;exact ue h1):zp:=h
theorem zax (h:zp:=by rw [HN.out,hr.2];simp):zp:=h
theorem zaS (h:zp:=by rw [hW1];simp):zp:=h
theorem za8 (h:zp:=by unfold Hid;rw [HSt.out];exact hts):zp:=h
theorem zbj (h:zp:=by rw [HSt.out];exact hts):zp:=h
theorem zbp (h:zp:=by rw [HS.out];rfl):zp:=h
theorem zcc (h:zp:=by rw [hW1];exact bI (e:=0) (G.aw hb1).map (cD (FP _ _).drew)):zp:=h
open Tryz
variable {l r P:List ByteArray} {n k:Nat} {L:Pro.PL}
section
open Go.RowKit
namespace Pro
def Good:PL->Prop
 | .state k n=>0<=k/\k<=4/\n.size<=8
 | .move _ _ _ _ _=>True
 | .enter A=>A≠[]
 | .leave A=>A≠[]
theorem iN {s:ByteArray} (h:Ref.plain s=true):s.size<=8:=by
 rw [Ref.plain,L1,L1,Ox,Ox] at h;exact h.2.2
theorem ue {A:List Ref.Act} (h:cG l=some (A,r)):A≠[]:=by
 unfold cG at h;split at h
 ·cases h
 ·cases h
 ·cases h;simp
theorem Dr {n:ByteArray} {k:Int} (h:dd l=some ((n,k),r)):0<=k/\k<=4/\n.size<=8:=by
 unfold dd at h;split at h
 ·cases h
 ·rename_i hq;cases h
  exact ⟨zac,zac,iN (gU hq).1⟩
 ·rename_i hq;split at h
  ·cases h;exact ⟨zac,zac,iN (gU hq).1⟩
  ·cases h;exact ⟨zac,zac,iN (gU hq).1⟩
theorem DL {num:Nat} {l r:List ByteArray} {L:PL} (h:bj num l=some (L,r)):Good L:=by
 cases l with
 | nil=>cases h
 | cons x t =>
  rw [bj] at h;have st:∀ k:Int,0<=k->k<=4->((pOf Ref.plain t).map fun q=>(PL.state k q.1,q.2))=some (L,r)->Good L:=by
   intro k h0 h4 h;obtain ⟨⟨n,r'⟩,h1,h2⟩:=LZ.1 h;cases h2
   exact ⟨h0,h4,iN (gU h1).1⟩
  split at h
  ·exact st 0 zac zac h
  ·split at h
   ·exact st 1 zac zac h
   ·split at h
    ·exact st 2 zac zac h
    ·split at h
     ·obtain ⟨⟨⟨n,k⟩,r'⟩,h1,h2⟩:=LZ.1 h;cases h2
      exact Dr h1
     ·split at h
      ·exact zev
      ·split at h
       ·exact zev
       ·split at h
        ·exact zeL
        ·split at h
         ·exact zeL
         ·cases h
theorem nw {num:Nat} (h:bk num l=some L):Good L:=by
 unfold bk at h;split at h
 ·rename_i L' h1;cases h
  exact DL h1
 ·cases h
theorem step_pos {S S':List Ref.State} {i num d:Nat} {L:PL} (hI:Inv S i) (h:Ref.bB S i (aE num L) (d:Int)=some S'):0<S'.length:=by
 cases L with
 | state k n =>
  rw [sJ] at h;split at h
  ·cases h
  ·split at h
   ·cases h;simp
   ·cases h
 | move ev af dl t A =>
  rw [uW hI] at h;split at h
  ·cases h
  ·split at h
   ·cases h
   ·rename_i u hu;split at h
    ·cases h
    ·have:u<S.length:=eF S S.length u (LG hu);cases h;unfold Ref.gh;rw [LK];omega
 | enter A =>
  rw [sH hI] at h;exact zds
 | leave A =>
  rw [sI hI] at h;exact zds
end Pro
theorem yT (hk:k<n) (h:Pro.bk (k+1) (Pro.wl P k)=some L):(Ref.aN P n)[k]?=some (Pro.aE (k+1) L,(Ref.da (Ref.pc P k):Int)):=by
 unfold Ref.aN;rw [LJ,P4 hk,Option.map_some,Pro.pS h]
theorem zS {S:List Ref.State} (hk:k<n) (h:Pro.bk (k+1) (Pro.wl P k)=some L) (hS:Ref.a8 (Ref.aN P n) k=some S):Ref.a8 (Ref.aN P n) (k+1)=Ref.bB S k (Pro.aE (k+1) L) (Ref.da (Ref.pc P k):Int):=by
 rw [Ref.a8,hS];simp only;rw [yT hk h]
def eC (P:List ByteArray) (n:Nat) (w:World) (e:Ending) (w':World):Prop:=match Ref.a8 (Ref.aN P n) n with
 | none=>aY 3 (Ref.gy (Ref.aN P n) n:Int) w e w'
 | some S=>match Ref.dN S S.length with
  | some l=>aY 3 l w e w'
  | none=>∃ db,e = .returned (.pointer (some ⟨db,0,none⟩))/\Below w.heap.size w w'/\fM w w' db S n
theorem Di (w:World):fM w ((w.alloc (.map #[] 0)).alloc (.cells #[.slice none 0 0,.slice none 0 0,.slice none 0 0,.map (some w.heap.size),false] 123)) (w.heap.size+1) [] 0:=by
 refine ⟨⟨Ref.Sl.nil,Ref.Sl.nil,Ref.Sl.nil,w.heap.size,[],0,rfl,u0 _,?_⟩,Pro.Inv.nil⟩;have hb:Below w w ((w.alloc (.map #[] 0)).alloc (.cells #[.slice none 0 0,.slice none 0 0,.slice none 0 0,.map (some w.heap.size),false] 123)):=((FP _ _).alloc (u0 _) _).alloc zad _;refine ⟨hb,zaa,u0 _,bP _ _ _,Mz _ _ _ _,Mz _ _ _ _,Mz _ _ _ _,fun i h=>absurd h zad,fun i h=>absurd h zad,fun i j h=>absurd h zad,fun i h=>absurd h zad,fun i j h=>absurd h zad,?_⟩;exact bI (e:=0) (Qc w _ _ _) (cD ((FP _ _).alloc (u0 _) _))
theorem I2 (a b c d:Value) (w:World):(method 597 354 (.agg #[a,b,c, d]) "charts/reader.place").run prog w = .ok (347,.agg #[a,b,c,d]) w:=zab
theorem I1 (a b c d e f g:Value) (w:World):(method 597 358 (.agg #[a,b,c,d,e,f, g]) "charts/reader.place").run prog w = .ok (352,.agg #[a,b,c,d,e,f,g]) w:=zab
theorem IZ (a b c:Value) (w:World):(method 597 365 (.agg #[a,b, c]) "charts/reader.place").run prog w = .ok (357,.agg #[a,b,c]) w:=zab
theorem I0 (a b c:Value) (w:World):(method 597 366 (.agg #[a,b, c]) "charts/reader.place").run prog w = .ok (359,.agg #[a,b,c]) w:=zab
theorem r8 (P:List ByteArray) (n lb:Nat) (vs:List Value) (LS:List Pro.PL) (w:World) (hlb:w.heap[lb]?=some (.cells vs.toArray 116 (0,0))) (HL:jT w P n vs LS) (hn0:0<n) (hn:n<=1500) (hsz:∀ j,(Ref.pc P j).size<=1500) :
  () 44 #[.slice lb n n] w (eC P n w):=by
 have hlv:=HL.lv;have hll:=HL.ll;have hlbl:=(ph.1 hlb).1;have HSZ:Hid _:=hsz;have HLN:Hid _:=HL;have hmm:=@run_makeMap prog;have D0:=Di w;have HLV:Hid (vs.length=n):=hlv;have HLL:Hid (LS.length=n):=hll;clear hsz HL hlv hll;go_enter func44,ntmps44;go_wp2
 go_loopg [11] n (fun q i wr=>∃ (k:Nat) (S:List Ref.State),q=n-k/\k<=n/\i = .int .i64 k/\Ref.a8 (Ref.aN P n) k=some S/\(0<k->0<S.length)/\Below w w wr/\fM w wr (w.heap.size+1) S k)
 case atStart=>exact ⟨0,[],rfl,LL _,rfl,rfl,fun h=>zaa,((FP _ _).alloc (u0 _) _).alloc zad _,D0⟩
 case round =>
  obtain ⟨k,S,hq,hk,rfl,hS,hS0,hbr,DA⟩:=hrel;by_cases hkn:k<n
  ·obtain ⟨hp,hv⟩:=HLN.out.row k hkn;have hgood:=Pro.nw hp;have hbl:Ref.da (Ref.pc P k)<=1500:=Fq (Ref.tT _) (HSZ.out k);have cv:wr.cell? ⟨lb,k,none⟩=some (vs[k]'(by have:=HLV.out;omega)):=by
    rw [LM (w:=w) (hbr.block lb hlbl),JJ w _ k _ _ _ hlb,N2,ym]
   obtain ⟨L,hL⟩:∃ L,L=LS[k]'(by have:=HLL.out;omega):=⟨_,rfl⟩;obtain ⟨v,hve⟩:∃ v,v=vs[k]'(by have:=HLV.out;omega):=⟨_,rfl⟩;obtain ⟨dp,hdp⟩:∃ dp,dp=Ref.da (Ref.pc P k):=⟨_,rfl⟩;rw [<- hL,<- hve,<- hdp] at hv;rw [<- hL] at hp hgood;rw [<- hve] at cv;have hstep:=zS hkn hp hS;rw [<- hdp] at hstep hbl;have HSt:Hid _:=hstep;have HPos:Hid _:=fun S'=>Pro.step_pos (S':=S') (num:=k+1) (d:=dp) (L:=L) DA.inv;have HS:Hid _:=hS;have HS0:Hid _:=hS0;clear hL hve hdp hp hS hstep hS0;cases L with
   | state kd nme =>
    have hv:v=_:=hv;subst hv;have hmS:=I2;go_wp2_with fail;refine LF (Bz w wr (w.heap.size+1) S k dp kd nme DA hgood.1 hgood.2.1 (Fq hgood.2.2 zac) zaa zaa) ?_;rintro e w2 h2;unfold dy at h2;cases hts:Ref.bB S k (Pro.aE (k+1) (.state kd nme)) (dp:Int) with
    | none =>
     exact zc5
    | some S' =>
     exact zc4
   | move ev af dl t A =>
    obtain ⟨va,vn,vc,hv,hown⟩:=hv;subst hv;have hmS:=I1;go_wp2_with fail;refine LF (D6 w wr (w.heap.size+1) S k dp ev t af dl A ⟨va,vn,vc⟩ DA zaa zaa hown) ?_;rintro e w2 h2;unfold dy at h2;cases hts:Ref.bB S k (Pro.aE (k+1) (.move ev af dl t A)) (dp:Int) with
    | none =>
     exact zc5
    | some S' =>
     exact zc4
   | enter A =>
    obtain ⟨va,vn,vc,hv,hown⟩:=hv;subst hv;have hmS:=IZ;go_wp2_with fail;refine LF (Bu w wr (w.heap.size+1) S k dp A ⟨va,vn,vc⟩ DA zaa hown hgood) ?_;rintro e w2 h2;unfold dy at h2;cases hts:Ref.bB S k (Pro.aE (k+1) (.enter A)) (dp:Int) with
    | none =>
     exact zc5
    | some S' =>
     exact zc4
   | leave A =>
    obtain ⟨va,vn,vc,hv,hown⟩:=hv;subst hv;have hmS:=I0;go_wp2_with fail;refine LF (Bv w wr (w.heap.size+1) S k dp A ⟨va,vn,vc⟩ DA zaa hown hgood) ?_;rintro e w2 h2;unfold dy at h2;cases hts:Ref.bB S k (Pro.aE (k+1) (.leave A)) (dp:Int) with
    | none =>
     exact zc5
    | some S' =>
     exact zc4
  ·obtain rfl:k=n:=zaa;have HN:Hid _:=hS;have hSp:=hS0 hn0;clear hS hS0;go_wp2_with fail;refine (mM w wr (w.heap.size+1) S k DA hSp).mono ?_;rintro e w2 h2;unfold qj at h2;cases hpt:Ref.dN S S.length with
   | some l =>
    rw [hpt] at h2;have HPt:Hid _:=hpt;obtain ⟨hb,b,h5,h6,rfl⟩:=h2;dsimp only;refine ⟨rfl,?_⟩;unfold eC;rw [HN.out];simp only;rw [HPt.out];exact ⟨hbr.trans (hb.mono hbr.size),b,Fq hbr.size h5,h6,rfl⟩
   | none =>
    rw [hpt] at h2;obtain ⟨rfl,hb2⟩:=h2;have HPt:Hid _:=hpt;have HD2:Hid (fM w w2 (w.heap.size+1) S k):=⟨let ⟨sv,pv,ov,mb,X,nm,h1,h2,G⟩:=DA.mem;⟨sv,pv,ov,mb,X,nm,h1,h2,G.aw hb2⟩,DA.inv⟩;have hb3:=hbr.trans (hb2.mono hbr.size);clear hpt DA;dsimp only;go_wp2;go_ret;unfold eC;rw [HN.out];simp only;rw [HPt.out];exact ⟨w.heap.size+1,rfl,hb3,HD2.out⟩
namespace Pro
def i7 (a:Ref.Act):List ByteArray :=
 if a.how.toList == Ref.eS then [a.event]
 else if a.how.toList == Ref.eL then [a.id]
 else if a.id.size=0 then [a.event] else [a.event,a.id]
def gd (l:List ByteArray):Bool:=l.any fun s=>Ref.cn s Ref.bK
def Shape (a:Ref.Act):Prop:=(a.how=oU/\a.id=ByteArray.empty)\/(a.how=gD/\a.event=ByteArray.empty)\/a.how=mA
theorem jX:Ref.cn ByteArray.empty Ref.bK=false:=zac
theorem BF {a:Ref.Act} (h:Shape a):gd (i7 a)=Ref.wH a:=by
 unfold Ref.wH i7
 rcases h with ⟨h1,h2⟩ | ⟨h1,h2⟩ | h1
 ·rw [h1,h2,np,LA zac,jX];simp [gd]
 ·rw [h1,h2,gL,KQ zac,LA zac,jX];simp [gd]
 ·rw [h1,l9,KQ zac,KQ zac];by_cases hi:a.id.size=0
  ·have he:a.id=ByteArray.empty:=by
    have:=OG a.id;have h0:a.id.data.toList=[]:=NB.1 zaa;rw [<- QF a.id,h0];rfl
   rw [LA hi,he,jX];simp [gd]
  ·rw [KQ hi];simp [gd]
theorem vK {l r:List ByteArray} {a:Ref.Act} (h:bE l=some (a,r)):Shape a:=by
 cases l with
 | nil=>cases h
 | cons x t =>
  rw [bE] at h;split at h
  ·obtain ⟨q,h1,h2⟩:=LZ.1 h;cases h2;exact .inl ⟨rfl,rfl⟩
  ·split at h
   ·obtain ⟨q,h1,h2⟩:=LZ.1 h;cases h2;exact .inr (.inr rfl)
   ·split at h
    ·obtain ⟨q,h1,h2⟩:=LZ.1 h;cases h2;exact .inr (.inl ⟨rfl,rfl⟩)
    ·cases h
theorem qJ:∀ (f:Nat) (l r:List ByteArray) (A:List Ref.Act),gq f l=some (A,r)->∀ a∈A,Shape a
 | 0,l,r,A,h=>by cases h;simp
 | f+1,[],r,A,h=>by cases h;simp
 | f+1,x::t,r,A,h=>by
  rw [gq] at h;split at h
  ·split at h
   ·cases h
   ·rename_i a r' h1;split at h
    ·cases h
    ·rename_i A' t' h2;cases h
     intro b hb
     rcases NG.1 hb with rfl | hb
     ·exact vK h1
     ·exact qJ f r' r A' h2 b hb
  ·cases h;simp
end Pro
def tO (l:List ByteArray) (w:World) (e:Ending) (w':World):Prop:=∃ nb c,e = .returned (.slice (some ⟨nb,0,none⟩) l.length c)/\w'.ownsRow w 9 1 (.slice (some ⟨nb,0,none⟩) l.length c) l.length (l.map Value.string)/\Below w w w'
theorem fE (s:ByteArray) (w:World):() 324 #[.agg #[s]] w (tO [s] w):=by
 go_enter func324,ntmps324;go_wp2;go_ret;refine ⟨w.heap.size+1,1,rfl,?_,((FP _ _).alloc (u0 _) _).alloc zad _⟩;refine ⟨rfl,.inr ⟨w.heap.size+1,1,#[s],rfl,zaa,bP w _ _,u0 _,zag,rfl,rfl⟩⟩
theorem gR {w:World} {base nb c:Nat} (h:w.ownsRow base 9 1 (.slice nb l.length c) l.length (l.map Value.string)):qG w nb 0 l/\nb<w.heap.size/\l.length<=c:=by
 rcases h.2 with ⟨h',_⟩ | ⟨g,cap,cur,hv,hb,hg,h1,h2,h3,h4⟩
 ·cases h'
 ·simp only [Value.slice.injEq,Option.some.injEq,Addr.mk.injEq,and_true,true_and] at hv;obtain ⟨rfl,rfl⟩:=hv;refine ⟨fun i hi => ?_,(ph.1 hg).1,h1⟩;rw [NM,JJ w nb i _ _ _ hg];have h5:(cur.toList.take (l.length*1))[i]?=(l.map Value.string)[i]?:=by rw [h4]
  rw [OO,LA zaa] at h5;rw [<- MN,h5];simp [Ref.at',List.getD_eq_getElem?_getD,List.getElem?_eq_getElem hi]
theorem FH:(Tryz.prog.info? 9).map (fun i=>(i.zero,i.size,i.bytes))=some (some ↑ByteArray.empty,1,16):=zab
theorem uD (s a:ByteArray) (d:Int) (w:World):() 330 #[.agg #[s,.int .u64 d,a]] w (tO [s,a] w):=by
 obtain ⟨i0,hi,hz0,hz1,hz2⟩:=M6 FH;have hb1:Below w w (w.alloc (.cells #[s,.int .u64 d,a] 242)):=(FP _ _).alloc (u0 _) _;obtain ⟨W1,hW1⟩:∃ y,y=w.alloc (.cells #[s,.int .u64 d,a] 242):=⟨_,rfl⟩;have b0:W1.cell? w=some ↑s:=zaS;have b2:W1.cell? ⟨w,2,none⟩=some ↑a:=zaS;have hlw:w.heap.size<W1.heap.size:=zaS;go_enter func330,ntmps330
 go_upto_region 1 with fail
 change Code.wp _ _ _ _ (w.alloc (.cells #[s,.int .u64 d,a] 242));rw [<- hW1] at hb1 ⊢;clear hW1;have hbs:=hb1.size;refine LQ (S:=(fun W=>W.cell? w=some ↑s/\W.cell? ⟨w,2,none⟩=some ↑a)) zab ⟨b0,b2⟩ (fun ds => ?_);refine tH 0 w rfl ds ?_;refine tH 1 w rfl ds ?_;refine tH 2 (.agg #[s]) rfl ds ?_;refine tH 4 (.pointer (some ⟨w,2,none⟩)) rfl ds ?_;refine tH 5 (.string a) rfl ds ?_;refine yH [3,6] ?_;refine Me rfl (fun K hK => ?_) (Me rfl (fun K hK => ?_) M0)
 ·go_simp;refine (fE s _).mono ?_;rintro e w2 ⟨nb,c2,rfl,hown,hb2⟩;have hb2':Below W1 W1 w2:=((FP _ _).drew).trans hb2;have k0:=(LM (w:=W1) (w':=w2) (a:=⟨w,0,none⟩) (hb2'.block _ hlw)).trans b0;have k2:=(LM (w:=W1) (w':=w2) (a:=⟨w,2,none⟩) (hb2'.block _ hlw)).trans b2;have hlw2:w.heap.size<w2.heap.size:=LU hlw hb2'.size;dsimp only;refine hK.out _ _ ⟨k0,k2⟩ (fun ds => ?_);clear hK K;refine zH 6 rfl fun K hK => ?_;go_simp;refine hK.out _ _ zal (fun ds => ?_);clear hK K;refine zH 7 rfl fun K hK => ?_;have hown':=aD hown (show w.heap.size<=W1.heap.size from hbs);refine step_append_lies _ zae _ _ _ zae w.heap.size 9 i0 _ 1 16 underlying36 hi hz0 hz1 hz2 rfl zac (.slice nb 1 c2) 1 [s] zae (NH hown' _) ⟨w2,0,none⟩ 1 1 [a] zae zae (World.news_of_block (cs:=#[a]) (t:=9) (fr:=(0,0)) (LC w2 _)) zao zaa zag zaa zaf (w2.heap.size+1) zad ?_;intro g5 cap5 w5 hown5 hgrow hat hlt5;have HNB:Hid (some w.heap.size≠Value.ownBlock (.slice nb 1 c2)):=fun e=>by
   have h1:=(L9 hown _ e.symm).1;have h2:W1.drew.heap.size=W1.heap.size:=rfl;omega
  have k0:=((hgrow.cell_far ⟨w,0,none⟩ zaf HNB.out).trans (((FP w2 w2).alloc (u0 _) _).cell (p:=⟨w,0,none⟩) hlw2)).trans k0;have k2:=((hgrow.cell_far ⟨w,2,none⟩ zaf HNB.out).trans (((FP w2 w2).alloc (u0 _) _).cell (p:=⟨w,2,none⟩) hlw2)).trans k2;have HB5:Hid (Below w w w5):=((hb1.trans (hb2'.mono hbs)).alloc zaa _).grown hgrow zaf (fun k h=>by have:=(L9 hown' k h).1;exact this);exact zdC
 ·go_simp;refine hK.out _ _ zal (fun ds => ?_);clear hK K;refine zH 3 rfl fun K hK => ?_;go_simp;refine (fE s _).mono ?_;rintro e w2 ⟨nb,c2,rfl,hown,hb2⟩;have hbW:Below W1 W1 ((W1.drew).alloc (.cells #[a] 9)):=((FP _ _).drew).alloc (u0 _) _;have hbl:W1.heap.size<((W1.drew).alloc (.cells #[a] 9)).heap.size:=zad;have hb2':Below W1 W1 w2:=hbW.trans (hb2.mono hbW.size);have hel:w2.heap[W1.heap.size]?=some (.cells #[a] 9 (0,0)):=(hb2.block _ hbl).trans (LC _ _);have k0:=(LM (w:=W1) (w':=w2) (a:=⟨w,0,none⟩) (hb2'.block _ hlw)).trans b0;have k2:=(LM (w:=W1) (w':=w2) (a:=⟨w,2,none⟩) (hb2'.block _ hlw)).trans b2;have hlw2:w.heap.size<w2.heap.size:=LU hlw hb2'.size;have hszl:W1.heap.size<=((W1.drew).alloc (.cells #[a] 9)).heap.size:=Qz hbl;dsimp only;refine hK.out _ _ ⟨k0,k2⟩ (fun ds => ?_);clear hK K;refine zH 7 rfl fun K hK => ?_;have hown':=aD hown (show w.heap.size<=((W1.drew).alloc (.cells #[a] 9)).heap.size by omega);refine step_append_lies _ zae _ _ _ zae w.heap.size 9 i0 _ 1 16 underlying36 hi hz0 hz1 hz2 rfl zac (.slice nb 1 c2) 1 [s] zae hown' ⟨W1,0,none⟩ 1 1 [a] zae zae (World.news_of_block (cs:=#[a]) (t:=9) (fr:=(0,0)) hel) zao zaa zag zaa zaa w2.heap.size rfl ?_;intro g5 cap5 w5 hown5 hgrow hat hlt5;have HNB:Hid (some w.heap.size≠Value.ownBlock (.slice nb 1 c2)):=fun e=>by
   have h1:W1.heap.size+1<=w.heap.size:=by simpa using (L9 hown _ e.symm).1
   omega
  have k0:=(hgrow.cell_far ⟨w,0,none⟩ hlw2 HNB.out).trans k0;have k2:=(hgrow.cell_far ⟨w,2,none⟩ hlw2 HNB.out).trans k2;have HB5:Hid (Below w w w5):=(hb1.trans (hb2'.mono hbs)).grown hgrow zaa (fun k h=>by have:=(L9 hown' k h).1;exact this);exact zdC
def ej (tm:Bool) (num:Int) (l:List ByteArray) (w:World) (e:Ending) (w':World):Prop:=if tm&&Pro.gd l then aY 4 num w e w' else e = .returned (.tuple #[])/\Below w w w'
theorem bA (db:Nat) (num dep:Int) (tm:Bool) (l:List ByteArray) (nb c:Nat) (w:World) (hd:w.cell? ⟨db,4,none⟩=some (.bool tm)) (hs:qG w nb 0 l) (hnb:nb<w.heap.size) (hl:l.length<=10) :
  () 353 #[db,.agg #[(num:Int),(dep:Int)],.slice nb l.length c] w (ej tm num l w):=by
 have hdl:=LY _ _ hd;have HS:Hid _:=hs;clear hs;go_enter func353,ntmps353;go_wp2
 go_loop [10] (fun i=>∃ k:Nat,k<=l.length/\i = .int .i64 k/\(tm&&Pro.gd (l.take k))=false) (fun i=>l.length-(intOf i).toNat)
 case atStart=>exact ⟨0,LL _,rfl,by cases tm <;> rfl⟩
 case round =>
  obtain ⟨k,hk,rfl,hno⟩:=hrel;by_cases hkn:k<l.length
  ·have ck:w.cell? ⟨nb,k,none⟩=some (.string l[k]):=by
    have:=HS.out k hkn;simpa [Ref.at',List.getD_eq_getElem?_getD,List.getElem?_eq_getElem hkn] using this
   obtain ⟨x,hx⟩:∃ x,x=l[k]:=⟨_,rfl⟩;rw [<- hx] at ck;have HN:Hid (Pro.gd (l.take (k+1))=(Pro.gd (l.take k)||Ref.cn x Ref.bK)):=by
    unfold Hid Pro.gd;rw [MZ,ym hkn,OV,<- hx];simp
   have HNo:Hid _:=hno;clear hno hx;cases tm with
   | false =>
    go_wp2
    go_round
    case rel=>exact ⟨k+1,zaa,zah,rfl⟩
    case measure=>simp [intOf];omega
   | true =>
    go_wp2_with fail;refine (strings_HasPrefix x Ref.bK _).mono ?_;rintro e w9 ⟨rfl,hw9⟩;rw [hw9,gx];clear hw9 w9;cases hb:Ref.cn x Ref.bK with
    | false =>
     have HN2:Hid (Pro.gd (l.take (k+1))=false):=by
      have:=HNo.out;unfold Hid;rw [HN.out,hb];simpa using this
     clear hb;dsimp only;go_wp2
     go_round
     case rel=>exact ⟨k+1,zaa,zah,by rw [HN2.out];rfl⟩
     case measure=>simp [intOf];omega
    | true =>
     have HT:Hid (Pro.gd l=true):=by
      have h1:Pro.gd (l.take (k+1))=true:=by rw [HN.out,hb];simp
      unfold Pro.gd at h1;exact zd9
     clear hb;dsimp only;go_wp2_with fail;refine (aU num dep 4 _).mono ?_;rintro e w2 ⟨hb,b,h5,h6,rfl⟩;dsimp only;refine ⟨rfl,?_⟩;unfold ej;rw [HT.out,LA zae];exact ⟨((FP w w).alloc (u0 _) _).trans (hb.mono zad),b,by simp at h5;omega,h6,rfl⟩
  ·have hkl:k=l.length:=zaa;have HF:Hid ((tm&&Pro.gd l)=false):=by
    exact zfh
   clear hno;go_wp2;go_end0;unfold ej;rw [HF.out];exact ⟨rfl,(FP _ _).alloc (u0 _) _⟩
theorem IX (a:Value) (w:World):(method 597 428 (.agg #[a]) "Names").run prog w = .ok (324,.agg #[a]) w:=zab
theorem IW (a:Value) (w:World):(method 597 244 (.agg #[a]) "Names").run prog w = .ok (324,.agg #[a]) w:=zab
theorem IY (a b:Value) (w:World):(method 597 240 (.agg #[a, b]) "Names").run prog w = .ok (324,.agg #[a]) w:=zab
theorem IV (a b c:Value) (w:World):(method 597 242 (.agg #[a,b, c]) "Names").run prog w = .ok (330,.agg #[a,b,c]) w:=zab
theorem CT (x:Ref.Act):(bg x = .iface 428 (.agg #[x.event])/\Pro.i7 x=[x.event])\/(bg x = .iface 244 (.agg #[x.id])/\Pro.i7 x=[x.id])\/(bg x = .iface 240 (.agg #[x.event,.int .u64 x.delay])/\Pro.i7 x=[x.event])\/(bg x = .iface 242 (.agg #[x.event,.int .u64 x.delay,x.id])/\Pro.i7 x=[x.event,x.id]):=by
 unfold bg Pro.i7;cases h1:(x.how.toList == Ref.eS)
 ·cases h2:(x.how.toList == Ref.eL)
  ·simp only [Bool.false_eq_true,if_false];by_cases h3:x.id.size=0
   ·rw [LA h3,LA h3];exact .inr (.inr (.inl ⟨rfl,rfl⟩))
   ·rw [KQ h3,KQ h3];exact .inr (.inr (.inr ⟨rfl,rfl⟩))
  ·simp only [Bool.false_eq_true,if_false,if_true];exact .inr (.inl ⟨zaJ,zaJ⟩)
 ·simp only [if_true];exact .inl ⟨zaJ,zaJ⟩
def du (tm:Bool) (num:Int) (A:List Ref.Act) (w:World) (e:Ending) (w':World):Prop:=if tm&&Ref.bY A then aY 4 num w e w' else e = .returned (.tuple #[])/\Below w w w'
theorem jy (db:Nat) (num dep:Int) (tm:Bool) (A:List Ref.Act) (a:Option Addr) (n c:Nat) (w:World) (hd:w.cell? ⟨db,4,none⟩=some (.bool tm)) (hA:w.ownsRow 0 235 1 (.slice a n c) A.length (A.map bg)) (hS:∀ x∈A,Pro.Shape x) (hl:A.length<=100000) :
  () 354 #[db,.agg #[(num:Int),(dep:Int)],.slice a n c] w (du tm num A w):=by
 have hdl:=LY _ _ hd;have hn:n=A.length:=by
  rcases hA.2 with ⟨h,h0⟩ | ⟨g,cap,cur,h,_⟩
  ·simp at h;rw [h0];exact h.2.1
  ·simp at h;exact h.2.1
 subst hn;have HC:Hid (∀ k (hk:k<A.length),∃ ab,a=some ⟨ab,0,none⟩/\w.cell? ⟨ab,k,none⟩=some (bg A[k])/\A.length<=c):=fun k hk=>by
  rcases hA.2 with ⟨_,h0⟩ | ⟨g,cap,cur,h,_,hg,hle,_,_,h4⟩
  ·omega
  ·simp at h;refine ⟨g,h.1,?_,by rw [h.2];exact hle⟩;rw [JJ w g k _ _ _ hg];have h5:(cur.toList.take (A.length*1))[k]?=(A.map bg)[k]?:=by rw [h4]
   rw [OO,LA zaa] at h5;rw [<- MN,h5];simp [List.getElem?_eq_getElem hk]
 have HSh:Hid _:=hS;clear hA hS;go_enter func354,ntmps354;go_wp2
 go_loopg [10] A.length (fun q i wr=>∃ k:Nat,q=A.length-k/\k<=A.length/\i = .int .i64 k/\(tm&&Ref.bY (A.take k))=false/\Below w w wr/\wr.heap[w.heap.size]?=some (.cells #[(num:Int),(dep:Int)] 206 (0,0)))
 case atStart=>exact ⟨0,rfl,LL _,rfl,by cases tm <;> rfl,(FP _ _).alloc (u0 _) _,LC _ _⟩
 case round =>
  obtain ⟨k,hq,hk,rfl,hno,hbr,hbx⟩:=hrel;have hbs:=hbr.size;have hlw:=(ph.1 hbx).1;by_cases hkn:k<A.length
  ·obtain ⟨ab,ha,ck,hcc⟩:=HC.out k hkn;subst ha;have hab:=LY _ _ ck;obtain ⟨x,hx⟩:∃ x,x=A[k]:=⟨_,rfl⟩;have cr:wr.cell? ⟨ab,k,none⟩=some (bg x):=by rw [hx];exact (LM (w:=w) (hbr.block ab hab)).trans ck
   have b0:wr.cell? w=some ↑(num:Int):=by rw [JJ wr _ _ _ _ _ hbx];rfl
   have b1:wr.cell? ⟨w,1,none⟩=some ↑(dep:Int):=by rw [JJ wr _ _ _ _ _ hbx];rfl
   have HN:Hid (Ref.bY (A.take (k+1))=(Ref.bY (A.take k)||Pro.gd (Pro.i7 x))):=by
    unfold Hid Ref.bY;rw [MZ,ym hkn,OV,<- hx,Pro.BF (HSh.out x (by rw [hx];exact Ml hkn))];simp
   have HT:Hid (Ref.bY (A.take (k+1))=true->Ref.bY A=true):=by
    intro h;unfold Ref.bY at h ⊢;rw [N6] at h ⊢;obtain ⟨y,hy,hy2⟩:=h;exact ⟨y,Ob hy,hy2⟩
   have HNo:Hid _:=hno;have HD:Hid (∀ w2,Below wr wr w2->w2.cell? ⟨db,4,none⟩=some (.bool tm)/\w2.heap[w.heap.size]?=some (.cells #[(num:Int),(dep:Int)] 206 (0,0))/\w2.cell? w=some ↑(num:Int)/\w2.cell? ⟨w,1,none⟩=some ↑(dep:Int)/\Below w w w2):=by
    intro w2 hb2;have hx2:=(hb2.block _ hlw).trans hbx;have hb3:=hbr.trans (hb2.mono hbs);exact ⟨(LM (w:=w) (hb3.block db hdl)).trans hd,hx2,by rw [JJ w2 _ _ _ _ _ hx2];rfl,by rw [JJ w2 _ _ _ _ _ hx2];rfl,hb3⟩
   clear hno hx ck
   rcases CT x with ⟨hv,hnm⟩ | ⟨hv,hnm⟩ | ⟨hv,hnm⟩ | ⟨hv,hnm⟩
   ·rw [hv] at cr;rw [hnm] at HN;clear hv hnm;have hmN:=IX
    go_upto_region 4 with fail
    refine No zab ?_;change wpAny _ _ _ _ _ _ _ (World.drew _);refine tA 0 db rfl ?_;refine tA 2 (.iface 428 (.agg #[x.event])) rfl ?_;exact za4
   ·rw [hv] at cr;rw [hnm] at HN;clear hv hnm;have hmN:=IW
    go_upto_region 4 with fail
    refine No zab ?_;change wpAny _ _ _ _ _ _ _ (World.drew _);refine tA 0 db rfl ?_;refine tA 2 (.iface 244 (.agg #[x.id])) rfl ?_;refine yA [1,3] ?_;refine Li rfl (fun K hK => ?_) (Li rfl (fun K hK => ?_) LW)
    ·go_simp;refine hK _ _ ?_;clear hK K;refine zA 3 rfl fun K hK => ?_;go_simp;refine LF (fE x.id _) ?_;rintro e w2 ⟨nb,c2,rfl,hown,hb2⟩;have hb2':Below wr wr w2:=((FP _ _).drew).trans hb2;obtain ⟨e4,hx2,e0,e1,hbw2⟩:=HD.out w2 hb2';obtain ⟨hst,hnbl,_⟩:=gR (l:=[x.id]) hown;dsimp only;exact zcG
    ·go_simp;refine LF (fE x.id _) ?_;rintro e w2 ⟨nb,c2,rfl,hown,hb2⟩;have hb2':Below wr wr w2:=((FP _ _).drew).trans hb2;obtain ⟨e4,hx2,e0,e1,hbw2⟩:=HD.out w2 hb2';obtain ⟨hst,hnbl,_⟩:=gR (l:=[x.id]) hown;dsimp only;refine hK _ _ ?_;clear hK K;refine zA 1 rfl fun K hK => ?_;go_simp;exact zcG
   ·rw [hv] at cr;rw [hnm] at HN;clear hv hnm;have hmN:=IY
    go_upto_region 4 with fail
    refine No zab ?_;change wpAny _ _ _ _ _ _ _ (World.drew _);refine tA 0 db rfl ?_;refine tA 2 (.iface 240 (.agg #[x.event,.int .u64 x.delay])) rfl ?_;exact za4
   ·rw [hv] at cr;rw [hnm] at HN;clear hv hnm;have hmN:=IV
    go_upto_region 4 with fail
    refine No zab ?_;change wpAny _ _ _ _ _ _ _ (World.drew _);refine tA 0 db rfl ?_;refine tA 2 (.iface 242 (.agg #[x.event,.int .u64 x.delay,x.id])) rfl ?_;refine yA [1,3] ?_;refine Li rfl (fun K hK => ?_) (Li rfl (fun K hK => ?_) LW)
    ·go_simp;refine hK _ _ ?_;clear hK K;refine zA 3 rfl fun K hK => ?_;go_simp;refine LF (uD x.event x.id x.delay _) ?_;rintro e w2 ⟨nb,c2,rfl,hown,hb2⟩;have hb2':Below wr wr w2:=((FP _ _).drew).trans hb2;obtain ⟨e4,hx2,e0,e1,hbw2⟩:=HD.out w2 hb2';obtain ⟨hst,hnbl,_⟩:=gR (l:=[x.event,x.id]) hown;dsimp only;exact zcF
    ·go_simp;refine LF (uD x.event x.id x.delay _) ?_;rintro e w2 ⟨nb,c2,rfl,hown,hb2⟩;have hb2':Below wr wr w2:=((FP _ _).drew).trans hb2;obtain ⟨e4,hx2,e0,e1,hbw2⟩:=HD.out w2 hb2';obtain ⟨hst,hnbl,_⟩:=gR (l:=[x.event,x.id]) hown;dsimp only;refine hK _ _ ?_;clear hK K;refine zA 1 rfl fun K hK => ?_;go_simp;exact zcF
  ·have hkl:k=A.length:=zaa;have HF:Hid ((tm&&Ref.bY A)=false):=by
    exact zfh
   clear hno;go_wp2;go_end0;unfold du;rw [HF.out];exact ⟨rfl,hbr⟩
variable {w0 w:World} {db mb nm:Nat} {sv pv ov:Ref.Sl} {tm:Bool} {X:List Pro.DS} {SP:List (Int×Int)} {O:List Nat} {PT:Nat->List Nat} {D:DataW Nat}
def iZ (D:DataW Nat) (n:ByteArray):Option Int:=match D.atKey (.string n.data.toList) (.lit (.int .i64 0)) with
 | .lit (.int .i64 c)=>some c
 | _=>none
def vI (D:DataW Nat) (nme:ByteArray) (num:Int) (w:World) (e:Ending) (w':World):Prop:=if iZ D nme=some num then e = .returned (.tuple #[])/\Below w w w' else aY 4 num w e w'
theorem sE (num dep kd:Int) (nme:ByteArray) (G:ao w0 w db sv pv ov mb tm X SP O PT nm D) (hs:nme.size<=1000000) :
  () 346 #[.agg #[(num:Int),(dep:Int),(kd:Int),nme],db] w (vI D nme num w):=by
 have hdl:=G.dlt;have hb1:Below w w (w.alloc (.cells #[(num:Int),(dep:Int),(kd:Int),nme] 354)):=(FP _ _).alloc (u0 _) _;obtain ⟨_,_,_,c3,_⟩:=(G.aw hb1).cells;obtain ⟨W1,hW1⟩:∃ y,y=w.alloc (.cells #[(num:Int),(dep:Int),(kd:Int),nme] 354):=⟨_,rfl⟩;have b0:W1.cell? w=some ↑(num:Int):=zaS;have b1:W1.cell? ⟨w,1,none⟩=some ↑(dep:Int):=zaS;have b3:W1.cell? ⟨w,3,none⟩=some ↑nme:=zaS;have law:Go.Maps.Keyed prog 9:=O3 underlying9;have zeroE:∀ w:World,(zeroValue 3).run prog w = .ok (.int .i64 0) w:=fun w=>zab;have hkey:keyOf prog 9 (.string nme)=some (.string nme.data.toList):=Ok underlying9 zag;have hmapd:js W1.drew mb nm D:=zcc;obtain ⟨cc,hrun,hat,_⟩:=hmapd.lookup_int law underlying121 underlying3 (zeroE _) hkey;have HF:Hid (iZ D nme=some cc):=by unfold Hid iZ;rw [hat]
 rw [<- hW1] at c3 hb1;go_enter func346,ntmps346
 go_upto_region 1 with fail
 change Code.wp _ _ _ _ (w.alloc (.cells #[(num:Int),(dep:Int),(kd:Int),nme] 354));rw [<- hW1];clear hW1 hat;have hbs:=hb1.size;refine LQ (S:=(fun W=>W.cell? ⟨db,3,none⟩=some (.map (some mb))/\W.cell? w=some ↑(num:Int)/\W.cell? ⟨w,3,none⟩=some ↑nme)) zab ⟨c3,b0,b3⟩ (fun ds => ?_);refine tH 0 db rfl ds ?_;refine tH 1 db rfl ds ?_;refine tH 2 (.pointer (some ⟨db,3,none⟩)) rfl ds ?_;refine tH 3 (.map (some mb)) rfl ds ?_;refine tH 4 (.pointer (some ⟨w,3,none⟩)) rfl ds ?_;refine tH 5 (.string nme) rfl ds ?_;refine tH 7 w rfl ds ?_;refine tH 8 w rfl ds ?_;refine tH 9 (.int .i64 num) rfl ds ?_;refine zH 6 rfl fun K hK => ?_;go_simp;refine hK.out _ _ ds (fun ds => ?_);clear hK K hrun;by_cases hcc:cc=num
 ·subst hcc;refine zH 10 rfl fun K hK => ?_;go_simp;refine hK.out _ _ ds (fun ds => ?_);clear hK K;refine LX zab ?_ _;go_wp2;go_end0;unfold vI;rw [HF.out,LA rfl];exact ⟨rfl,hb1.drew⟩
 ·have hne:(cc != num)=true:=by simpa using hcc
  refine zH 10 rfl fun K hK => ?_;go_simp;refine hK.out _ _ ds (fun ds => ?_);clear hK K;refine LX zab ?_ _;go_wp2_with fail;refine (aU num dep 4 _).mono ?_;rintro e w2 ⟨hb,b,h5,h6,rfl⟩;dsimp only;refine ⟨rfl,?_⟩;unfold vI;rw [HF.out,KQ (by simpa using hcc)];exact ⟨hb1.drew.trans (hb.mono hbs),b,Fq hbs h5,h6,rfl⟩
theorem kD (num dep:Int) (A:List Ref.Act) (a:Option Addr) (n c:Nat) (G:ao w0 w db sv pv ov mb tm X SP O PT nm D) (hA:w0.ownsRow 0 235 1 (.slice a n c) A.length (A.map bg)) (hS:∀ x∈A,Pro.Shape x) (hl:A.length<=100000) :
  () 356 #[.agg #[(num:Int),(dep:Int),.slice a n c],db] w (du tm num A w):=by
 have hb1:Below w w (w.alloc (.cells #[(num:Int),(dep:Int),.slice a n c] 362)):=(FP _ _).alloc (u0 _) _;have G1:=G.aw hb1;obtain ⟨_,_,_,_,c4⟩:=G1.cells;have hA1:=bc hA (G1.bel);have HC:Hid (∀ W:World,W=w.alloc (.cells #[(num:Int),(dep:Int),.slice a n c] 362)->() 354 #[db,.agg #[(num:Int),(dep:Int)],.slice a n c] W (du tm num A W)):=by
  rintro W rfl;exact jy db num dep tm A a n c _ c4 hA1 hS hl
 clear G1 c4 hA1;go_enter func356,ntmps356;go_wp2_with fail;refine LF (HC.out _ rfl) ?_;rintro e w2 h2;unfold du at h2;cases hm:(tm&&Ref.bY A) with
 | true =>
  rw [hm,LA rfl] at h2;obtain ⟨hb,b,h5,h6,rfl⟩:=h2;dsimp only;refine ⟨rfl,?_⟩;unfold du;rw [hm,LA rfl];exact ⟨hb1.trans (hb.mono hb1.size),b,Fq hb1.size h5,h6,rfl⟩
 | false =>
  rw [hm,KQ zad] at h2;obtain ⟨rfl,hb2⟩:=h2;have HM:Hid _:=hm;clear hm;dsimp only;go_wp2;go_end0;unfold du;rw [HM.out,KQ zad];exact ⟨rfl,hb1.trans (hb2.mono hb1.size)⟩
def ka (D:DataW Nat) (tm:Bool) (m:Ref.Move):Bool:=(!m.to.toList.isEmpty && !Go.Maps.has D (.string m.to.data.toList))||(tm&&(Ref.bY m.au||(!m.after&&Ref.cn m.event Ref.bK)))
def gw (D:DataW Nat) (tm:Bool) (m:Ref.Move) (num:Int) (w:World) (e:Ending) (w':World):Prop:=if ka D tm m then aY 4 num w e w' else e = .returned (.tuple #[])/\Below w w w'
theorem tv (num:Int) (dep:Nat) (y:Pro.PV) (G:ao w0 w db sv pv ov mb tm X SP O PT nm D) (hs:y.m.to.size<=1000000) (hA:w0.ownsRow 0 235 1 y.v.v y.m.au.length (y.m.au.map bg)) (hS:∀ x∈y.m.au,Pro.Shape x) (hl:y.m.au.length<=100000) :
  () 351 #[.agg (de num dep y),db] w (gw D tm y.m num w):=by
 have hdl:=G.dlt;have hb1:Below w w (w.alloc (.cells (de num dep y) 358)):=(FP _ _).alloc (u0 _) _;obtain ⟨_,_,_,c3,_⟩:=(G.aw hb1).cells;obtain ⟨W1,hW1⟩:∃ z,z=w.alloc (.cells (de num dep y) 358):=⟨_,rfl⟩;have hbx:W1.heap[w.heap.size]?=some (.cells (de num dep y) 358 (0,0)):=by rw [hW1];exact LC _ _
 have HBx:Hid (∀ W2,Below W1 W1 W2->W2.cell? w=some ↑(num:Int)/\W2.cell? ⟨w,1,none⟩=some ↑(dep:Int)/\W2.cell? ⟨w,2,none⟩=some ↑y.m.event/\W2.cell? ⟨w,3,none⟩=some (.bool y.m.after)/\W2.cell? ⟨w,5,none⟩=some ↑y.m.to/\W2.cell? ⟨w,6,none⟩=some (.slice y.v.a y.v.n y.v.c)):=by
  intro W2 hb2;have h2:=(hb2.block _ (ph.1 hbx).1).trans hbx;refine ⟨?_,?_,?_,?_,?_,?_⟩ <;> rw [JJ W2 _ _ _ _ _ h2] <;> rfl
 have HA:Hid (∀ W2,Below W1 W1 W2->() 354 #[db,.agg #[(num:Int),(dep:Int)],.slice y.v.a y.v.n y.v.c] W2 (du tm num y.m.au W2)):=by
  intro W2 hb2;have G2:=(G.aw hb1).aw (by rw [<- hW1];exact hb2);obtain ⟨_,_,_,_,c4⟩:=G2.cells;exact jy db num dep tm y.m.au _ _ _ _ c4 (bc hA G2.bel) hS hl
 have HR:Hid (∀ W2,Below W1 W1 W2->() 353 #[db,.agg #[(num:Int),(dep:Int)],.slice (some ⟨W2.heap.size,0,none⟩) 1 1] (W2.alloc (.cells #[y.m.event] 9)) (ej tm num [y.m.event] (W2.alloc (.cells #[y.m.event] 9)))):=by
  intro W2 hb2;have G2:=((G.aw hb1).aw (by rw [<- hW1];exact hb2)).aw ((FP _ W2).alloc (u0 _) (.cells #[y.m.event] 9));obtain ⟨_,_,_,_,c4⟩:=G2.cells;exact bA db num dep tm [y.m.event] W2.heap.size 1 _ c4 (sK (l:=[y.m.event]) (LC W2 _)) zad zad
 have law:Go.Maps.Keyed prog 9:=O3 underlying9;have zeroE:∀ w:World,(zeroValue 3).run prog w = .ok (.int .i64 0) w:=fun w=>zab;have hkey:keyOf prog 9 (.string y.m.to)=some (.string y.m.to.data.toList):=Ok underlying9 zag;have hmapd:js W1.drew mb nm D:=zcc;obtain ⟨vv,ps,hrun,hvv⟩:=hmapd.look_ok law underlying121 (zeroE _) (Qq underlying3 zac) hkey;obtain ⟨cc,rfl,_,_⟩:=plainElem_int_inv underlying3 hvv;clear hvv hA hS;rw [<- hW1] at c3 hb1;obtain ⟨b0,b1,b2,b3,b5,b6⟩:=HBx.out W1 (FP _ _);have hbs:=hb1.size;unfold de at hW1 ⊢;go_enter func351,ntmps351
 go_upto_region 1 with fail
 change Code.wp _ _ _ _ (w.alloc (.cells #[(num:Int),(dep:Int),y.m.event,y.m.after,.int .u64 y.m.delay,y.m.to,.slice y.v.a y.v.n y.v.c] 358));rw [<- hW1];clear hW1 G hbx;refine LQ (S:=(fun W=>W.cell? ⟨db,3,none⟩=some (.map (some mb))/\W.cell? ⟨w,5,none⟩=some ↑y.m.to)) zab ⟨c3,b5⟩ (fun ds => ?_);refine tH 0 db rfl ds ?_;refine tH 1 db rfl ds ?_;refine tH 2 (.pointer (some ⟨db,3,none⟩)) rfl ds ?_;refine tH 3 (.map (some mb)) rfl ds ?_;refine tH 4 (.pointer (some ⟨w,2,none⟩)) rfl ds ?_;refine tH 5 (.pointer (some ⟨w,5,none⟩)) rfl ds ?_;refine tH 6 (.string y.m.to) rfl ds ?_;refine zH 7 rfl fun K hK => ?_;go_simp;refine hK.out _ _ ds (fun ds => ?_);clear hK K;refine tH 8 (.tuple #[(cc:Int),.bool (Go.Maps.has D (.string y.m.to.data.toList))]) rfl ds ?_;refine tH 9 (.int .i64 cc) rfl ds ?_;refine tH 10 (.bool (Go.Maps.has D (.string y.m.to.data.toList))) rfl ds ?_;refine tH 11 (.int .i64 cc) rfl ds ?_;refine tH 12 (.bool (Go.Maps.has D (.string y.m.to.data.toList))) rfl ds ?_;refine LX zab ?_ _;clear hrun;obtain ⟨hs0,hhs⟩:∃ h,h=Go.Maps.has D (.string y.m.to.data.toList):=⟨_,rfl⟩;obtain ⟨te,hte⟩:∃ h,h=y.m.to.toList.isEmpty:=⟨_,rfl⟩;have HBad:Hid (ka D tm y.m=((!te && !hs0)||(tm&&(Ref.bY y.m.au||(!y.m.after&&Ref.cn y.m.event Ref.bK))))):=by unfold Hid ka;rw [hhs,hte]
 rw [<- hhs];have HTe:Hid _:=hte;clear hhs hte ds;have hbd:Below W1 W1 W1.drew:=(FP _ _).drew;cases hs0 with
 | true =>
  exact zct
 | false =>
  cases te with
  | true =>
   have hte':y.m.to.toList=[]:=Om.1 HTe.out.symm;have hte2:y.m.to.toList.isEmpty=true:=HTe.out.symm;exact zct
  | false =>
   have hte2:y.m.to.toList.isEmpty=false:=HTe.out.symm;have hne:(y.m.to.toList == [])=false:=by
    cases h:y.m.to.toList with
    | nil=>rw [h] at hte2;cases hte2
    | cons a b=>rfl
   have HM:Hid (ka D tm y.m=true):=by unfold Hid;rw [HBad.out];rfl
   go_wp2_with fail;refine (aU num dep 4 _).mono ?_;rintro e w2 ⟨hb,b,h5,h6,rfl⟩;have hbw:=hb1.trans (hbd.mono hbs);exact zfC
theorem At (p q:Addr) (w:World) :
  CallsD prog 42 #[.pointer (some p),.pointer (some q)] .returning w fun e u' w'=>e = .returned (.tuple #[])/\u' = .returning/\w'=w:=by
 refine callsD_of_wpS func42 rfl fun c₀ cs hu => ?_;apply wpS_seq
 apply wpS_region
 simp [wpOpsS,go_sem,recoverD,hu,ntmps42,Exit.thenS];refine wpS_of_wp ?_;go_wp2;cases c₀
 simp_all [bodyPostS,results,Tryz.results42]
theorem th (f:Nat) (w:World):(Instr.typeAssert (.iface 110 (.agg #[f])) 20 110 true).run prog w = .ok (.tuple #[.agg #[f],true]) w:=zab
theorem bS (p q:Nat) (a b:Value) (f:Nat) (older:List PanicEntry) (w:World) (hp:w.heap[p]?=some (.cells #[a] 72 (0,0))) (hq:w.heap[q]?=some (.cells #[b] 50 (0,0))) (hpq:p≠q) :
  CallsD prog 42 #[p,q] (.panicking ({ v := .iface 110 (.agg #[f]),recovered:=false }::older)) w fun e u' w' =>
   e = .returned (.tuple #[])/\u' = .panicking ({ v := .iface 110 (.agg #[f]),recovered:=true }::older)/\∃ W,Below w ((w.setCell p (.pointer none)).setCell q (.iface 83 f)) W/\w'=W:=by
 refine callsD_of_wpS func42 rfl fun c₀ cs hu => ?_;apply wpS_seq
 apply wpS_region
 simp [wpOpsS,go_sem,recoverD,hu,ntmps42,Exit.thenS];refine wpS_of_wp ?_;have hta:=th f;have cp:w.cell? p=some a:=by rw [JJ w _ _ _ _ _ hp];rfl
 have cq:w.cell? q=some b:=by rw [JJ w _ _ _ _ _ hq];rfl
 have fp:w.frozen? ⟨p,0,none⟩=false:=zbS;have fq:w.frozen? ⟨q,0,none⟩=false:=by simp [World.frozen?,hq]
 have lp:=(ph.1 hp).1;have lq:=(ph.1 hq).1;have hqp:¬ q=p:=fun h=>hpq h.symm
 go_upto_region 7 with fail
 go_region
 all_goals (
  go_wp2;refine ⟨rfl,_,rfl,.tuple #[],by simp [results,Tryz.results42],rfl,rfl,?_⟩;exact ((FP _ _).alloc zad _).drew)
