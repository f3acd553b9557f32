import Derived.Test.YtobhbhmjajobjaaGreatDoorM14
import Derived.Stop.Asserts
set_option maxRecDepth 100000
set_option maxHeartbeats 8000000
namespace Go.Proofs.YtobhbhmjajobjaaGreatDoor
variable {zp:Prop}
theorem zfw (h:zp:=by
 rw [hm,MB rfl] at h3;have HM:Hid (kf D tm y.m=true):=by
  rw [Na] at hm;unfold Hid;rw [HBad.out,hm.1,hm.2];simp
 obtain ⟨hb,b,h5,h6,rfl⟩:=h3;dsimp only;refine ⟨rfl,?_⟩;unfold gu;rw [HM.out,MB rfl];exact ⟨hbw.trans (hb.mono hbw.size),b,Mv hbw.size h5,h6,rfl⟩):zp:=h
theorem zfx (h:zp:=by
 rw [hr,MB rfl] at h3;have HM:Hid ((tm&&Ref.b7 A)=true):=by
  rw [Na] at hr;unfold Hid;rw [hr.1,HT.out zay];rfl
 obtain ⟨hb,b,h5,h6,rfl⟩:=h3;dsimp only;refine ⟨rfl,?_⟩;unfold dt;rw [MB HM.out];exact ⟨hbw2.trans (hb.mono hbw2.size),b,Mv hbw2.size h5,h6,rfl⟩):zp:=h
theorem zfD (h:zp:=by
 unfold Hid;have h1:=HNo.out;rw [HN.out];cases tm with
 | false=>rfl
 | true=>simp only [Bool.true_and] at h1 hr ⊢;rw [h1,hr];rfl):zp:=h
theorem zfE (h:zp:=by
 dsimp only;refine ⟨rfl,?_⟩;unfold gu;rw [HM.out,MB rfl];exact ⟨hbw.trans (hb.mono hbw.size),b,Mv hbw.size h5,h6,rfl⟩):zp:=h
theorem za2 (h:zp:=by
 refine yA [1,3] ?_;refine MA rfl (fun K hK => ?_) (MA rfl (fun K hK => ?_) MX)
 ·go_simp;refine hK _ _ ?_;clear hK K;refine zA 3 rfl fun K hK => ?_;go_simp;refine MC (fG x.event _) ?_;rintro e w2 ⟨nb,c2,rfl,hown,hb2⟩;have hb2':Below wr wr w2:=((Mw _ _).drew).trans hb2;obtain ⟨e4,hx2,e0,e1,hbw2⟩:=HD.out w2 hb2';obtain ⟨hst,hnbl,_⟩:=gR (l:=[x.event]) hown;dsimp only;refine hK _ _ ?_;clear hK K;refine zA 4 rfl fun K hK => ?_;go_simp;have hq4:=bA db num dep tm [x.event] nb c2 w2 e4 hst hnbl zad;refine MC hq4 ?_;rintro e w3 h3;unfold ej at h3;cases hr:(tm&&Pro.gi [x.event]) with
  | true =>
   exact zfx
  | false =>
   rw [hr,Mz zad] at h3;obtain ⟨rfl,hb3⟩:=h3;have HM:Hid ((tm&&Ref.b7 (A.take (k+1)))=false):=by
    exact zfD
   have hbw3:=hbw2.trans (hb3.mono hbw2.size);have hbx3:=(hb3.block _ (Ms.1 hx2).1).trans hx2;clear hr;dsimp only;refine hK _ _ ?_;clear hK K;refine NY zab ?_ _;go_wp2
   go_roundg (A.length-(k+1))
   case measure=>omega
   case rel=>exact ⟨k+1,rfl,zaa,zah,HM.out,hbw3,hbx3⟩
 ·go_simp;refine MC (fG x.event _) ?_;rintro e w2 ⟨nb,c2,rfl,hown,hb2⟩;have hb2':Below wr wr w2:=((Mw _ _).drew).trans hb2;obtain ⟨e4,hx2,e0,e1,hbw2⟩:=HD.out w2 hb2';obtain ⟨hst,hnbl,_⟩:=gR (l:=[x.event]) hown;dsimp only;refine hK _ _ ?_;clear hK K;refine zA 1 rfl fun K hK => ?_;go_simp;refine hK _ _ ?_;clear hK K;refine zA 4 rfl fun K hK => ?_;go_simp;have hq4:=bA db num dep tm [x.event] nb c2 w2 e4 hst hnbl zad;refine MC hq4 ?_;rintro e w3 h3;unfold ej at h3;cases hr:(tm&&Pro.gi [x.event]) with
  | true =>
   exact zfx
  | false =>
   rw [hr,Mz zad] at h3;obtain ⟨rfl,hb3⟩:=h3;have HM:Hid ((tm&&Ref.b7 (A.take (k+1)))=false):=by
    exact zfD
   have hbw3:=hbw2.trans (hb3.mono hbw2.size);have hbx3:=(hb3.block _ (Ms.1 hx2).1).trans hx2;clear hr;dsimp only;refine hK _ _ ?_;clear hK K;refine NY zab ?_ _;go_wp2
   go_roundg (A.length-(k+1))
   case measure=>omega
   case rel=>exact ⟨k+1,rfl,zaa,zah,HM.out,hbw3,hbx3⟩):zp:=h
theorem zct (h:zp:=by
 cases haf:y.m.after with
 | true =>
  have b3t:=b3;rw [haf] at b3t;have HAf:Hid _:=haf;clear haf b3;go_wp2_with fail;refine MC (HA.out _ hbd) ?_;rintro e w3 h3;unfold dt at h3;have hbw:=hb1.trans (Below.mono hbd hbs);cases hm:(tm&&Ref.b7 y.m.aw) with
  | true =>
   exact zfw
  | false =>
   rw [hm,Mz zad] at h3;obtain ⟨rfl,hb3⟩:=h3;have HM:Hid (kf D tm y.m=false):=by
    unfold Hid;rw [HBad.out];rw [HAf.out];cases tm with
     | false=>simp
     | true=>simp only [Bool.true_and] at hm;rw [hm];simp
   clear hm;dsimp only;go_wp2;go_end0;unfold gu;rw [HM.out,Mz zad];exact ⟨rfl,hbw.trans (hb3.mono hbw.size)⟩
 | false =>
  have b3t:=b3;rw [haf] at b3t;have HAf:Hid _:=haf;clear haf b3;go_wp2_with fail;refine MC (HR.out _ hbd) ?_;rintro e w4 h4;unfold ej at h4;have hbe:Below W1 W1 ((W1.drew).alloc (.cells #[y.m.event] 9)):=hbd.alloc (Mt _) _;have hresv:Pro.gi [y.m.event]=Ref.cy y.m.event Ref.bL:=by simp [Pro.gi]
  rw [hresv] at h4;cases hr:(tm&&Ref.cy y.m.event Ref.bL) with
  | true =>
   rw [hr,MB rfl] at h4;have HM:Hid (kf D tm y.m=true):=by
    rw [Na] at hr;unfold Hid;rw [HBad.out,HAf.out,hr.1,hr.2];simp
   have hbw:=hb1.trans (hbe.mono hbs);obtain ⟨hb,b,h5,h6,rfl⟩:=h4;exact zfE
  | false =>
   rw [hr,Mz zad] at h4;obtain ⟨rfl,hb4⟩:=h4;have hbd4:Below W1 W1 w4:=hbe.trans (hb4.mono hbe.size);obtain ⟨a0,a1,a2,a3,a5,a6⟩:=HBx.out w4 hbd4;have HRr:Hid _:=hr;clear hr hresv;dsimp only;go_wp2_with fail;refine MC (HA.out _ hbd4) ?_;rintro e w3 h3;unfold dt at h3;have hbw:=hb1.trans (Below.mono hbd4 hbs);cases hm:(tm&&Ref.b7 y.m.aw) with
   | true =>
    exact zfw
   | false =>
    rw [hm,Mz zad] at h3;obtain ⟨rfl,hb3⟩:=h3;have HM:Hid (kf D tm y.m=false):=by
     unfold Hid;rw [HBad.out];have hr:=HRr.out;rw [HAf.out];cases tm with
      | false=>simp
      | true=>simp only [Bool.true_and] at hm hr;rw [hm,hr];simp
    clear hm;dsimp only;go_wp2;go_end0;unfold gu;rw [HM.out,Mz zad];exact ⟨rfl,hbw.trans (hb3.mono hbw.size)⟩):zp:=h
theorem zcF (h:zp:=by
 refine hK _ _ ?_;clear hK K;refine zA 4 rfl fun K hK => ?_;go_simp;have hq4:=bA db num dep tm [x.event,x.id] nb c2 w2 e4 hst hnbl zad;refine MC hq4 ?_;rintro e w3 h3;unfold ej at h3;cases hr:(tm&&Pro.gi [x.event,x.id]) with
 | true =>
  exact zfx
 | false =>
  rw [hr,Mz zad] at h3;obtain ⟨rfl,hb3⟩:=h3;have HM:Hid ((tm&&Ref.b7 (A.take (k+1)))=false):=by
   exact zfD
  have hbw3:=hbw2.trans (hb3.mono hbw2.size);have hbx3:=(hb3.block _ (Ms.1 hx2).1).trans hx2;clear hr;dsimp only;refine hK _ _ ?_;clear hK K;refine NY zab ?_ _;go_wp2
  go_roundg (A.length-(k+1))
  case measure=>omega
  case rel=>exact ⟨k+1,rfl,zaa,zah,HM.out,hbw3,hbx3⟩):zp:=h
theorem zcG (h:zp:=by
 refine hK _ _ ?_;clear hK K;refine zA 4 rfl fun K hK => ?_;go_simp;have hq4:=bA db num dep tm [x.id] nb c2 w2 e4 hst hnbl zad;refine MC hq4 ?_;rintro e w3 h3;unfold ej at h3;cases hr:(tm&&Pro.gi [x.id]) with
 | true =>
  exact zfx
 | false =>
  rw [hr,Mz zad] at h3;obtain ⟨rfl,hb3⟩:=h3;have HM:Hid ((tm&&Ref.b7 (A.take (k+1)))=false):=by
   exact zfD
  have hbw3:=hbw2.trans (hb3.mono hbw2.size);have hbx3:=(hb3.block _ (Ms.1 hx2).1).trans hx2;clear hr;dsimp only;refine hK _ _ ?_;clear hK K;refine NY zab ?_ _;go_wp2
  go_roundg (A.length-(k+1))
  case measure=>omega
  case rel=>exact ⟨k+1,rfl,zaa,zah,HM.out,hbw3,hbx3⟩):zp:=h
theorem zc4 (h:zp:=by
 rw [hts] at h2;obtain ⟨rfl,DA2⟩:=h2;have HN:Hid (Ref.a8 (Ref.aN P n) (k+1)=some S'):=za7;have HP':Hid (0<S'.length):=HPos.out S' hts;have HD2:Hid _:=DA2;clear hts DA2;dsimp only;go_wp2
 go_roundg (n-(k+1))
 case measure=>omega
 case rel=>exact ⟨k+1,S',rfl,zaa,zah,HN.out,fun _=>HP'.out,(let ⟨_,_,_,_,_,_,_,_,G⟩:=HD2.out.mem;G.bel),HD2.out⟩):zp:=h
theorem zc5 (h:zp:=by
 rw [hts] at h2;have HN:Hid (Ref.a8 (Ref.aN P n) n=none/\Ref.gx (Ref.aN P n) n=k+1):=by
  have h1:Ref.a8 (Ref.aN P n) (k+1)=none:=zbi;exact ⟨fK h1 n zaa,Ref.jC zbo h1 n hkn⟩
 obtain ⟨hb,b,h5,h6,rfl⟩:=h2;dsimp only;refine ⟨rfl,?_⟩;unfold eC;rw [HN.out.1,HN.out.2];exact ⟨hbr.trans (hb.mono hbr.size),b,Mv hbr.size h5,h6,rfl⟩):zp:=h
theorem zds (h:zp:=by
 split at h
 ·cases h
 ·split at h
  ·cases h
  ·rename_i u hu;have:u<S.length:=eG S S.length u (MG hu);split at h
   ·cases h
   ·split at h
    ·cases h
    ·cases h;unfold Ref.gj;rw [ML];omega):zp:=h
theorem zdC (h:zp:=by
 refine hK.out _ _ ⟨k0,k2⟩ (fun u0 => ?_);clear hK K;refine tH 8 (.slice g5 2 cap5) rfl u0 ?_;refine MY zab ?_ _;go_wp2;go_ret;exact ⟨g5,cap5,rfl,hown5,HB5.out⟩):zp:=h
theorem zew (h:zp:=by
 split at h
 ·cases h
 ·obtain ⟨q,h1,h2⟩:=MZ.1 h;cases h2;trivial):zp:=h
theorem zeN (h:zp:=by
 obtain ⟨⟨A,r'⟩,h1,h2⟩:=MZ.1 h;cases h2;exact uA h1):zp:=h
theorem zay (h:zp:=by rw [HN.out,hr.2];simp):zp:=h
theorem zaS (h:zp:=by rw [hW1];simp):zp:=h
theorem za7 (h:zp:=by unfold Hid;rw [HSt.out];exact hts):zp:=h
theorem zbi (h:zp:=by rw [HSt.out];exact hts):zp:=h
theorem zbo (h:zp:=by rw [HS.out];rfl):zp:=h
theorem zcc (h:zp:=by rw [hW1];exact bI (e:=0) (G.ak hb1).map (cD (Mw _ _).drew)):zp:=h
open Tryz
variable {l r P:List ByteArray} {n k:Nat} {L:Pro.PL}
section
open Go.RowKit
namespace Pro
def Good:PL->Prop
 | .state k n=>0<=k/\k<=4/\n.size<=8
 | .move _ _ _ _ _=>True
 | .enter A=>A≠[]
 | .leave A=>A≠[]
theorem iM {s:ByteArray} (h:Ref.plain s=true):s.size<=8:=by
 rw [Ref.plain,Na,Na,Pu,Pu] at h;exact h.2.2
theorem uA {A:List Ref.Act} (h:cG l=some (A,r)):A≠[]:=by
 unfold cG at h;split at h
 ·cases h
 ·cases h
 ·cases h;simp
theorem DQ {n:ByteArray} {k:Int} (h:de l=some ((n,k),r)):0<=k/\k<=4/\n.size<=8:=by
 unfold de at h;split at h
 ·cases h
 ·rename_i hq;cases h
  exact ⟨zac,zac,iM (gU hq).1⟩
 ·rename_i hq;split at h
  ·cases h;exact ⟨zac,zac,iM (gU hq).1⟩
  ·cases h;exact ⟨zac,zac,iM (gU hq).1⟩
theorem Ea {num:Nat} {l r:List ByteArray} {L:PL} (h:bk num l=some (L,r)):Good L:=by
 cases l with
 | nil=>cases h
 | cons x t =>
  rw [bk] at h;have st:∀ k:Int,0<=k->k<=4->((pOf Ref.plain t).map fun q=>(PL.state k q.1,q.2))=some (L,r)->Good L:=by
   intro k h0 h4 h;obtain ⟨⟨n,r'⟩,h1,h2⟩:=MZ.1 h;cases h2
   exact ⟨h0,h4,iM (gU h1).1⟩
  split at h
  ·exact st 0 zac zac h
  ·split at h
   ·exact st 1 zac zac h
   ·split at h
    ·exact st 2 zac zac h
    ·split at h
     ·obtain ⟨⟨⟨n,k⟩,r'⟩,h1,h2⟩:=MZ.1 h;cases h2
      exact DQ h1
     ·split at h
      ·exact zew
      ·split at h
       ·exact zew
       ·split at h
        ·exact zeN
        ·split at h
         ·exact zeN
         ·cases h
theorem ny {num:Nat} (h:bl num l=some L):Good L:=by
 unfold bl at h;split at h
 ·rename_i L' h1;cases h
  exact Ea h1
 ·cases h
theorem step_pos {S S':List Ref.State} {i num d:Nat} {L:PL} (hI:Inv S i) (h:Ref.bB S i (aE num L) (d:Int)=some S'):0<S'.length:=by
 cases L with
 | state k n =>
  rw [sT] at h;split at h
  ·cases h
  ·split at h
   ·cases h;simp
   ·cases h
 | move ev af dl t A =>
  rw [vC hI] at h;split at h
  ·cases h
  ·split at h
   ·cases h
   ·rename_i u hu;split at h
    ·cases h
    ·have:u<S.length:=eG S S.length u (MG hu);cases h;unfold Ref.gj;rw [ML];omega
 | enter A =>
  rw [sR hI] at h;exact zds
 | leave A =>
  rw [sS hI] at h;exact zds
end Pro
theorem zr (hk:k<n) (h:Pro.bl (k+1) (Pro.wl P k)=some L):(Ref.aN P n)[k]?=some (Pro.aE (k+1) L,(Ref.dc (Ref.pc P k):Int)):=by
 unfold Ref.aN;rw [MF,QT hk,Option.map_some,Pro.pV h]
theorem Ai {S:List Ref.State} (hk:k<n) (h:Pro.bl (k+1) (Pro.wl P k)=some L) (hS:Ref.a8 (Ref.aN P n) k=some S):Ref.a8 (Ref.aN P n) (k+1)=Ref.bB S k (Pro.aE (k+1) L) (Ref.dc (Ref.pc P k):Int):=by
 rw [Ref.a8,hS];simp only;rw [zr hk h]
def eC (P:List ByteArray) (n:Nat) (w:World) (e:Ending) (w':World):Prop:=match Ref.a8 (Ref.aN P n) n with
 | none=>aY 3 (Ref.gx (Ref.aN P n) n:Int) w e w'
 | some S=>match Ref.dK S S.length with
  | some l=>aY 3 l w e w'
  | none=>∃ db,e = .returned (.pointer (some ⟨db,0,none⟩))/\Below w.heap.size w w'/\fO w w' db S n
theorem DI (w:World):fO w ((w.alloc (.map #[] 0)).alloc (.cells #[.slice none 0 0,.slice none 0 0,.slice none 0 0,.map (some w.heap.size),false] 155)) (w.heap.size+1) [] 0:=by
 refine ⟨⟨Ref.Sl.nil,Ref.Sl.nil,Ref.Sl.nil,w.heap.size,[],0,rfl,Mt _,?_⟩,Pro.Inv.nil⟩;have hb:Below w w ((w.alloc (.map #[] 0)).alloc (.cells #[.slice none 0 0,.slice none 0 0,.slice none 0 0,.map (some w.heap.size),false] 155)):=((Mw _ _).alloc (Mt _) _).alloc zad _;refine ⟨hb,zaa,Mt _,bQ _ _ _,ND _ _ _ _,ND _ _ _ _,ND _ _ _ _,fun i h=>absurd h zad,fun i h=>absurd h zad,fun i j h=>absurd h zad,fun i h=>absurd h zad,fun i j h=>absurd h zad,?_⟩;exact bI (e:=0) (Q0 w _ _ _) (cD ((Mw _ _).alloc (Mt _) _))
theorem JB (a b c d:Value) (w:World):(method 597 352 (.agg #[a,b,c, d]) "charts/reader.place").run prog w = .ok (351,.agg #[a,b,c,d]) w:=zab
theorem JA (a b c d e f g:Value) (w:World):(method 597 356 (.agg #[a,b,c,d,e,f, g]) "charts/reader.place").run prog w = .ok (356,.agg #[a,b,c,d,e,f,g]) w:=zab
theorem Jy (a b c:Value) (w:World):(method 597 363 (.agg #[a,b, c]) "charts/reader.place").run prog w = .ok (361,.agg #[a,b,c]) w:=zab
theorem Jz (a b c:Value) (w:World):(method 597 364 (.agg #[a,b, c]) "charts/reader.place").run prog w = .ok (363,.agg #[a,b,c]) w:=zab
theorem sx (P:List ByteArray) (n lb:Nat) (vs:List Value) (LS:List Pro.PL) (w:World) (hlb:w.heap[lb]?=some (.cells vs.toArray 149 (0,0))) (HL:jV w P n vs LS) (hn0:0<n) (hn:n<=1500) (hsz:∀ j,(Ref.pc P j).size<=1500) :
  () 57 #[.slice lb n n] w (eC P n w):=by
 have hlv:=HL.lv;have hll:=HL.ll;have hlbl:=(Ms.1 hlb).1;have HSZ:Hid _:=hsz;have HLN:Hid _:=HL;have hmm:=@run_makeMap prog;have D0:=DI w;have HLV:Hid (vs.length=n):=hlv;have HLL:Hid (LS.length=n):=hll;clear hsz HL hlv hll;go_enter func57,ntmps57;go_wp2
 go_loopg [11] n (fun q i wr=>∃ (k:Nat) (S:List Ref.State),q=n-k/\k<=n/\i = .int .i64 k/\Ref.a8 (Ref.aN P n) k=some S/\(0<k->0<S.length)/\Below w w wr/\fO w wr (w.heap.size+1) S k)
 case atStart=>exact ⟨0,[],rfl,MJ _,rfl,rfl,fun h=>zaa,((Mw _ _).alloc (Mt _) _).alloc zad _,D0⟩
 case round =>
  obtain ⟨k,S,hq,hk,rfl,hS,hS0,hbr,DA⟩:=hrel;by_cases hkn:k<n
  ·obtain ⟨hp,hv⟩:=HLN.out.row k hkn;have hgood:=Pro.ny hp;have hbl:Ref.dc (Ref.pc P k)<=1500:=Mv (Ref.uj _) (HSZ.out k);have cv:wr.cell? ⟨lb,k,none⟩=some (vs[k]'(by have:=HLV.out;omega)):=by
    rw [MK (w:=w) (hbr.block lb hlbl),My w _ k _ _ _ hlb,OZ,Mu]
   obtain ⟨L,hL⟩:∃ L,L=LS[k]'(by have:=HLL.out;omega):=⟨_,rfl⟩;obtain ⟨v,hve⟩:∃ v,v=vs[k]'(by have:=HLV.out;omega):=⟨_,rfl⟩;obtain ⟨dp,hdp⟩:∃ dp,dp=Ref.dc (Ref.pc P k):=⟨_,rfl⟩;rw [<- hL,<- hve,<- hdp] at hv;rw [<- hL] at hp hgood;rw [<- hve] at cv;have hstep:=Ai hkn hp hS;rw [<- hdp] at hstep hbl;have HSt:Hid _:=hstep;have HPos:Hid _:=fun S'=>Pro.step_pos (S':=S') (num:=k+1) (d:=dp) (L:=L) DA.inv;have HS:Hid _:=hS;have HS0:Hid _:=hS0;clear hL hve hdp hp hS hstep hS0;cases L with
   | state kd nme =>
    have hv:v=_:=hv;subst hv;have hmS:=JB;go_wp2_with fail;refine MC (BS w wr (w.heap.size+1) S k dp kd nme DA hgood.1 hgood.2.1 (Mv hgood.2.2 zac) zaa zaa) ?_;rintro e w2 h2;unfold dw at h2;cases hts:Ref.bB S k (Pro.aE (k+1) (.state kd nme)) (dp:Int) with
    | none =>
     exact zc5
    | some S' =>
     exact zc4
   | move ev af dl t A =>
    obtain ⟨va,vn,vc,hv,hown⟩:=hv;subst hv;have hmS:=JA;go_wp2_with fail;refine MC (Es w wr (w.heap.size+1) S k dp ev t af dl A ⟨va,vn,vc⟩ DA zaa zaa hown) ?_;rintro e w2 h2;unfold dw at h2;cases hts:Ref.bB S k (Pro.aE (k+1) (.move ev af dl t A)) (dp:Int) with
    | none =>
     exact zc5
    | some S' =>
     exact zc4
   | enter A =>
    obtain ⟨va,vn,vc,hv,hown⟩:=hv;subst hv;have hmS:=Jy;go_wp2_with fail;refine MC (BQ w wr (w.heap.size+1) S k dp A ⟨va,vn,vc⟩ DA zaa hown hgood) ?_;rintro e w2 h2;unfold dw at h2;cases hts:Ref.bB S k (Pro.aE (k+1) (.enter A)) (dp:Int) with
    | none =>
     exact zc5
    | some S' =>
     exact zc4
   | leave A =>
    obtain ⟨va,vn,vc,hv,hown⟩:=hv;subst hv;have hmS:=Jz;go_wp2_with fail;refine MC (BR w wr (w.heap.size+1) S k dp A ⟨va,vn,vc⟩ DA zaa hown hgood) ?_;rintro e w2 h2;unfold dw at h2;cases hts:Ref.bB S k (Pro.aE (k+1) (.leave A)) (dp:Int) with
    | none =>
     exact zc5
    | some S' =>
     exact zc4
  ·obtain rfl:k=n:=zaa;have HN:Hid _:=hS;have hSp:=hS0 hn0;clear hS hS0;go_wp2_with fail;refine (mR w wr (w.heap.size+1) S k DA hSp).mono ?_;rintro e w2 h2;unfold qp at h2;cases hpt:Ref.dK S S.length with
   | some l =>
    rw [hpt] at h2;have HPt:Hid _:=hpt;obtain ⟨hb,b,h5,h6,rfl⟩:=h2;dsimp only;refine ⟨rfl,?_⟩;unfold eC;rw [HN.out];simp only;rw [HPt.out];exact ⟨hbr.trans (hb.mono hbr.size),b,Mv hbr.size h5,h6,rfl⟩
   | none =>
    rw [hpt] at h2;obtain ⟨rfl,hb2⟩:=h2;have HPt:Hid _:=hpt;have HD2:Hid (fO w w2 (w.heap.size+1) S k):=⟨let ⟨sv,pv,ov,mb,X,nm,h1,h2,G⟩:=DA.mem;⟨sv,pv,ov,mb,X,nm,h1,h2,G.ak hb2⟩,DA.inv⟩;have hb3:=hbr.trans (hb2.mono hbr.size);clear hpt DA;dsimp only;go_wp2;go_ret;unfold eC;rw [HN.out];simp only;rw [HPt.out];exact ⟨w.heap.size+1,rfl,hb3,HD2.out⟩
namespace Pro
def i6 (a:Ref.Act):List ByteArray :=
 if a.how.toList == Ref.eS then [a.event]
 else if a.how.toList == Ref.eJ then [a.id]
 else if a.id.size=0 then [a.event] else [a.event,a.id]
def gi (l:List ByteArray):Bool:=l.any fun s=>Ref.cy s Ref.bL
def Shape (a:Ref.Act):Prop:=(a.how=oY/\a.id=ByteArray.empty)\/(a.how=gC/\a.event=ByteArray.empty)\/a.how=mE
theorem jY:Ref.cy ByteArray.empty Ref.bL=false:=zac
theorem BY {a:Ref.Act} (h:Shape a):gi (i6 a)=Ref.wY a:=by
 unfold Ref.wY i6
 rcases h with ⟨h1,h2⟩ | ⟨h1,h2⟩ | h1
 ·rw [h1,h2,nr,MB zac,jY];simp [gi]
 ·rw [h1,h2,gJ,Mz zac,MB zac,jY];simp [gi]
 ·rw [h1,mj,Mz zac,Mz zac];by_cases hi:a.id.size=0
  ·have he:a.id=ByteArray.empty:=by
    have:=PJ a.id;have h0:a.id.data.toList=[]:=OA.1 zaa;rw [<- RA a.id,h0];rfl
   rw [MB hi,he,jY];simp [gi]
  ·rw [Mz hi];simp [gi]
theorem vZ {l r:List ByteArray} {a:Ref.Act} (h:bF l=some (a,r)):Shape a:=by
 cases l with
 | nil=>cases h
 | cons x t =>
  rw [bF] at h;split at h
  ·obtain ⟨q,h1,h2⟩:=MZ.1 h;cases h2;exact .inl ⟨rfl,rfl⟩
  ·split at h
   ·obtain ⟨q,h1,h2⟩:=MZ.1 h;cases h2;exact .inr (.inr rfl)
   ·split at h
    ·obtain ⟨q,h1,h2⟩:=MZ.1 h;cases h2;exact .inr (.inl ⟨rfl,rfl⟩)
    ·cases h
theorem qO:∀ (f:Nat) (l r:List ByteArray) (A:List Ref.Act),gn f l=some (A,r)->∀ a∈A,Shape a
 | 0,l,r,A,h=>by cases h;simp
 | f+1,[],r,A,h=>by cases h;simp
 | f+1,x::t,r,A,h=>by
  rw [gn] at h;split at h
  ·split at h
   ·cases h
   ·rename_i a r' h1;split at h
    ·cases h
    ·rename_i A' t' h2;cases h
     intro b hb
     rcases OE.1 hb with rfl | hb
     ·exact vZ h1
     ·exact qO f r' r A' h2 b hb
  ·cases h;simp
end Pro
def ud (l:List ByteArray) (w:World) (e:Ending) (w':World):Prop:=∃ nb c,e = .returned (.slice (some ⟨nb,0,none⟩) l.length c)/\w'.ownsRow w 9 1 (.slice (some ⟨nb,0,none⟩) l.length c) l.length (l.map Value.string)/\Below w w w'
theorem fG (s:ByteArray) (w:World):() 328 #[.agg #[s]] w (ud [s] w):=by
 go_enter func328,ntmps328;go_wp2;go_ret;refine ⟨w.heap.size+1,1,rfl,?_,((Mw _ _).alloc (Mt _) _).alloc zad _⟩;refine ⟨rfl,.inr ⟨w.heap.size+1,1,#[s],rfl,zaa,bQ w _ _,Mt _,zag,rfl,rfl⟩⟩
theorem gR {w:World} {base nb c:Nat} (h:w.ownsRow base 9 1 (.slice nb l.length c) l.length (l.map Value.string)):qL w nb 0 l/\nb<w.heap.size/\l.length<=c:=by
 rcases h.2 with ⟨h',_⟩ | ⟨g,cap,cur,hv,hb,hg,h1,h2,h3,h4⟩
 ·cases h'
 ·simp only [Value.slice.injEq,Option.some.injEq,Addr.mk.injEq,and_true,true_and] at hv;obtain ⟨rfl,rfl⟩:=hv;refine ⟨fun i hi => ?_,(Ms.1 hg).1,h1⟩;rw [OM,My w nb i _ _ _ hg];have h5:(cur.toList.take (l.length*1))[i]?=(l.map Value.string)[i]?:=by rw [h4]
  rw [PU,MB zaa] at h5;rw [<- NS,h5];simp [Ref.at',List.getD_eq_getElem?_getD,List.getElem?_eq_getElem hi]
theorem F5:(Tryz.prog.info? 9).map (fun i=>(i.zero,i.size,i.bytes))=some (some ↑ByteArray.empty,1,16):=zab
theorem uU (s a:ByteArray) (d:Int) (w:World):() 334 #[.agg #[s,.int .u64 d,a]] w (ud [s,a] w):=by
 obtain ⟨i0,hi,hz0,hz1,hz2⟩:=N4 F5;have hb1:Below w w (w.alloc (.cells #[s,.int .u64 d,a] 258)):=(Mw _ _).alloc (Mt _) _;obtain ⟨W1,hW1⟩:∃ y,y=w.alloc (.cells #[s,.int .u64 d,a] 258):=⟨_,rfl⟩;have b0:W1.cell? w=some ↑s:=zaS;have b2:W1.cell? ⟨w,2,none⟩=some ↑a:=zaS;have hlw:w.heap.size<W1.heap.size:=zaS;go_enter func334,ntmps334
 go_upto_region 1 with fail
 change Code.wp _ _ _ _ (w.alloc (.cells #[s,.int .u64 d,a] 258));rw [<- hW1] at hb1 ⊢;clear hW1;have hbs:=hb1.size;refine MP (S:=(fun W=>W.cell? w=some ↑s/\W.cell? ⟨w,2,none⟩=some ↑a)) zab ⟨b0,b2⟩ (fun u0 => ?_);refine tH 0 w rfl u0 ?_;refine tH 1 w rfl u0 ?_;refine tH 2 (.agg #[s]) rfl u0 ?_;refine tH 4 (.pointer (some ⟨w,2,none⟩)) rfl u0 ?_;refine tH 5 (.string a) rfl u0 ?_;refine yH [3,6] ?_;refine Nj rfl (fun K hK => ?_) (Nj rfl (fun K hK => ?_) N0)
 ·go_simp;refine (fG s _).mono ?_;rintro e w2 ⟨nb,c2,rfl,hown,hb2⟩;have hb2':Below W1 W1 w2:=((Mw _ _).drew).trans hb2;have k0:=(MK (w:=W1) (w':=w2) (a:=⟨w,0,none⟩) (hb2'.block _ hlw)).trans b0;have k2:=(MK (w:=W1) (w':=w2) (a:=⟨w,2,none⟩) (hb2'.block _ hlw)).trans b2;have hlw2:w.heap.size<w2.heap.size:=MR hlw hb2'.size;dsimp only;refine hK.out _ _ ⟨k0,k2⟩ (fun u0 => ?_);clear hK K;refine zH 6 rfl fun K hK => ?_;go_simp;refine hK.out _ _ zal (fun u0 => ?_);clear hK K;refine zH 7 rfl fun K hK => ?_;have hown':=aD hown (show w.heap.size<=W1.heap.size from hbs);refine step_append_lies _ zae _ _ _ zae w.heap.size 9 i0 _ 1 16 underlying22 hi hz0 hz1 hz2 rfl zac (.slice nb 1 c2) 1 [s] zae (OG hown' _) ⟨w2,0,none⟩ 1 1 [a] zae zae (World.news_of_block (cs:=#[a]) (t:=9) (fr:=(0,0)) (MD w2 _)) zap zaa zag zaa zaf (w2.heap.size+1) zad ?_;intro g5 cap5 w5 hown5 hgrow hat hlt5;have HNB:Hid (some w.heap.size≠Value.ownBlock (.slice nb 1 c2)):=fun e=>by
   have h1:=(Nc hown _ e.symm).1;have h2:W1.drew.heap.size=W1.heap.size:=rfl;omega
  have k0:=((hgrow.cell_far ⟨w,0,none⟩ zaf HNB.out).trans (((Mw w2 w2).alloc (Mt _) _).cell (p:=⟨w,0,none⟩) hlw2)).trans k0;have k2:=((hgrow.cell_far ⟨w,2,none⟩ zaf HNB.out).trans (((Mw w2 w2).alloc (Mt _) _).cell (p:=⟨w,2,none⟩) hlw2)).trans k2;have HB5:Hid (Below w w w5):=((hb1.trans (hb2'.mono hbs)).alloc zaa _).grown hgrow zaf (fun k h=>by have:=(Nc hown' k h).1;exact this);exact zdC
 ·go_simp;refine hK.out _ _ zal (fun u0 => ?_);clear hK K;refine zH 3 rfl fun K hK => ?_;go_simp;refine (fG s _).mono ?_;rintro e w2 ⟨nb,c2,rfl,hown,hb2⟩;have hbW:Below W1 W1 ((W1.drew).alloc (.cells #[a] 9)):=((Mw _ _).drew).alloc (Mt _) _;have hbl:W1.heap.size<((W1.drew).alloc (.cells #[a] 9)).heap.size:=zad;have hb2':Below W1 W1 w2:=hbW.trans (hb2.mono hbW.size);have hel:w2.heap[W1.heap.size]?=some (.cells #[a] 9 (0,0)):=(hb2.block _ hbl).trans (MD _ _);have k0:=(MK (w:=W1) (w':=w2) (a:=⟨w,0,none⟩) (hb2'.block _ hlw)).trans b0;have k2:=(MK (w:=W1) (w':=w2) (a:=⟨w,2,none⟩) (hb2'.block _ hlw)).trans b2;have hlw2:w.heap.size<w2.heap.size:=MR hlw hb2'.size;have hszl:W1.heap.size<=((W1.drew).alloc (.cells #[a] 9)).heap.size:=Rs hbl;dsimp only;refine hK.out _ _ ⟨k0,k2⟩ (fun u0 => ?_);clear hK K;refine zH 7 rfl fun K hK => ?_;have hown':=aD hown (show w.heap.size<=((W1.drew).alloc (.cells #[a] 9)).heap.size by omega);refine step_append_lies _ zae _ _ _ zae w.heap.size 9 i0 _ 1 16 underlying22 hi hz0 hz1 hz2 rfl zac (.slice nb 1 c2) 1 [s] zae hown' ⟨W1,0,none⟩ 1 1 [a] zae zae (World.news_of_block (cs:=#[a]) (t:=9) (fr:=(0,0)) hel) zap zaa zag zaa zaa w2.heap.size rfl ?_;intro g5 cap5 w5 hown5 hgrow hat hlt5;have HNB:Hid (some w.heap.size≠Value.ownBlock (.slice nb 1 c2)):=fun e=>by
   have h1:W1.heap.size+1<=w.heap.size:=by simpa using (Nc hown _ e.symm).1
   omega
  have k0:=(hgrow.cell_far ⟨w,0,none⟩ hlw2 HNB.out).trans k0;have k2:=(hgrow.cell_far ⟨w,2,none⟩ hlw2 HNB.out).trans k2;have HB5:Hid (Below w w w5):=(hb1.trans (hb2'.mono hbs)).grown hgrow zaa (fun k h=>by have:=(Nc hown' k h).1;exact this);exact zdC
def ej (tm:Bool) (num:Int) (l:List ByteArray) (w:World) (e:Ending) (w':World):Prop:=if tm&&Pro.gi l then aY 4 num w e w' else e = .returned (.tuple #[])/\Below w w w'
theorem bA (db:Nat) (num dep:Int) (tm:Bool) (l:List ByteArray) (nb c:Nat) (w:World) (hd:w.cell? ⟨db,4,none⟩=some (.bool tm)) (hs:qL w nb 0 l) (hnb:nb<w.heap.size) (hl:l.length<=10) :
  () 357 #[db,.agg #[(num:Int),(dep:Int)],.slice nb l.length c] w (ej tm num l w):=by
 have hdl:=MQ _ _ hd;have HS:Hid _:=hs;clear hs;go_enter func357,ntmps357;go_wp2
 go_loop [10] (fun i=>∃ k:Nat,k<=l.length/\i = .int .i64 k/\(tm&&Pro.gi (l.take k))=false) (fun i=>l.length-(intOf i).toNat)
 case atStart=>exact ⟨0,MJ _,rfl,by cases tm <;> rfl⟩
 case round =>
  obtain ⟨k,hk,rfl,hno⟩:=hrel;by_cases hkn:k<l.length
  ·have ck:w.cell? ⟨nb,k,none⟩=some (.string l[k]):=by
    have:=HS.out k hkn;simpa [Ref.at',List.getD_eq_getElem?_getD,List.getElem?_eq_getElem hkn] using this
   obtain ⟨x,hx⟩:∃ x,x=l[k]:=⟨_,rfl⟩;rw [<- hx] at ck;have HN:Hid (Pro.gi (l.take (k+1))=(Pro.gi (l.take k)||Ref.cy x Ref.bL)):=by
    unfold Hid Pro.gi;rw [Oa,Mu hkn,P2,<- hx];simp
   have HNo:Hid _:=hno;clear hno hx;cases tm with
   | false =>
    go_wp2
    go_round
    case rel=>exact ⟨k+1,zaa,zah,rfl⟩
    case measure=>simp [intOf];omega
   | true =>
    go_wp2_with fail;refine (strings_HasPrefix x Ref.bL _).mono ?_;rintro e w9 ⟨rfl,hw9⟩;rw [hw9,gw];clear hw9 w9;cases hb:Ref.cy x Ref.bL with
    | false =>
     have HN2:Hid (Pro.gi (l.take (k+1))=false):=by
      have:=HNo.out;unfold Hid;rw [HN.out,hb];simpa using this
     clear hb;dsimp only;go_wp2
     go_round
     case rel=>exact ⟨k+1,zaa,zah,by rw [HN2.out];rfl⟩
     case measure=>simp [intOf];omega
    | true =>
     have HT:Hid (Pro.gi l=true):=by
      have h1:Pro.gi (l.take (k+1))=true:=by rw [HN.out,hb];simp
      unfold Pro.gi at h1;exact zec
     clear hb;dsimp only;go_wp2_with fail;refine (aU num dep 4 _).mono ?_;rintro e w2 ⟨hb,b,h5,h6,rfl⟩;dsimp only;refine ⟨rfl,?_⟩;unfold ej;rw [HT.out,MB zae];exact ⟨((Mw w w).alloc (Mt _) _).trans (hb.mono zad),b,by simp at h5;omega,h6,rfl⟩
  ·have hkl:k=l.length:=zaa;have HF:Hid ((tm&&Pro.gi l)=false):=by
    exact zfj
   clear hno;go_wp2;go_end0;unfold ej;rw [HF.out];exact ⟨rfl,(Mw _ _).alloc (Mt _) _⟩
theorem Jv (a:Value) (w:World):(method 597 423 (.agg #[a]) "Names").run prog w = .ok (328,.agg #[a]) w:=zab
theorem Ju (a:Value) (w:World):(method 597 260 (.agg #[a]) "Names").run prog w = .ok (328,.agg #[a]) w:=zab
theorem Jw (a b:Value) (w:World):(method 597 256 (.agg #[a, b]) "Names").run prog w = .ok (328,.agg #[a]) w:=zab
theorem Js (a b c:Value) (w:World):(method 597 258 (.agg #[a,b, c]) "Names").run prog w = .ok (334,.agg #[a,b,c]) w:=zab
theorem Di (x:Ref.Act):(bh x = .iface 423 (.agg #[x.event])/\Pro.i6 x=[x.event])\/(bh x = .iface 260 (.agg #[x.id])/\Pro.i6 x=[x.id])\/(bh x = .iface 256 (.agg #[x.event,.int .u64 x.delay])/\Pro.i6 x=[x.event])\/(bh x = .iface 258 (.agg #[x.event,.int .u64 x.delay,x.id])/\Pro.i6 x=[x.event,x.id]):=by
 unfold bh Pro.i6;cases h1:(x.how.toList == Ref.eS)
 ·cases h2:(x.how.toList == Ref.eJ)
  ·simp only [Bool.false_eq_true,if_false];by_cases h3:x.id.size=0
   ·rw [MB h3,MB h3];exact .inr (.inr (.inl ⟨rfl,rfl⟩))
   ·rw [Mz h3,Mz h3];exact .inr (.inr (.inr ⟨rfl,rfl⟩))
  ·simp only [Bool.false_eq_true,if_false,if_true];exact .inr (.inl ⟨zaK,zaK⟩)
 ·simp only [if_true];exact .inl ⟨zaK,zaK⟩
def dt (tm:Bool) (num:Int) (A:List Ref.Act) (w:World) (e:Ending) (w':World):Prop:=if tm&&Ref.b7 A then aY 4 num w e w' else e = .returned (.tuple #[])/\Below w w w'
theorem jz (db:Nat) (num dep:Int) (tm:Bool) (A:List Ref.Act) (a:Option Addr) (n c:Nat) (w:World) (hd:w.cell? ⟨db,4,none⟩=some (.bool tm)) (hA:w.ownsRow 0 251 1 (.slice a n c) A.length (A.map bh)) (hS:∀ x∈A,Pro.Shape x) (hl:A.length<=100000) :
  () 358 #[db,.agg #[(num:Int),(dep:Int)],.slice a n c] w (dt tm num A w):=by
 have hdl:=MQ _ _ hd;have hn:n=A.length:=by
  rcases hA.2 with ⟨h,h0⟩ | ⟨g,cap,cur,h,_⟩
  ·simp at h;rw [h0];exact h.2.1
  ·simp at h;exact h.2.1
 subst hn;have HC:Hid (∀ k (hk:k<A.length),∃ ab,a=some ⟨ab,0,none⟩/\w.cell? ⟨ab,k,none⟩=some (bh A[k])/\A.length<=c):=fun k hk=>by
  rcases hA.2 with ⟨_,h0⟩ | ⟨g,cap,cur,h,_,hg,hle,_,_,h4⟩
  ·omega
  ·simp at h;refine ⟨g,h.1,?_,by rw [h.2];exact hle⟩;rw [My w g k _ _ _ hg];have h5:(cur.toList.take (A.length*1))[k]?=(A.map bh)[k]?:=by rw [h4]
   rw [PU,MB zaa] at h5;rw [<- NS,h5];simp [List.getElem?_eq_getElem hk]
 have HSh:Hid _:=hS;clear hA hS;go_enter func358,ntmps358;go_wp2
 go_loopg [10] A.length (fun q i wr=>∃ k:Nat,q=A.length-k/\k<=A.length/\i = .int .i64 k/\(tm&&Ref.b7 (A.take k))=false/\Below w w wr/\wr.heap[w.heap.size]?=some (.cells #[(num:Int),(dep:Int)] 224 (0,0)))
 case atStart=>exact ⟨0,rfl,MJ _,rfl,by cases tm <;> rfl,(Mw _ _).alloc (Mt _) _,MD _ _⟩
 case round =>
  obtain ⟨k,hq,hk,rfl,hno,hbr,hbx⟩:=hrel;have hbs:=hbr.size;have hlw:=(Ms.1 hbx).1;by_cases hkn:k<A.length
  ·obtain ⟨ab,ha,ck,hcc⟩:=HC.out k hkn;subst ha;have hab:=MQ _ _ ck;obtain ⟨x,hx⟩:∃ x,x=A[k]:=⟨_,rfl⟩;have cr:wr.cell? ⟨ab,k,none⟩=some (bh x):=by rw [hx];exact (MK (w:=w) (hbr.block ab hab)).trans ck
   have b0:wr.cell? w=some ↑(num:Int):=by rw [My wr _ _ _ _ _ hbx];rfl
   have b1:wr.cell? ⟨w,1,none⟩=some ↑(dep:Int):=by rw [My wr _ _ _ _ _ hbx];rfl
   have HN:Hid (Ref.b7 (A.take (k+1))=(Ref.b7 (A.take k)||Pro.gi (Pro.i6 x))):=by
    unfold Hid Ref.b7;rw [Oa,Mu hkn,P2,<- hx,Pro.BY (HSh.out x (by rw [hx];exact Ns hkn))];simp
   have HT:Hid (Ref.b7 (A.take (k+1))=true->Ref.b7 A=true):=by
    intro h;unfold Ref.b7 at h ⊢;rw [O3] at h ⊢;obtain ⟨y,hy,hy2⟩:=h;exact ⟨y,O8 hy,hy2⟩
   have HNo:Hid _:=hno;have HD:Hid (∀ w2,Below wr wr w2->w2.cell? ⟨db,4,none⟩=some (.bool tm)/\w2.heap[w.heap.size]?=some (.cells #[(num:Int),(dep:Int)] 224 (0,0))/\w2.cell? w=some ↑(num:Int)/\w2.cell? ⟨w,1,none⟩=some ↑(dep:Int)/\Below w w w2):=by
    intro w2 hb2;have hx2:=(hb2.block _ hlw).trans hbx;have hb3:=hbr.trans (hb2.mono hbs);exact ⟨(MK (w:=w) (hb3.block db hdl)).trans hd,hx2,by rw [My w2 _ _ _ _ _ hx2];rfl,by rw [My w2 _ _ _ _ _ hx2];rfl,hb3⟩
   clear hno hx ck
   rcases Di x with ⟨hv,hnm⟩ | ⟨hv,hnm⟩ | ⟨hv,hnm⟩ | ⟨hv,hnm⟩
   ·rw [hv] at cr;rw [hnm] at HN;clear hv hnm;have hmN:=Jv
    go_upto_region 4 with fail
    refine Oh zab ?_;change wpAny _ _ _ _ _ _ _ (World.drew _);refine tA 0 db rfl ?_;refine tA 2 (.iface 423 (.agg #[x.event])) rfl ?_;exact za2
   ·rw [hv] at cr;rw [hnm] at HN;clear hv hnm;have hmN:=Ju
    go_upto_region 4 with fail
    refine Oh zab ?_;change wpAny _ _ _ _ _ _ _ (World.drew _);refine tA 0 db rfl ?_;refine tA 2 (.iface 260 (.agg #[x.id])) rfl ?_;refine yA [1,3] ?_;refine MA rfl (fun K hK => ?_) (MA rfl (fun K hK => ?_) MX)
    ·go_simp;refine hK _ _ ?_;clear hK K;refine zA 3 rfl fun K hK => ?_;go_simp;refine MC (fG x.id _) ?_;rintro e w2 ⟨nb,c2,rfl,hown,hb2⟩;have hb2':Below wr wr w2:=((Mw _ _).drew).trans hb2;obtain ⟨e4,hx2,e0,e1,hbw2⟩:=HD.out w2 hb2';obtain ⟨hst,hnbl,_⟩:=gR (l:=[x.id]) hown;dsimp only;exact zcG
    ·go_simp;refine MC (fG x.id _) ?_;rintro e w2 ⟨nb,c2,rfl,hown,hb2⟩;have hb2':Below wr wr w2:=((Mw _ _).drew).trans hb2;obtain ⟨e4,hx2,e0,e1,hbw2⟩:=HD.out w2 hb2';obtain ⟨hst,hnbl,_⟩:=gR (l:=[x.id]) hown;dsimp only;refine hK _ _ ?_;clear hK K;refine zA 1 rfl fun K hK => ?_;go_simp;exact zcG
   ·rw [hv] at cr;rw [hnm] at HN;clear hv hnm;have hmN:=Jw
    go_upto_region 4 with fail
    refine Oh zab ?_;change wpAny _ _ _ _ _ _ _ (World.drew _);refine tA 0 db rfl ?_;refine tA 2 (.iface 256 (.agg #[x.event,.int .u64 x.delay])) rfl ?_;exact za2
   ·rw [hv] at cr;rw [hnm] at HN;clear hv hnm;have hmN:=Js
    go_upto_region 4 with fail
    refine Oh zab ?_;change wpAny _ _ _ _ _ _ _ (World.drew _);refine tA 0 db rfl ?_;refine tA 2 (.iface 258 (.agg #[x.event,.int .u64 x.delay,x.id])) rfl ?_;refine yA [1,3] ?_;refine MA rfl (fun K hK => ?_) (MA rfl (fun K hK => ?_) MX)
    ·go_simp;refine hK _ _ ?_;clear hK K;refine zA 3 rfl fun K hK => ?_;go_simp;refine MC (uU x.event x.id x.delay _) ?_;rintro e w2 ⟨nb,c2,rfl,hown,hb2⟩;have hb2':Below wr wr w2:=((Mw _ _).drew).trans hb2;obtain ⟨e4,hx2,e0,e1,hbw2⟩:=HD.out w2 hb2';obtain ⟨hst,hnbl,_⟩:=gR (l:=[x.event,x.id]) hown;dsimp only;exact zcF
    ·go_simp;refine MC (uU x.event x.id x.delay _) ?_;rintro e w2 ⟨nb,c2,rfl,hown,hb2⟩;have hb2':Below wr wr w2:=((Mw _ _).drew).trans hb2;obtain ⟨e4,hx2,e0,e1,hbw2⟩:=HD.out w2 hb2';obtain ⟨hst,hnbl,_⟩:=gR (l:=[x.event,x.id]) hown;dsimp only;refine hK _ _ ?_;clear hK K;refine zA 1 rfl fun K hK => ?_;go_simp;exact zcF
  ·have hkl:k=A.length:=zaa;have HF:Hid ((tm&&Ref.b7 A)=false):=by
    exact zfj
   clear hno;go_wp2;go_end0;unfold dt;rw [HF.out];exact ⟨rfl,hbr⟩
variable {w0 w:World} {db mb nm:Nat} {sv pv ov:Ref.Sl} {tm:Bool} {X:List Pro.DS} {SP:List (Int×Int)} {O:List Nat} {PT:Nat->List Nat} {D:DataW Nat}
def iY (D:DataW Nat) (n:ByteArray):Option Int:=match D.atKey (.string n.data.toList) (.lit (.int .i64 0)) with
 | .lit (.int .i64 c)=>some c
 | _=>none
def vX (D:DataW Nat) (nme:ByteArray) (num:Int) (w:World) (e:Ending) (w':World):Prop:=if iY D nme=some num then e = .returned (.tuple #[])/\Below w w w' else aY 4 num w e w'
theorem sO (num dep kd:Int) (nme:ByteArray) (G:aq w0 w db sv pv ov mb tm X SP O PT nm D) (hs:nme.size<=1000000) :
  () 350 #[.agg #[(num:Int),(dep:Int),(kd:Int),nme],db] w (vX D nme num w):=by
 have hdl:=G.dlt;have hb1:Below w w (w.alloc (.cells #[(num:Int),(dep:Int),(kd:Int),nme] 352)):=(Mw _ _).alloc (Mt _) _;obtain ⟨_,_,_,c3,_⟩:=(G.ak hb1).cells;obtain ⟨W1,hW1⟩:∃ y,y=w.alloc (.cells #[(num:Int),(dep:Int),(kd:Int),nme] 352):=⟨_,rfl⟩;have b0:W1.cell? w=some ↑(num:Int):=zaS;have b1:W1.cell? ⟨w,1,none⟩=some ↑(dep:Int):=zaS;have b3:W1.cell? ⟨w,3,none⟩=some ↑nme:=zaS;have law:Go.Maps.Keyed prog 9:=P7 underlying9;have zeroE:∀ w:World,(zeroValue 3).run prog w = .ok (.int .i64 0) w:=fun w=>zab;have hkey:keyOf prog 9 (.string nme)=some (.string nme.data.toList):=Pj underlying9 zag;have hmapd:ju W1.drew mb nm D:=zcc;obtain ⟨cc,hrun,hat,_⟩:=hmapd.lookup_int law underlying153 underlying3 (zeroE _) hkey;have HF:Hid (iY D nme=some cc):=by unfold Hid iY;rw [hat]
 rw [<- hW1] at c3 hb1;go_enter func350,ntmps350
 go_upto_region 1 with fail
 change Code.wp _ _ _ _ (w.alloc (.cells #[(num:Int),(dep:Int),(kd:Int),nme] 352));rw [<- hW1];clear hW1 hat;have hbs:=hb1.size;refine MP (S:=(fun W=>W.cell? ⟨db,3,none⟩=some (.map (some mb))/\W.cell? w=some ↑(num:Int)/\W.cell? ⟨w,3,none⟩=some ↑nme)) zab ⟨c3,b0,b3⟩ (fun u0 => ?_);refine tH 0 db rfl u0 ?_;refine tH 1 db rfl u0 ?_;refine tH 2 (.pointer (some ⟨db,3,none⟩)) rfl u0 ?_;refine tH 3 (.map (some mb)) rfl u0 ?_;refine tH 4 (.pointer (some ⟨w,3,none⟩)) rfl u0 ?_;refine tH 5 (.string nme) rfl u0 ?_;refine tH 7 w rfl u0 ?_;refine tH 8 w rfl u0 ?_;refine tH 9 (.int .i64 num) rfl u0 ?_;refine zH 6 rfl fun K hK => ?_;go_simp;refine hK.out _ _ u0 (fun u0 => ?_);clear hK K hrun;by_cases hcc:cc=num
 ·subst hcc;refine zH 10 rfl fun K hK => ?_;go_simp;refine hK.out _ _ u0 (fun u0 => ?_);clear hK K;refine MY zab ?_ _;go_wp2;go_end0;unfold vX;rw [HF.out,MB rfl];exact ⟨rfl,hb1.drew⟩
 ·have hne:(cc != num)=true:=by simpa using hcc
  refine zH 10 rfl fun K hK => ?_;go_simp;refine hK.out _ _ u0 (fun u0 => ?_);clear hK K;refine MY zab ?_ _;go_wp2_with fail;refine (aU num dep 4 _).mono ?_;rintro e w2 ⟨hb,b,h5,h6,rfl⟩;dsimp only;refine ⟨rfl,?_⟩;unfold vX;rw [HF.out,Mz (by simpa using hcc)];exact ⟨hb1.drew.trans (hb.mono hbs),b,Mv hbs h5,h6,rfl⟩
theorem kH (num dep:Int) (A:List Ref.Act) (a:Option Addr) (n c:Nat) (G:aq w0 w db sv pv ov mb tm X SP O PT nm D) (hA:w0.ownsRow 0 251 1 (.slice a n c) A.length (A.map bh)) (hS:∀ x∈A,Pro.Shape x) (hl:A.length<=100000) :
  () 360 #[.agg #[(num:Int),(dep:Int),.slice a n c],db] w (dt tm num A w):=by
 have hb1:Below w w (w.alloc (.cells #[(num:Int),(dep:Int),.slice a n c] 360)):=(Mw _ _).alloc (Mt _) _;have G1:=G.ak hb1;obtain ⟨_,_,_,_,c4⟩:=G1.cells;have hA1:=bf hA (G1.bel);have HC:Hid (∀ W:World,W=w.alloc (.cells #[(num:Int),(dep:Int),.slice a n c] 360)->() 358 #[db,.agg #[(num:Int),(dep:Int)],.slice a n c] W (dt tm num A W)):=by
  rintro W rfl;exact jz db num dep tm A a n c _ c4 hA1 hS hl
 clear G1 c4 hA1;go_enter func360,ntmps360;go_wp2_with fail;refine MC (HC.out _ rfl) ?_;rintro e w2 h2;unfold dt at h2;cases hm:(tm&&Ref.b7 A) with
 | true =>
  rw [hm,MB rfl] at h2;obtain ⟨hb,b,h5,h6,rfl⟩:=h2;dsimp only;refine ⟨rfl,?_⟩;unfold dt;rw [hm,MB rfl];exact ⟨hb1.trans (hb.mono hb1.size),b,Mv hb1.size h5,h6,rfl⟩
 | false =>
  rw [hm,Mz zad] at h2;obtain ⟨rfl,hb2⟩:=h2;have HM:Hid _:=hm;clear hm;dsimp only;go_wp2;go_end0;unfold dt;rw [HM.out,Mz zad];exact ⟨rfl,hb1.trans (hb2.mono hb1.size)⟩
def kf (D:DataW Nat) (tm:Bool) (m:Ref.Move):Bool:=(!m.to.toList.isEmpty && !Go.Maps.has D (.string m.to.data.toList))||(tm&&(Ref.b7 m.aw||(!m.after&&Ref.cy m.event Ref.bL)))
def gu (D:DataW Nat) (tm:Bool) (m:Ref.Move) (num:Int) (w:World) (e:Ending) (w':World):Prop:=if kf D tm m then aY 4 num w e w' else e = .returned (.tuple #[])/\Below w w w'
theorem tM (num:Int) (dep:Nat) (y:Pro.PV) (G:aq w0 w db sv pv ov mb tm X SP O PT nm D) (hs:y.m.to.size<=1000000) (hA:w0.ownsRow 0 251 1 y.v.v y.m.aw.length (y.m.aw.map bh)) (hS:∀ x∈y.m.aw,Pro.Shape x) (hl:y.m.aw.length<=100000) :
  () 355 #[.agg (dh num dep y),db] w (gu D tm y.m num w):=by
 have hdl:=G.dlt;have hb1:Below w w (w.alloc (.cells (dh num dep y) 356)):=(Mw _ _).alloc (Mt _) _;obtain ⟨_,_,_,c3,_⟩:=(G.ak hb1).cells;obtain ⟨W1,hW1⟩:∃ z,z=w.alloc (.cells (dh num dep y) 356):=⟨_,rfl⟩;have hbx:W1.heap[w.heap.size]?=some (.cells (dh num dep y) 356 (0,0)):=by rw [hW1];exact MD _ _
 have HBx:Hid (∀ W2,Below W1 W1 W2->W2.cell? w=some ↑(num:Int)/\W2.cell? ⟨w,1,none⟩=some ↑(dep:Int)/\W2.cell? ⟨w,2,none⟩=some ↑y.m.event/\W2.cell? ⟨w,3,none⟩=some (.bool y.m.after)/\W2.cell? ⟨w,5,none⟩=some ↑y.m.to/\W2.cell? ⟨w,6,none⟩=some (.slice y.v.a y.v.n y.v.c)):=by
  intro W2 hb2;have h2:=(hb2.block _ (Ms.1 hbx).1).trans hbx;refine ⟨?_,?_,?_,?_,?_,?_⟩ <;> rw [My W2 _ _ _ _ _ h2] <;> rfl
 have HA:Hid (∀ W2,Below W1 W1 W2->() 358 #[db,.agg #[(num:Int),(dep:Int)],.slice y.v.a y.v.n y.v.c] W2 (dt tm num y.m.aw W2)):=by
  intro W2 hb2;have G2:=(G.ak hb1).ak (by rw [<- hW1];exact hb2);obtain ⟨_,_,_,_,c4⟩:=G2.cells;exact jz db num dep tm y.m.aw _ _ _ _ c4 (bf hA G2.bel) hS hl
 have HR:Hid (∀ W2,Below W1 W1 W2->() 357 #[db,.agg #[(num:Int),(dep:Int)],.slice (some ⟨W2.heap.size,0,none⟩) 1 1] (W2.alloc (.cells #[y.m.event] 9)) (ej tm num [y.m.event] (W2.alloc (.cells #[y.m.event] 9)))):=by
  intro W2 hb2;have G2:=((G.ak hb1).ak (by rw [<- hW1];exact hb2)).ak ((Mw _ W2).alloc (Mt _) (.cells #[y.m.event] 9));obtain ⟨_,_,_,_,c4⟩:=G2.cells;exact bA db num dep tm [y.m.event] W2.heap.size 1 _ c4 (sU (l:=[y.m.event]) (MD W2 _)) zad zad
 have law:Go.Maps.Keyed prog 9:=P7 underlying9;have zeroE:∀ w:World,(zeroValue 3).run prog w = .ok (.int .i64 0) w:=fun w=>zab;have hkey:keyOf prog 9 (.string y.m.to)=some (.string y.m.to.data.toList):=Pj underlying9 zag;have hmapd:ju W1.drew mb nm D:=zcc;obtain ⟨vv,ps,hrun,hvv⟩:=hmapd.look_ok law underlying153 (zeroE _) (Re underlying3 zac) hkey;obtain ⟨cc,rfl,_,_⟩:=plainElem_int_inv underlying3 hvv;clear hvv hA hS;rw [<- hW1] at c3 hb1;obtain ⟨b0,b1,b2,b3,b5,b6⟩:=HBx.out W1 (Mw _ _);have hbs:=hb1.size;unfold dh at hW1 ⊢;go_enter func355,ntmps355
 go_upto_region 1 with fail
 change Code.wp _ _ _ _ (w.alloc (.cells #[(num:Int),(dep:Int),y.m.event,y.m.after,.int .u64 y.m.delay,y.m.to,.slice y.v.a y.v.n y.v.c] 356));rw [<- hW1];clear hW1 G hbx;refine MP (S:=(fun W=>W.cell? ⟨db,3,none⟩=some (.map (some mb))/\W.cell? ⟨w,5,none⟩=some ↑y.m.to)) zab ⟨c3,b5⟩ (fun u0 => ?_);refine tH 0 db rfl u0 ?_;refine tH 1 db rfl u0 ?_;refine tH 2 (.pointer (some ⟨db,3,none⟩)) rfl u0 ?_;refine tH 3 (.map (some mb)) rfl u0 ?_;refine tH 4 (.pointer (some ⟨w,2,none⟩)) rfl u0 ?_;refine tH 5 (.pointer (some ⟨w,5,none⟩)) rfl u0 ?_;refine tH 6 (.string y.m.to) rfl u0 ?_;refine zH 7 rfl fun K hK => ?_;go_simp;refine hK.out _ _ u0 (fun u0 => ?_);clear hK K;refine tH 8 (.tuple #[(cc:Int),.bool (Go.Maps.has D (.string y.m.to.data.toList))]) rfl u0 ?_;refine tH 9 (.int .i64 cc) rfl u0 ?_;refine tH 10 (.bool (Go.Maps.has D (.string y.m.to.data.toList))) rfl u0 ?_;refine tH 11 (.int .i64 cc) rfl u0 ?_;refine tH 12 (.bool (Go.Maps.has D (.string y.m.to.data.toList))) rfl u0 ?_;refine MY zab ?_ _;clear hrun;obtain ⟨hs0,hhs⟩:∃ h,h=Go.Maps.has D (.string y.m.to.data.toList):=⟨_,rfl⟩;obtain ⟨te,hte⟩:∃ h,h=y.m.to.toList.isEmpty:=⟨_,rfl⟩;have HBad:Hid (kf D tm y.m=((!te && !hs0)||(tm&&(Ref.b7 y.m.aw||(!y.m.after&&Ref.cy y.m.event Ref.bL))))):=by unfold Hid kf;rw [hhs,hte]
 rw [<- hhs];have HTe:Hid _:=hte;clear hhs hte u0;have hbd:Below W1 W1 W1.drew:=(Mw _ _).drew;cases hs0 with
 | true =>
  exact zct
 | false =>
  cases te with
  | true =>
   have hte':y.m.to.toList=[]:=Pm.1 HTe.out.symm;have hte2:y.m.to.toList.isEmpty=true:=HTe.out.symm;exact zct
  | false =>
   have hte2:y.m.to.toList.isEmpty=false:=HTe.out.symm;have hne:(y.m.to.toList == [])=false:=by
    cases h:y.m.to.toList with
    | nil=>rw [h] at hte2;cases hte2
    | cons a b=>rfl
   have HM:Hid (kf D tm y.m=true):=by unfold Hid;rw [HBad.out];rfl
   go_wp2_with fail;refine (aU num dep 4 _).mono ?_;rintro e w2 ⟨hb,b,h5,h6,rfl⟩;have hbw:=hb1.trans (hbd.mono hbs);exact zfE
theorem AP (p q:Addr) (w:World) :
  CallsD prog 55 #[.pointer (some p),.pointer (some q)] .returning w fun e u' w'=>e = .returned (.tuple #[])/\u' = .returning/\w'=w:=by
 refine callsD_of_wpS func55 rfl fun c₀ cs hu => ?_;apply wpS_seq
 apply wpS_region
 simp [wpOpsS,go_sem,recoverD,hu,ntmps55,Exit.thenS];refine wpS_of_wp ?_;go_wp2;cases c₀
 simp_all [bodyPostS,results,Tryz.results55]
theorem tw (f:Nat) (w:World):(Instr.typeAssert (.iface 143 (.agg #[f])) 20 143 true).run prog w = .ok (.tuple #[.agg #[f],true]) w:=zab
theorem bU (p q:Nat) (a b:Value) (f:Nat) (older:List PanicEntry) (w:World) (hp:w.heap[p]?=some (.cells #[a] 109 (0,0))) (hq:w.heap[q]?=some (.cells #[b] 61 (0,0))) (hpq:p≠q) :
  CallsD prog 55 #[p,q] (.panicking ({ v := .iface 143 (.agg #[f]),recovered:=false }::older)) w fun e u' w' =>
   e = .returned (.tuple #[])/\u' = .panicking ({ v := .iface 143 (.agg #[f]),recovered:=true }::older)/\∃ W,Below w ((w.setCell p (.pointer none)).setCell q (.iface 116 f)) W/\w'=W:=by
 refine callsD_of_wpS func55 rfl fun c₀ cs hu => ?_;apply wpS_seq
 apply wpS_region
 simp [wpOpsS,go_sem,recoverD,hu,ntmps55,Exit.thenS];refine wpS_of_wp ?_;have hta:=tw f;have cp:w.cell? p=some a:=by rw [My w _ _ _ _ _ hp];rfl
 have cq:w.cell? q=some b:=by rw [My w _ _ _ _ _ hq];rfl
 have fp:w.frozen? ⟨p,0,none⟩=false:=zbS;have fq:w.frozen? ⟨q,0,none⟩=false:=by simp [World.frozen?,hq]
 have lp:=(Ms.1 hp).1;have lq:=(Ms.1 hq).1;have hqp:¬ q=p:=fun h=>hpq h.symm
 go_upto_region 7 with fail
 go_region
 all_goals (
  go_wp2;refine ⟨rfl,_,rfl,.tuple #[],by simp [results,Tryz.results55],rfl,rfl,?_⟩;exact ((Mw _ _).alloc zad _).drew)
