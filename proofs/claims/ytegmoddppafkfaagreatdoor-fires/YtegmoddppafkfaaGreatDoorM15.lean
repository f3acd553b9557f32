import Derived.Test.YtegmoddppafkfaaGreatDoorM14
import Derived.Stop.Asserts
set_option maxRecDepth 100000
set_option maxHeartbeats 8000000
namespace Go.Proofs.YtegmoddppafkfaaGreatDoor
variable {zp:Prop}
theorem zfs (h:zp:=by
 rw [hm,Lg rfl] at h3;have HM:Hid (jZ D tm y.m=true):=by
  rw [LJ] at hm;unfold Hid;rw [HBad.out,hm.1,hm.2];simp
 obtain ⟨hb,b,h5,h6,rfl⟩:=h3;dsimp only;refine ⟨rfl,?_⟩;unfold fY;rw [HM.out,Lg rfl];exact ⟨hbw.trans (hb.mono hbw.size),b,La hbw.size h5,h6,rfl⟩):zp:=h
theorem zft (h:zp:=by
 rw [hr,Lg rfl] at h3;have HM:Hid ((tm&&Ref.bX A)=true):=by
  rw [LJ] at hr;unfold Hid;rw [hr.1,HT.out zay];rfl
 obtain ⟨hb,b,h5,h6,rfl⟩:=h3;dsimp only;refine ⟨rfl,?_⟩;unfold di;rw [Lg HM.out];exact ⟨hbw2.trans (hb.mono hbw2.size),b,La hbw2.size h5,h6,rfl⟩):zp:=h
theorem zfz (h:zp:=by
 unfold Hid;have h1:=HNo.out;rw [HN.out];cases tm with
 | false=>rfl
 | true=>simp only [Bool.true_and] at h1 hr ⊢;rw [h1,hr];rfl):zp:=h
theorem zfA (h:zp:=by
 dsimp only;refine ⟨rfl,?_⟩;unfold fY;rw [HM.out,Lg rfl];exact ⟨hbw.trans (hb.mono hbw.size),b,La hbw.size h5,h6,rfl⟩):zp:=h
theorem za1 (h:zp:=by
 refine yA [1,3] ?_;refine Le rfl (fun K hK => ?_) (Le rfl (fun K hK => ?_) Lx)
 ·go_simp;refine hK _ _ ?_;clear hK K;refine zA 3 rfl fun K hK => ?_;go_simp;refine Lh (fo x.event _) ?_;rintro e w2 ⟨nb,c2,rfl,hown,hb2⟩;have hb2':Below wr wr w2:=((K9 _ _).drew).trans hb2;obtain ⟨e4,hx2,e0,e1,hbw2⟩:=HD.out w2 hb2';obtain ⟨hst,hnbl,_⟩:=gG (l:=[x.event]) hown;dsimp only;refine hK _ _ ?_;clear hK K;refine zA 4 rfl fun K hK => ?_;go_simp;have hq4:=bs db num dep tm [x.event] nb c2 w2 e4 hst hnbl zad;refine Lh hq4 ?_;rintro e w3 h3;unfold dW at h3;cases hr:(tm&&Pro.fQ [x.event]) with
  | true =>
   exact zft
  | false =>
   rw [hr,Ld zad] at h3;obtain ⟨rfl,hb3⟩:=h3;have HM:Hid ((tm&&Ref.bX (A.take (k+1)))=false):=by
    exact zfz
   have hbw3:=hbw2.trans (hb3.mono hbw2.size);have hbx3:=(hb3.block _ (K6.1 hx2).1).trans hx2;clear hr;dsimp only;refine hK _ _ ?_;clear hK K;refine My zab ?_ _;go_wp2
   go_roundg (A.length-(k+1))
   case measure=>omega
   case rel=>exact ⟨k+1,rfl,zaa,zah,HM.out,hbw3,hbx3⟩
 ·go_simp;refine Lh (fo x.event _) ?_;rintro e w2 ⟨nb,c2,rfl,hown,hb2⟩;have hb2':Below wr wr w2:=((K9 _ _).drew).trans hb2;obtain ⟨e4,hx2,e0,e1,hbw2⟩:=HD.out w2 hb2';obtain ⟨hst,hnbl,_⟩:=gG (l:=[x.event]) hown;dsimp only;refine hK _ _ ?_;clear hK K;refine zA 1 rfl fun K hK => ?_;go_simp;refine hK _ _ ?_;clear hK K;refine zA 4 rfl fun K hK => ?_;go_simp;have hq4:=bs db num dep tm [x.event] nb c2 w2 e4 hst hnbl zad;refine Lh hq4 ?_;rintro e w3 h3;unfold dW at h3;cases hr:(tm&&Pro.fQ [x.event]) with
  | true =>
   exact zft
  | false =>
   rw [hr,Ld zad] at h3;obtain ⟨rfl,hb3⟩:=h3;have HM:Hid ((tm&&Ref.bX (A.take (k+1)))=false):=by
    exact zfz
   have hbw3:=hbw2.trans (hb3.mono hbw2.size);have hbx3:=(hb3.block _ (K6.1 hx2).1).trans hx2;clear hr;dsimp only;refine hK _ _ ?_;clear hK K;refine My zab ?_ _;go_wp2
   go_roundg (A.length-(k+1))
   case measure=>omega
   case rel=>exact ⟨k+1,rfl,zaa,zah,HM.out,hbw3,hbx3⟩):zp:=h
theorem zcs (h:zp:=by
 cases haf:y.m.after with
 | true =>
  have b3t:=b3;rw [haf] at b3t;have HAf:Hid _:=haf;clear haf b3;go_wp2_with fail;refine Lh (HA.out _ hbd) ?_;rintro e w3 h3;unfold di at h3;have hbw:=hb1.trans (Below.mono hbd hbs);cases hm:(tm&&Ref.bX y.m.ax) with
  | true =>
   exact zfs
  | false =>
   rw [hm,Ld zad] at h3;obtain ⟨rfl,hb3⟩:=h3;have HM:Hid (jZ D tm y.m=false):=by
    unfold Hid;rw [HBad.out];rw [HAf.out];cases tm with
     | false=>simp
     | true=>simp only [Bool.true_and] at hm;rw [hm];simp
   clear hm;dsimp only;go_wp2;go_end0;unfold fY;rw [HM.out,Ld zad];exact ⟨rfl,hbw.trans (hb3.mono hbw.size)⟩
 | false =>
  have b3t:=b3;rw [haf] at b3t;have HAf:Hid _:=haf;clear haf b3;go_wp2_with fail;refine Lh (HR.out _ hbd) ?_;rintro e w4 h4;unfold dW at h4;have hbe:Below W1 W1 ((W1.drew).alloc (.cells #[y.m.event] 9)):=hbd.alloc (K7 _) _;have hresv:Pro.fQ [y.m.event]=Ref.b8 y.m.event Ref.bI:=by simp [Pro.fQ]
  rw [hresv] at h4;cases hr:(tm&&Ref.b8 y.m.event Ref.bI) with
  | true =>
   rw [hr,Lg rfl] at h4;have HM:Hid (jZ D tm y.m=true):=by
    rw [LJ] at hr;unfold Hid;rw [HBad.out,HAf.out,hr.1,hr.2];simp
   have hbw:=hb1.trans (hbe.mono hbs);obtain ⟨hb,b,h5,h6,rfl⟩:=h4;exact zfA
  | false =>
   rw [hr,Ld zad] at h4;obtain ⟨rfl,hb4⟩:=h4;have hbd4:Below W1 W1 w4:=hbe.trans (hb4.mono hbe.size);obtain ⟨a0,a1,a2,a3,a5,a6⟩:=HBx.out w4 hbd4;have HRr:Hid _:=hr;clear hr hresv;dsimp only;go_wp2_with fail;refine Lh (HA.out _ hbd4) ?_;rintro e w3 h3;unfold di at h3;have hbw:=hb1.trans (Below.mono hbd4 hbs);cases hm:(tm&&Ref.bX y.m.ax) with
   | true =>
    exact zfs
   | false =>
    rw [hm,Ld zad] at h3;obtain ⟨rfl,hb3⟩:=h3;have HM:Hid (jZ D tm y.m=false):=by
     unfold Hid;rw [HBad.out];have hr:=HRr.out;rw [HAf.out];cases tm with
      | false=>simp
      | true=>simp only [Bool.true_and] at hm hr;rw [hm,hr];simp
    clear hm;dsimp only;go_wp2;go_end0;unfold fY;rw [HM.out,Ld zad];exact ⟨rfl,hbw.trans (hb3.mono hbw.size)⟩):zp:=h
theorem zcE (h:zp:=by
 refine hK _ _ ?_;clear hK K;refine zA 4 rfl fun K hK => ?_;go_simp;have hq4:=bs db num dep tm [x.event,x.id] nb c2 w2 e4 hst hnbl zad;refine Lh hq4 ?_;rintro e w3 h3;unfold dW at h3;cases hr:(tm&&Pro.fQ [x.event,x.id]) with
 | true =>
  exact zft
 | false =>
  rw [hr,Ld zad] at h3;obtain ⟨rfl,hb3⟩:=h3;have HM:Hid ((tm&&Ref.bX (A.take (k+1)))=false):=by
   exact zfz
  have hbw3:=hbw2.trans (hb3.mono hbw2.size);have hbx3:=(hb3.block _ (K6.1 hx2).1).trans hx2;clear hr;dsimp only;refine hK _ _ ?_;clear hK K;refine My zab ?_ _;go_wp2
  go_roundg (A.length-(k+1))
  case measure=>omega
  case rel=>exact ⟨k+1,rfl,zaa,zah,HM.out,hbw3,hbx3⟩):zp:=h
theorem zcF (h:zp:=by
 refine hK _ _ ?_;clear hK K;refine zA 4 rfl fun K hK => ?_;go_simp;have hq4:=bs db num dep tm [x.id] nb c2 w2 e4 hst hnbl zad;refine Lh hq4 ?_;rintro e w3 h3;unfold dW at h3;cases hr:(tm&&Pro.fQ [x.id]) with
 | true =>
  exact zft
 | false =>
  rw [hr,Ld zad] at h3;obtain ⟨rfl,hb3⟩:=h3;have HM:Hid ((tm&&Ref.bX (A.take (k+1)))=false):=by
   exact zfz
  have hbw3:=hbw2.trans (hb3.mono hbw2.size);have hbx3:=(hb3.block _ (K6.1 hx2).1).trans hx2;clear hr;dsimp only;refine hK _ _ ?_;clear hK K;refine My zab ?_ _;go_wp2
  go_roundg (A.length-(k+1))
  case measure=>omega
  case rel=>exact ⟨k+1,rfl,zaa,zah,HM.out,hbw3,hbx3⟩):zp:=h
theorem zc3 (h:zp:=by
 rw [hts] at h2;obtain ⟨rfl,DA2⟩:=h2;have HN:Hid (Ref.a7 (Ref.aM P n) (k+1)=some S'):=za6;have HP':Hid (0<S'.length):=HPos.out S' hts;have HD2:Hid _:=DA2;clear hts DA2;dsimp only;go_wp2
 go_roundg (n-(k+1))
 case measure=>omega
 case rel=>exact ⟨k+1,S',rfl,zaa,zah,HN.out,fun _=>HP'.out,(let ⟨_,_,_,_,_,_,_,_,G⟩:=HD2.out.mem;G.bel),HD2.out⟩):zp:=h
theorem zc4 (h:zp:=by
 rw [hts] at h2;have HN:Hid (Ref.a7 (Ref.aM P n) n=none/\Ref.gb (Ref.aM P n) n=k+1):=by
  have h1:Ref.a7 (Ref.aM P n) (k+1)=none:=zbg;exact ⟨fy h1 n zaa,Ref.jt zbl h1 n hkn⟩
 obtain ⟨hb,b,h5,h6,rfl⟩:=h2;dsimp only;refine ⟨rfl,?_⟩;unfold ej;rw [HN.out.1,HN.out.2];exact ⟨hbr.trans (hb.mono hbr.size),b,La hbr.size h5,h6,rfl⟩):zp:=h
theorem zdr (h:zp:=by
 split at h
 ·cases h
 ·split at h
  ·cases h
  ·rename_i u hu;have:u<S.length:=et S S.length u (Lj hu);split at h
   ·cases h
   ·split at h
    ·cases h
    ·cases h;unfold Ref.fR;rw [Ll];omega):zp:=h
theorem zdB (h:zp:=by
 refine hK.out _ _ ⟨k0,k2⟩ (fun u0 => ?_);clear hK K;refine tH 8 (.slice g5 2 cap5) rfl u0 ?_;refine Ly zab ?_ _;go_wp2;go_ret;exact ⟨g5,cap5,rfl,hown5,HB5.out⟩):zp:=h
theorem zes (h:zp:=by
 split at h
 ·cases h
 ·obtain ⟨q,h1,h2⟩:=LD.1 h;cases h2;trivial):zp:=h
theorem zeL (h:zp:=by
 obtain ⟨⟨A,r'⟩,h1,h2⟩:=LD.1 h;cases h2;exact tS h1):zp:=h
theorem zay (h:zp:=by rw [HN.out,hr.2];simp):zp:=h
theorem zaR (h:zp:=by rw [hW1];simp):zp:=h
theorem za6 (h:zp:=by unfold Hid;rw [HSt.out];exact hts):zp:=h
theorem zbg (h:zp:=by rw [HSt.out];exact hts):zp:=h
theorem zbl (h:zp:=by rw [HS.out];rfl):zp:=h
theorem zcb (h:zp:=by rw [hW1];exact bG (e:=0) (G.aq hb1).map (cA (K9 _ _).drew)):zp:=h
open Tryz
variable {l r P:List ByteArray} {n k:Nat} {L:Pro.PL}
section
open Go.RowKit
namespace Pro
def Good:PL->Prop
 | .state k n=>0<=k/\k<=4/\n.size<=8
 | .move _ _ _ _ _=>True
 | .enter A=>A≠[]
 | .leave A=>A≠[]
theorem iE {s:ByteArray} (h:Ref.plain s=true):s.size<=8:=by
 rw [Ref.plain,LJ,LJ,N6,N6] at h;exact h.2.2
theorem tS {A:List Ref.Act} (h:cD l=some (A,r)):A≠[]:=by
 unfold cD at h;split at h
 ·cases h
 ·cases h
 ·cases h;simp
theorem C8 {n:ByteArray} {k:Int} (h:cZ l=some ((n,k),r)):0<=k/\k<=4/\n.size<=8:=by
 unfold cZ at h;split at h
 ·cases h
 ·rename_i hq;cases h
  exact ⟨zac,zac,iE (gI hq).1⟩
 ·rename_i hq;split at h
  ·cases h;exact ⟨zac,zac,iE (gI hq).1⟩
  ·cases h;exact ⟨zac,zac,iE (gI hq).1⟩
theorem Dq {num:Nat} {l r:List ByteArray} {L:PL} (h:bh num l=some (L,r)):Good L:=by
 cases l with
 | nil=>cases h
 | cons x t =>
  rw [bh] at h;have st:∀ k:Int,0<=k->k<=4->((pOf Ref.plain t).map fun q=>(PL.state k q.1,q.2))=some (L,r)->Good L:=by
   intro k h0 h4 h;obtain ⟨⟨n,r'⟩,h1,h2⟩:=LD.1 h;cases h2
   exact ⟨h0,h4,iE (gI h1).1⟩
  split at h
  ·exact st 0 zac zac h
  ·split at h
   ·exact st 1 zac zac h
   ·split at h
    ·exact st 2 zac zac h
    ·split at h
     ·obtain ⟨⟨⟨n,k⟩,r'⟩,h1,h2⟩:=LD.1 h;cases h2
      exact C8 h1
     ·split at h
      ·exact zes
      ·split at h
       ·exact zes
       ·split at h
        ·exact zeL
        ·split at h
         ·exact zeL
         ·cases h
theorem mW {num:Nat} (h:bj num l=some L):Good L:=by
 unfold bj at h;split at h
 ·rename_i L' h1;cases h
  exact Dq h1
 ·cases h
theorem step_pos {S S':List Ref.State} {i num d:Nat} {L:PL} (hI:Inv S i) (h:Ref.bu S i (aE num L) (d:Int)=some S'):0<S'.length:=by
 cases L with
 | state k n =>
  rw [sx] at h;split at h
  ·cases h
  ·split at h
   ·cases h;simp
   ·cases h
 | move ev af dl t A =>
  rw [uE hI] at h;split at h
  ·cases h
  ·split at h
   ·cases h
   ·rename_i u hu;split at h
    ·cases h
    ·have:u<S.length:=et S S.length u (Lj hu);cases h;unfold Ref.fR;rw [Ll];omega
 | enter A =>
  rw [sr hI] at h;exact zdr
 | leave A =>
  rw [su hI] at h;exact zdr
end Pro
theorem yy (hk:k<n) (h:Pro.bj (k+1) (Pro.wl P k)=some L):(Ref.aM P n)[k]?=some (Pro.aE (k+1) L,(Ref.cX (Ref.pc P k):Int)):=by
 unfold Ref.aM;rw [Lv,Pt hk,Option.map_some,Pro.pE h]
theorem zw {S:List Ref.State} (hk:k<n) (h:Pro.bj (k+1) (Pro.wl P k)=some L) (hS:Ref.a7 (Ref.aM P n) k=some S):Ref.a7 (Ref.aM P n) (k+1)=Ref.bu S k (Pro.aE (k+1) L) (Ref.cX (Ref.pc P k):Int):=by
 rw [Ref.a7,hS];simp only;rw [yy hk h]
def ej (P:List ByteArray) (n:Nat) (w:World) (e:Ending) (w':World):Prop:=match Ref.a7 (Ref.aM P n) n with
 | none=>aW 3 (Ref.gb (Ref.aM P n) n:Int) w e w'
 | some S=>match Ref.dF S S.length with
  | some l=>aW 3 l w e w'
  | none=>∃ db,e = .returned (.pointer (some ⟨db,0,none⟩))/\Below w.heap.size w w'/\fB w w' db S n
theorem C0 (w:World):fB w ((w.alloc (.map #[] 0)).alloc (.cells #[.slice none 0 0,.slice none 0 0,.slice none 0 0,.map (some w.heap.size),false] 230)) (w.heap.size+1) [] 0:=by
 refine ⟨⟨Ref.Sl.nil,Ref.Sl.nil,Ref.Sl.nil,w.heap.size,[],0,rfl,K7 _,?_⟩,Pro.Inv.nil⟩;have hb:Below w w ((w.alloc (.map #[] 0)).alloc (.cells #[.slice none 0 0,.slice none 0 0,.slice none 0 0,.map (some w.heap.size),false] 230)):=((K9 _ _).alloc (K7 _) _).alloc zad _;refine ⟨hb,zaa,K7 _,bM _ _ _,Mf _ _ _ _,Mf _ _ _ _,Mf _ _ _ _,fun i h=>absurd h zad,fun i h=>absurd h zad,fun i j h=>absurd h zad,fun i h=>absurd h zad,fun i j h=>absurd h zad,?_⟩;exact bG (e:=0) (PB w _ _ _) (cA ((K9 _ _).alloc (K7 _) _))
theorem ID (a b c d:Value) (w:World):(method 599 376 (.agg #[a,b,c, d]) "charts/reader.place").run prog w = .ok (359,.agg #[a,b,c,d]) w:=zab
theorem IC (a b c d e f g:Value) (w:World):(method 599 380 (.agg #[a,b,c,d,e,f, g]) "charts/reader.place").run prog w = .ok (364,.agg #[a,b,c,d,e,f,g]) w:=zab
theorem IA (a b c:Value) (w:World):(method 599 387 (.agg #[a,b, c]) "charts/reader.place").run prog w = .ok (369,.agg #[a,b,c]) w:=zab
theorem IB (a b c:Value) (w:World):(method 599 388 (.agg #[a,b, c]) "charts/reader.place").run prog w = .ok (371,.agg #[a,b,c]) w:=zab
theorem rQ (P:List ByteArray) (n lb:Nat) (vs:List Value) (LS:List Pro.PL) (w:World) (hlb:w.heap[lb]?=some (.cells vs.toArray 224 (0,0))) (HL:jM w P n vs LS) (hn0:0<n) (hn:n<=1500) (hsz:∀ j,(Ref.pc P j).size<=1500) :
  () 107 #[.slice lb n n] w (ej P n w):=by
 have hlv:=HL.lv;have hll:=HL.ll;have hlbl:=(K6.1 hlb).1;have HSZ:Hid _:=hsz;have HLN:Hid _:=HL;have hmm:=@run_makeMap prog;have D0:=C0 w;have HLV:Hid (vs.length=n):=hlv;have HLL:Hid (LS.length=n):=hll;clear hsz HL hlv hll;go_enter func107,ntmps107;go_wp2
 go_loopg [11] n (fun q i wr=>∃ (k:Nat) (S:List Ref.State),q=n-k/\k<=n/\i = .int .i64 k/\Ref.a7 (Ref.aM P n) k=some S/\(0<k->0<S.length)/\Below w w wr/\fB w wr (w.heap.size+1) S k)
 case atStart=>exact ⟨0,[],rfl,Lk _,rfl,rfl,fun h=>zaa,((K9 _ _).alloc (K7 _) _).alloc zad _,D0⟩
 case round =>
  obtain ⟨k,S,hq,hk,rfl,hS,hS0,hbr,DA⟩:=hrel;by_cases hkn:k<n
  ·obtain ⟨hp,hv⟩:=HLN.out.row k hkn;have hgood:=Pro.mW hp;have hbl:Ref.cX (Ref.pc P k)<=1500:=La (Ref.tF _) (HSZ.out k);have cv:wr.cell? ⟨lb,k,none⟩=some (vs[k]'(by have:=HLV.out;omega)):=by
    rw [Ln (w:=w) (hbr.block lb hlbl),Lb w _ k _ _ _ hlb,NG,K8]
   obtain ⟨L,hL⟩:∃ L,L=LS[k]'(by have:=HLL.out;omega):=⟨_,rfl⟩;obtain ⟨v,hve⟩:∃ v,v=vs[k]'(by have:=HLV.out;omega):=⟨_,rfl⟩;obtain ⟨dp,hdp⟩:∃ dp,dp=Ref.cX (Ref.pc P k):=⟨_,rfl⟩;rw [<- hL,<- hve,<- hdp] at hv;rw [<- hL] at hp hgood;rw [<- hve] at cv;have hstep:=zw hkn hp hS;rw [<- hdp] at hstep hbl;have HSt:Hid _:=hstep;have HPos:Hid _:=fun S'=>Pro.step_pos (S':=S') (num:=k+1) (d:=dp) (L:=L) DA.inv;have HS:Hid _:=hS;have HS0:Hid _:=hS0;clear hL hve hdp hp hS hstep hS0;cases L with
   | state kd nme =>
    have hv:v=_:=hv;subst hv;have hmS:=ID;go_wp2_with fail;refine Lh (Bc w wr (w.heap.size+1) S k dp kd nme DA hgood.1 hgood.2.1 (La hgood.2.2 zac) zaa zaa) ?_;rintro e w2 h2;unfold dr at h2;cases hts:Ref.bu S k (Pro.aE (k+1) (.state kd nme)) (dp:Int) with
    | none =>
     exact zc4
    | some S' =>
     exact zc3
   | move ev af dl t A =>
    obtain ⟨va,vn,vc,hv,hown⟩:=hv;subst hv;have hmS:=IC;go_wp2_with fail;refine Lh (DJ w wr (w.heap.size+1) S k dp ev t af dl A ⟨va,vn,vc⟩ DA zaa zaa hown) ?_;rintro e w2 h2;unfold dr at h2;cases hts:Ref.bu S k (Pro.aE (k+1) (.move ev af dl t A)) (dp:Int) with
    | none =>
     exact zc4
    | some S' =>
     exact zc3
   | enter A =>
    obtain ⟨va,vn,vc,hv,hown⟩:=hv;subst hv;have hmS:=IA;go_wp2_with fail;refine Lh (Ba w wr (w.heap.size+1) S k dp A ⟨va,vn,vc⟩ DA zaa hown hgood) ?_;rintro e w2 h2;unfold dr at h2;cases hts:Ref.bu S k (Pro.aE (k+1) (.enter A)) (dp:Int) with
    | none =>
     exact zc4
    | some S' =>
     exact zc3
   | leave A =>
    obtain ⟨va,vn,vc,hv,hown⟩:=hv;subst hv;have hmS:=IB;go_wp2_with fail;refine Lh (Bb w wr (w.heap.size+1) S k dp A ⟨va,vn,vc⟩ DA zaa hown hgood) ?_;rintro e w2 h2;unfold dr at h2;cases hts:Ref.bu S k (Pro.aE (k+1) (.leave A)) (dp:Int) with
    | none =>
     exact zc4
    | some S' =>
     exact zc3
  ·obtain rfl:k=n:=zaa;have HN:Hid _:=hS;have hSp:=hS0 hn0;clear hS hS0;go_wp2_with fail;refine (mB w wr (w.heap.size+1) S k DA hSp).mono ?_;rintro e w2 h2;unfold pY at h2;cases hpt:Ref.dF S S.length with
   | some l =>
    rw [hpt] at h2;have HPt:Hid _:=hpt;obtain ⟨hb,b,h5,h6,rfl⟩:=h2;dsimp only;refine ⟨rfl,?_⟩;unfold ej;rw [HN.out];simp only;rw [HPt.out];exact ⟨hbr.trans (hb.mono hbr.size),b,La hbr.size h5,h6,rfl⟩
   | none =>
    rw [hpt] at h2;obtain ⟨rfl,hb2⟩:=h2;have HPt:Hid _:=hpt;have HD2:Hid (fB w w2 (w.heap.size+1) S k):=⟨let ⟨sv,pv,ov,mb,X,nm,h1,h2,G⟩:=DA.mem;⟨sv,pv,ov,mb,X,nm,h1,h2,G.aq hb2⟩,DA.inv⟩;have hb3:=hbr.trans (hb2.mono hbr.size);clear hpt DA;dsimp only;go_wp2;go_ret;unfold ej;rw [HN.out];simp only;rw [HPt.out];exact ⟨w.heap.size+1,rfl,hb3,HD2.out⟩
namespace Pro
def iW (a:Ref.Act):List ByteArray :=
 if a.how.toList == Ref.eK then [a.event]
 else if a.how.toList == Ref.eE then [a.id]
 else if a.id.size=0 then [a.event] else [a.event,a.id]
def fQ (l:List ByteArray):Bool:=l.any fun s=>Ref.b8 s Ref.bI
def Shape (a:Ref.Act):Prop:=(a.how=oE/\a.id=ByteArray.empty)\/(a.how=gq/\a.event=ByteArray.empty)\/a.how=mh
theorem jQ:Ref.b8 ByteArray.empty Ref.bI=false:=zac
theorem Bi {a:Ref.Act} (h:Shape a):fQ (iW a)=Ref.we a:=by
 unfold Ref.we iW
 rcases h with ⟨h1,h2⟩ | ⟨h1,h2⟩ | h1
 ·rw [h1,h2,mQ,Lg zac,jQ];simp [fQ]
 ·rw [h1,h2,gB,Ld zac,Lg zac,jQ];simp [fQ]
 ·rw [h1,lU,Ld zac,Ld zac];by_cases hi:a.id.size=0
  ·have he:a.id=ByteArray.empty:=by
    have:=Of a.id;have h0:a.id.data.toList=[]:=Nt.1 zaa;rw [<- P9 a.id,h0];rfl
   rw [Lg hi,he,jQ];simp [fQ]
  ·rw [Ld hi];simp [fQ]
theorem vg {l r:List ByteArray} {a:Ref.Act} (h:bB l=some (a,r)):Shape a:=by
 cases l with
 | nil=>cases h
 | cons x t =>
  rw [bB] at h;split at h
  ·obtain ⟨q,h1,h2⟩:=LD.1 h;cases h2;exact .inl ⟨rfl,rfl⟩
  ·split at h
   ·obtain ⟨q,h1,h2⟩:=LD.1 h;cases h2;exact .inr (.inr rfl)
   ·split at h
    ·obtain ⟨q,h1,h2⟩:=LD.1 h;cases h2;exact .inr (.inl ⟨rfl,rfl⟩)
    ·cases h
theorem qw:∀ (f:Nat) (l r:List ByteArray) (A:List Ref.Act),fV f l=some (A,r)->∀ a∈A,Shape a
 | 0,l,r,A,h=>by cases h;simp
 | f+1,[],r,A,h=>by cases h;simp
 | f+1,x::t,r,A,h=>by
  rw [fV] at h;split at h
  ·split at h
   ·cases h
   ·rename_i a r' h1;split at h
    ·cases h
    ·rename_i A' t' h2;cases h
     intro b hb
     rcases Na.1 hb with rfl | hb
     ·exact vg h1
     ·exact qw f r' r A' h2 b hb
  ·cases h;simp
end Pro
def tw (l:List ByteArray) (w:World) (e:Ending) (w':World):Prop:=∃ nb c,e = .returned (.slice (some ⟨nb,0,none⟩) l.length c)/\w'.ownsRow w 9 1 (.slice (some ⟨nb,0,none⟩) l.length c) l.length (l.map Value.string)/\Below w w w'
theorem fo (s:ByteArray) (w:World):() 348 #[.agg #[s]] w (tw [s] w):=by
 go_enter func348,ntmps348;go_wp2;go_ret;refine ⟨w.heap.size+1,1,rfl,?_,((K9 _ _).alloc (K7 _) _).alloc zad _⟩;refine ⟨rfl,.inr ⟨w.heap.size+1,1,#[s],rfl,zaa,bM w _ _,K7 _,zag,rfl,rfl⟩⟩
theorem gG {w:World} {base nb c:Nat} (h:w.ownsRow base 9 1 (.slice nb l.length c) l.length (l.map Value.string)):qq w nb 0 l/\nb<w.heap.size/\l.length<=c:=by
 rcases h.2 with ⟨h',_⟩ | ⟨g,cap,cur,hv,hb,hg,h1,h2,h3,h4⟩
 ·cases h'
 ·simp only [Value.slice.injEq,Option.some.injEq,Addr.mk.injEq,and_true,true_and] at hv;obtain ⟨rfl,rfl⟩:=hv;refine ⟨fun i hi => ?_,(K6.1 hg).1,h1⟩;rw [Nq,Lb w nb i _ _ _ hg];have h5:(cur.toList.take (l.length*1))[i]?=(l.map Value.string)[i]?:=by rw [h4]
  rw [OP,Lg zaa] at h5;rw [<- MB,h5];simp [Ref.at',List.getD_eq_getElem?_getD,List.getElem?_eq_getElem hi]
theorem Fe:(Tryz.prog.info? 9).map (fun i=>(i.zero,i.size,i.bytes))=some (some ↑ByteArray.empty,1,16):=zab
theorem uj (s a:ByteArray) (d:Int) (w:World):() 354 #[.agg #[s,.int .u64 d,a]] w (tw [s,a] w):=by
 obtain ⟨i0,hi,hz0,hz1,hz2⟩:=MC Fe;have hb1:Below w w (w.alloc (.cells #[s,.int .u64 d,a] 331)):=(K9 _ _).alloc (K7 _) _;obtain ⟨W1,hW1⟩:∃ y,y=w.alloc (.cells #[s,.int .u64 d,a] 331):=⟨_,rfl⟩;have b0:W1.cell? w=some ↑s:=zaR;have b2:W1.cell? ⟨w,2,none⟩=some ↑a:=zaR;have hlw:w.heap.size<W1.heap.size:=zaR;go_enter func354,ntmps354
 go_upto_region 1 with fail
 change Code.wp _ _ _ _ (w.alloc (.cells #[s,.int .u64 d,a] 331));rw [<- hW1] at hb1 ⊢;clear hW1;have hbs:=hb1.size;refine Lq (S:=(fun W=>W.cell? w=some ↑s/\W.cell? ⟨w,2,none⟩=some ↑a)) zab ⟨b0,b2⟩ (fun u0 => ?_);refine tH 0 w rfl u0 ?_;refine tH 1 w rfl u0 ?_;refine tH 2 (.agg #[s]) rfl u0 ?_;refine tH 4 (.pointer (some ⟨w,2,none⟩)) rfl u0 ?_;refine tH 5 (.string a) rfl u0 ?_;refine yH [3,6] ?_;refine LP rfl (fun K hK => ?_) (LP rfl (fun K hK => ?_) MA)
 ·go_simp;refine (fo s _).mono ?_;rintro e w2 ⟨nb,c2,rfl,hown,hb2⟩;have hb2':Below W1 W1 w2:=((K9 _ _).drew).trans hb2;have k0:=(Ln (w:=W1) (w':=w2) (a:=⟨w,0,none⟩) (hb2'.block _ hlw)).trans b0;have k2:=(Ln (w:=W1) (w':=w2) (a:=⟨w,2,none⟩) (hb2'.block _ hlw)).trans b2;have hlw2:w.heap.size<w2.heap.size:=Lu hlw hb2'.size;dsimp only;refine hK.out _ _ ⟨k0,k2⟩ (fun u0 => ?_);clear hK K;refine zH 6 rfl fun K hK => ?_;go_simp;refine hK.out _ _ zal (fun u0 => ?_);clear hK K;refine zH 7 rfl fun K hK => ?_;have hown':=aD hown (show w.heap.size<=W1.heap.size from hbs);refine step_append_lies _ zae _ _ _ zae w.heap.size 9 i0 _ 1 16 underlying31 hi hz0 hz1 hz2 rfl zac (.slice nb 1 c2) 1 [s] zae (Nn hown' _) ⟨w2,0,none⟩ 1 1 [a] zae zae (World.news_of_block (cs:=#[a]) (t:=9) (fr:=(0,0)) (Lf w2 _)) zao zaa zag zaa zaf (w2.heap.size+1) zad ?_;intro g5 cap5 w5 hown5 hgrow hat hlt5;have HNB:Hid (some w.heap.size≠Value.ownBlock (.slice nb 1 c2)):=fun e=>by
   have h1:=(LL hown _ e.symm).1;have h2:W1.drew.heap.size=W1.heap.size:=rfl;omega
  have k0:=((hgrow.cell_far ⟨w,0,none⟩ zaf HNB.out).trans (((K9 w2 w2).alloc (K7 _) _).cell (p:=⟨w,0,none⟩) hlw2)).trans k0;have k2:=((hgrow.cell_far ⟨w,2,none⟩ zaf HNB.out).trans (((K9 w2 w2).alloc (K7 _) _).cell (p:=⟨w,2,none⟩) hlw2)).trans k2;have HB5:Hid (Below w w w5):=((hb1.trans (hb2'.mono hbs)).alloc zaa _).grown hgrow zaf (fun k h=>by have:=(LL hown' k h).1;exact this);exact zdB
 ·go_simp;refine hK.out _ _ zal (fun u0 => ?_);clear hK K;refine zH 3 rfl fun K hK => ?_;go_simp;refine (fo s _).mono ?_;rintro e w2 ⟨nb,c2,rfl,hown,hb2⟩;have hbW:Below W1 W1 ((W1.drew).alloc (.cells #[a] 9)):=((K9 _ _).drew).alloc (K7 _) _;have hbl:W1.heap.size<((W1.drew).alloc (.cells #[a] 9)).heap.size:=zad;have hb2':Below W1 W1 w2:=hbW.trans (hb2.mono hbW.size);have hel:w2.heap[W1.heap.size]?=some (.cells #[a] 9 (0,0)):=(hb2.block _ hbl).trans (Lf _ _);have k0:=(Ln (w:=W1) (w':=w2) (a:=⟨w,0,none⟩) (hb2'.block _ hlw)).trans b0;have k2:=(Ln (w:=W1) (w':=w2) (a:=⟨w,2,none⟩) (hb2'.block _ hlw)).trans b2;have hlw2:w.heap.size<w2.heap.size:=Lu hlw hb2'.size;have hszl:W1.heap.size<=((W1.drew).alloc (.cells #[a] 9)).heap.size:=P1 hbl;dsimp only;refine hK.out _ _ ⟨k0,k2⟩ (fun u0 => ?_);clear hK K;refine zH 7 rfl fun K hK => ?_;have hown':=aD hown (show w.heap.size<=((W1.drew).alloc (.cells #[a] 9)).heap.size by omega);refine step_append_lies _ zae _ _ _ zae w.heap.size 9 i0 _ 1 16 underlying31 hi hz0 hz1 hz2 rfl zac (.slice nb 1 c2) 1 [s] zae hown' ⟨W1,0,none⟩ 1 1 [a] zae zae (World.news_of_block (cs:=#[a]) (t:=9) (fr:=(0,0)) hel) zao zaa zag zaa zaa w2.heap.size rfl ?_;intro g5 cap5 w5 hown5 hgrow hat hlt5;have HNB:Hid (some w.heap.size≠Value.ownBlock (.slice nb 1 c2)):=fun e=>by
   have h1:W1.heap.size+1<=w.heap.size:=by simpa using (LL hown _ e.symm).1
   omega
  have k0:=(hgrow.cell_far ⟨w,0,none⟩ hlw2 HNB.out).trans k0;have k2:=(hgrow.cell_far ⟨w,2,none⟩ hlw2 HNB.out).trans k2;have HB5:Hid (Below w w w5):=(hb1.trans (hb2'.mono hbs)).grown hgrow zaa (fun k h=>by have:=(LL hown' k h).1;exact this);exact zdB
def dW (tm:Bool) (num:Int) (l:List ByteArray) (w:World) (e:Ending) (w':World):Prop:=if tm&&Pro.fQ l then aW 4 num w e w' else e = .returned (.tuple #[])/\Below w w w'
theorem bs (db:Nat) (num dep:Int) (tm:Bool) (l:List ByteArray) (nb c:Nat) (w:World) (hd:w.cell? ⟨db,4,none⟩=some (.bool tm)) (hs:qq w nb 0 l) (hnb:nb<w.heap.size) (hl:l.length<=10) :
  () 365 #[db,.agg #[(num:Int),(dep:Int)],.slice nb l.length c] w (dW tm num l w):=by
 have hdl:=LC _ _ hd;have HS:Hid _:=hs;clear hs;go_enter func365,ntmps365;go_wp2
 go_loop [10] (fun i=>∃ k:Nat,k<=l.length/\i = .int .i64 k/\(tm&&Pro.fQ (l.take k))=false) (fun i=>l.length-(intOf i).toNat)
 case atStart=>exact ⟨0,Lk _,rfl,by cases tm <;> rfl⟩
 case round =>
  obtain ⟨k,hk,rfl,hno⟩:=hrel;by_cases hkn:k<l.length
  ·have ck:w.cell? ⟨nb,k,none⟩=some (.string l[k]):=by
    have:=HS.out k hkn;simpa [Ref.at',List.getD_eq_getElem?_getD,List.getElem?_eq_getElem hkn] using this
   obtain ⟨x,hx⟩:∃ x,x=l[k]:=⟨_,rfl⟩;rw [<- hx] at ck;have HN:Hid (Pro.fQ (l.take (k+1))=(Pro.fQ (l.take k)||Ref.b8 x Ref.bI)):=by
    unfold Hid Pro.fQ;rw [ML,K8 hkn,Ot,<- hx];simp
   have HNo:Hid _:=hno;clear hno hx;cases tm with
   | false =>
    go_wp2
    go_round
    case rel=>exact ⟨k+1,zaa,zah,rfl⟩
    case measure=>simp [intOf];omega
   | true =>
    go_wp2_with fail;refine (strings_HasPrefix x Ref.bI _).mono ?_;rintro e w9 ⟨rfl,hw9⟩;rw [hw9,fZ];clear hw9 w9;cases hb:Ref.b8 x Ref.bI with
    | false =>
     have HN2:Hid (Pro.fQ (l.take (k+1))=false):=by
      have:=HNo.out;unfold Hid;rw [HN.out,hb];simpa using this
     clear hb;dsimp only;go_wp2
     go_round
     case rel=>exact ⟨k+1,zaa,zah,by rw [HN2.out];rfl⟩
     case measure=>simp [intOf];omega
    | true =>
     have HT:Hid (Pro.fQ l=true):=by
      have h1:Pro.fQ (l.take (k+1))=true:=by rw [HN.out,hb];simp
      unfold Pro.fQ at h1;exact zd7
     clear hb;dsimp only;go_wp2_with fail;refine (aT num dep 4 _).mono ?_;rintro e w2 ⟨hb,b,h5,h6,rfl⟩;dsimp only;refine ⟨rfl,?_⟩;unfold dW;rw [HT.out,Lg zae];exact ⟨((K9 w w).alloc (K7 _) _).trans (hb.mono zad),b,by simp at h5;omega,h6,rfl⟩
  ·have hkl:k=l.length:=zaa;have HF:Hid ((tm&&Pro.fQ l)=false):=by
    exact zfg
   clear hno;go_wp2;go_end0;unfold dW;rw [HF.out];exact ⟨rfl,(K9 _ _).alloc (K7 _) _⟩
theorem Iy (a:Value) (w:World):(method 599 435 (.agg #[a]) "Names").run prog w = .ok (348,.agg #[a]) w:=zab
theorem Iw (a:Value) (w:World):(method 599 333 (.agg #[a]) "Names").run prog w = .ok (348,.agg #[a]) w:=zab
theorem Iz (a b:Value) (w:World):(method 599 329 (.agg #[a, b]) "Names").run prog w = .ok (348,.agg #[a]) w:=zab
theorem Iu (a b c:Value) (w:World):(method 599 331 (.agg #[a,b, c]) "Names").run prog w = .ok (354,.agg #[a,b,c]) w:=zab
theorem CE (x:Ref.Act):(bf x = .iface 435 (.agg #[x.event])/\Pro.iW x=[x.event])\/(bf x = .iface 333 (.agg #[x.id])/\Pro.iW x=[x.id])\/(bf x = .iface 329 (.agg #[x.event,.int .u64 x.delay])/\Pro.iW x=[x.event])\/(bf x = .iface 331 (.agg #[x.event,.int .u64 x.delay,x.id])/\Pro.iW x=[x.event,x.id]):=by
 unfold bf Pro.iW;cases h1:(x.how.toList == Ref.eK)
 ·cases h2:(x.how.toList == Ref.eE)
  ·simp only [Bool.false_eq_true,if_false];by_cases h3:x.id.size=0
   ·rw [Lg h3,Lg h3];exact .inr (.inr (.inl ⟨rfl,rfl⟩))
   ·rw [Ld h3,Ld h3];exact .inr (.inr (.inr ⟨rfl,rfl⟩))
  ·simp only [Bool.false_eq_true,if_false,if_true];exact .inr (.inl ⟨zaL,zaL⟩)
 ·simp only [if_true];exact .inl ⟨zaL,zaL⟩
def di (tm:Bool) (num:Int) (A:List Ref.Act) (w:World) (e:Ending) (w':World):Prop:=if tm&&Ref.bX A then aW 4 num w e w' else e = .returned (.tuple #[])/\Below w w w'
theorem jr (db:Nat) (num dep:Int) (tm:Bool) (A:List Ref.Act) (a:Option Addr) (n c:Nat) (w:World) (hd:w.cell? ⟨db,4,none⟩=some (.bool tm)) (hA:w.ownsRow 0 324 1 (.slice a n c) A.length (A.map bf)) (hS:∀ x∈A,Pro.Shape x) (hl:A.length<=100000) :
  () 366 #[db,.agg #[(num:Int),(dep:Int)],.slice a n c] w (di tm num A w):=by
 have hdl:=LC _ _ hd;have hn:n=A.length:=by
  rcases hA.2 with ⟨h,h0⟩ | ⟨g,cap,cur,h,_⟩
  ·simp at h;rw [h0];exact h.2.1
  ·simp at h;exact h.2.1
 subst hn;have HC:Hid (∀ k (hk:k<A.length),∃ ab,a=some ⟨ab,0,none⟩/\w.cell? ⟨ab,k,none⟩=some (bf A[k])/\A.length<=c):=fun k hk=>by
  rcases hA.2 with ⟨_,h0⟩ | ⟨g,cap,cur,h,_,hg,hle,_,_,h4⟩
  ·omega
  ·simp at h;refine ⟨g,h.1,?_,by rw [h.2];exact hle⟩;rw [Lb w g k _ _ _ hg];have h5:(cur.toList.take (A.length*1))[k]?=(A.map bf)[k]?:=by rw [h4]
   rw [OP,Lg zaa] at h5;rw [<- MB,h5];simp [List.getElem?_eq_getElem hk]
 have HSh:Hid _:=hS;clear hA hS;go_enter func366,ntmps366;go_wp2
 go_loopg [10] A.length (fun q i wr=>∃ k:Nat,q=A.length-k/\k<=A.length/\i = .int .i64 k/\(tm&&Ref.bX (A.take k))=false/\Below w w wr/\wr.heap[w.heap.size]?=some (.cells #[(num:Int),(dep:Int)] 286 (0,0)))
 case atStart=>exact ⟨0,rfl,Lk _,rfl,by cases tm <;> rfl,(K9 _ _).alloc (K7 _) _,Lf _ _⟩
 case round =>
  obtain ⟨k,hq,hk,rfl,hno,hbr,hbx⟩:=hrel;have hbs:=hbr.size;have hlw:=(K6.1 hbx).1;by_cases hkn:k<A.length
  ·obtain ⟨ab,ha,ck,hcc⟩:=HC.out k hkn;subst ha;have hab:=LC _ _ ck;obtain ⟨x,hx⟩:∃ x,x=A[k]:=⟨_,rfl⟩;have cr:wr.cell? ⟨ab,k,none⟩=some (bf x):=by rw [hx];exact (Ln (w:=w) (hbr.block ab hab)).trans ck
   have b0:wr.cell? w=some ↑(num:Int):=by rw [Lb wr _ _ _ _ _ hbx];rfl
   have b1:wr.cell? ⟨w,1,none⟩=some ↑(dep:Int):=by rw [Lb wr _ _ _ _ _ hbx];rfl
   have HN:Hid (Ref.bX (A.take (k+1))=(Ref.bX (A.take k)||Pro.fQ (Pro.iW x))):=by
    unfold Hid Ref.bX;rw [ML,K8 hkn,Ot,<- hx,Pro.Bi (HSh.out x (by rw [hx];exact L9 hkn))];simp
   have HT:Hid (Ref.bX (A.take (k+1))=true->Ref.bX A=true):=by
    intro h;unfold Ref.bX at h ⊢;rw [NJ] at h ⊢;obtain ⟨y,hy,hy2⟩:=h;exact ⟨y,NO hy,hy2⟩
   have HNo:Hid _:=hno;have HD:Hid (∀ w2,Below wr wr w2->w2.cell? ⟨db,4,none⟩=some (.bool tm)/\w2.heap[w.heap.size]?=some (.cells #[(num:Int),(dep:Int)] 286 (0,0))/\w2.cell? w=some ↑(num:Int)/\w2.cell? ⟨w,1,none⟩=some ↑(dep:Int)/\Below w w w2):=by
    intro w2 hb2;have hx2:=(hb2.block _ hlw).trans hbx;have hb3:=hbr.trans (hb2.mono hbs);exact ⟨(Ln (w:=w) (hb3.block db hdl)).trans hd,hx2,by rw [Lb w2 _ _ _ _ _ hx2];rfl,by rw [Lb w2 _ _ _ _ _ hx2];rfl,hb3⟩
   clear hno hx ck
   rcases CE x with ⟨hv,hnm⟩ | ⟨hv,hnm⟩ | ⟨hv,hnm⟩ | ⟨hv,hnm⟩
   ·rw [hv] at cr;rw [hnm] at HN;clear hv hnm;have hmN:=Iy
    go_upto_region 4 with fail
    refine MX zab ?_;change wpAny _ _ _ _ _ _ _ (World.drew _);refine tA 0 db rfl ?_;refine tA 2 (.iface 435 (.agg #[x.event])) rfl ?_;exact za1
   ·rw [hv] at cr;rw [hnm] at HN;clear hv hnm;have hmN:=Iw
    go_upto_region 4 with fail
    refine MX zab ?_;change wpAny _ _ _ _ _ _ _ (World.drew _);refine tA 0 db rfl ?_;refine tA 2 (.iface 333 (.agg #[x.id])) rfl ?_;refine yA [1,3] ?_;refine Le rfl (fun K hK => ?_) (Le rfl (fun K hK => ?_) Lx)
    ·go_simp;refine hK _ _ ?_;clear hK K;refine zA 3 rfl fun K hK => ?_;go_simp;refine Lh (fo x.id _) ?_;rintro e w2 ⟨nb,c2,rfl,hown,hb2⟩;have hb2':Below wr wr w2:=((K9 _ _).drew).trans hb2;obtain ⟨e4,hx2,e0,e1,hbw2⟩:=HD.out w2 hb2';obtain ⟨hst,hnbl,_⟩:=gG (l:=[x.id]) hown;dsimp only;exact zcF
    ·go_simp;refine Lh (fo x.id _) ?_;rintro e w2 ⟨nb,c2,rfl,hown,hb2⟩;have hb2':Below wr wr w2:=((K9 _ _).drew).trans hb2;obtain ⟨e4,hx2,e0,e1,hbw2⟩:=HD.out w2 hb2';obtain ⟨hst,hnbl,_⟩:=gG (l:=[x.id]) hown;dsimp only;refine hK _ _ ?_;clear hK K;refine zA 1 rfl fun K hK => ?_;go_simp;exact zcF
   ·rw [hv] at cr;rw [hnm] at HN;clear hv hnm;have hmN:=Iz
    go_upto_region 4 with fail
    refine MX zab ?_;change wpAny _ _ _ _ _ _ _ (World.drew _);refine tA 0 db rfl ?_;refine tA 2 (.iface 329 (.agg #[x.event,.int .u64 x.delay])) rfl ?_;exact za1
   ·rw [hv] at cr;rw [hnm] at HN;clear hv hnm;have hmN:=Iu
    go_upto_region 4 with fail
    refine MX zab ?_;change wpAny _ _ _ _ _ _ _ (World.drew _);refine tA 0 db rfl ?_;refine tA 2 (.iface 331 (.agg #[x.event,.int .u64 x.delay,x.id])) rfl ?_;refine yA [1,3] ?_;refine Le rfl (fun K hK => ?_) (Le rfl (fun K hK => ?_) Lx)
    ·go_simp;refine hK _ _ ?_;clear hK K;refine zA 3 rfl fun K hK => ?_;go_simp;refine Lh (uj x.event x.id x.delay _) ?_;rintro e w2 ⟨nb,c2,rfl,hown,hb2⟩;have hb2':Below wr wr w2:=((K9 _ _).drew).trans hb2;obtain ⟨e4,hx2,e0,e1,hbw2⟩:=HD.out w2 hb2';obtain ⟨hst,hnbl,_⟩:=gG (l:=[x.event,x.id]) hown;dsimp only;exact zcE
    ·go_simp;refine Lh (uj x.event x.id x.delay _) ?_;rintro e w2 ⟨nb,c2,rfl,hown,hb2⟩;have hb2':Below wr wr w2:=((K9 _ _).drew).trans hb2;obtain ⟨e4,hx2,e0,e1,hbw2⟩:=HD.out w2 hb2';obtain ⟨hst,hnbl,_⟩:=gG (l:=[x.event,x.id]) hown;dsimp only;refine hK _ _ ?_;clear hK K;refine zA 1 rfl fun K hK => ?_;go_simp;exact zcE
  ·have hkl:k=A.length:=zaa;have HF:Hid ((tm&&Ref.bX A)=false):=by
    exact zfg
   clear hno;go_wp2;go_end0;unfold di;rw [HF.out];exact ⟨rfl,hbr⟩
variable {w0 w:World} {db mb nm:Nat} {sv pv ov:Ref.Sl} {tm:Bool} {X:List Pro.DS} {SP:List (Int×Int)} {O:List Nat} {PT:Nat->List Nat} {D:DataW Nat}
def iT (D:DataW Nat) (n:ByteArray):Option Int:=match D.atKey (.string n.data.toList) (.lit (.int .i64 0)) with
 | .lit (.int .i64 c)=>some c
 | _=>none
def uZ (D:DataW Nat) (nme:ByteArray) (num:Int) (w:World) (e:Ending) (w':World):Prop:=if iT D nme=some num then e = .returned (.tuple #[])/\Below w w w' else aW 4 num w e w'
theorem sh (num dep kd:Int) (nme:ByteArray) (G:al w0 w db sv pv ov mb tm X SP O PT nm D) (hs:nme.size<=1000000) :
  () 358 #[.agg #[(num:Int),(dep:Int),(kd:Int),nme],db] w (uZ D nme num w):=by
 have hdl:=G.dlt;have hb1:Below w w (w.alloc (.cells #[(num:Int),(dep:Int),(kd:Int),nme] 376)):=(K9 _ _).alloc (K7 _) _;obtain ⟨_,_,_,c3,_⟩:=(G.aq hb1).cells;obtain ⟨W1,hW1⟩:∃ y,y=w.alloc (.cells #[(num:Int),(dep:Int),(kd:Int),nme] 376):=⟨_,rfl⟩;have b0:W1.cell? w=some ↑(num:Int):=zaR;have b1:W1.cell? ⟨w,1,none⟩=some ↑(dep:Int):=zaR;have b3:W1.cell? ⟨w,3,none⟩=some ↑nme:=zaR;have law:Go.Maps.Keyed prog 9:=Ox underlying9;have zeroE:∀ w:World,(zeroValue 3).run prog w = .ok (.int .i64 0) w:=fun w=>zab;have hkey:keyOf prog 9 (.string nme)=some (.string nme.data.toList):=NV underlying9 zag;have hmapd:jm W1.drew mb nm D:=zcb;obtain ⟨cc,hrun,hat,_⟩:=hmapd.lookup_int law underlying228 underlying3 (zeroE _) hkey;have HF:Hid (iT D nme=some cc):=by unfold Hid iT;rw [hat]
 rw [<- hW1] at c3 hb1;go_enter func358,ntmps358
 go_upto_region 1 with fail
 change Code.wp _ _ _ _ (w.alloc (.cells #[(num:Int),(dep:Int),(kd:Int),nme] 376));rw [<- hW1];clear hW1 hat;have hbs:=hb1.size;refine Lq (S:=(fun W=>W.cell? ⟨db,3,none⟩=some (.map (some mb))/\W.cell? w=some ↑(num:Int)/\W.cell? ⟨w,3,none⟩=some ↑nme)) zab ⟨c3,b0,b3⟩ (fun u0 => ?_);refine tH 0 db rfl u0 ?_;refine tH 1 db rfl u0 ?_;refine tH 2 (.pointer (some ⟨db,3,none⟩)) rfl u0 ?_;refine tH 3 (.map (some mb)) rfl u0 ?_;refine tH 4 (.pointer (some ⟨w,3,none⟩)) rfl u0 ?_;refine tH 5 (.string nme) rfl u0 ?_;refine tH 7 w rfl u0 ?_;refine tH 8 w rfl u0 ?_;refine tH 9 (.int .i64 num) rfl u0 ?_;refine zH 6 rfl fun K hK => ?_;go_simp;refine hK.out _ _ u0 (fun u0 => ?_);clear hK K hrun;by_cases hcc:cc=num
 ·subst hcc;refine zH 10 rfl fun K hK => ?_;go_simp;refine hK.out _ _ u0 (fun u0 => ?_);clear hK K;refine Ly zab ?_ _;go_wp2;go_end0;unfold uZ;rw [HF.out,Lg rfl];exact ⟨rfl,hb1.drew⟩
 ·have hne:(cc != num)=true:=by simpa using hcc
  refine zH 10 rfl fun K hK => ?_;go_simp;refine hK.out _ _ u0 (fun u0 => ?_);clear hK K;refine Ly zab ?_ _;go_wp2_with fail;refine (aT num dep 4 _).mono ?_;rintro e w2 ⟨hb,b,h5,h6,rfl⟩;dsimp only;refine ⟨rfl,?_⟩;unfold uZ;rw [HF.out,Ld (by simpa using hcc)];exact ⟨hb1.drew.trans (hb.mono hbs),b,La hbs h5,h6,rfl⟩
theorem km (num dep:Int) (A:List Ref.Act) (a:Option Addr) (n c:Nat) (G:al w0 w db sv pv ov mb tm X SP O PT nm D) (hA:w0.ownsRow 0 324 1 (.slice a n c) A.length (A.map bf)) (hS:∀ x∈A,Pro.Shape x) (hl:A.length<=100000) :
  () 368 #[.agg #[(num:Int),(dep:Int),.slice a n c],db] w (di tm num A w):=by
 have hb1:Below w w (w.alloc (.cells #[(num:Int),(dep:Int),.slice a n c] 384)):=(K9 _ _).alloc (K7 _) _;have G1:=G.aq hb1;obtain ⟨_,_,_,_,c4⟩:=G1.cells;have hA1:=aY hA (G1.bel);have HC:Hid (∀ W:World,W=w.alloc (.cells #[(num:Int),(dep:Int),.slice a n c] 384)->() 366 #[db,.agg #[(num:Int),(dep:Int)],.slice a n c] W (di tm num A W)):=by
  rintro W rfl;exact jr db num dep tm A a n c _ c4 hA1 hS hl
 clear G1 c4 hA1;go_enter func368,ntmps368;go_wp2_with fail;refine Lh (HC.out _ rfl) ?_;rintro e w2 h2;unfold di at h2;cases hm:(tm&&Ref.bX A) with
 | true =>
  rw [hm,Lg rfl] at h2;obtain ⟨hb,b,h5,h6,rfl⟩:=h2;dsimp only;refine ⟨rfl,?_⟩;unfold di;rw [hm,Lg rfl];exact ⟨hb1.trans (hb.mono hb1.size),b,La hb1.size h5,h6,rfl⟩
 | false =>
  rw [hm,Ld zad] at h2;obtain ⟨rfl,hb2⟩:=h2;have HM:Hid _:=hm;clear hm;dsimp only;go_wp2;go_end0;unfold di;rw [HM.out,Ld zad];exact ⟨rfl,hb1.trans (hb2.mono hb1.size)⟩
def jZ (D:DataW Nat) (tm:Bool) (m:Ref.Move):Bool:=(!m.to.toList.isEmpty && !Go.Maps.has D (.string m.to.data.toList))||(tm&&(Ref.bX m.ax||(!m.after&&Ref.b8 m.event Ref.bI)))
def fY (D:DataW Nat) (tm:Bool) (m:Ref.Move) (num:Int) (w:World) (e:Ending) (w':World):Prop:=if jZ D tm m then aW 4 num w e w' else e = .returned (.tuple #[])/\Below w w w'
theorem sZ (num:Int) (dep:Nat) (y:Pro.PV) (G:al w0 w db sv pv ov mb tm X SP O PT nm D) (hs:y.m.to.size<=1000000) (hA:w0.ownsRow 0 324 1 y.v.v y.m.ax.length (y.m.ax.map bf)) (hS:∀ x∈y.m.ax,Pro.Shape x) (hl:y.m.ax.length<=100000) :
  () 363 #[.agg (da num dep y),db] w (fY D tm y.m num w):=by
 have hdl:=G.dlt;have hb1:Below w w (w.alloc (.cells (da num dep y) 380)):=(K9 _ _).alloc (K7 _) _;obtain ⟨_,_,_,c3,_⟩:=(G.aq hb1).cells;obtain ⟨W1,hW1⟩:∃ z,z=w.alloc (.cells (da num dep y) 380):=⟨_,rfl⟩;have hbx:W1.heap[w.heap.size]?=some (.cells (da num dep y) 380 (0,0)):=by rw [hW1];exact Lf _ _
 have HBx:Hid (∀ W2,Below W1 W1 W2->W2.cell? w=some ↑(num:Int)/\W2.cell? ⟨w,1,none⟩=some ↑(dep:Int)/\W2.cell? ⟨w,2,none⟩=some ↑y.m.event/\W2.cell? ⟨w,3,none⟩=some (.bool y.m.after)/\W2.cell? ⟨w,5,none⟩=some ↑y.m.to/\W2.cell? ⟨w,6,none⟩=some (.slice y.v.a y.v.n y.v.c)):=by
  intro W2 hb2;have h2:=(hb2.block _ (K6.1 hbx).1).trans hbx;refine ⟨?_,?_,?_,?_,?_,?_⟩ <;> rw [Lb W2 _ _ _ _ _ h2] <;> rfl
 have HA:Hid (∀ W2,Below W1 W1 W2->() 366 #[db,.agg #[(num:Int),(dep:Int)],.slice y.v.a y.v.n y.v.c] W2 (di tm num y.m.ax W2)):=by
  intro W2 hb2;have G2:=(G.aq hb1).aq (by rw [<- hW1];exact hb2);obtain ⟨_,_,_,_,c4⟩:=G2.cells;exact jr db num dep tm y.m.ax _ _ _ _ c4 (aY hA G2.bel) hS hl
 have HR:Hid (∀ W2,Below W1 W1 W2->() 365 #[db,.agg #[(num:Int),(dep:Int)],.slice (some ⟨W2.heap.size,0,none⟩) 1 1] (W2.alloc (.cells #[y.m.event] 9)) (dW tm num [y.m.event] (W2.alloc (.cells #[y.m.event] 9)))):=by
  intro W2 hb2;have G2:=((G.aq hb1).aq (by rw [<- hW1];exact hb2)).aq ((K9 _ W2).alloc (K7 _) (.cells #[y.m.event] 9));obtain ⟨_,_,_,_,c4⟩:=G2.cells;exact bs db num dep tm [y.m.event] W2.heap.size 1 _ c4 (sy (l:=[y.m.event]) (Lf W2 _)) zad zad
 have law:Go.Maps.Keyed prog 9:=Ox underlying9;have zeroE:∀ w:World,(zeroValue 3).run prog w = .ok (.int .i64 0) w:=fun w=>zab;have hkey:keyOf prog 9 (.string y.m.to)=some (.string y.m.to.data.toList):=NV underlying9 zag;have hmapd:jm W1.drew mb nm D:=zcb;obtain ⟨vv,ps,hrun,hvv⟩:=hmapd.look_ok law underlying228 (zeroE _) (PR underlying3 zac) hkey;obtain ⟨cc,rfl,_,_⟩:=plainElem_int_inv underlying3 hvv;clear hvv hA hS;rw [<- hW1] at c3 hb1;obtain ⟨b0,b1,b2,b3,b5,b6⟩:=HBx.out W1 (K9 _ _);have hbs:=hb1.size;unfold da at hW1 ⊢;go_enter func363,ntmps363
 go_upto_region 1 with fail
 change Code.wp _ _ _ _ (w.alloc (.cells #[(num:Int),(dep:Int),y.m.event,y.m.after,.int .u64 y.m.delay,y.m.to,.slice y.v.a y.v.n y.v.c] 380));rw [<- hW1];clear hW1 G hbx;refine Lq (S:=(fun W=>W.cell? ⟨db,3,none⟩=some (.map (some mb))/\W.cell? ⟨w,5,none⟩=some ↑y.m.to)) zab ⟨c3,b5⟩ (fun u0 => ?_);refine tH 0 db rfl u0 ?_;refine tH 1 db rfl u0 ?_;refine tH 2 (.pointer (some ⟨db,3,none⟩)) rfl u0 ?_;refine tH 3 (.map (some mb)) rfl u0 ?_;refine tH 4 (.pointer (some ⟨w,2,none⟩)) rfl u0 ?_;refine tH 5 (.pointer (some ⟨w,5,none⟩)) rfl u0 ?_;refine tH 6 (.string y.m.to) rfl u0 ?_;refine zH 7 rfl fun K hK => ?_;go_simp;refine hK.out _ _ u0 (fun u0 => ?_);clear hK K;refine tH 8 (.tuple #[(cc:Int),.bool (Go.Maps.has D (.string y.m.to.data.toList))]) rfl u0 ?_;refine tH 9 (.int .i64 cc) rfl u0 ?_;refine tH 10 (.bool (Go.Maps.has D (.string y.m.to.data.toList))) rfl u0 ?_;refine tH 11 (.int .i64 cc) rfl u0 ?_;refine tH 12 (.bool (Go.Maps.has D (.string y.m.to.data.toList))) rfl u0 ?_;refine Ly zab ?_ _;clear hrun;obtain ⟨hs0,hhs⟩:∃ h,h=Go.Maps.has D (.string y.m.to.data.toList):=⟨_,rfl⟩;obtain ⟨te,hte⟩:∃ h,h=y.m.to.toList.isEmpty:=⟨_,rfl⟩;have HBad:Hid (jZ D tm y.m=((!te && !hs0)||(tm&&(Ref.bX y.m.ax||(!y.m.after&&Ref.b8 y.m.event Ref.bI))))):=by unfold Hid jZ;rw [hhs,hte]
 rw [<- hhs];have HTe:Hid _:=hte;clear hhs hte u0;have hbd:Below W1 W1 W1.drew:=(K9 _ _).drew;cases hs0 with
 | true =>
  exact zcs
 | false =>
  cases te with
  | true =>
   have hte':y.m.to.toList=[]:=NX.1 HTe.out.symm;have hte2:y.m.to.toList.isEmpty=true:=HTe.out.symm;exact zcs
  | false =>
   have hte2:y.m.to.toList.isEmpty=false:=HTe.out.symm;have hne:(y.m.to.toList == [])=false:=by
    cases h:y.m.to.toList with
    | nil=>rw [h] at hte2;cases hte2
    | cons a b=>rfl
   have HM:Hid (jZ D tm y.m=true):=by unfold Hid;rw [HBad.out];rfl
   go_wp2_with fail;refine (aT num dep 4 _).mono ?_;rintro e w2 ⟨hb,b,h5,h6,rfl⟩;have hbw:=hb1.trans (hbd.mono hbs);exact zfA
theorem Ac (p q:Addr) (w:World) :
  CallsD prog 105 #[.pointer (some p),.pointer (some q)] .returning w fun e u' w'=>e = .returned (.tuple #[])/\u' = .returning/\w'=w:=by
 refine callsD_of_wpS func105 rfl fun c₀ cs hu => ?_;apply wpS_seq
 apply wpS_region
 simp [wpOpsS,go_sem,recoverD,hu,ntmps105,Exit.thenS];refine wpS_of_wp ?_;go_wp2;cases c₀
 simp_all [bodyPostS,results,Tryz.results105]
theorem sR (f:Nat) (w:World):(Instr.typeAssert (.iface 218 (.agg #[f])) 20 218 true).run prog w = .ok (.tuple #[.agg #[f],true]) w:=zab
theorem bQ (p q:Nat) (a b:Value) (f:Nat) (older:List PanicEntry) (w:World) (hp:w.heap[p]?=some (.cells #[a] 165 (0,0))) (hq:w.heap[q]?=some (.cells #[b] 101 (0,0))) (hpq:p≠q) :
  CallsD prog 105 #[p,q] (.panicking ({ v := .iface 218 (.agg #[f]),recovered:=false }::older)) w fun e u' w' =>
   e = .returned (.tuple #[])/\u' = .panicking ({ v := .iface 218 (.agg #[f]),recovered:=true }::older)/\∃ W,Below w ((w.setCell p (.pointer none)).setCell q (.iface 159 f)) W/\w'=W:=by
 refine callsD_of_wpS func105 rfl fun c₀ cs hu => ?_;apply wpS_seq
 apply wpS_region
 simp [wpOpsS,go_sem,recoverD,hu,ntmps105,Exit.thenS];refine wpS_of_wp ?_;have hta:=sR f;have cp:w.cell? p=some a:=by rw [Lb w _ _ _ _ _ hp];rfl
 have cq:w.cell? q=some b:=by rw [Lb w _ _ _ _ _ hq];rfl
 have fp:w.frozen? ⟨p,0,none⟩=false:=zbO;have fq:w.frozen? ⟨q,0,none⟩=false:=by simp [World.frozen?,hq]
 have lp:=(K6.1 hp).1;have lq:=(K6.1 hq).1;have hqp:¬ q=p:=fun h=>hpq h.symm
 go_upto_region 7 with fail
 go_region
 all_goals (
  go_wp2;refine ⟨rfl,_,rfl,.tuple #[],by simp [results,Tryz.results105],rfl,rfl,?_⟩;exact ((K9 _ _).alloc zad _).drew)
