import Derived.Test.YtkgklodamkkpgaaGreatDoorM14
import Derived.Stop.Asserts
set_option maxRecDepth 100000
set_option maxHeartbeats 8000000
namespace Go.Proofs.YtkgklodamkkpgaaGreatDoor
variable {zp:Prop}
theorem zfB (h:zp:=by
 rw [hm,M6 rfl] at h3;have HM:Hid (kn D tm y.m=true):=by
  rw [NC] at hm;unfold Hid;rw [HBad.out,hm.1,hm.2];simp
 obtain ⟨hb,b,h5,h6,rfl⟩:=h3;dsimp only;refine ⟨rfl,?_⟩;unfold gx;rw [HM.out,M6 rfl];exact ⟨hbw.trans (hb.mono hbw.size),b,MX hbw.size h5,h6,rfl⟩):zp:=h
theorem zfC (h:zp:=by
 rw [hr,M6 rfl] at h3;have HM:Hid ((tm&&Ref.cd A)=true):=by
  rw [NC] at hr;unfold Hid;rw [hr.1,HT.out zay];rfl
 obtain ⟨hb,b,h5,h6,rfl⟩:=h3;dsimp only;refine ⟨rfl,?_⟩;unfold dt;rw [M6 HM.out];exact ⟨hbw2.trans (hb.mono hbw2.size),b,MX hbw2.size h5,h6,rfl⟩):zp:=h
theorem zfI (h:zp:=by
 unfold Hid;have h1:=HNo.out;rw [HN.out];cases tm with
 | false=>rfl
 | true=>simp only [Bool.true_and] at h1 hr ⊢;rw [h1,hr];rfl):zp:=h
theorem zfJ (h:zp:=by
 dsimp only;refine ⟨rfl,?_⟩;unfold gx;rw [HM.out,M6 rfl];exact ⟨hbw.trans (hb.mono hbw.size),b,MX hbw.size h5,h6,rfl⟩):zp:=h
theorem za4 (h:zp:=by
 refine yA [1,3] ?_;refine M5 rfl (fun K hK => ?_) (M5 rfl (fun K hK => ?_) Ns)
 ·go_simp;refine hK _ _ ?_;clear hK K;refine zA 3 rfl fun K hK => ?_;go_simp;refine M7 (fH x.event _) ?_;rintro e w2 ⟨nb,c2,rfl,hown,hb2⟩;have hb2':Below wr wr w2:=((MY _ _).drew).trans hb2;obtain ⟨e4,hx2,e0,e1,hbw2⟩:=HD.out w2 hb2';obtain ⟨hst,hnbl,_⟩:=gV (l:=[x.event]) hown;dsimp only;refine hK _ _ ?_;clear hK K;refine zA 4 rfl fun K hK => ?_;go_simp;have hq4:=bz db num dep tm [x.event] nb c2 w2 e4 hst hnbl zad;refine M7 hq4 ?_;rintro e w3 h3;unfold eo at h3;cases hr:(tm&&Pro.gn [x.event]) with
  | true =>
   exact zfC
  | false =>
   rw [hr,M4 zad] at h3;obtain ⟨rfl,hb3⟩:=h3;have HM:Hid ((tm&&Ref.cd (A.take (k+1)))=false):=by
    exact zfI
   have hbw3:=hbw2.trans (hb3.mono hbw2.size);have hbx3:=(hb3.block _ (MQ.1 hx2).1).trans hx2;clear hr;dsimp only;refine hK _ _ ?_;clear hK K;refine Oq zab ?_ _;go_wp2
   go_roundg (A.length-(k+1))
   case measure=>omega
   case rel=>exact ⟨k+1,rfl,zaa,zah,HM.out,hbw3,hbx3⟩
 ·go_simp;refine M7 (fH x.event _) ?_;rintro e w2 ⟨nb,c2,rfl,hown,hb2⟩;have hb2':Below wr wr w2:=((MY _ _).drew).trans hb2;obtain ⟨e4,hx2,e0,e1,hbw2⟩:=HD.out w2 hb2';obtain ⟨hst,hnbl,_⟩:=gV (l:=[x.event]) hown;dsimp only;refine hK _ _ ?_;clear hK K;refine zA 1 rfl fun K hK => ?_;go_simp;refine hK _ _ ?_;clear hK K;refine zA 4 rfl fun K hK => ?_;go_simp;have hq4:=bz db num dep tm [x.event] nb c2 w2 e4 hst hnbl zad;refine M7 hq4 ?_;rintro e w3 h3;unfold eo at h3;cases hr:(tm&&Pro.gn [x.event]) with
  | true =>
   exact zfC
  | false =>
   rw [hr,M4 zad] at h3;obtain ⟨rfl,hb3⟩:=h3;have HM:Hid ((tm&&Ref.cd (A.take (k+1)))=false):=by
    exact zfI
   have hbw3:=hbw2.trans (hb3.mono hbw2.size);have hbx3:=(hb3.block _ (MQ.1 hx2).1).trans hx2;clear hr;dsimp only;refine hK _ _ ?_;clear hK K;refine Oq zab ?_ _;go_wp2
   go_roundg (A.length-(k+1))
   case measure=>omega
   case rel=>exact ⟨k+1,rfl,zaa,zah,HM.out,hbw3,hbx3⟩):zp:=h
theorem zcv (h:zp:=by
 cases haf:y.m.after with
 | true =>
  have b3t:=b3;rw [haf] at b3t;have HAf:Hid _:=haf;clear haf b3;go_wp2_with fail;refine M7 (HA.out _ hbd) ?_;rintro e w3 h3;unfold dt at h3;have hbw:=hb1.trans (Below.mono hbd hbs);cases hm:(tm&&Ref.cd y.m.aw) with
  | true =>
   exact zfB
  | false =>
   rw [hm,M4 zad] at h3;obtain ⟨rfl,hb3⟩:=h3;have HM:Hid (kn D tm y.m=false):=by
    unfold Hid;rw [HBad.out];rw [HAf.out];cases tm with
     | false=>simp
     | true=>simp only [Bool.true_and] at hm;rw [hm];simp
   clear hm;dsimp only;go_wp2;go_end0;unfold gx;rw [HM.out,M4 zad];exact ⟨rfl,hbw.trans (hb3.mono hbw.size)⟩
 | false =>
  have b3t:=b3;rw [haf] at b3t;have HAf:Hid _:=haf;clear haf b3;go_wp2_with fail;refine M7 (HR.out _ hbd) ?_;rintro e w4 h4;unfold eo at h4;have hbe:Below W1 W1 ((W1.drew).alloc (.cells #[y.m.event] 9)):=hbd.alloc (MR _) _;have hresv:Pro.gn [y.m.event]=Ref.cB y.m.event Ref.bM:=by simp [Pro.gn]
  rw [hresv] at h4;cases hr:(tm&&Ref.cB y.m.event Ref.bM) with
  | true =>
   rw [hr,M6 rfl] at h4;have HM:Hid (kn D tm y.m=true):=by
    rw [NC] at hr;unfold Hid;rw [HBad.out,HAf.out,hr.1,hr.2];simp
   have hbw:=hb1.trans (hbe.mono hbs);obtain ⟨hb,b,h5,h6,rfl⟩:=h4;exact zfJ
  | false =>
   rw [hr,M4 zad] at h4;obtain ⟨rfl,hb4⟩:=h4;have hbd4:Below W1 W1 w4:=hbe.trans (hb4.mono hbe.size);obtain ⟨a0,a1,a2,a3,a5,a6⟩:=HBx.out w4 hbd4;have HRr:Hid _:=hr;clear hr hresv;dsimp only;go_wp2_with fail;refine M7 (HA.out _ hbd4) ?_;rintro e w3 h3;unfold dt at h3;have hbw:=hb1.trans (Below.mono hbd4 hbs);cases hm:(tm&&Ref.cd y.m.aw) with
   | true =>
    exact zfB
   | false =>
    rw [hm,M4 zad] at h3;obtain ⟨rfl,hb3⟩:=h3;have HM:Hid (kn D tm y.m=false):=by
     unfold Hid;rw [HBad.out];have hr:=HRr.out;rw [HAf.out];cases tm with
      | false=>simp
      | true=>simp only [Bool.true_and] at hm hr;rw [hm,hr];simp
    clear hm;dsimp only;go_wp2;go_end0;unfold gx;rw [HM.out,M4 zad];exact ⟨rfl,hbw.trans (hb3.mono hbw.size)⟩):zp:=h
theorem zcH (h:zp:=by
 refine hK _ _ ?_;clear hK K;refine zA 4 rfl fun K hK => ?_;go_simp;have hq4:=bz db num dep tm [x.event,x.id] nb c2 w2 e4 hst hnbl zad;refine M7 hq4 ?_;rintro e w3 h3;unfold eo at h3;cases hr:(tm&&Pro.gn [x.event,x.id]) with
 | true =>
  exact zfC
 | false =>
  rw [hr,M4 zad] at h3;obtain ⟨rfl,hb3⟩:=h3;have HM:Hid ((tm&&Ref.cd (A.take (k+1)))=false):=by
   exact zfI
  have hbw3:=hbw2.trans (hb3.mono hbw2.size);have hbx3:=(hb3.block _ (MQ.1 hx2).1).trans hx2;clear hr;dsimp only;refine hK _ _ ?_;clear hK K;refine Oq zab ?_ _;go_wp2
  go_roundg (A.length-(k+1))
  case measure=>omega
  case rel=>exact ⟨k+1,rfl,zaa,zah,HM.out,hbw3,hbx3⟩):zp:=h
theorem zcI (h:zp:=by
 refine hK _ _ ?_;clear hK K;refine zA 4 rfl fun K hK => ?_;go_simp;have hq4:=bz db num dep tm [x.id] nb c2 w2 e4 hst hnbl zad;refine M7 hq4 ?_;rintro e w3 h3;unfold eo at h3;cases hr:(tm&&Pro.gn [x.id]) with
 | true =>
  exact zfC
 | false =>
  rw [hr,M4 zad] at h3;obtain ⟨rfl,hb3⟩:=h3;have HM:Hid ((tm&&Ref.cd (A.take (k+1)))=false):=by
   exact zfI
  have hbw3:=hbw2.trans (hb3.mono hbw2.size);have hbx3:=(hb3.block _ (MQ.1 hx2).1).trans hx2;clear hr;dsimp only;refine hK _ _ ?_;clear hK K;refine Oq zab ?_ _;go_wp2
  go_roundg (A.length-(k+1))
  case measure=>omega
  case rel=>exact ⟨k+1,rfl,zaa,zah,HM.out,hbw3,hbx3⟩):zp:=h
theorem zc6 (h:zp:=by
 rw [hts] at h2;obtain ⟨rfl,DA2⟩:=h2;have HN:Hid (Ref.a8 (Ref.aN P n) (k+1)=some S'):=za9;have HP':Hid (0<S'.length):=HPos.out S' hts;have HD2:Hid _:=DA2;clear hts DA2;dsimp only;go_wp2
 go_roundg (n-(k+1))
 case measure=>omega
 case rel=>exact ⟨k+1,S',rfl,zaa,zah,HN.out,fun _=>HP'.out,(let ⟨_,_,_,_,_,_,_,_,G⟩:=HD2.out.mem;G.bel),HD2.out⟩):zp:=h
theorem zc7 (h:zp:=by
 rw [hts] at h2;have HN:Hid (Ref.a8 (Ref.aN P n) n=none/\Ref.gz (Ref.aN P n) n=k+1):=by
  have h1:Ref.a8 (Ref.aN P n) (k+1)=none:=zbk;exact ⟨fM h1 n zaa,Ref.jH zbq h1 n hkn⟩
 obtain ⟨hb,b,h5,h6,rfl⟩:=h2;dsimp only;refine ⟨rfl,?_⟩;unfold eD;rw [HN.out.1,HN.out.2];exact ⟨hbr.trans (hb.mono hbr.size),b,MX hbr.size h5,h6,rfl⟩):zp:=h
theorem zdv (h:zp:=by
 split at h
 ·cases h
 ·split at h
  ·cases h
  ·rename_i u hu;have:u<S.length:=eH S S.length u (Nc hu);split at h
   ·cases h
   ·split at h
    ·cases h
    ·cases h;unfold Ref.gq;rw [Nl];omega):zp:=h
theorem zdF (h:zp:=by
 refine hK.out _ _ ⟨k0,k2⟩ (fun u0 => ?_);clear hK K;refine tH 8 (.slice g5 2 cap5) rfl u0 ?_;refine Nt zab ?_ _;go_wp2;go_ret;exact ⟨g5,cap5,rfl,hown5,HB5.out⟩):zp:=h
theorem zeA (h:zp:=by
 split at h
 ·cases h
 ·obtain ⟨q,h1,h2⟩:=Nv.1 h;cases h2;trivial):zp:=h
theorem zeR (h:zp:=by
 obtain ⟨⟨A,r'⟩,h1,h2⟩:=Nv.1 h;cases h2;exact uL h1):zp:=h
theorem zay (h:zp:=by rw [HN.out,hr.2];simp):zp:=h
theorem zaU (h:zp:=by rw [hW1];simp):zp:=h
theorem za9 (h:zp:=by unfold Hid;rw [HSt.out];exact hts):zp:=h
theorem zbk (h:zp:=by rw [HSt.out];exact hts):zp:=h
theorem zbq (h:zp:=by rw [HS.out];rfl):zp:=h
theorem zce (h:zp:=by rw [hW1];exact bJ (e:=0) (G.ao hb1).map (cG (MY _ _).drew)):zp:=h
open Tryz
variable {l r P:List ByteArray} {n k:Nat} {L:Pro.PL}
section
open Go.RowKit
namespace Pro
def Good:PL->Prop
 | .state k n=>0<=k/\k<=4/\n.size<=8
 | .move _ _ _ _ _=>True
 | .enter A=>A≠[]
 | .leave A=>A≠[]
theorem iQ {s:ByteArray} (h:Ref.plain s=true):s.size<=8:=by
 rw [Ref.plain,NC,NC,P7,P7] at h;exact h.2.2
theorem uL {A:List Ref.Act} (h:cI l=some (A,r)):A≠[]:=by
 unfold cI at h;split at h
 ·cases h
 ·cases h
 ·cases h;simp
theorem Ee {n:ByteArray} {k:Int} (h:de l=some ((n,k),r)):0<=k/\k<=4/\n.size<=8:=by
 unfold de at h;split at h
 ·cases h
 ·rename_i hq;cases h
  exact ⟨zac,zac,iQ (gX hq).1⟩
 ·rename_i hq;split at h
  ·cases h;exact ⟨zac,zac,iQ (gX hq).1⟩
  ·cases h;exact ⟨zac,zac,iQ (gX hq).1⟩
theorem Ex {num:Nat} {l r:List ByteArray} {L:PL} (h:bj num l=some (L,r)):Good L:=by
 cases l with
 | nil=>cases h
 | cons x t =>
  rw [bj] at h;have st:∀ k:Int,0<=k->k<=4->((pOf Ref.plain t).map fun q=>(PL.state k q.1,q.2))=some (L,r)->Good L:=by
   intro k h0 h4 h;obtain ⟨⟨n,r'⟩,h1,h2⟩:=Nv.1 h;cases h2
   exact ⟨h0,h4,iQ (gX h1).1⟩
  split at h
  ·exact st 0 zac zac h
  ·split at h
   ·exact st 1 zac zac h
   ·split at h
    ·exact st 2 zac zac h
    ·split at h
     ·obtain ⟨⟨⟨n,k⟩,r'⟩,h1,h2⟩:=Nv.1 h;cases h2
      exact Ee h1
     ·split at h
      ·exact zeA
      ·split at h
       ·exact zeA
       ·split at h
        ·exact zeR
        ·split at h
         ·exact zeR
         ·cases h
theorem nC {num:Nat} (h:bk num l=some L):Good L:=by
 unfold bk at h;split at h
 ·rename_i L' h1;cases h
  exact Ex h1
 ·cases h
theorem step_pos {S S':List Ref.State} {i num d:Nat} {L:PL} (hI:Inv S i) (h:Ref.bA S i (aE num L) (d:Int)=some S'):0<S'.length:=by
 cases L with
 | state k n =>
  rw [td] at h;split at h
  ·cases h
  ·split at h
   ·cases h;simp
   ·cases h
 | move ev af dl t A =>
  rw [vP hI] at h;split at h
  ·cases h
  ·split at h
   ·cases h
   ·rename_i u hu;split at h
    ·cases h
    ·have:u<S.length:=eH S S.length u (Nc hu);cases h;unfold Ref.gq;rw [Nl];omega
 | enter A =>
  rw [sZ hI] at h;exact zdv
 | leave A =>
  rw [s9 hI] at h;exact zdv
end Pro
theorem zI (hk:k<n) (h:Pro.bk (k+1) (Pro.wl P k)=some L):(Ref.aN P n)[k]?=some (Pro.aE (k+1) L,(Ref.dc (Ref.pc P k):Int)):=by
 unfold Ref.aN;rw [Nf,Rt hk,Option.map_some,Pro.p8 h]
theorem Aw {S:List Ref.State} (hk:k<n) (h:Pro.bk (k+1) (Pro.wl P k)=some L) (hS:Ref.a8 (Ref.aN P n) k=some S):Ref.a8 (Ref.aN P n) (k+1)=Ref.bA S k (Pro.aE (k+1) L) (Ref.dc (Ref.pc P k):Int):=by
 rw [Ref.a8,hS];simp only;rw [zI hk h]
def eD (P:List ByteArray) (n:Nat) (w:World) (e:Ending) (w':World):Prop:=match Ref.a8 (Ref.aN P n) n with
 | none=>aY 3 (Ref.gz (Ref.aN P n) n:Int) w e w'
 | some S=>match Ref.dK S S.length with
  | some l=>aY 3 l w e w'
  | none=>∃ db,e = .returned (.pointer (some ⟨db,0,none⟩))/\Below w.heap.size w w'/\fR w w' db S n
theorem D6 (w:World):fR w ((w.alloc (.map #[] 0)).alloc (.cells #[.slice none 0 0,.slice none 0 0,.slice none 0 0,.map (some w.heap.size),false] 154)) (w.heap.size+1) [] 0:=by
 refine ⟨⟨Ref.Sl.nil,Ref.Sl.nil,Ref.Sl.nil,w.heap.size,[],0,rfl,MR _,?_⟩,Pro.Inv.nil⟩;have hb:Below w w ((w.alloc (.map #[] 0)).alloc (.cells #[.slice none 0 0,.slice none 0 0,.slice none 0 0,.map (some w.heap.size),false] 154)):=((MY _ _).alloc (MR _) _).alloc zad _;refine ⟨hb,zaa,MR _,bR _ _ _,N4 _ _ _ _,N4 _ _ _ _,N4 _ _ _ _,fun i h=>absurd h zad,fun i h=>absurd h zad,fun i j h=>absurd h zad,fun i h=>absurd h zad,fun i j h=>absurd h zad,?_⟩;exact bJ (e:=0) (RD w _ _ _) (cG ((MY _ _).alloc (MR _) _))
theorem JY (a b c d:Value) (w:World):(method 596 351 (.agg #[a,b,c, d]) "charts/reader.place").run prog w = .ok (350,.agg #[a,b,c,d]) w:=zab
theorem JX (a b c d e f g:Value) (w:World):(method 596 355 (.agg #[a,b,c,d,e,f, g]) "charts/reader.place").run prog w = .ok (355,.agg #[a,b,c,d,e,f,g]) w:=zab
theorem JV (a b c:Value) (w:World):(method 596 362 (.agg #[a,b, c]) "charts/reader.place").run prog w = .ok (360,.agg #[a,b,c]) w:=zab
theorem JW (a b c:Value) (w:World):(method 596 363 (.agg #[a,b, c]) "charts/reader.place").run prog w = .ok (362,.agg #[a,b,c]) w:=zab
theorem sH (P:List ByteArray) (n lb:Nat) (vs:List Value) (LS:List Pro.PL) (w:World) (hlb:w.heap[lb]?=some (.cells vs.toArray 148 (0,0))) (HL:j5 w P n vs LS) (hn0:0<n) (hn:n<=1500) (hsz:∀ j,(Ref.pc P j).size<=1500) :
  () 56 #[.slice lb n n] w (eD P n w):=by
 have hlv:=HL.lv;have hll:=HL.ll;have hlbl:=(MQ.1 hlb).1;have HSZ:Hid _:=hsz;have HLN:Hid _:=HL;have hmm:=@run_makeMap prog;have D0:=D6 w;have HLV:Hid (vs.length=n):=hlv;have HLL:Hid (LS.length=n):=hll;clear hsz HL hlv hll;go_enter func56,ntmps56;go_wp2
 go_loopg [11] n (fun q i wr=>∃ (k:Nat) (S:List Ref.State),q=n-k/\k<=n/\i = .int .i64 k/\Ref.a8 (Ref.aN P n) k=some S/\(0<k->0<S.length)/\Below w w wr/\fR w wr (w.heap.size+1) S k)
 case atStart=>exact ⟨0,[],rfl,Ni _,rfl,rfl,fun h=>zaa,((MY _ _).alloc (MR _) _).alloc zad _,D0⟩
 case round =>
  obtain ⟨k,S,hq,hk,rfl,hS,hS0,hbr,DA⟩:=hrel;by_cases hkn:k<n
  ·obtain ⟨hp,hv⟩:=HLN.out.row k hkn;have hgood:=Pro.nC hp;have hbl:Ref.dc (Ref.pc P k)<=1500:=MX (Ref.uz _) (HSZ.out k);have cv:wr.cell? ⟨lb,k,none⟩=some (vs[k]'(by have:=HLV.out;omega)):=by
    rw [Nk (w:=w) (hbr.block lb hlbl),M0 w _ k _ _ _ hlb,Ps,MU]
   obtain ⟨L,hL⟩:∃ L,L=LS[k]'(by have:=HLL.out;omega):=⟨_,rfl⟩;obtain ⟨v,hve⟩:∃ v,v=vs[k]'(by have:=HLV.out;omega):=⟨_,rfl⟩;obtain ⟨dp,hdp⟩:∃ dp,dp=Ref.dc (Ref.pc P k):=⟨_,rfl⟩;rw [<- hL,<- hve,<- hdp] at hv;rw [<- hL] at hp hgood;rw [<- hve] at cv;have hstep:=Aw hkn hp hS;rw [<- hdp] at hstep hbl;have HSt:Hid _:=hstep;have HPos:Hid _:=fun S'=>Pro.step_pos (S':=S') (num:=k+1) (d:=dp) (L:=L) DA.inv;have HS:Hid _:=hS;have HS0:Hid _:=hS0;clear hL hve hdp hp hS hstep hS0;cases L with
   | state kd nme =>
    have hv:v=_:=hv;subst hv;have hmS:=JY;go_wp2_with fail;refine M7 (Ce w wr (w.heap.size+1) S k dp kd nme DA hgood.1 hgood.2.1 (MX hgood.2.2 zac) zaa zaa) ?_;rintro e w2 h2;unfold dw at h2;cases hts:Ref.bA S k (Pro.aE (k+1) (.state kd nme)) (dp:Int) with
    | none =>
     exact zc7
    | some S' =>
     exact zc6
   | move ev af dl t A =>
    obtain ⟨va,vn,vc,hv,hown⟩:=hv;subst hv;have hmS:=JX;go_wp2_with fail;refine M7 (EO w wr (w.heap.size+1) S k dp ev t af dl A ⟨va,vn,vc⟩ DA zaa zaa hown) ?_;rintro e w2 h2;unfold dw at h2;cases hts:Ref.bA S k (Pro.aE (k+1) (.move ev af dl t A)) (dp:Int) with
    | none =>
     exact zc7
    | some S' =>
     exact zc6
   | enter A =>
    obtain ⟨va,vn,vc,hv,hown⟩:=hv;subst hv;have hmS:=JV;go_wp2_with fail;refine M7 (Cc w wr (w.heap.size+1) S k dp A ⟨va,vn,vc⟩ DA zaa hown hgood) ?_;rintro e w2 h2;unfold dw at h2;cases hts:Ref.bA S k (Pro.aE (k+1) (.enter A)) (dp:Int) with
    | none =>
     exact zc7
    | some S' =>
     exact zc6
   | leave A =>
    obtain ⟨va,vn,vc,hv,hown⟩:=hv;subst hv;have hmS:=JW;go_wp2_with fail;refine M7 (Cd w wr (w.heap.size+1) S k dp A ⟨va,vn,vc⟩ DA zaa hown hgood) ?_;rintro e w2 h2;unfold dw at h2;cases hts:Ref.bA S k (Pro.aE (k+1) (.leave A)) (dp:Int) with
    | none =>
     exact zc7
    | some S' =>
     exact zc6
  ·obtain rfl:k=n:=zaa;have HN:Hid _:=hS;have hSp:=hS0 hn0;clear hS hS0;go_wp2_with fail;refine (mT w wr (w.heap.size+1) S k DA hSp).mono ?_;rintro e w2 h2;unfold qB at h2;cases hpt:Ref.dK S S.length with
   | some l =>
    rw [hpt] at h2;have HPt:Hid _:=hpt;obtain ⟨hb,b,h5,h6,rfl⟩:=h2;dsimp only;refine ⟨rfl,?_⟩;unfold eD;rw [HN.out];simp only;rw [HPt.out];exact ⟨hbr.trans (hb.mono hbr.size),b,MX hbr.size h5,h6,rfl⟩
   | none =>
    rw [hpt] at h2;obtain ⟨rfl,hb2⟩:=h2;have HPt:Hid _:=hpt;have HD2:Hid (fR w w2 (w.heap.size+1) S k):=⟨let ⟨sv,pv,ov,mb,X,nm,h1,h2,G⟩:=DA.mem;⟨sv,pv,ov,mb,X,nm,h1,h2,G.ao hb2⟩,DA.inv⟩;have hb3:=hbr.trans (hb2.mono hbr.size);clear hpt DA;dsimp only;go_wp2;go_ret;unfold eD;rw [HN.out];simp only;rw [HPt.out];exact ⟨w.heap.size+1,rfl,hb3,HD2.out⟩
namespace Pro
def jc (a:Ref.Act):List ByteArray :=
 if a.how.toList == Ref.eT then [a.event]
 else if a.how.toList == Ref.eK then [a.id]
 else if a.id.size=0 then [a.event] else [a.event,a.id]
def gn (l:List ByteArray):Bool:=l.any fun s=>Ref.cB s Ref.bM
def Shape (a:Ref.Act):Prop:=(a.how=o7/\a.id=ByteArray.empty)\/(a.how=gG/\a.event=ByteArray.empty)\/a.how=mH
theorem j8:Ref.cB ByteArray.empty Ref.bM=false:=zac
theorem Ck {a:Ref.Act} (h:Shape a):gn (jc a)=Ref.xt a:=by
 unfold Ref.xt jc
 rcases h with ⟨h1,h2⟩ | ⟨h1,h2⟩ | h1
 ·rw [h1,h2,nx,M6 zac,j8];simp [gn]
 ·rw [h1,h2,gP,M4 zac,M6 zac,j8];simp [gn]
 ·rw [h1,mu,M4 zac,M4 zac];by_cases hi:a.id.size=0
  ·have he:a.id=ByteArray.empty:=by
    have:=Qh a.id;have h0:a.id.data.toList=[]:=O1.1 zaa;rw [<- R8 a.id,h0];rfl
   rw [M6 hi,he,j8];simp [gn]
  ·rw [M4 hi];simp [gn]
theorem wv {l r:List ByteArray} {a:Ref.Act} (h:bF l=some (a,r)):Shape a:=by
 cases l with
 | nil=>cases h
 | cons x t =>
  rw [bF] at h;split at h
  ·obtain ⟨q,h1,h2⟩:=Nv.1 h;cases h2;exact .inl ⟨rfl,rfl⟩
  ·split at h
   ·obtain ⟨q,h1,h2⟩:=Nv.1 h;cases h2;exact .inr (.inr rfl)
   ·split at h
    ·obtain ⟨q,h1,h2⟩:=Nv.1 h;cases h2;exact .inr (.inl ⟨rfl,rfl⟩)
    ·cases h
theorem qX:∀ (f:Nat) (l r:List ByteArray) (A:List Ref.Act),gu f l=some (A,r)->∀ a∈A,Shape a
 | 0,l,r,A,h=>by cases h;simp
 | f+1,[],r,A,h=>by cases h;simp
 | f+1,x::t,r,A,h=>by
  rw [gu] at h;split at h
  ·split at h
   ·cases h
   ·rename_i a r' h1;split at h
    ·cases h
    ·rename_i A' t' h2;cases h
     intro b hb
     rcases O5.1 hb with rfl | hb
     ·exact wv h1
     ·exact qX f r' r A' h2 b hb
  ·cases h;simp
end Pro
def uq (l:List ByteArray) (w:World) (e:Ending) (w':World):Prop:=∃ nb c,e = .returned (.slice (some ⟨nb,0,none⟩) l.length c)/\w'.ownsRow w 9 1 (.slice (some ⟨nb,0,none⟩) l.length c) l.length (l.map Value.string)/\Below w w w'
theorem fH (s:ByteArray) (w:World):() 327 #[.agg #[s]] w (uq [s] w):=by
 go_enter func327,ntmps327;go_wp2;go_ret;refine ⟨w.heap.size+1,1,rfl,?_,((MY _ _).alloc (MR _) _).alloc zad _⟩;refine ⟨rfl,.inr ⟨w.heap.size+1,1,#[s],rfl,zaa,bR w _ _,MR _,zag,rfl,rfl⟩⟩
theorem gV {w:World} {base nb c:Nat} (h:w.ownsRow base 9 1 (.slice nb l.length c) l.length (l.map Value.string)):qT w nb 0 l/\nb<w.heap.size/\l.length<=c:=by
 rcases h.2 with ⟨h',_⟩ | ⟨g,cap,cur,hv,hb,hg,h1,h2,h3,h4⟩
 ·cases h'
 ·simp only [Value.slice.injEq,Option.some.injEq,Addr.mk.injEq,and_true,true_and] at hv;obtain ⟨rfl,rfl⟩:=hv;refine ⟨fun i hi => ?_,(MQ.1 hg).1,h1⟩;rw [Pd,M0 w nb i _ _ _ hg];have h5:(cur.toList.take (l.length*1))[i]?=(l.map Value.string)[i]?:=by rw [h4]
  rw [P1,M6 zaa] at h5;rw [<- Ok,h5];simp [Ref.at',List.getD_eq_getElem?_getD,List.getElem?_eq_getElem hi]
theorem Gu:(Tryz.prog.info? 9).map (fun i=>(i.zero,i.size,i.bytes))=some (some ↑ByteArray.empty,1,16):=zab
theorem vx (s a:ByteArray) (d:Int) (w:World):() 333 #[.agg #[s,.int .u64 d,a]] w (uq [s,a] w):=by
 obtain ⟨i0,hi,hz0,hz1,hz2⟩:=OB Gu;have hb1:Below w w (w.alloc (.cells #[s,.int .u64 d,a] 257)):=(MY _ _).alloc (MR _) _;obtain ⟨W1,hW1⟩:∃ y,y=w.alloc (.cells #[s,.int .u64 d,a] 257):=⟨_,rfl⟩;have b0:W1.cell? w=some ↑s:=zaU;have b2:W1.cell? ⟨w,2,none⟩=some ↑a:=zaU;have hlw:w.heap.size<W1.heap.size:=zaU;go_enter func333,ntmps333
 go_upto_region 1 with fail
 change Code.wp _ _ _ _ (w.alloc (.cells #[s,.int .u64 d,a] 257));rw [<- hW1] at hb1 ⊢;clear hW1;have hbs:=hb1.size;refine No (S:=(fun W=>W.cell? w=some ↑s/\W.cell? ⟨w,2,none⟩=some ↑a)) zab ⟨b0,b2⟩ (fun u0 => ?_);refine tH 0 w rfl u0 ?_;refine tH 1 w rfl u0 ?_;refine tH 2 (.agg #[s]) rfl u0 ?_;refine tH 4 (.pointer (some ⟨w,2,none⟩)) rfl u0 ?_;refine tH 5 (.string a) rfl u0 ?_;refine yH [3,6] ?_;refine NJ rfl (fun K hK => ?_) (NJ rfl (fun K hK => ?_) Ou)
 ·go_simp;refine (fH s _).mono ?_;rintro e w2 ⟨nb,c2,rfl,hown,hb2⟩;have hb2':Below W1 W1 w2:=((MY _ _).drew).trans hb2;have k0:=(Nk (w:=W1) (w':=w2) (a:=⟨w,0,none⟩) (hb2'.block _ hlw)).trans b0;have k2:=(Nk (w:=W1) (w':=w2) (a:=⟨w,2,none⟩) (hb2'.block _ hlw)).trans b2;have hlw2:w.heap.size<w2.heap.size:=Nq hlw hb2'.size;dsimp only;refine hK.out _ _ ⟨k0,k2⟩ (fun u0 => ?_);clear hK K;refine zH 6 rfl fun K hK => ?_;go_simp;refine hK.out _ _ zam (fun u0 => ?_);clear hK K;refine zH 7 rfl fun K hK => ?_;have hown':=aD hown (show w.heap.size<=W1.heap.size from hbs);refine step_append_lies _ zaf _ _ _ zaf w.heap.size 9 i0 _ 1 16 underlying22 hi hz0 hz1 hz2 rfl zac (.slice nb 1 c2) 1 [s] zaf (O7 hown' _) ⟨w2,0,none⟩ 1 1 [a] zaf zaf (World.news_of_block (cs:=#[a]) (t:=9) (fr:=(0,0)) (Na w2 _)) zao zaa zag zaa zae (w2.heap.size+1) zad ?_;intro g5 cap5 w5 hown5 hgrow hat hlt5;have HNB:Hid (some w.heap.size≠Value.ownBlock (.slice nb 1 c2)):=fun e=>by
   have h1:=(ND hown _ e.symm).1;have h2:W1.drew.heap.size=W1.heap.size:=rfl;omega
  have k0:=((hgrow.cell_far ⟨w,0,none⟩ zae HNB.out).trans (((MY w2 w2).alloc (MR _) _).cell (p:=⟨w,0,none⟩) hlw2)).trans k0;have k2:=((hgrow.cell_far ⟨w,2,none⟩ zae HNB.out).trans (((MY w2 w2).alloc (MR _) _).cell (p:=⟨w,2,none⟩) hlw2)).trans k2;have HB5:Hid (Below w w w5):=((hb1.trans (hb2'.mono hbs)).alloc zaa _).grown hgrow zae (fun k h=>by have:=(ND hown' k h).1;exact this);exact zdF
 ·go_simp;refine hK.out _ _ zam (fun u0 => ?_);clear hK K;refine zH 3 rfl fun K hK => ?_;go_simp;refine (fH s _).mono ?_;rintro e w2 ⟨nb,c2,rfl,hown,hb2⟩;have hbW:Below W1 W1 ((W1.drew).alloc (.cells #[a] 9)):=((MY _ _).drew).alloc (MR _) _;have hbl:W1.heap.size<((W1.drew).alloc (.cells #[a] 9)).heap.size:=zad;have hb2':Below W1 W1 w2:=hbW.trans (hb2.mono hbW.size);have hel:w2.heap[W1.heap.size]?=some (.cells #[a] 9 (0,0)):=(hb2.block _ hbl).trans (Na _ _);have k0:=(Nk (w:=W1) (w':=w2) (a:=⟨w,0,none⟩) (hb2'.block _ hlw)).trans b0;have k2:=(Nk (w:=W1) (w':=w2) (a:=⟨w,2,none⟩) (hb2'.block _ hlw)).trans b2;have hlw2:w.heap.size<w2.heap.size:=Nq hlw hb2'.size;have hszl:W1.heap.size<=((W1.drew).alloc (.cells #[a] 9)).heap.size:=RZ hbl;dsimp only;refine hK.out _ _ ⟨k0,k2⟩ (fun u0 => ?_);clear hK K;refine zH 7 rfl fun K hK => ?_;have hown':=aD hown (show w.heap.size<=((W1.drew).alloc (.cells #[a] 9)).heap.size by omega);refine step_append_lies _ zaf _ _ _ zaf w.heap.size 9 i0 _ 1 16 underlying22 hi hz0 hz1 hz2 rfl zac (.slice nb 1 c2) 1 [s] zaf hown' ⟨W1,0,none⟩ 1 1 [a] zaf zaf (World.news_of_block (cs:=#[a]) (t:=9) (fr:=(0,0)) hel) zao zaa zag zaa zaa w2.heap.size rfl ?_;intro g5 cap5 w5 hown5 hgrow hat hlt5;have HNB:Hid (some w.heap.size≠Value.ownBlock (.slice nb 1 c2)):=fun e=>by
   have h1:W1.heap.size+1<=w.heap.size:=by simpa using (ND hown _ e.symm).1
   omega
  have k0:=(hgrow.cell_far ⟨w,0,none⟩ hlw2 HNB.out).trans k0;have k2:=(hgrow.cell_far ⟨w,2,none⟩ hlw2 HNB.out).trans k2;have HB5:Hid (Below w w w5):=(hb1.trans (hb2'.mono hbs)).grown hgrow zaa (fun k h=>by have:=(ND hown' k h).1;exact this);exact zdF
def eo (tm:Bool) (num:Int) (l:List ByteArray) (w:World) (e:Ending) (w':World):Prop:=if tm&&Pro.gn l then aY 4 num w e w' else e = .returned (.tuple #[])/\Below w w w'
theorem bz (db:Nat) (num dep:Int) (tm:Bool) (l:List ByteArray) (nb c:Nat) (w:World) (hd:w.cell? ⟨db,4,none⟩=some (.bool tm)) (hs:qT w nb 0 l) (hnb:nb<w.heap.size) (hl:l.length<=10) :
  () 356 #[db,.agg #[(num:Int),(dep:Int)],.slice nb l.length c] w (eo tm num l w):=by
 have hdl:=Np _ _ hd;have HS:Hid _:=hs;clear hs;go_enter func356,ntmps356;go_wp2
 go_loop [10] (fun i=>∃ k:Nat,k<=l.length/\i = .int .i64 k/\(tm&&Pro.gn (l.take k))=false) (fun i=>l.length-(intOf i).toNat)
 case atStart=>exact ⟨0,Ni _,rfl,by cases tm <;> rfl⟩
 case round =>
  obtain ⟨k,hk,rfl,hno⟩:=hrel;by_cases hkn:k<l.length
  ·have ck:w.cell? ⟨nb,k,none⟩=some (.string l[k]):=by
    have:=HS.out k hkn;simpa [Ref.at',List.getD_eq_getElem?_getD,List.getElem?_eq_getElem hkn] using this
   obtain ⟨x,hx⟩:∃ x,x=l[k]:=⟨_,rfl⟩;rw [<- hx] at ck;have HN:Hid (Pro.gn (l.take (k+1))=(Pro.gn (l.take k)||Ref.cB x Ref.bM)):=by
    unfold Hid Pro.gn;rw [OH,MU hkn,Qu,<- hx];simp
   have HNo:Hid _:=hno;clear hno hx;cases tm with
   | false =>
    go_wp2
    go_round
    case rel=>exact ⟨k+1,zaa,zah,rfl⟩
    case measure=>simp [intOf];omega
   | true =>
    go_wp2_with fail;refine (strings_HasPrefix x Ref.bM _).mono ?_;rintro e w9 ⟨rfl,hw9⟩;rw [hw9,gy];clear hw9 w9;cases hb:Ref.cB x Ref.bM with
    | false =>
     have HN2:Hid (Pro.gn (l.take (k+1))=false):=by
      have:=HNo.out;unfold Hid;rw [HN.out,hb];simpa using this
     clear hb;dsimp only;go_wp2
     go_round
     case rel=>exact ⟨k+1,zaa,zah,by rw [HN2.out];rfl⟩
     case measure=>simp [intOf];omega
    | true =>
     have HT:Hid (Pro.gn l=true):=by
      have h1:Pro.gn (l.take (k+1))=true:=by rw [HN.out,hb];simp
      unfold Pro.gn at h1;exact zef
     clear hb;dsimp only;go_wp2_with fail;refine (aU num dep 4 _).mono ?_;rintro e w2 ⟨hb,b,h5,h6,rfl⟩;dsimp only;refine ⟨rfl,?_⟩;unfold eo;rw [HT.out,M6 zaf];exact ⟨((MY w w).alloc (MR _) _).trans (hb.mono zad),b,by simp at h5;omega,h6,rfl⟩
  ·have hkl:k=l.length:=zaa;have HF:Hid ((tm&&Pro.gn l)=false):=by
    exact zfn
   clear hno;go_wp2;go_end0;unfold eo;rw [HF.out];exact ⟨rfl,(MY _ _).alloc (MR _) _⟩
theorem JT (a:Value) (w:World):(method 596 422 (.agg #[a]) "Names").run prog w = .ok (327,.agg #[a]) w:=zab
theorem JS (a:Value) (w:World):(method 596 259 (.agg #[a]) "Names").run prog w = .ok (327,.agg #[a]) w:=zab
theorem JU (a b:Value) (w:World):(method 596 255 (.agg #[a, b]) "Names").run prog w = .ok (327,.agg #[a]) w:=zab
theorem JR (a b c:Value) (w:World):(method 596 257 (.agg #[a,b, c]) "Names").run prog w = .ok (333,.agg #[a,b,c]) w:=zab
theorem DH (x:Ref.Act):(bg x = .iface 422 (.agg #[x.event])/\Pro.jc x=[x.event])\/(bg x = .iface 259 (.agg #[x.id])/\Pro.jc x=[x.id])\/(bg x = .iface 255 (.agg #[x.event,.int .u64 x.delay])/\Pro.jc x=[x.event])\/(bg x = .iface 257 (.agg #[x.event,.int .u64 x.delay,x.id])/\Pro.jc x=[x.event,x.id]):=by
 unfold bg Pro.jc;cases h1:(x.how.toList == Ref.eT)
 ·cases h2:(x.how.toList == Ref.eK)
  ·simp only [Bool.false_eq_true,if_false];by_cases h3:x.id.size=0
   ·rw [M6 h3,M6 h3];exact .inr (.inr (.inl ⟨rfl,rfl⟩))
   ·rw [M4 h3,M4 h3];exact .inr (.inr (.inr ⟨rfl,rfl⟩))
  ·simp only [Bool.false_eq_true,if_false,if_true];exact .inr (.inl ⟨zaL,zaL⟩)
 ·simp only [if_true];exact .inl ⟨zaL,zaL⟩
def dt (tm:Bool) (num:Int) (A:List Ref.Act) (w:World) (e:Ending) (w':World):Prop:=if tm&&Ref.cd A then aY 4 num w e w' else e = .returned (.tuple #[])/\Below w w w'
theorem jD (db:Nat) (num dep:Int) (tm:Bool) (A:List Ref.Act) (a:Option Addr) (n c:Nat) (w:World) (hd:w.cell? ⟨db,4,none⟩=some (.bool tm)) (hA:w.ownsRow 0 250 1 (.slice a n c) A.length (A.map bg)) (hS:∀ x∈A,Pro.Shape x) (hl:A.length<=100000) :
  () 357 #[db,.agg #[(num:Int),(dep:Int)],.slice a n c] w (dt tm num A w):=by
 have hdl:=Np _ _ hd;have hn:n=A.length:=by
  rcases hA.2 with ⟨h,h0⟩ | ⟨g,cap,cur,h,_⟩
  ·simp at h;rw [h0];exact h.2.1
  ·simp at h;exact h.2.1
 subst hn;have HC:Hid (∀ k (hk:k<A.length),∃ ab,a=some ⟨ab,0,none⟩/\w.cell? ⟨ab,k,none⟩=some (bg A[k])/\A.length<=c):=fun k hk=>by
  rcases hA.2 with ⟨_,h0⟩ | ⟨g,cap,cur,h,_,hg,hle,_,_,h4⟩
  ·omega
  ·simp at h;refine ⟨g,h.1,?_,by rw [h.2];exact hle⟩;rw [M0 w g k _ _ _ hg];have h5:(cur.toList.take (A.length*1))[k]?=(A.map bg)[k]?:=by rw [h4]
   rw [P1,M6 zaa] at h5;rw [<- Ok,h5];simp [List.getElem?_eq_getElem hk]
 have HSh:Hid _:=hS;clear hA hS;go_enter func357,ntmps357;go_wp2
 go_loopg [10] A.length (fun q i wr=>∃ k:Nat,q=A.length-k/\k<=A.length/\i = .int .i64 k/\(tm&&Ref.cd (A.take k))=false/\Below w w wr/\wr.heap[w.heap.size]?=some (.cells #[(num:Int),(dep:Int)] 223 (0,0)))
 case atStart=>exact ⟨0,rfl,Ni _,rfl,by cases tm <;> rfl,(MY _ _).alloc (MR _) _,Na _ _⟩
 case round =>
  obtain ⟨k,hq,hk,rfl,hno,hbr,hbx⟩:=hrel;have hbs:=hbr.size;have hlw:=(MQ.1 hbx).1;by_cases hkn:k<A.length
  ·obtain ⟨ab,ha,ck,hcc⟩:=HC.out k hkn;subst ha;have hab:=Np _ _ ck;obtain ⟨x,hx⟩:∃ x,x=A[k]:=⟨_,rfl⟩;have cr:wr.cell? ⟨ab,k,none⟩=some (bg x):=by rw [hx];exact (Nk (w:=w) (hbr.block ab hab)).trans ck
   have b0:wr.cell? w=some ↑(num:Int):=by rw [M0 wr _ _ _ _ _ hbx];rfl
   have b1:wr.cell? ⟨w,1,none⟩=some ↑(dep:Int):=by rw [M0 wr _ _ _ _ _ hbx];rfl
   have HN:Hid (Ref.cd (A.take (k+1))=(Ref.cd (A.take k)||Pro.gn (Pro.jc x))):=by
    unfold Hid Ref.cd;rw [OH,MU hkn,Qu,<- hx,Pro.Ck (HSh.out x (by rw [hx];exact NS hkn))];simp
   have HT:Hid (Ref.cd (A.take (k+1))=true->Ref.cd A=true):=by
    intro h;unfold Ref.cd at h ⊢;rw [Pw] at h ⊢;obtain ⟨y,hy,hy2⟩:=h;exact ⟨y,PG hy,hy2⟩
   have HNo:Hid _:=hno;have HD:Hid (∀ w2,Below wr wr w2->w2.cell? ⟨db,4,none⟩=some (.bool tm)/\w2.heap[w.heap.size]?=some (.cells #[(num:Int),(dep:Int)] 223 (0,0))/\w2.cell? w=some ↑(num:Int)/\w2.cell? ⟨w,1,none⟩=some ↑(dep:Int)/\Below w w w2):=by
    intro w2 hb2;have hx2:=(hb2.block _ hlw).trans hbx;have hb3:=hbr.trans (hb2.mono hbs);exact ⟨(Nk (w:=w) (hb3.block db hdl)).trans hd,hx2,by rw [M0 w2 _ _ _ _ _ hx2];rfl,by rw [M0 w2 _ _ _ _ _ hx2];rfl,hb3⟩
   clear hno hx ck
   rcases DH x with ⟨hv,hnm⟩ | ⟨hv,hnm⟩ | ⟨hv,hnm⟩ | ⟨hv,hnm⟩
   ·rw [hv] at cr;rw [hnm] at HN;clear hv hnm;have hmN:=JT
    go_upto_region 4 with fail
    refine OO zab ?_;change wpAny _ _ _ _ _ _ _ (World.drew _);refine tA 0 db rfl ?_;refine tA 2 (.iface 422 (.agg #[x.event])) rfl ?_;exact za4
   ·rw [hv] at cr;rw [hnm] at HN;clear hv hnm;have hmN:=JS
    go_upto_region 4 with fail
    refine OO zab ?_;change wpAny _ _ _ _ _ _ _ (World.drew _);refine tA 0 db rfl ?_;refine tA 2 (.iface 259 (.agg #[x.id])) rfl ?_;refine yA [1,3] ?_;refine M5 rfl (fun K hK => ?_) (M5 rfl (fun K hK => ?_) Ns)
    ·go_simp;refine hK _ _ ?_;clear hK K;refine zA 3 rfl fun K hK => ?_;go_simp;refine M7 (fH x.id _) ?_;rintro e w2 ⟨nb,c2,rfl,hown,hb2⟩;have hb2':Below wr wr w2:=((MY _ _).drew).trans hb2;obtain ⟨e4,hx2,e0,e1,hbw2⟩:=HD.out w2 hb2';obtain ⟨hst,hnbl,_⟩:=gV (l:=[x.id]) hown;dsimp only;exact zcI
    ·go_simp;refine M7 (fH x.id _) ?_;rintro e w2 ⟨nb,c2,rfl,hown,hb2⟩;have hb2':Below wr wr w2:=((MY _ _).drew).trans hb2;obtain ⟨e4,hx2,e0,e1,hbw2⟩:=HD.out w2 hb2';obtain ⟨hst,hnbl,_⟩:=gV (l:=[x.id]) hown;dsimp only;refine hK _ _ ?_;clear hK K;refine zA 1 rfl fun K hK => ?_;go_simp;exact zcI
   ·rw [hv] at cr;rw [hnm] at HN;clear hv hnm;have hmN:=JU
    go_upto_region 4 with fail
    refine OO zab ?_;change wpAny _ _ _ _ _ _ _ (World.drew _);refine tA 0 db rfl ?_;refine tA 2 (.iface 255 (.agg #[x.event,.int .u64 x.delay])) rfl ?_;exact za4
   ·rw [hv] at cr;rw [hnm] at HN;clear hv hnm;have hmN:=JR
    go_upto_region 4 with fail
    refine OO zab ?_;change wpAny _ _ _ _ _ _ _ (World.drew _);refine tA 0 db rfl ?_;refine tA 2 (.iface 257 (.agg #[x.event,.int .u64 x.delay,x.id])) rfl ?_;refine yA [1,3] ?_;refine M5 rfl (fun K hK => ?_) (M5 rfl (fun K hK => ?_) Ns)
    ·go_simp;refine hK _ _ ?_;clear hK K;refine zA 3 rfl fun K hK => ?_;go_simp;refine M7 (vx x.event x.id x.delay _) ?_;rintro e w2 ⟨nb,c2,rfl,hown,hb2⟩;have hb2':Below wr wr w2:=((MY _ _).drew).trans hb2;obtain ⟨e4,hx2,e0,e1,hbw2⟩:=HD.out w2 hb2';obtain ⟨hst,hnbl,_⟩:=gV (l:=[x.event,x.id]) hown;dsimp only;exact zcH
    ·go_simp;refine M7 (vx x.event x.id x.delay _) ?_;rintro e w2 ⟨nb,c2,rfl,hown,hb2⟩;have hb2':Below wr wr w2:=((MY _ _).drew).trans hb2;obtain ⟨e4,hx2,e0,e1,hbw2⟩:=HD.out w2 hb2';obtain ⟨hst,hnbl,_⟩:=gV (l:=[x.event,x.id]) hown;dsimp only;refine hK _ _ ?_;clear hK K;refine zA 1 rfl fun K hK => ?_;go_simp;exact zcH
  ·have hkl:k=A.length:=zaa;have HF:Hid ((tm&&Ref.cd A)=false):=by
    exact zfn
   clear hno;go_wp2;go_end0;unfold dt;rw [HF.out];exact ⟨rfl,hbr⟩
variable {w0 w:World} {db mb nm:Nat} {sv pv ov:Ref.Sl} {tm:Bool} {X:List Pro.DS} {SP:List (Int×Int)} {O:List Nat} {PT:Nat->List Nat} {D:DataW Nat}
def i7 (D:DataW Nat) (n:ByteArray):Option Int:=match D.atKey (.string n.data.toList) (.lit (.int .i64 0)) with
 | .lit (.int .i64 c)=>some c
 | _=>none
def wt (D:DataW Nat) (nme:ByteArray) (num:Int) (w:World) (e:Ending) (w':World):Prop:=if i7 D nme=some num then e = .returned (.tuple #[])/\Below w w w' else aY 4 num w e w'
theorem sW (num dep kd:Int) (nme:ByteArray) (G:aq w0 w db sv pv ov mb tm X SP O PT nm D) (hs:nme.size<=1000000) :
  () 349 #[.agg #[(num:Int),(dep:Int),(kd:Int),nme],db] w (wt D nme num w):=by
 have hdl:=G.dlt;have hb1:Below w w (w.alloc (.cells #[(num:Int),(dep:Int),(kd:Int),nme] 351)):=(MY _ _).alloc (MR _) _;obtain ⟨_,_,_,c3,_⟩:=(G.ao hb1).cells;obtain ⟨W1,hW1⟩:∃ y,y=w.alloc (.cells #[(num:Int),(dep:Int),(kd:Int),nme] 351):=⟨_,rfl⟩;have b0:W1.cell? w=some ↑(num:Int):=zaU;have b1:W1.cell? ⟨w,1,none⟩=some ↑(dep:Int):=zaU;have b3:W1.cell? ⟨w,3,none⟩=some ↑nme:=zaU;have law:Go.Maps.Keyed prog 9:=QA underlying9;have zeroE:∀ w:World,(zeroValue 3).run prog w = .ok (.int .i64 0) w:=fun w=>zab;have hkey:keyOf prog 9 (.string nme)=some (.string nme.data.toList):=PU underlying9 zag;have hmapd:jz W1.drew mb nm D:=zce;obtain ⟨cc,hrun,hat,_⟩:=hmapd.lookup_int law underlying152 underlying3 (zeroE _) hkey;have HF:Hid (i7 D nme=some cc):=by unfold Hid i7;rw [hat]
 rw [<- hW1] at c3 hb1;go_enter func349,ntmps349
 go_upto_region 1 with fail
 change Code.wp _ _ _ _ (w.alloc (.cells #[(num:Int),(dep:Int),(kd:Int),nme] 351));rw [<- hW1];clear hW1 hat;have hbs:=hb1.size;refine No (S:=(fun W=>W.cell? ⟨db,3,none⟩=some (.map (some mb))/\W.cell? w=some ↑(num:Int)/\W.cell? ⟨w,3,none⟩=some ↑nme)) zab ⟨c3,b0,b3⟩ (fun u0 => ?_);refine tH 0 db rfl u0 ?_;refine tH 1 db rfl u0 ?_;refine tH 2 (.pointer (some ⟨db,3,none⟩)) rfl u0 ?_;refine tH 3 (.map (some mb)) rfl u0 ?_;refine tH 4 (.pointer (some ⟨w,3,none⟩)) rfl u0 ?_;refine tH 5 (.string nme) rfl u0 ?_;refine tH 7 w rfl u0 ?_;refine tH 8 w rfl u0 ?_;refine tH 9 (.int .i64 num) rfl u0 ?_;refine zH 6 rfl fun K hK => ?_;go_simp;refine hK.out _ _ u0 (fun u0 => ?_);clear hK K hrun;by_cases hcc:cc=num
 ·subst hcc;refine zH 10 rfl fun K hK => ?_;go_simp;refine hK.out _ _ u0 (fun u0 => ?_);clear hK K;refine Nt zab ?_ _;go_wp2;go_end0;unfold wt;rw [HF.out,M6 rfl];exact ⟨rfl,hb1.drew⟩
 ·have hne:(cc != num)=true:=by simpa using hcc
  refine zH 10 rfl fun K hK => ?_;go_simp;refine hK.out _ _ u0 (fun u0 => ?_);clear hK K;refine Nt zab ?_ _;go_wp2_with fail;refine (aU num dep 4 _).mono ?_;rintro e w2 ⟨hb,b,h5,h6,rfl⟩;dsimp only;refine ⟨rfl,?_⟩;unfold wt;rw [HF.out,M4 (by simpa using hcc)];exact ⟨hb1.drew.trans (hb.mono hbs),b,MX hbs h5,h6,rfl⟩
theorem kL (num dep:Int) (A:List Ref.Act) (a:Option Addr) (n c:Nat) (G:aq w0 w db sv pv ov mb tm X SP O PT nm D) (hA:w0.ownsRow 0 250 1 (.slice a n c) A.length (A.map bg)) (hS:∀ x∈A,Pro.Shape x) (hl:A.length<=100000) :
  () 359 #[.agg #[(num:Int),(dep:Int),.slice a n c],db] w (dt tm num A w):=by
 have hb1:Below w w (w.alloc (.cells #[(num:Int),(dep:Int),.slice a n c] 359)):=(MY _ _).alloc (MR _) _;have G1:=G.ao hb1;obtain ⟨_,_,_,_,c4⟩:=G1.cells;have hA1:=bc hA (G1.bel);have HC:Hid (∀ W:World,W=w.alloc (.cells #[(num:Int),(dep:Int),.slice a n c] 359)->() 357 #[db,.agg #[(num:Int),(dep:Int)],.slice a n c] W (dt tm num A W)):=by
  rintro W rfl;exact jD db num dep tm A a n c _ c4 hA1 hS hl
 clear G1 c4 hA1;go_enter func359,ntmps359;go_wp2_with fail;refine M7 (HC.out _ rfl) ?_;rintro e w2 h2;unfold dt at h2;cases hm:(tm&&Ref.cd A) with
 | true =>
  rw [hm,M6 rfl] at h2;obtain ⟨hb,b,h5,h6,rfl⟩:=h2;dsimp only;refine ⟨rfl,?_⟩;unfold dt;rw [hm,M6 rfl];exact ⟨hb1.trans (hb.mono hb1.size),b,MX hb1.size h5,h6,rfl⟩
 | false =>
  rw [hm,M4 zad] at h2;obtain ⟨rfl,hb2⟩:=h2;have HM:Hid _:=hm;clear hm;dsimp only;go_wp2;go_end0;unfold dt;rw [HM.out,M4 zad];exact ⟨rfl,hb1.trans (hb2.mono hb1.size)⟩
def kn (D:DataW Nat) (tm:Bool) (m:Ref.Move):Bool:=(!m.to.toList.isEmpty && !Go.Maps.has D (.string m.to.data.toList))||(tm&&(Ref.cd m.aw||(!m.after&&Ref.cB m.event Ref.bM)))
def gx (D:DataW Nat) (tm:Bool) (m:Ref.Move) (num:Int) (w:World) (e:Ending) (w':World):Prop:=if kn D tm m then aY 4 num w e w' else e = .returned (.tuple #[])/\Below w w w'
theorem tX (num:Int) (dep:Nat) (y:Pro.PV) (G:aq w0 w db sv pv ov mb tm X SP O PT nm D) (hs:y.m.to.size<=1000000) (hA:w0.ownsRow 0 250 1 y.v.v y.m.aw.length (y.m.aw.map bg)) (hS:∀ x∈y.m.aw,Pro.Shape x) (hl:y.m.aw.length<=100000) :
  () 354 #[.agg (dh num dep y),db] w (gx D tm y.m num w):=by
 have hdl:=G.dlt;have hb1:Below w w (w.alloc (.cells (dh num dep y) 355)):=(MY _ _).alloc (MR _) _;obtain ⟨_,_,_,c3,_⟩:=(G.ao hb1).cells;obtain ⟨W1,hW1⟩:∃ z,z=w.alloc (.cells (dh num dep y) 355):=⟨_,rfl⟩;have hbx:W1.heap[w.heap.size]?=some (.cells (dh num dep y) 355 (0,0)):=by rw [hW1];exact Na _ _
 have HBx:Hid (∀ W2,Below W1 W1 W2->W2.cell? w=some ↑(num:Int)/\W2.cell? ⟨w,1,none⟩=some ↑(dep:Int)/\W2.cell? ⟨w,2,none⟩=some ↑y.m.event/\W2.cell? ⟨w,3,none⟩=some (.bool y.m.after)/\W2.cell? ⟨w,5,none⟩=some ↑y.m.to/\W2.cell? ⟨w,6,none⟩=some (.slice y.v.a y.v.n y.v.c)):=by
  intro W2 hb2;have h2:=(hb2.block _ (MQ.1 hbx).1).trans hbx;refine ⟨?_,?_,?_,?_,?_,?_⟩ <;> rw [M0 W2 _ _ _ _ _ h2] <;> rfl
 have HA:Hid (∀ W2,Below W1 W1 W2->() 357 #[db,.agg #[(num:Int),(dep:Int)],.slice y.v.a y.v.n y.v.c] W2 (dt tm num y.m.aw W2)):=by
  intro W2 hb2;have G2:=(G.ao hb1).ao (by rw [<- hW1];exact hb2);obtain ⟨_,_,_,_,c4⟩:=G2.cells;exact jD db num dep tm y.m.aw _ _ _ _ c4 (bc hA G2.bel) hS hl
 have HR:Hid (∀ W2,Below W1 W1 W2->() 356 #[db,.agg #[(num:Int),(dep:Int)],.slice (some ⟨W2.heap.size,0,none⟩) 1 1] (W2.alloc (.cells #[y.m.event] 9)) (eo tm num [y.m.event] (W2.alloc (.cells #[y.m.event] 9)))):=by
  intro W2 hb2;have G2:=((G.ao hb1).ao (by rw [<- hW1];exact hb2)).ao ((MY _ W2).alloc (MR _) (.cells #[y.m.event] 9));obtain ⟨_,_,_,_,c4⟩:=G2.cells;exact bz db num dep tm [y.m.event] W2.heap.size 1 _ c4 (tf (l:=[y.m.event]) (Na W2 _)) zad zad
 have law:Go.Maps.Keyed prog 9:=QA underlying9;have zeroE:∀ w:World,(zeroValue 3).run prog w = .ok (.int .i64 0) w:=fun w=>zab;have hkey:keyOf prog 9 (.string y.m.to)=some (.string y.m.to.data.toList):=PU underlying9 zag;have hmapd:jz W1.drew mb nm D:=zce;obtain ⟨vv,ps,hrun,hvv⟩:=hmapd.look_ok law underlying152 (zeroE _) (RQ underlying3 zac) hkey;obtain ⟨cc,rfl,_,_⟩:=plainElem_int_inv underlying3 hvv;clear hvv hA hS;rw [<- hW1] at c3 hb1;obtain ⟨b0,b1,b2,b3,b5,b6⟩:=HBx.out W1 (MY _ _);have hbs:=hb1.size;unfold dh at hW1 ⊢;go_enter func354,ntmps354
 go_upto_region 1 with fail
 change Code.wp _ _ _ _ (w.alloc (.cells #[(num:Int),(dep:Int),y.m.event,y.m.after,.int .u64 y.m.delay,y.m.to,.slice y.v.a y.v.n y.v.c] 355));rw [<- hW1];clear hW1 G hbx;refine No (S:=(fun W=>W.cell? ⟨db,3,none⟩=some (.map (some mb))/\W.cell? ⟨w,5,none⟩=some ↑y.m.to)) zab ⟨c3,b5⟩ (fun u0 => ?_);refine tH 0 db rfl u0 ?_;refine tH 1 db rfl u0 ?_;refine tH 2 (.pointer (some ⟨db,3,none⟩)) rfl u0 ?_;refine tH 3 (.map (some mb)) rfl u0 ?_;refine tH 4 (.pointer (some ⟨w,2,none⟩)) rfl u0 ?_;refine tH 5 (.pointer (some ⟨w,5,none⟩)) rfl u0 ?_;refine tH 6 (.string y.m.to) rfl u0 ?_;refine zH 7 rfl fun K hK => ?_;go_simp;refine hK.out _ _ u0 (fun u0 => ?_);clear hK K;refine tH 8 (.tuple #[(cc:Int),.bool (Go.Maps.has D (.string y.m.to.data.toList))]) rfl u0 ?_;refine tH 9 (.int .i64 cc) rfl u0 ?_;refine tH 10 (.bool (Go.Maps.has D (.string y.m.to.data.toList))) rfl u0 ?_;refine tH 11 (.int .i64 cc) rfl u0 ?_;refine tH 12 (.bool (Go.Maps.has D (.string y.m.to.data.toList))) rfl u0 ?_;refine Nt zab ?_ _;clear hrun;obtain ⟨hs0,hhs⟩:∃ h,h=Go.Maps.has D (.string y.m.to.data.toList):=⟨_,rfl⟩;obtain ⟨te,hte⟩:∃ h,h=y.m.to.toList.isEmpty:=⟨_,rfl⟩;have HBad:Hid (kn D tm y.m=((!te && !hs0)||(tm&&(Ref.cd y.m.aw||(!y.m.after&&Ref.cB y.m.event Ref.bM))))):=by unfold Hid kn;rw [hhs,hte]
 rw [<- hhs];have HTe:Hid _:=hte;clear hhs hte u0;have hbd:Below W1 W1 W1.drew:=(MY _ _).drew;cases hs0 with
 | true =>
  exact zcv
 | false =>
  cases te with
  | true =>
   have hte':y.m.to.toList=[]:=PY.1 HTe.out.symm;have hte2:y.m.to.toList.isEmpty=true:=HTe.out.symm;exact zcv
  | false =>
   have hte2:y.m.to.toList.isEmpty=false:=HTe.out.symm;have hne:(y.m.to.toList == [])=false:=by
    cases h:y.m.to.toList with
    | nil=>rw [h] at hte2;cases hte2
    | cons a b=>rfl
   have HM:Hid (kn D tm y.m=true):=by unfold Hid;rw [HBad.out];rfl
   go_wp2_with fail;refine (aU num dep 4 _).mono ?_;rintro e w2 ⟨hb,b,h5,h6,rfl⟩;have hbw:=hb1.trans (hbd.mono hbs);exact zfJ
theorem A9 (p q:Addr) (w:World) :
  CallsD prog 54 #[.pointer (some p),.pointer (some q)] .returning w fun e u' w'=>e = .returned (.tuple #[])/\u' = .returning/\w'=w:=by
 refine callsD_of_wpS func54 rfl fun c₀ cs hu => ?_;apply wpS_seq
 apply wpS_region
 simp [wpOpsS,go_sem,recoverD,hu,ntmps54,Exit.thenS];refine wpS_of_wp ?_;go_wp2;cases c₀
 simp_all [bodyPostS,results,Tryz.results54]
theorem tM (f:Nat) (w:World):(Instr.typeAssert (.iface 142 (.agg #[f])) 20 142 true).run prog w = .ok (.tuple #[.agg #[f],true]) w:=zab
theorem bV (p q:Nat) (a b:Value) (f:Nat) (older:List PanicEntry) (w:World) (hp:w.heap[p]?=some (.cells #[a] 108 (0,0))) (hq:w.heap[q]?=some (.cells #[b] 60 (0,0))) (hpq:p≠q) :
  CallsD prog 54 #[p,q] (.panicking ({ v := .iface 142 (.agg #[f]),recovered:=false }::older)) w fun e u' w' =>
   e = .returned (.tuple #[])/\u' = .panicking ({ v := .iface 142 (.agg #[f]),recovered:=true }::older)/\∃ W,Below w ((w.setCell p (.pointer none)).setCell q (.iface 115 f)) W/\w'=W:=by
 refine callsD_of_wpS func54 rfl fun c₀ cs hu => ?_;apply wpS_seq
 apply wpS_region
 simp [wpOpsS,go_sem,recoverD,hu,ntmps54,Exit.thenS];refine wpS_of_wp ?_;have hta:=tM f;have cp:w.cell? p=some a:=by rw [M0 w _ _ _ _ _ hp];rfl
 have cq:w.cell? q=some b:=by rw [M0 w _ _ _ _ _ hq];rfl
 have fp:w.frozen? ⟨p,0,none⟩=false:=zbU;have fq:w.frozen? ⟨q,0,none⟩=false:=by simp [World.frozen?,hq]
 have lp:=(MQ.1 hp).1;have lq:=(MQ.1 hq).1;have hqp:¬ q=p:=fun h=>hpq h.symm
 go_upto_region 7 with fail
 go_region
 all_goals (
  go_wp2;refine ⟨rfl,_,rfl,.tuple #[],by simp [results,Tryz.results54],rfl,rfl,?_⟩;exact ((MY _ _).alloc zad _).drew)
