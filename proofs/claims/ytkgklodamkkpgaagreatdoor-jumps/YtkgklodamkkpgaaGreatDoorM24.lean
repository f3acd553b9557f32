import Derived.Test.YtkgklodamkkpgaaGreatDoorM23
set_option maxRecDepth 100000
set_option maxHeartbeats 8000000
namespace Go.Proofs.YtkgklodamkkpgaaGreatDoor
variable {zp:Prop}
theorem zdn (h:zp:=by
 clear hup;go_wp2_with (go_at_call 8;refine M7 HLS.out ?_;rintro e w9 ⟨rfl,hw9⟩;rw [hw9];clear hw9 w9)
 go_round
 case rel=>exact ⟨k+1,zaa,zah,by rw [HNX.out],by first | trivial | rfl⟩
 case measure=>simp [intOf];omega):zp:=h
theorem zdG (h:zp:=by
 clear hfar;go_enter func3,ntmps3;go_wp2_with (go_at_call 5;refine M7 HF.out ?_;rintro e w1 ⟨rfl,hw1⟩;rw [hw1];clear hw1 w1);go_ret;exact ⟨rfl,MY _ _⟩):zp:=h
theorem zdP (h:zp:=by
 go_round
 case rel=>exact ⟨k+1,sl5,zaa,zah,by rw [HNX.out];rfl,rfl,by rw [HNX.out];exact h5⟩
 case measure=>simp [intOf];omega):zp:=h
theorem zee (h:zp:=by
 rintro e w' ⟨l,k,rfl,hA⟩;obtain ⟨q1,q2⟩:=hJ.next hle.2 hA.out;exact ⟨l,k,rfl,q1,q2⟩):zp:=h
theorem zer (h:zp:=by
 exact .inl ⟨by rw [hea,M6 h6],by rw [hAB];exact MR _,by rw [hAB,N6]⟩):zp:=h
theorem ze8 (h:zp:=by
 clear hf;dsimp only;go_wp2;go_ret3;exact HR.out):zp:=h
open Tryz
variable {A:List (ByteArray×Pg.RSt)} {r:Pg.RSt} {sl:Ref.Sl} {l:Value} {k n top:Nat} {a ra:Option Addr} {L:List ByteArray} {s:ByteArray} {T:List Int} {f:Pg.Tn}
section
open Go.RowKit Go.Proofs Go.Shelf
namespace Fr
def AH (W:World) (a:Option Addr) (L:List ByteArray):Prop:=∀ (i:Nat) (s:ByteArray),L[i]?=some s->∃ b off,a=some ⟨b,off,none⟩/\W.cell? ⟨b,off+i,none⟩=some ↑s
def DD (W:World) (a:Option Addr) (L:List Int):Prop:=∀ (i:Nat) (z:Int),L[i]?=some z->∃ b off,a=some ⟨b,off,none⟩/\W.cell? ⟨b,off+i,none⟩=some ↑(z:Int)
def u64 (z:Int):Nat:=(IntKind.u64.wrap z).toNat
theorem yd (z:Int):IntKind.u64.wrap z=(u64 z:Int)/\u64 z<18446744073709551616:=by
 unfold u64;rw [Qd];omega
def evP (an:Pg.RSt->ByteArray->Pg.RSt) (s:List (ByteArray×Pg.RSt)×Pg.RSt×Nat):Option ByteArray->List (ByteArray×Pg.RSt)×Pg.RSt×Nat
 | none=>s
 | some ev=>(s.1++(Pg.evK an s.2.1 ev).1,(Pg.evK an s.2.1 ev).2,Pg.jG s.2.1 (Pg.evK an s.2.1 ev).2)
def ckP (an:Pg.RSt->ByteArray->Pg.RSt) (s:List (ByteArray×Pg.RSt)×Pg.RSt×Nat):Option Int->List (ByteArray×Pg.RSt)×Pg.RSt×Nat
 | none=>s
 | some z=>(s.1++(Pg.ckK an s.2.1 (u64 z)).1,(Pg.ckK an s.2.1 (u64 z)).2,Pg.jG s.2.1 (Pg.ckK an s.2.1 (u64 z)).2)
def plP (an:Pg.RSt->ByteArray->Pg.RSt) (L:List ByteArray) (T:List Int) (r:Pg.RSt):Nat->List (ByteArray×Pg.RSt)×Pg.RSt×Nat
 | 0=>([],r,0)
 | k+1=>ckP an (evP an (plP an L T r k) L[k]?) T[k]?
theorem C3 (an:Pg.RSt->ByteArray->Pg.RSt) (t:Nat):∀ (n k:Nat) (r:Pg.RSt),(Pg.eL an t n k r).1.length<=n
 | 0,_,_=>by unfold Pg.eL;exact MR _
 | n+1,k,r=>by
  have ih:=C3 an t n (k+1);unfold Pg.eL
  repeat' split
  all_goals first | exact Ni _ | exact Nat.succ_le_succ (Ni _) | exact Nat.succ_le_succ (ih _)
theorem C6 (an:Pg.RSt->ByteArray->Pg.RSt) (s:List (ByteArray×Pg.RSt)×Pg.RSt×Nat) (o:Option ByteArray):(evP an s o).1.length<=s.1.length+1:=by
 cases o with
 | none=>exact Nat.le_succ _
 | some ev =>
  show (s.1++(Pg.evK an s.2.1 ev).1).length<=_;unfold Pg.evK;split <;> simp
theorem wI (an:Pg.RSt->ByteArray->Pg.RSt) (s:List (ByteArray×Pg.RSt)×Pg.RSt×Nat) (o:Option Int):(ckP an s o).1.length<=s.1.length+201:=by
 cases o with
 | none=>exact Qc _ _
 | some z =>
  show (s.1++(Pg.ckK an s.2.1 (u64 z)).1).length<=_;unfold Pg.ckK;have:=C3 an (u64 z) 201 0 s.2.1;split <;> (rw [Nj];first | omega | simp)
theorem xG (an:Pg.RSt->ByteArray->Pg.RSt) (L:List ByteArray) (T:List Int) (r:Pg.RSt):∀ k,(plP an L T r k).1.length<=k*202
 | 0=>MR _
 | k+1=>by
  have h1:=xG an L T r k;have h2:=C6 an (plP an L T r k) L[k]?;have h3:=wI an (evP an (plP an L T r k) L[k]?) T[k]?;show (ckP an (evP an (plP an L T r k) L[k]?) T[k]?).1.length<=_;omega
section
variable (W0:World) (n0 xb b:Nat) (ps:List Pg.PS) (an:Pg.RSt->ByteArray->Pg.RSt) (O:Nat->Prop)
def PlJ (A:List (ByteArray×Pg.RSt)) (r:Pg.RSt) (sl:Ref.Sl) (W:World):Prop:=Pg.Sn W n0 xb b ps an r (Pg.Gr O W0 W)/\Pg.LN W W0 b ps (.slice sl.a sl.n sl.c) A/\Mo (Pg.Own O W0) W0 W
def PlQ (A B:List (ByteArray×Pg.RSt)) (r:Pg.RSt) (sl:Ref.Sl) (l:Value) (W:World):Prop:=PlJ W0 n0 xb b ps an O A r sl W/\Pg.LN W b b ps l B
variable {W0 n0 xb b ps an O}
theorem EG {O':Nat->Prop} {W W':World} (h:Mo (Pg.Own O W0) W0 W) (k:Mo (Pg.Own O' W) W W') (hO:∀ i,i<W0.heap.size->O' i->O i):Mo (Pg.Own O W0) W0 W':=h.trans' k fun i hi ⟨q1,q2,c,t,f,q3,q4⟩=>Oi fun hn=>by
 have e:=h.block i hi hn;exact hn ⟨hO i hi q1,fun v hv=>q2 v ((Nk (a:=⟨i,0,none⟩) e).trans hv),c,t,f,e.symm.trans q3,q4⟩
theorem BC {O:Nat->Prop} {W W':World} (h:Mo (Pg.Own O W) W W'):Kd Pg.dW W W':=fX h fun k c t f ⟨_,_,c',t',f',q3,q4⟩ hc=>by
 rw [hc] at q3;cases q3
 exact q4
theorem PlJ.next {W W':World} (h:PlJ W0 n0 xb b ps an O A r sl W) (hb:b<=W0.heap.size) {z:List (ByteArray×Pg.RSt)×Pg.RSt} (hA:Pg.An W n0 xb b ps an r (Pg.Gr O W0 W) z l k W'):k=Pg.jG r z.2/\PlQ W0 n0 xb b ps an O A z.1 z.2 sl l W':=by
 obtain ⟨h1,h2,h3⟩:=h;obtain ⟨a1,a2,a3,a4⟩:=hA;have hs:=h3.size;have hs':=a4.size;exact ⟨a1,⟨a2.mono (fun i hi=>by
  rcases hi with (hi | hi) | hi
  ·exact .inl hi
  ·exact .inr ⟨hi.1,zaa⟩
  ·exact .inr ⟨zaa,hi.2⟩) (fun i hi=>by
  rcases hi with hi | hi
  ·have:=h1.own i (.inl hi);omega
  ·have:=h1.le;omega),h2.kd (BC a4) zau zau,EG h3 a4 (fun i hi ho=>ho.elim id (fun h=>absurd h.1 zaa))⟩,a3⟩
theorem PlQ.app {B:List (ByteArray×Pg.RSt)} {W:World} (h:PlQ W0 n0 xb b ps an O A B r sl l W) (hb:b<=W0.heap.size) (hn:A.length+B.length<=4000000) {ops:Array Oper} {rest:List Oper} {o:Oper} {a:Act} {Q:Exit->Act->World->Prop} (hgd:o.guard=none) (s x:Operand) (ho:o.op = .call { callee := .builtin .append,args:=#[s,x],argTypes:=#[26,26] }) (hs:a.eval s = .slice sl.a sl.n sl.c) (hx:a.eval x=l)
  (k:∀ (sl':Ref.Sl) w',Hid (PlJ W0 n0 xb b ps an O (A++B) r sl' w')->wpList prog ops Q rest (a.put o.dst (.slice sl'.a sl'.n sl'.c)) w'):wpList prog ops Q (o::rest) a W:=by
 obtain ⟨⟨h1,h2,h3⟩,h4⟩:=h;refine DL hgd s x ho W0 b ps _ l A B hs hx h2 h4 hn h3.size (fun sl' w' h5 hm=>k sl' w' ?_);obtain ⟨vs,_,hrow,_⟩:=h2;have hP:∀ k,(Value.slice sl.a sl.n sl.c).ownBlock=some k->W0.heap.size<=k/\∃ c,W.heap[k]?=some (.cells c 46 (0,0)):=fun k hk=>⟨(ND hrow k hk).1,bQ hrow k hk⟩;have hsz:=h3.size;have hsz':=hm.size;obtain ⟨p,q1,q2,q3,q4,q5⟩:=h1.ex;refine ⟨⟨⟨p,q1.stp hm (fun k hk=>⟨by have:=(hP k hk).1;omega,(hP k hk).2⟩),q2,q3,q4,fun i hi ho => ?_⟩,fun i hi => ?_⟩,h5,h3.trans' hm (fun i hi hp=>absurd (hP i hp).1 zaa)⟩
 ·by_cases hw:i<W.heap.size
  ·exact (q5 i hw ho).imp id (fun h=>⟨h.1,hi⟩)
  ·exact .inr ⟨zaa,hi⟩
 ·rcases hi with hi | hi
  ·have:=h1.own i (.inl hi);omega
  ·have:=h1.le;omega
end
end Fr
theorem Hn (W0:World) (n0 xb b:Nat) (ps:List Pg.PS) (an:Pg.RSt->ByteArray->Pg.RSt) (r:Pg.RSt) (O:Nat->Prop) (h:Pg.Sn W0 n0 xb b ps an r O) (hl:Pg.Lw n0) (hE:Pg.qR W0) (hg:0<n0) (hcl:∀ ev:ByteArray,ev.size<=1000000->qQ ev) (a ra:Option Addr) (c rc:Nat) (L:List ByteArray) (T:List Int) (hEv:∀ W,Mo (Pg.Own O W0) W0 W->Fr.AH W a L/\Fr.DD W ra T) (hL:L.length<=8192) (hT:T.length<=8192) (hx:∀ x∈L,x.size<=8192) :
  () 7 #[xb,.slice a L.length c,.slice ra T.length rc] W0 fun e w'=>∃ sl:Ref.Sl,e = .returned (.tuple #[.slice sl.a sl.n sl.c,.int .i64 ((Fr.plP an L T r (max L.length T.length)).2.2:Nat)])/\Hid (Fr.PlJ W0 n0 xb b ps an O (Fr.plP an L T r (max L.length T.length)).1 (Fr.plP an L T r (max L.length T.length)).2.1 sl w'):=by
 have hle:=h.le;have HEV:Hid (∀ W A r sl,Fr.PlJ W0 n0 xb b ps an O A r sl W->Fr.AH W a L/\Fr.DD W ra T):=fun W A r sl hJ=>hEv W hJ.2.2;have hET:∀ W A r sl,Fr.PlJ W0 n0 xb b ps an O A r sl W->Pg.qR W:=fun W A r sl hJ=>(hJ.2.2.cell (p:=⟨0,0,none⟩) (Nq hg (MX hle.1 hle.2)) (fun hp=>absurd (h.own _ hp.1).1 (Nat.not_le_of_lt hg))).trans hE;have HCE:Hid (∀ W A r1 sl (x:ByteArray),x.size<=8192->Fr.PlJ W0 n0 xb b ps an O A r1 sl W->() 15 #[xb,.string x] W fun e w'=>∃ l,∃ k:Nat,e = .returned (.tuple #[l,(k:Int)])/\k=Pg.jG r1 (Pg.evK an r1 x).2/\Hid (Fr.PlQ W0 n0 xb b ps an O A (Pg.evK an r1 x).1 (Pg.evK an r1 x).2 sl l w')):=fun W A r1 sl x hx hJ=>by
  refine M7 (hJ.1.tld hl (z:=Pg.evK an r1 x) (fun p e hS=>by
   have:=Jm hS (hET W A r1 sl hJ) hg hcl x zaa
   rwa [e] at this)) ?_
  exact zee
 have HCC:Hid (∀ W A r1 sl (z:Int),Fr.PlJ W0 n0 xb b ps an O A r1 sl W->() 16 #[xb,.int .u64 (IntKind.u64.wrap z)] W fun e w'=>∃ l,∃ k:Nat,e = .returned (.tuple #[l,(k:Int)])/\k=Pg.jG r1 (Pg.ckK an r1 (Fr.u64 z)).2/\Hid (Fr.PlQ W0 n0 xb b ps an O A (Pg.ckK an r1 (Fr.u64 z)).1 (Pg.ckK an r1 (Fr.u64 z)).2 sl l w')):=fun W A r1 sl z hJ=>by
  rw [(Fr.yd z).1];refine M7 (hJ.1.tld hl (z:=Pg.ckK an r1 (Fr.u64 z)) (fun p e hS=>by
   have:=Jb hS (hET W A r1 sl hJ) hg hcl (Fr.u64 z) (Fr.yd z).2
   rwa [e] at this)) ?_
  exact zee
 have H0:Hid (Fr.PlJ W0 n0 xb b ps an O [] r ⟨none,0,0⟩ W0):=⟨h.mono (fun _ h => .inl h) (fun k hk=>hk.elim (h.own k) (fun h=>absurd h.1 zaa)),⟨[],rfl,N4 ..,fun y hy=>by cases hy⟩,Mo.refl _ _⟩;have HX:Hid _:=hx;have HLE:Hid _:=hle.2;clear h hE hEv hcl hx hET hle;obtain ⟨M,hM⟩:∃ M,max L.length T.length=M:=⟨_,rfl⟩;have hM1:L.length<=M:=zaa;have hM2:T.length<=M:=zaa;have hM3:M<=8192:=zaa;have HM:Hid (M=L.length\/M=T.length):=by unfold Hid;omega
 rw [hM];clear hM;go_enter func7,ntmps7;go_wp2
 go_loopw [8,9,10] (fun o q i wr=>∃ (k:Nat) (sl:Ref.Sl),k<=M/\i = .int .i64 k/\q = .int .i64 ((Fr.plP an L T r k).2.2:Nat)/\o = .slice sl.a sl.n sl.c/\Hid (Fr.PlJ W0 n0 xb b ps an O (Fr.plP an L T r k).1 (Fr.plP an L T r k).2.1 sl wr)) (fun _ _ i _=>M-(intOf i).toNat)
 case atStart=>exact ⟨0,⟨none,0,0⟩,Ni _,rfl,rfl,rfl,H0⟩
 case round =>
  obtain ⟨k,sl,hk,rfl,rfl,rfl,HJ⟩:=hrel;have hpl:=Fr.xG an L T r k;have HNX:Hid (Fr.plP an L T r (k+1)=Fr.ckP an (Fr.evP an (Fr.plP an L T r k) L[k]?) T[k]?):=rfl;obtain ⟨S,hS⟩:∃ S,Fr.plP an L T r k=S:=⟨_,rfl⟩;rw [hS] at HJ hpl HNX ⊢;have HSS:Hid _:=hS;clear hS;have hnn:¬ (k:Int)<0:=zaa;obtain ⟨hEV,hIN⟩:=HEV.out wr _ _ sl HJ.out;by_cases hkL:k<L.length
  ·obtain ⟨x,hx⟩:∃ x,L[k]?=some x:=⟨_,MU hkL⟩;obtain ⟨eb,off,rfl,hc⟩:=hEV k x hx;have hlt':((k:Int)<(L.length:Int)):=zaa;have HC:Hid _:=HCE.out wr _ _ sl x (HX.out x (Nc hx)) HJ.out;have h1l:=Fr.C6 an S (some x);have hap:∀ A B:List (ByteArray×Pg.RSt),A=S.1->B=(Pg.evK an S.2.1 x).1->A.length+B.length<=4000000:=fun A B hA hB=>by
    have:(S.1++(Pg.evK an S.2.1 x).1).length<=S.1.length+1:=h1l;rw [Nj] at this;rw [hA,hB];omega
   rw [hx] at HNX;have HAP:Hid _:=hap _ _ rfl rfl;clear hx hEV hap;by_cases hkT:k<T.length
   ·obtain ⟨z,hz⟩:∃ z,T[k]?=some z:=⟨_,MU hkT⟩;have hlt2:((k:Int)<(T.length:Int)):=zaa;rw [hz] at HNX;have HIN:Hid _:=fun W A r1 sl1 (hJ:Fr.PlJ W0 n0 xb b ps an O A r1 sl1 W)=>(HEV.out W A r1 sl1 hJ).2 k z hz;obtain ⟨rb,roff,rfl,_⟩:=hIN k z hz;have h2l:=Fr.wI an (Fr.evP an S (some x)) (some z);have HAP2:Hid ((S.1++(Pg.evK an S.2.1 x).1).length+(Pg.ckK an (Pg.evK an S.2.1 x).2 (Fr.u64 z)).1.length<=4000000):=by
     have h3:((S.1++(Pg.evK an S.2.1 x).1)++(Pg.ckK an (Pg.evK an S.2.1 x).2 (Fr.u64 z)).1).length<=(S.1++(Pg.evK an S.2.1 x).1).length+201:=h2l;have h4:(S.1++(Pg.evK an S.2.1 x).1).length<=S.1.length+1:=h1l;rw [Nj] at h3;unfold Hid;omega
    clear hz hIN h1l h2l hpl;go_wp2_with (first
     | (go_at_call 15;refine M7 HC.out ?_;rintro e w2 ⟨l,z2,rfl,hz2,h2⟩)
     | (at_builtin;refine h2.out.app HLE.out HAP.out rfl _ _ rfl rfl rfl ?_;intro sl3 w3 h3;have hc3:=HIN.out w3 _ _ sl3 h3.out;obtain ⟨rb',roff',hra,hc3⟩:=hc3;cases hra;have HC2:Hid _:=HCC.out w3 _ _ sl3 z h3.out)
     | (go_at_call 16;refine M7 HC2.out ?_;rintro e w4 ⟨l4,z4,rfl,hz4,h4⟩)
     | (at_builtin;refine h4.out.app HLE.out HAP2.out rfl _ _ rfl rfl rfl ?_;intro sl5 w5 h5))
    exact zdP
   ·have hlt2:¬ ((k:Int)<(T.length:Int)):=zaa;rw [Ny zaa] at HNX;clear hIN h1l hpl;go_wp2_with (first
     | (go_at_call 15;refine M7 HC.out ?_;rintro e w2 ⟨l,z2,rfl,hz2,h2⟩)
     | (at_builtin;refine h2.out.app HLE.out HAP.out rfl _ _ rfl rfl rfl ?_;intro sl3 w3 h3))
    go_round
    case rel=>exact ⟨k+1,sl3,zaa,zah,by rw [HNX.out];rfl,rfl,by rw [HNX.out];exact h3⟩
    case measure=>simp [intOf];omega
  ·have hlt':¬ ((k:Int)<(L.length:Int)):=zaa;rw [Ny zaa] at HNX;by_cases hkT:k<T.length
   ·obtain ⟨z,hz⟩:∃ z,T[k]?=some z:=⟨_,MU hkT⟩;have hlt2:((k:Int)<(T.length:Int)):=zaa;rw [hz] at HNX;obtain ⟨rb,roff,rfl,hc3⟩:=hIN k z hz;have HC2:Hid _:=HCC.out wr _ _ sl z HJ.out;have h2l:=Fr.wI an S (some z);have HAP2:Hid (S.1.length+(Pg.ckK an S.2.1 (Fr.u64 z)).1.length<=4000000):=by
     have h3:(S.1++(Pg.ckK an S.2.1 (Fr.u64 z)).1).length<=S.1.length+201:=h2l;rw [Nj] at h3;unfold Hid;omega
    clear hz hIN hEV h2l hpl;go_wp2_with (first
     | (go_at_call 16;refine M7 HC2.out ?_;rintro e w4 ⟨l4,z4,rfl,hz4,h4⟩)
     | (at_builtin;refine h4.out.app HLE.out HAP2.out rfl _ _ rfl rfl rfl ?_;intro sl5 w5 h5))
    exact zdP
   ·have hlt2:¬ ((k:Int)<(T.length:Int)):=zaa;obtain rfl:k=M:=by have:=HM.out;omega
    clear hIN hEV hpl;go_wp2;go_ret2;exact ⟨sl,by rw [HSS.out];rfl,by rw [HSS.out];exact HJ⟩
namespace Fr
def tot (L:List ByteArray):Nat:=(L.map ByteArray.size).sum
theorem Au (h:L[k]?=some s):tot (L.take (k+1))=tot (L.take k)+s.size:=by
 unfold tot;rw [OH,h,NW,R3];simp
theorem Iy (L:List ByteArray) (k:Nat):tot (L.take k)<=tot L:=by
 have h:tot L=tot (L.take k)+tot (L.drop k):=by unfold tot;rw [<- R3,<- NW,List.take_append_drop]
 omega
theorem Ku (h:L[k]?=some s):s.size<=tot L:=by
 have h1:=Au h;have h2:=Iy L (k+1);omega
def II (s:ByteArray) (w:World) (e:Ending) (w':World):Prop:=Below w w w'/\match Pro.read s with
 | .fault _ _=>e = .returned (.tuple #[.pointer none,.slice none 0 0,.bool true])
 | .eX S=>∃ xb sb b ps,e = .returned (.tuple #[.pointer (some ⟨xb,0,none⟩),.slice (some ⟨sb,0,none⟩) 1 1,.bool true])/\Pg.Sn w' w.heap.size xb b ps (Pg.anS S) (Pg.stS S) (fun k=>w.heap.size<=k/\k<w'.heap.size)/\Pg.bP ps=Pg.bP (Pg.psF (Pg.X0 S))/\Pg.LN w' b b ps (.slice (some ⟨sb,0,none⟩) 1 1) [(⟨#[]⟩,Pg.stS S)]/\(Pg.stS S).now=0
end Fr
theorem ux (s:ByteArray) (w:World) (hv:qn w) (hs:s.size<=1000000):() 6 #[s] w (Fr.II s w):=by
 have HP:Hid _:=kO s w hv zaa;have HST:Hid (∀ V,Below w w V->() 14 #[(s.size:Int)] V fun e w'=>e = .returned true/\Hid (Below w w w')):=fun V hb=>(xg s.size V (hv.ao hb) hs).mono (fun e w' x=>⟨x.1,hb.trans (x.2.mono hb.size)⟩);clear hv;go_enter func6,ntmps6;go_wp2_with fail;refine M7 HP.out ?_;rintro e w1 ⟨hb1,hp⟩;cases hR:Pro.read s with
 | fault c l =>
  rw [hR] at hp;subst hp;have hc:=Pro.Hu hR;have HRR:Hid _:=hR;clear hR;dsimp only;go_wp2_with (go_at_call 14;refine M7 (HST.out _ hb1) ?_;rintro e w2 ⟨rfl,hb2⟩);go_ret3;unfold Fr.II;rw [HRR.out];exact ⟨hb2.out,rfl⟩
 | eX S =>
  rw [hR] at hp;obtain ⟨xb,sb,p,r,rfl,h1,h2,_,sv,rfl,q2,q3,q4,q5,q6⟩:=hp;have HR:Hid (Fr.II s w (.returned (.tuple #[xb,.slice sb 1 1,true])) w1):=by
   unfold Hid Fr.II;rw [hR];exact ⟨hb1,xb,sb,p.lo.n,p.ps,rfl,⟨⟨p,h1,rfl,rfl,q3,fun k hk ho=>⟨MX h1.n0 (p.lo.le k ho),hk⟩⟩,fun k hk=>hk⟩,q2,.one q4 q5 q6,h2⟩
  clear hR h1 h2 q2 q3 q4 q5 q6;generalize Pg.stS S=r at *;by_cases hf:r.fin=6
  ·rw [show Pg.fuelN r.fin=6 by rw [hf];rfl];exact ze8
  ·rw [show Pg.fuelN r.fin=0 by unfold Pg.fuelN;rw [M4 hf]];exact ze8
theorem Jn (s:ByteArray) (a ra:Option Addr) (c rn rc:Nat) (L:List ByteArray) (w:World) (hE:Fr.AH w a L) (hbd:s.size+L.length+rn+Fr.tot L<=4194304) :
  () 5 #[s,.slice a L.length c,.slice ra rn rc] w fun e w'=>e = .returned (.bool (decide (8192<s.size+L.length+rn+Fr.tot L)))/\w'=w:=by
 have HE:Hid _:=hE;clear hE;have hs1:=hbd;go_enter func5,ntmps5;go_wp2
 go_loopw [7,8] (fun n i wr=>∃ k:Nat,k<=L.length/\i = .int .i64 k/\n = .int .i64 ((s.size+L.length+rn+Fr.tot (L.take k):Nat):Int)/\wr=w) (fun _ i _=>L.length-(intOf i).toNat)
 case atStart=>exact ⟨0,Ni _,rfl,by simp [Fr.tot],rfl⟩
 case round =>
  obtain ⟨k,hk,rfl,rfl,rfl⟩:=hrel;by_cases hlt:k<L.length
  ·obtain ⟨x,hx⟩:∃ x,L[k]?=some x:=⟨_,MU hlt⟩;obtain ⟨b,off,rfl,hc⟩:=HE.out k x hx;have hlt':((k:Int)<(L.length:Int)):=zaa;have h1:=Fr.Au hx;have h2:=Fr.Iy L (k+1);have HT:Hid _:=h1;generalize Fr.tot (L.take k)=T at *;clear h1;go_wp2
   go_round
   case rel =>
    refine ⟨k+1,zaa,zah,?_,by first | trivial | rfl⟩;have h3:=HT.out;rw [Go.IntWalk.wrap64_in _ zaa,h3]
    go_num
   case measure=>simp [intOf];omega
  ·obtain rfl:k=L.length:=zaa;rw [N6];go_wp2;go_ret;exact ⟨by congr 2;simp;omega,rfl⟩
namespace Fr
def Zs (W:World) (n:Nat) (zv:Value) (O:Nat->Prop):Prop:=(zv = .pointer none/\∀ k,¬ O k)\/∃ zb b ps an r,zv = .pointer (some ⟨zb,0,none⟩)/\Pg.Sn W n zb b ps an r O
theorem Zs.other {W W':World} {zv:Value} {O Q:Nat->Prop} (h:Zs W n zv O) (hm:Mo (Pg.Own Q W) W W') (hQ:∀ k,Q k->O k->False) (hl:Pg.Lw n) (hn:∀ k,Q k->n<=k):Zs W' n zv O:=h.imp id fun ⟨zb,b,ps,an,r,e,hS⟩=>⟨zb,b,ps,an,r,e,hS.other hm hQ hl hn⟩
theorem Zs.own {W:World} {zv:Value} {O:Nat->Prop} (h:Zs W n zv O) (k:Nat) (hk:O k):n<=k/\k<W.heap.size:=by
 rcases h with ⟨_,h⟩ | ⟨_,_,_,_,_,_,h⟩
 ·exact absurd hk (h k)
 ·exact h.own k hk
theorem Gm {W W':World} {O Q:Nat->Prop} (hd:∀ k,O k->Q k->False) (hQ:∀ k,Q k->k<W.heap.size) (k:Nat) (h:Pg.Gr O W W' k) (hq:Q k):False:=h.elim (fun h=>hd k h hq) (fun h=>by have:=hQ k hq;omega)
theorem yM {O Q:Nat->Prop} (hd:∀ k,O k->Q k->False) (k:Nat) (h:Q k) (hq:O k):False:=hd k hq h
def Arg (n:Nat) (W:World) (a ra:Option Addr) (L:List ByteArray) (T:List Int):Prop:=(∀ W',Kd Pg.dW W W'->Below n W W'->AH W' a L/\DD W' ra T)/\L.length<=8192/\T.length<=8192/\∀ x∈L,x.size<=8192
theorem uy {W W':World} {O:Nat->Prop} (h:Mo (Pg.Own O W) W W') (hO:∀ k,O k->n<=k) (hn:n<=W.heap.size):Below n W W':=⟨h.os,h.tape,h.output,h.size,fun k hk=>h.block k zaa (fun hp=>by have:=hO k hp.1;omega)⟩
abbrev plA (an:Pg.RSt->ByteArray->Pg.RSt) (L:List ByteArray) (T:List Int) (r:Pg.RSt):List (ByteArray×Pg.RSt)×Pg.RSt×Nat:=plP an L T r (max L.length T.length)
theorem Mm {w W:World} {xb b:Nat} {ps:List Pg.PS} {an:Pg.RSt->ByteArray->Pg.RSt} {O:Nat->Prop} (hb:Below w w W) (h:Pg.Sn W w xb b ps an r O) (hv:qn w) (hcl:∀ ev:ByteArray,ev.size<=1000000->qQ ev) (hA:Arg w.heap.size W a ra L T) (c rc:Nat) :
  () 7 #[xb,.slice a L.length c,.slice ra T.length rc] W fun e w'=>∃ sl:Ref.Sl,e = .returned (.tuple #[.slice sl.a sl.n sl.c,.int .i64 ((plA an L T r).2.2:Nat)])/\Hid (PlJ W w xb b ps an O (plA an L T r).1 (plA an L T r).2.1 sl w') :=
 Hn W w xb b ps an r O h hv.lw ((hb.cell (p:=⟨0,0,none⟩) (Np _ _ hv.tP)).trans hv.tP) (Np _ _ hv.tP) hcl a ra c rc L T (fun W' hm=>hA.1 W' (BC hm) (uy hm (fun k hk=>(h.own k hk).1) hb.size)) hA.2.1 hA.2.2.1 hA.2.2.2
section
variable (w:World) (xb yb bx b2:Nat) (psx psy:List Pg.PS) (an:Pg.RSt->ByteArray->Pg.RSt) (zv:Value)
def TwS (rx ry:Pg.RSt) (W:World):Prop:=Below w w W/\∃ Ox Oy Oz:Nat->Prop,Pg.Sn W w xb bx psx an rx Ox/\Pg.Sn W w yb b2 psy an ry Oy/\Zs W w zv Oz/\(∀ k,Ox k->Oy k->False)/\(∀ k,Ox k->Oz k->False)/\∀ k,Oy k->Oz k->False
variable {w xb yb bx b2 psx psy an zv} {rx ry:Pg.RSt} {W W':World}
theorem TwS.ao (h:TwS w xb yb bx b2 psx psy an zv rx ry W) (hb:Below W W W') (hl:Pg.Lw w.heap.size):TwS w xb yb bx b2 psx psy an zv rx ry W':=by
 obtain ⟨h0,Ox,Oy,Oz,h1,h2,h3,hd⟩:=h;exact ⟨h0.trans (hb.mono h0.size),Ox,Oy,Oz,h1.ao hb hl,h2.ao hb hl,h3.other (Q:=fun _=>False) (ay hb) (fun _ h _=>h) hl (fun _ h=>h.elim),hd⟩
theorem TwS.px (h:TwS w xb yb bx b2 psx psy an zv rx ry W) (hv:qn w) (hcl:∀ ev:ByteArray,ev.size<=1000000->qQ ev) (hA:Arg w.heap.size W a ra L T) (c rc:Nat) :
  () 7 #[xb,.slice a L.length c,.slice ra T.length rc] W fun e W'=>∃ sl:Ref.Sl,e = .returned (.tuple #[.slice sl.a sl.n sl.c,.int .i64 ((plA an L T rx).2.2:Nat)])/\Hid (TwS w xb yb bx b2 psx psy an zv (plA an L T rx).2.1 ry W'/\Pg.LN W' W bx psx (.slice sl.a sl.n sl.c) (plA an L T rx).1/\Kd Pg.dW W W'):=by
 obtain ⟨h0,Ox,Oy,Oz,h1,h2,h3,d1,d2,d3⟩:=h;refine (Mm h0 h1 hv hcl hA c rc).mono ?_;rintro e W' ⟨sl,rfl,hJ⟩;obtain ⟨j1,j2,j3⟩:=hJ.out;have hn:∀ k,Ox k->w.heap.size<=k:=fun k hk=>(h1.own k hk).1;exact ⟨sl,rfl,⟨h0.trans (uy j3 hn h0.size),_,Oy,Oz,j1,h2.other j3 d1 hv.lw hn,h3.other j3 d2 hv.lw hn,Gm d1 (fun k hk=>(h2.own k hk).2),Gm d2 (fun k hk=>(h3.own k hk).2),d3⟩,j2,BC j3⟩
theorem TwS.py (h:TwS w xb yb bx b2 psx psy an zv rx ry W) (hv:qn w) (hcl:∀ ev:ByteArray,ev.size<=1000000->qQ ev) (hA:Arg w.heap.size W a ra L T) (c rc:Nat) :
  () 7 #[yb,.slice a L.length c,.slice ra T.length rc] W fun e W'=>∃ sl:Ref.Sl,e = .returned (.tuple #[.slice sl.a sl.n sl.c,.int .i64 ((plA an L T ry).2.2:Nat)])/\Hid (TwS w xb yb bx b2 psx psy an zv rx (plA an L T ry).2.1 W'/\Pg.LN W' W b2 psy (.slice sl.a sl.n sl.c) (plA an L T ry).1/\Kd Pg.dW W W'):=by
 obtain ⟨h0,Ox,Oy,Oz,h1,h2,h3,d1,d2,d3⟩:=h;refine (TwS.px (xb:=yb) (yb:=xb) (bx:=b2) (b2:=bx) (psx:=psy) (psy:=psx) ⟨h0,Oy,Ox,Oz,h2,h1,h3,yM d1,d3,d2⟩ hv hcl hA c rc).mono ?_;rintro e W' ⟨sl,rfl,hJ⟩;obtain ⟨⟨j0,Py,Px,Pz,j1,j2,j3,e1,e2,e3⟩,j4⟩:=hJ.out;exact ⟨sl,rfl,⟨j0,Px,Py,Pz,j2,j1,j3,yM e1,e3,e2⟩,j4⟩
end
theorem Sn.low {W:World} {m xb b:Nat} {ps:List Pg.PS} {an:Pg.RSt->ByteArray->Pg.RSt} {O:Nat->Prop} (h:Pg.Sn W n xb b ps an r O) (hm:m<=n):Pg.Sn W m xb b ps an r O:=by
 obtain ⟨p,h1,h2⟩:=h.ex;exact ⟨⟨p,⟨h1.at',h1.lo,MX hm h1.n0,h1.lv⟩,h2⟩,fun k hk=>⟨MX hm (h.own k hk).1,(h.own k hk).2⟩⟩
end Fr
namespace Pg
def fQ (u:Nat) (r:RSt):Option Tn:=match (srt (fun x:Tn=>x.t) r.tm).head? with | some f=>if f.t<=u then some f else none | none=>none
theorem mZ {u:Nat} {r:RSt} (h:r.now<=u):bW r.now u r.tm=(fQ u r).isSome:=by
 unfold bW fQ;cases (srt (fun x:Tn=>x.t) r.tm).head? with
 | none=>rfl
 | some f =>
  dsimp only;rw [show max u r.now=u by omega];by_cases hf:f.t<=u
  ·rw [NZ hf,M6 hf];rfl
  ·rw [NM hf,M4 hf];rfl
theorem uM {u:Nat} (h:fQ u r=some f):(srt (fun x:Tn=>x.t) r.tm).head?=some f/\f.t<=u:=by
 unfold fQ at h;split at h
 ·split at h
  ·cases h
   exact ⟨zal,zal⟩
  ·cases h
 ·cases h
theorem C5 {m u:Nat} (h:fQ m r=some f) (hm:m<=u):fQ u r=some f:=by
 obtain ⟨h1,h2⟩:=uM h;unfold fQ;rw [h1];exact M6 (MX h2 hm)
def frs (an:RSt->ByteArray->RSt) (u:Nat):Nat->RSt->List (ByteArray×RSt)
 | 0,_=>[]
 | n+1,r=>if r.fin=0 then match fQ u r with
   | some f=>(f.ev,bG an (gE r f) f.ev)::frs an u n (bG an (gE r f) f.ev)
   | none=>[]
  else []
def bX:RSt->List (ByteArray×RSt)->RSt
 | r,[]=>r
 | _,x::l=>bX x.2 l
theorem uX:∀ (r:RSt) (a b:List (ByteArray×RSt)),bX r (a++b)=bX (bX r a) b
 | _,[],_=>rfl
 | _,x::a,b=>uX x.2 a b
section
variable {an:RSt->ByteArray->RSt} {m u:Nat}
theorem mX (h0:r.fin=0) (hf:fQ u r=some f) (n:Nat):frs an u (n+1) r=(f.ev,bG an (gE r f) f.ev)::frs an u n (bG an (gE r f) f.ev):=by
 rw [frs,M6 h0,hf]
theorem ic {r:RSt} (h:¬ r.fin=0\/fQ u r=none):∀ n,frs an u n r=[]
 | 0=>rfl
 | n+1=>by
  rw [frs];split
  ·rename_i h0
   rcases h with h | h
   ·exact absurd h0 h
   ·rw [h]
  ·rfl
theorem Ju (r:RSt) (x:Nat):∀ n,frs an u n { r with now:=x }=frs an u n r
 | 0=>rfl
 | _+1=>rfl
theorem jK (hm:m<=u) (n:Nat):∀ (a:Nat) (r:RSt),frs an u ((frs an m a r).length+n) r=frs an m a r++frs an u n (bX r (frs an m a r))
 | 0,r=>by simp [frs,bX]
 | a+1,r=>by
  by_cases h0:r.fin=0
  ·cases hf:fQ m r with
   | none=>rw [ic (.inr hf)];simp [bX]
   | some f =>
    rw [mX h0 hf,Oa,show (frs an m a (bG an (gE r f) f.ev)).length+1+n=((frs an m a (bG an (gE r f) f.ev)).length+n)+1 by omega,mX h0 (C5 hf hm),jK hm n a];rfl
  ·have e:frs an m (a+1) r=[]:=ic (.inl h0) _;rw [e];simp [bX]
theorem zh:∀ (a b:Nat) (r:RSt),a<=b->frs an u a r=(frs an u b r).take a
 | 0,_,_,_=>rfl
 | a+1,0,_,h=>absurd h zaa
 | a+1,b+1,r,h=>by
  by_cases h0:r.fin=0
  ·cases hf:fQ u r with
   | none=>rw [ic (.inr hf),ic (.inr hf)];rfl
   | some f=>rw [mX h0 hf,mX h0 hf,List.take_succ_cons,zh a b _ zaa]
  ·rw [ic (.inl h0),ic (.inl h0)];rfl
theorem pw:∀ (n:Nat) (r:RSt),(frs an u n r).length<n->¬ (bX r (frs an u n r)).fin=0\/fQ u (bX r (frs an u n r))=none
 | 0,_,h=>absurd h zaa
 | n+1,r,h=>by
  by_cases h0:r.fin=0
  ·cases hf:fQ u r with
   | none=>rw [ic (.inr hf)];exact .inr hf
   | some f =>
    rw [mX h0 hf,Oa] at h;rw [mX h0 hf];exact pw n (bG an (gE r f) f.ev) zaa
  ·rw [ic (.inl h0)];exact .inl h0
def clE (u:Nat) (x:RSt):RSt:=if x.fin=0 then (if (fQ u x).isSome=true then { x with fin:=6 } else { x with now:=u }) else x
theorem C2 (hs:∀ r x,(an r x).now=r.now):∀ (n k:Nat) (r:RSt),n+k=200->(k=200->fQ u r=none)->r.fin=0->r.now<=u->eL an u (n+1) k r=(frs an u n r,clE u (bX r (frs an u n r)))
 | n,k,r,hk,hd,h0,hn=>by
  cases hf:fQ u r with
  | none =>
   rw [pf (by rw [mZ hn,hf];rfl),ic (.inr hf)];show _=([],clE u r);unfold clE;rw [M6 h0,hf,M4 zac,show max u r.now=u by omega]
  | some f =>
   obtain ⟨hh,hft⟩:=uM hf;obtain ⟨n,rfl⟩:∃ j,n=j+1:=⟨n-1,by
    have:k≠200:=fun e=>by rw [hd e] at hf;cases hf
    omega⟩
   rw [C1 (by rw [mZ hn,hf];rfl) hh rfl,mX h0 hf];obtain ⟨r2,hr2⟩:∃ r2,bG an (gE r f) f.ev=r2:=⟨_,rfl⟩;have hn2:r2.now<=u:=by rw [<- hr2,vZ hs];exact hft
   rw [hr2];show _=((f.ev,r2)::frs an u n r2,clE u (bX r2 (frs an u n r2)));by_cases h2:r2.fin=0
   ·rw [M6 h2,mZ hn2];by_cases hc:k+1=200/\(fQ u r2).isSome=true
    ·rw [M6 hc];obtain rfl:n=0:=zaa;show _=([(f.ev,r2)],clE u r2);unfold clE;rw [M6 h2,M6 hc.2]
    ·rw [M4 hc,C2 hs n (k+1) r2 zaa (fun e=>by
      cases hd2:fQ u r2 with
      | none=>rfl
      | some g=>exact absurd ⟨e,by rw [hd2];rfl⟩ hc) h2 hn2]
   ·rw [M4 h2,ic (.inl h2)];show _=([(f.ev,r2)],clE u r2);unfold clE;rw [M4 h2]
 termination_by n=>n
theorem C0 (hs:∀ r x,(an r x).now=r.now) (h0:r.fin=0) (hn:r.now<=u):ckK an r u=(frs an u 200 r,clE u (bX r (frs an u 200 r))):=by
 unfold ckK;rw [M6 h0];exact C2 hs 200 0 r rfl (fun h=>zat) h0 hn
theorem Jc (h0:r.fin=0) (hn:u<=r.now) (hd:fQ r.now r=none):ckK an r u=([],r):=by
 unfold ckK;rw [M6 h0,pf]
 ·rw [show max u r.now=r.now by omega]
 ·unfold bW;unfold fQ at hd;rw [show max u r.now=r.now by omega];split
  ·rfl
  ·rename_i f hf;rw [hf] at hd;dsimp only at hd;split at hd
   ·cases hd
   ·exact NM zal
end
end Pg
namespace Fr
open Pg
def mxT (T:List Int):Nat->Nat
 | 0=>0
 | k+1=>max (mxT T k) ((T[k]?.map u64).getD 0)
def RdI (an:RSt->ByteArray->RSt) (top:Nat) (r:RSt) (M:Nat) (none':Prop) (s:List (ByteArray×RSt)×RSt×Nat):Prop:=s.1=frs an top s.1.length r/\(
 ((bX r s.1).fin=0/\s.2.1={ bX r s.1 with now:=M }/\(none'->fQ M (bX r s.1)=none)/\s.2.2=0) \/
 (¬ (bX r s.1).fin=0/\s.2.1=bX r s.1/\(s.2.2=s.2.1.fin\/s.2.2=if s.2.1.fin=6 then 6 else 0)) \/
 (200<=s.1.length/\(bX r s.1).fin=0/\(fQ top (bX r s.1)).isSome=true/\s.2.1={ bX r s.1 with fin:=6 }/\s.2.2=6))
theorem RdI.next {an:RSt->ByteArray->RSt} (hs:∀ r x,(an r x).now=r.now) {r:RSt} {M:Nat} {ne:Prop} {s:List (ByteArray×RSt)×RSt×Nat} (h:RdI an top r M ne s) (hM:¬ ne->M=0) {t:Nat} (hz:t<=top):RdI an top r (max M t) True (s.1++(ckK an s.2.1 t).1,(ckK an s.2.1 t).2,jG s.2.1 (ckK an s.2.1 t).2):=by
 obtain ⟨B,rk,e⟩:=s;obtain ⟨hB,h⟩:=h;dsimp only at hB h;unfold RdI;dsimp only
 rcases h with ⟨h1,rfl,h3,h4⟩ | ⟨h1,rfl,h3⟩ | ⟨h1,h2,h3,rfl,h5⟩
 ·generalize hx:bX r B=x at *;by_cases htM:M<=t
  ·have hck:ckK an { x with now:=M } t=(frs an t 200 x,clE t (bX x (frs an t 200 x))):=by
    rw [C0 hs (r:={ x with now:=M }) h1 htM,Ju]
    congr 1
    cases hl:frs an t 200 x with
    | nil =>
     show clE t { x with now:=M }=clE t x;have hd:=pw (an:=an) (u:=t) 200 x (by rw [hl];decide);rw [hl] at hd;have hd:fQ t x=none:=hd.resolve_left (fun h=>h h1);have hd2:fQ t { x with now:=M }=none:=hd;unfold clE;rw [M6 (show ({ x with now:=M }:RSt).fin=0 from h1),M6 h1,hd,hd2];rfl
    | cons y l=>rfl
   rw [hck];dsimp only;generalize hl:frs an t 200 x=l at *;have hBl:B++l=frs an top (B++l).length r:=by
    have e1:=jK (an:=an) (m:=top) (u:=top) (MR _) l.length B.length r;rw [<- hB,hx] at e1;have e2:=jK (an:=an) hz 0 200 x;rw [hl,Rz] at e2;rw [Nj,e1,e2];simp [frs]
   have hla:bX r (B++l)=bX x l:=by rw [uX,hx]
   rw [show max M t=t by omega];refine ⟨hBl,?_⟩;rw [hla];have hsh:=pw (an:=an) (u:=t) 200 x;rw [hl] at hsh;unfold clE jG;generalize bX x l=y at *;by_cases hy:y.fin=0
   ·rw [M6 hy];cases hd:(fQ t y).isSome with
    | true =>
     obtain ⟨f,hf⟩:=Option.isSome_iff_exists.1 hd;refine .inr (.inr ⟨?_,hy,by rw [C5 hf hz];rfl,zad,by simp [h1]⟩);rw [Nj];have:¬ l.length<200:=fun h=>by
      rcases hsh h with h | h
      ·exact h hy
      ·rw [h] at hf;cases hf
     omega
    | false =>
     have hd':fQ t y=none:=by simpa using hd
     exact .inl ⟨hy,zad,fun _=>hd',by simp [h1,hy]⟩
   ·rw [M4 hy];exact .inr (.inl ⟨hy,rfl,.inr (by simp [h1])⟩)
  ·have hne:ne:=Oi fun h=>by have:=hM h;omega
   have hck:ckK an { x with now:=M } t=([],{ x with now:=M }):=Jc (r:={ x with now:=M }) h1 (by show t<=M;omega) (h3 hne);rw [hck];dsimp only;rw [OP,hx,show max M t=M by omega];exact ⟨hB,.inl ⟨h1,rfl,fun _=>h3 hne,by unfold jG;simp [h1]⟩⟩
 ·have hck:ckK an (bX r B) t=([],bX r B):=by unfold ckK;rw [M4 h1]
  rw [hck];dsimp only;rw [OP];exact ⟨hB,.inr (.inl ⟨h1,rfl,.inl (by unfold jG;rw [M4 h1])⟩)⟩
 ·have hck:ckK an { bX r B with fin:=6 } t=([],{ bX r B with fin:=6 }):=by unfold ckK;rw [M4 (by show ¬ (6:Nat)=0;decide)]
  rw [hck];dsimp only;rw [OP];exact ⟨hB,.inr (.inr ⟨h1,h2,h3,rfl,by unfold jG;rw [M4 (by show ¬ (6:Nat)=0;decide)]⟩)⟩
theorem vD {an:RSt->ByteArray->RSt} (hs:∀ r x,(an r x).now=r.now) {r:RSt} (h0:r.fin=0) (hn:r.now=0) {top:Nat} {T:List Int} (hT:∀ z∈T,u64 z<=top):∀ k,k<=T.length->RdI an top r (mxT T k) (0<k) (plP an [] T r k)
 | 0,_=>⟨rfl,.inl ⟨h0,by show r={ r with now:=0 };rw [<- hn],fun h=>absurd h zaa,rfl⟩⟩
 | k+1,hk=>by
  obtain ⟨z,hz⟩:∃ z,T[k]?=some z:=⟨_,MU zaa⟩;have:=(vD hs h0 hn hT k zaa).next hs (fun h=>by rw [show k=0 by omega];rfl) (hT z (Nc hz));rw [plP,mxT,hz];obtain ⟨a,b⟩:=this;refine ⟨a,?_⟩
  rcases b with ⟨b1,b2,b3,b4⟩ | b | b
  ·exact .inl ⟨b1,b2,fun _=>b3 trivial,b4⟩
  ·exact .inr (.inl b)
  ·exact .inr (.inr b)
theorem jump {an:RSt->ByteArray->RSt} {r:RSt} {A B:List (ByteArray×RSt)} {ra rb:RSt} {ea eb:Nat} (hA:A=frs an top 200 r) (hra:ra=clE top (bX r A)) (hea:ea=if ra.fin=6 then 6 else 0) (hB:RdI an top r top True (B,rb,eb)) (hfb:rb.fin=0\/rb.fin=5\/rb.fin=6) :
  (ea=6/\A.length<=B.length/\A=B.take A.length)\/(¬ ea=6/\A=B/\ra.now=rb.now/\(ea=eb\/eb=5)):=by
 obtain ⟨h,hb⟩:=hB;dsimp only at h hb;by_cases hgt:200<B.length
 ·have hAB:A=B.take 200:=by rw [hA,h,<- zh _ _ _ zaa]
  have hl:A.length=200:=by rw [hAB,N8];omega
  have e:=jK (an:=an) (m:=top) (u:=top) (MR _) (B.length-200) 200 r;rw [<- hA,hl,show 200+(B.length-200)=B.length by omega,<- h] at e;have hn:¬ (¬ (bX r A).fin=0\/fQ top (bX r A)=none):=fun hn=>by
   rw [ic hn,OP] at e;rw [e] at hgt;omega
  have h6:ra.fin=6:=by
   rw [hra];unfold clE;rw [M6 (Oi fun h=>hn (.inl h)),M6];cases hd:fQ top (bX r A) with
   | none=>exact absurd (.inr hd) hn
   | some f=>rfl
  exact .inl ⟨by rw [hea,M6 h6],zaa,by rw [hl];exact hAB⟩
 ·have key:(¬ (bX r B).fin=0\/fQ top (bX r B)=none)\/B.length=200->A=B:=fun hk=>by
   rcases hk with hk | hk
   ·have e:=jK (an:=an) (m:=top) (u:=top) (MR _) (200-B.length) B.length r;rw [<- h,ic hk,OP,show B.length+(200-B.length)=200 by omega] at e;rw [hA,e]
   ·rw [hA,h,hk]
  rcases hb with ⟨b1,b2,b3,b4⟩ | ⟨b1,b2,b3⟩ | ⟨b1,b2,b3,b4,b5⟩
  ·have hd:=b3 trivial;have hAB:=key (.inl (.inr hd));have hrr:ra=rb:=by
    rw [hra,hAB,b2];unfold clE;rw [M6 b1,hd];rfl
   have h6:¬ ra.fin=6:=by rw [hrr,b2];show ¬ (bX r B).fin=6;rw [b1];decide
   rw [M4 h6] at hea;exact .inr ⟨by rw [hea];decide,hAB,by rw [hrr],.inl (by rw [hea,b4])⟩
  ·have hAB:=key (.inl (.inl b1));have hrr:ra=rb:=by
    rw [hra,hAB,b2];unfold clE;rw [M4 b1]
   by_cases h6:ra.fin=6
   ·exact zer
   ·rw [M4 h6] at hea;rw [hrr] at h6;rw [M4 h6] at b3;have h0:¬ rb.fin=0:=by rw [b2];exact b1
    exact .inr ⟨by rw [hea];decide,hAB,by rw [hrr],zaa⟩
  ·have hAB:=key (.inr zaa);have h6:ra.fin=6:=by
    rw [hra,hAB];unfold clE;rw [M6 b2,M6 b3]
   exact zer
theorem KG (T:List Int):∀ (k:Nat) (i:Nat) (z:Int),i<k->T[i]?=some z->u64 z<=mxT T k
 | 0,_,_,h,_=>absurd h zaa
 | k+1,i,z,h,hz=>by
  rw [mxT];by_cases e:i=k
  ·subst e;rw [hz];exact Nat.le_max_right _ _
  ·exact MX (KG T k i z zaa hz) (Nat.le_max_left _ _)
theorem pI {an:RSt->ByteArray->RSt} {r:RSt} (h0:¬ r.fin=0) {T:List Int}:∀ k,k<=T.length->plP an [] T r k=([],r,if k=0 then 0 else r.fin)
 | 0,_=>rfl
 | k+1,hk=>by
  obtain ⟨z,hz⟩:∃ z,T[k]?=some z:=⟨_,MU zaa⟩;rw [plP,pI h0 k zaa,hz];show ([]++(ckK an r (u64 z)).1,(ckK an r (u64 z)).2,jG r (ckK an r (u64 z)).2)=_;unfold ckK jG;rw [M4 h0,M4 h0,M4 zaa];rfl
theorem Md {an:RSt->ByteArray->RSt} (hs:∀ r x,(an r x).now=r.now) {r:RSt} (hn:r.now=0) (hT:T≠[]) {z:Int} (hz:u64 z=mxT T T.length) (hfb:(plP an [] T r T.length).2.1.fin=0\/(plP an [] T r T.length).2.1.fin=5\/(plP an [] T r T.length).2.1.fin=6) :
  ((plP an [] [z] r 1).2.2=6/\(plP an [] [z] r 1).1.length<=(plP an [] T r T.length).1.length/\(plP an [] [z] r 1).1=(plP an [] T r T.length).1.take (plP an [] [z] r 1).1.length)\/(¬ (plP an [] [z] r 1).2.2=6/\(plP an [] [z] r 1).1=(plP an [] T r T.length).1/\(plP an [] [z] r 1).2.1.now=(plP an [] T r T.length).2.1.now/\((plP an [] [z] r 1).2.2=(plP an [] T r T.length).2.2\/(plP an [] T r T.length).2.2=5)):=by
 have hpos:0<T.length:=OJ.2 hT;by_cases h0:r.fin=0
 ·have hA:plP an [] [z] r 1=((ckK an r (u64 z)).1,(ckK an r (u64 z)).2,jG r (ckK an r (u64 z)).2):=rfl;rw [hA,C0 hs h0 zaa,hz];have hR:=vD hs h0 hn (top:=mxT T T.length) (T:=T) (fun x hx=>by
   obtain ⟨i,hi⟩:=Nu.1 hx;exact KG T _ i x (MZ.1 hi).1 hi) T.length (MR _)
  generalize plP an [] T r T.length=s at *;obtain ⟨B,rb,eb⟩:=s;refine jump rfl rfl ?_ ⟨hR.1,?_⟩ hfb
  ·unfold jG;rw [M6 h0]
  ·obtain ⟨_,b⟩:=hR
   rcases b with ⟨b1,b2,b3,b4⟩ | b | b
   ·exact .inl ⟨b1,b2,fun _=>b3 hpos,b4⟩
   ·exact .inr (.inl b)
   ·exact .inr (.inr b)
 ·rw [pI h0 T.length (MR _),pI h0 (T:=[z]) 1 (MR _),M4 zaa,M4 zaa];by_cases h6:r.fin=6
  ·exact .inl ⟨h6,MR _,rfl⟩
  ·exact .inr ⟨h6,rfl,rfl,.inl rfl⟩
def tpT (T:List Int):Nat->Int
 | 0=>0
 | k+1=>match T[k]? with | some z=>if u64 (tpT T k)<u64 z then z else tpT T k | none=>tpT T k
theorem KM (T:List Int):∀ k,u64 (tpT T k)=mxT T k
 | 0=>(by decide:u64 0=0)
 | k+1=>by
  have ih:=KM T k;rw [tpT,mxT];cases T[k]? with
  | none=>simp [ih]
  | some z =>
   dsimp only [Option.map_some,Option.getD_some];split
   ·omega
   ·omega
end Fr
theorem GO (a b:Int) (w:World):() 8 #[(a:Int),(b:Int)] w fun e w'=>e = .returned (.bool (decide (Fr.u64 a<Fr.u64 b)))/\w'=w:=by
 have h1:=(Fr.yd a).1;have h2:=(Fr.yd b).1;go_enter func8,ntmps8;exact zfq
theorem AO (w:World) (u v:Ref.Sl) (h:u.n≠v.n):() 9 #[.slice u.a u.n u.c,.slice v.a v.n v.c] w fun e w'=>e = .returned false/\w'=w:=by
 have h':¬ ((u.n:Int)=(v.n:Int)):=zaa;go_enter func9,ntmps9;exact zfp
namespace Fr
theorem qU.take {W:World} {v:Ref.Sl} {L:List (ByteArray×Nat×List ByteArray)} (h:qU W v L) (hn:n<=L.length):qU W ⟨v.a,n,v.c⟩ (L.take n):=by
 have hl:(L.take n).length=n:=za5;refine ⟨hl.symm,by rw [hl];have:=h.2.1;show n<=v.c;omega,fun k x hx => ?_⟩;have hk:=(MZ.1 hx).1;rw [P1,M6 zaa] at hx;exact h.2.2 k x hx
theorem Dh {an:Pg.RSt->ByteArray->Pg.RSt} (hs:∀ r x,(an r x).now=r.now) (L:List ByteArray) (r:Pg.RSt):∀ k,(plP an L [] r k).2.1.now=r.now
 | 0=>rfl
 | k+1=>by
  have ih:=Dh hs L r k;rw [plP,List.getElem?_nil];show (evP an (plP an L [] r k) L[k]?).2.1.now=r.now;cases L[k]? with
  | none=>exact ih
  | some ev =>
   show (Pg.evK an (plP an L [] r k).2.1 ev).2.now=r.now;unfold Pg.evK;split
   ·exact (Pg.vZ hs _ _).trans ih
   ·exact ih
theorem Sn.hs {W:World} {xb b:Nat} {ps:List Pg.PS} {an:Pg.RSt->ByteArray->Pg.RSt} {O:Nat->Prop} (h:Pg.Sn W n xb b ps an r O):(∀ r x,(an r x).now=r.now)/\(r.fin=0\/r.fin=5\/r.fin=6)/\() 10 #[xb] W fun e w'=>e = .returned (.int .u64 r.now)/\w'=W:=by
 obtain ⟨p,h1,_,_,rfl,_⟩:=h.ex;exact ⟨fun r x=>Pg.pT r x,h1.lv.qk.fin,Hc W n xb p r h1⟩
end Fr
theorem BB (s:ByteArray) (a ra:Option Addr) (c rc:Nat) (L:List ByteArray) (T:List Int) (w:World) (hv:qn w) (hcl:∀ ev:ByteArray,ev.size<=1000000->qQ ev) (hE:Fr.AH w a L) (hI:Fr.DD w ra T) (hbd:s.size+L.length+T.length+Fr.tot L<=4194304) :
  () 3 #[s,.slice a L.length c,.slice ra T.length rc] w fun e w'=>e = .returned true/\Below w w w':=by
 have HF:Hid _:=Jn s a ra c T.length rc L w hE hbd;by_cases hfar:8192<s.size+L.length+T.length+Fr.tot L
 ·rw [NZ hfar] at HF;exact zdG
 rw [NM hfar] at HF;by_cases hT0:T=[]
 ·subst hT0;exact zdG
 have hTp:0<T.length:=OJ.2 hT0;have hTp':((T.length:Int) == 0)=false:=zae;have HV:Hid _:=hv;cases hR:Pro.read s with
 | fault fc fl =>
  have HBS:Hid (∀ V,Below w w V->() 6 #[s] V fun e w'=>e = .returned (.tuple #[.pointer none,.slice none 0 0,true])/\Hid (Below w w w')):=fun V hb=>(ux s V (hv.ao hb) zaa).mono fun e w' ⟨h1,h2⟩=>by
   rw [hR] at h2;exact ⟨h2,hb.trans (h1.mono hb.size)⟩
  clear hR hv hcl hE hI hfar;go_enter func3,ntmps3;go_wp2_with (go_at_call 5;refine M7 HF.out ?_;rintro e w1 ⟨rfl,hw1⟩;rw [hw1];clear hw1 w1);refine M7 (HBS.out w (MY _ _)) ?_;rintro e w1 ⟨rfl,h1⟩;dsimp only;go_wp2_with fail;refine M7 (HBS.out w1 h1.out) ?_;rintro e w3 ⟨rfl,h3⟩;dsimp only;go_wp2;go_ret;exact ⟨rfl,h3.out⟩
 | eX S =>
  have HBS:Hid (∀ V,Below w w V->() 6 #[s] V fun e w'=>∃ xb sb,e = .returned (.tuple #[.pointer (some ⟨xb,0,none⟩),.slice (some ⟨sb,0,none⟩) 1 1,true])/\Hid (Below V.heap.size V w'/\∃ b ps,Pg.Sn w' w xb b ps (Pg.anS S) (Pg.stS S) (fun k=>V.heap.size<=k/\k<w'.heap.size)/\Pg.bP ps=Pg.bP (Pg.psF (Pg.X0 S))/\(Pg.stS S).now=0)):=fun V hb=>(ux s V (hv.ao hb) zaa).mono fun e w' ⟨h1,h2⟩=>by
   rw [hR] at h2;obtain ⟨xb,sb,b,ps,e1,h3,h4,_,h5⟩:=h2;exact ⟨xb,sb,e1,h1,b,ps,Fr.Sn.low h3 hb.size,h4,h5⟩
  have hlw:=hv.lw;have HEV:Hid (∀ W,Below w w W->Fr.AH W a L/\Fr.DD W ra T):=fun W hb=>⟨fun i x hx=>by
   obtain ⟨b,off,e,hc⟩:=hE i x hx;exact ⟨b,off,e,(hb.cell (p:=⟨b,off+i,none⟩) (Np _ _ hc)).trans hc⟩,fun i x hx=>by
   obtain ⟨b,off,e,hc⟩:=hI i x hx;exact ⟨b,off,e,(hb.cell (p:=⟨b,off+i,none⟩) (Np _ _ hc)).trans hc⟩⟩
  have HSZ:Hid (∀ x∈L,x.size<=8192):=fun x hx=>by
   obtain ⟨i,hi⟩:=Nu.1 hx;have:=Fr.Ku hi;omega
  have hLb:L.length<=8192:=zaa;have hTb:T.length<=8192:=zaa;have HCL:Hid _:=hcl;have HA1:Hid (∀ W,Below w w W->Fr.Arg w.heap.size W a none L []):=fun W hb=>⟨fun W' _ hb'=>⟨(HEV.out W' (hb.trans hb')).1,fun i z hz=>(by cases hz)⟩,hLb,zac,HSZ.out⟩;have HA3:Hid (∀ W,Below w w W->Fr.Arg w.heap.size W none ra [] T):=fun W hb=>⟨fun W' _ hb'=>⟨fun i z hz=>(by cases hz),(HEV.out W' (hb.trans hb')).2⟩,zac,hTb,fun x hx=>zaH⟩;clear hR hv hcl hE hI hfar hbd;go_enter func3,ntmps3;go_wp2_with (go_at_call 5;refine M7 HF.out ?_;rintro e w1 ⟨rfl,hw1⟩;rw [hw1];clear hw1 w1);refine M7 (HBS.out w (MY _ _)) ?_;rintro e w1 ⟨xb,sb,rfl,h1⟩;dsimp only;go_wp2_with fail;refine M7 (HBS.out w1 h1.out.1) ?_;rintro e w2 ⟨yb,sy,rfl,h2⟩;obtain ⟨bx,b2,psx,psy,HT⟩:∃ bx b2 psx psy,Hid (Fr.TwS w xb yb bx b2 psx psy (Pg.anS S) (.pointer none) (Pg.stS S) (Pg.stS S) w2/\(∀ A:List (ByteArray×Pg.RSt),A.map (Fr.tdS psx)=A.map (Fr.tdS psy))/\(Pg.stS S).now=0):=by
   obtain ⟨p1,bx,psx,p2,p3,p4⟩:=h1.out;obtain ⟨r1,b2,psy,r2,r3,r4⟩:=h2.out;have s1:=p1.size;refine ⟨bx,b2,psx,psy,⟨p1.trans (r1.mono p1.size),_,_,fun _=>False,p2.ao r1 hlw,r2,.inl ⟨rfl,fun _ h=>h⟩,fun k a b=>zaa,fun k a b=>b,fun k a b=>b⟩,fun A => ?_,p4⟩;have:Fr.tdS psx=Fr.tdS psy:=by unfold Fr.tdS;rw [p3,r3]
   rw [this]
  clear h1 h2 HBS HF;have HTD:Hid _:=HT.out.2.1;have HN0:Hid _:=HT.out.2.2;generalize Pg.stS S=r0 at *;generalize Pg.anS S=an at *;dsimp only;go_wp2_with fail;refine M7 (HT.out.1.px HV.out HCL.out (HA1.out w2 HT.out.1.1) c 0) ?_;rintro e w3 ⟨sl3,rfl,h3⟩;dsimp only;go_wp2_with fail;refine M7 (h3.out.1.py HV.out HCL.out (HA1.out w3 h3.out.1.1) c 0) ?_;rintro e w4 ⟨sl4,rfl,h4⟩;obtain ⟨r1,hr1⟩:∃ r1,(Fr.plA an L [] r0).2.1=r1:=⟨_,rfl⟩;have HT4:Hid (Fr.TwS w xb yb bx b2 psx psy an (.pointer none) r1 r1 w4):=by
   have:=h4.out.1;rw [hr1] at this;exact this
  have HN1:Hid (r1.now=0/\∀ r x,(an r x).now=r.now):=by
   obtain ⟨_,Ox,_,_,hS,_⟩:=HT4.out;have hs:=(Fr.Sn.hs hS).1;exact ⟨by rw [<- hr1,Fr.Dh hs,HN0.out],hs⟩
  clear HT h3 h4 hr1 HN0;dsimp only;go_wp2_with fail
  go_loopw [14,15] (fun tp i wr=>∃ k:Nat,k<=T.length/\i = .int .i64 k/\tp = .int .i64 (Fr.tpT T k)/\wr=w4) (fun _ i _=>T.length-(intOf i).toNat)
  case atStart=>exact ⟨0,Ni _,rfl,rfl,rfl⟩
  case round =>
   obtain ⟨k,hk,rfl,rfl,rfl⟩:=hrel;by_cases hlt:k<T.length
   ·obtain ⟨z,hz⟩:∃ z,T[k]?=some z:=⟨_,MU hlt⟩;obtain ⟨rb,roff,rfl,hcz⟩:=(HEV.out wr HT4.out.1).2 k z hz;have hlt':((k:Int)<(T.length:Int)):=zaa;have HLS:Hid _:=GO (Fr.tpT T k) z wr;have HNX:Hid (Fr.tpT T (k+1)=if Fr.u64 (Fr.tpT T k)<Fr.u64 z then z else Fr.tpT T k):=by
     unfold Hid;rw [Fr.tpT,hz]
    clear hz;by_cases hup:Fr.u64 (Fr.tpT T k)<Fr.u64 z
    ·rw [NZ hup] at HLS;rw [M6 hup] at HNX;exact zdn
    ·rw [NM hup] at HLS;rw [M4 hup] at HNX;exact zdn
   ·obtain rfl:k=T.length:=zaa;obtain ⟨tp,htp⟩:∃ tp,Fr.tpT T T.length=tp:=⟨_,rfl⟩;have hb5:Below wr wr (wr.alloc (.cells #[(tp:Int)] 3)):=(MY _ _).alloc (MR _) _;have hT5:=HT4.out.ao hb5 hlw;have hA5:Fr.Arg w.heap.size (wr.alloc (.cells #[(tp:Int)] 3)) none (some ⟨wr,0,none⟩) [] [tp]:=⟨fun W' hk _=>⟨fun i z hz=>(by cases hz),fun i z hz=>by
     obtain ⟨hi,rfl⟩:=MZ.1 hz;have hi:i<1:=hi;obtain rfl:i=0:=zaa;have hc:=Na wr (.cells #[(tp:Int)] 3);exact ⟨wr.heap.size,0,rfl,(M0 _ _ _ _ _ _ ((hk.ao _ _ _ _ hc zau).trans hc)).trans rfl⟩⟩,zad,zad,fun x hx=>zaH⟩
    have HX:Hid _:=hT5.px HV.out HCL.out hA5 0 1;have HTP:Hid (Fr.u64 tp=Fr.mxT T T.length):=by
     unfold Hid;rw [<- htp];exact Fr.KM T _
    rw [htp];clear hT5 hA5 hb5 htp;go_wp2_with fail;refine M7 HX.out ?_;rintro e w6 ⟨sla,rfl,h6⟩;have HY:Hid _:=h6.out.1.py HV.out HCL.out (HA3.out w6 h6.out.1.1) 0 rc;dsimp only;go_wp2_with fail;refine M7 HY.out ?_;rintro e w7 ⟨slb,rfl,h7⟩;obtain ⟨Sa,hSa⟩:∃ Sa,Fr.plA an [] [tp] r1=Sa:=⟨_,rfl⟩;obtain ⟨Sb,hSb⟩:∃ Sb,Fr.plA an [] T r1=Sb:=⟨_,rfl⟩;have hB1:Fr.plA an [] T r1=Fr.plP an [] T r1 T.length:=by
     show Fr.plP an [] T r1 (max 0 T.length)=_;rw [Nat.zero_max]
    obtain ⟨hT6,hLA,_⟩:=h6.out;obtain ⟨hT7,hLB,hK7⟩:=h7.out;rw [hSa] at hLA hT7 ⊢;rw [hSb] at hLB hT7 ⊢;have hla:Sa.1.length<=4000000:=by
     rw [<- hSa];exact MX (Fr.xG an [] [tp] r1 _) (by show max 0 1*202<=4000000;omega)
    have tA:=Fr.Dv (hLA.kd hK7 zau zau);rw [HTD.out] at tA;have tB:=Fr.Dv hLB;have hfin:Sb.2.1.fin=0\/Sb.2.1.fin=5\/Sb.2.1.fin=6:=by
     obtain ⟨_,_,_,_,_,hy,_⟩:=hT7;exact (Fr.Sn.hs hy).2.1
    have HNW:Hid (∀ V,Below w7 w7 V->Below w w V/\() 10 #[xb] V (fun e w'=>e = .returned (.int .u64 Sa.2.1.now)/\w'=V)/\() 10 #[yb] V (fun e w'=>e = .returned (.int .u64 Sb.2.1.now)/\w'=V)):=fun V hb=>by
     obtain ⟨q0,_,_,_,q1,q2,_⟩:=hT7.ao hb hlw;exact ⟨q0,(Fr.Sn.hs q1).2.2,(Fr.Sn.hs q2).2.2⟩
    have hj:=Fr.Md HN1.out.2 HN1.out.1 hT0 HTP.out (by rw [<- hB1,hSb];exact hfin);rw [<- hB1,hSb,show Fr.plP an [] [tp] r1 1=Sa from hSa] at hj;have hna:sla.n=Sa.1.length:=by have:=tA.1;rw [Ng] at this;exact this
    have hnb:slb.n=Sb.1.length:=by have:=tB.1;rw [Ng] at this;exact this
    clear hSa hSb hB1 hLA hLB hK7 hT6 hT7 h6 h7 HX HY hfin HTP HN1 HT4 HTD HEV HA1 HA3 HSZ HCL HV
    rcases hj with ⟨j1,j2,j3⟩ | ⟨j1,j2,j3,j4⟩
    ·have HAL:Hid (() 9 #[.slice sla.a sla.n sla.c,.slice slb.a slb.n slb.c] w7 fun e w'=>∃ bb,e = .returned (.bool bb)/\Hid (Below w7 w7 w')):=by
      by_cases hl:sla.n=slb.n
      ·have hAB:Sa.1=Sb.1:=by
        rw [show Sa.1.length=Sb.1.length by omega,N6] at j3;exact j3
       rw [<- hAB] at tB;exact (oZ w7 sla slb _ tA tB (by rw [Ng];exact hla)).mono fun e w' x=>⟨true,x.1,x.2⟩
      ·exact (AO w7 sla slb hl).mono fun e w' x=>⟨false,x.1,by rw [x.2];exact MY _ _⟩
     have hcap:=tB.2.1;rw [Ng] at hcap;have HAL2:Hid (∀ V,Below w7 w7 V->() 9 #[.slice sla.a sla.n sla.c,.slice slb.a sla.n slb.c] V fun e w'=>e = .returned true/\Hid (Below w w w')):=fun V hb=>by
      have tB2:=(tB.take (n:=sla.n) zaT).ao hb;rw [<- List.map_take,hna,<- j3] at tB2;rw [<- hna] at tB2;refine (oZ V sla ⟨slb.a,sla.n,slb.c⟩ _ (tA.ao hb) tB2 (by rw [Ng];exact hla)).mono fun e w' x=>⟨x.1,?_⟩;exact (HNW.out w' (hb.trans (x.2.mono hb.size))).1
     rw [j1];have hle1:((sla.n:Int)<=(slb.n:Int)):=zaa;have hle2:sla.n<=slb.n:=zaa;have hle3:sla.n<=slb.c:=zaa;clear j1 j2 j3 tA tB HNW hla hna hnb hcap;dsimp only;go_wp2_with fail;refine M7 HAL.out ?_;rintro e w8 ⟨bb,rfl,h8⟩;dsimp only;go_wp2_with fail;refine M7 (HAL2.out w8 h8.out) ?_;rintro e w9 ⟨rfl,h9⟩;dsimp only;go_wp2;go_ret;exact ⟨rfl,h9.out⟩
    ·rw [<- j2] at tB;have HAL:Hid (() 9 #[.slice sla.a sla.n sla.c,.slice slb.a slb.n slb.c] w7 fun e w'=>e = .returned true/\Hid (Below w7 w7 w')):=oZ w7 sla slb _ tA tB (by rw [Ng];exact hla);rw [<- j3] at HNW;have j1':¬ ((Sa.2.2:Int)=6):=zaa;have j4':Sa.2.2=Sb.2.2\/((Sb.2.2:Int)=5):=zaa;clear j1 j2 j3 j4 tA tB hla hna hnb;dsimp only;go_wp2_with fail;refine M7 HAL.out ?_;rintro e w8 ⟨rfl,h8⟩;obtain ⟨n1,n2,n3⟩:=HNW.out w8 h8.out;have N1:Hid _:=n1;have N2:Hid _:=n2;have N3:Hid _:=n3;clear n1 n2 n3 HNW h8 HAL;dsimp only;go_wp2_with fail;refine M7 N2.out ?_;rintro e w9 ⟨rfl,hw9⟩;rw [hw9];clear hw9 w9;dsimp only;go_wp2_with fail;refine M7 N3.out ?_;rintro e w9 ⟨rfl,hw9⟩;rw [hw9];clear hw9 w9;dsimp only
     rcases j4' with j4 | j4
     ·rw [<- j4];go_wp2;go_ret;exact ⟨rfl,N1.out⟩
     ·go_wp2
      all_goals
       go_ret;exact ⟨by first | rfl | simp,N1.out⟩
