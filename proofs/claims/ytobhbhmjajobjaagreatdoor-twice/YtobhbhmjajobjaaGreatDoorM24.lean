import Derived.Test.YtobhbhmjajobjaaGreatDoorM23
set_option maxRecDepth 100000
set_option maxHeartbeats 8000000
namespace Go.Proofs.YtobhbhmjajobjaaGreatDoor
variable {zp:Prop}
theorem zdD (h:zp:=by
 clear hfar;go_enter func4,ntmps4;go_wp2_with (go_at_call 6;refine MC HF.out ?_;rintro e w1 ⟨rfl,hw1⟩;rw [hw1];clear hw1 w1);go_ret;exact ⟨rfl,Mw _ _⟩):zp:=h
theorem zdM (h:zp:=by
 go_round
 case rel=>exact ⟨k+1,sl5,zaa,zah,by rw [HNX.out];rfl,rfl,by rw [HNX.out];exact h5⟩
 case measure=>simp [intOf];omega):zp:=h
theorem zeb (h:zp:=by
 rintro e w' ⟨l,k,rfl,hA⟩;obtain ⟨q1,q2⟩:=hJ.next hle.2 hA.out;exact ⟨l,k,rfl,q1,q2⟩):zp:=h
theorem ze4 (h:zp:=by
 clear hf;dsimp only;go_wp2;go_ret3;exact HR.out):zp:=h
open Tryz
variable {A:List (ByteArray×Pg.RSt)} {l:Value} {k n zb:Nat} {L:List ByteArray} {s:ByteArray}
section
open Go.RowKit Go.Proofs Go.Shelf
namespace Fr
def As (W:World) (a:Option Addr) (L:List ByteArray):Prop:=∀ (i:Nat) (s:ByteArray),L[i]?=some s->∃ b off,a=some ⟨b,off,none⟩/\W.cell? ⟨b,off+i,none⟩=some ↑s
def De (W:World) (a:Option Addr) (L:List Int):Prop:=∀ (i:Nat) (z:Int),L[i]?=some z->∃ b off,a=some ⟨b,off,none⟩/\W.cell? ⟨b,off+i,none⟩=some ↑(z:Int)
def u64 (z:Int):Nat:=(IntKind.u64.wrap z).toNat
theorem Hz (z:Int):IntKind.u64.wrap z=(u64 z:Int)/\u64 z<18446744073709551616:=by
 unfold u64;rw [PE];omega
def evP (an:Pg.RSt->ByteArray->Pg.RSt) (s:List (ByteArray×Pg.RSt)×Pg.RSt×Nat):Option ByteArray->List (ByteArray×Pg.RSt)×Pg.RSt×Nat
 | none=>s
 | some ev=>(s.1++(Pg.evK an s.2.1 ev).1,(Pg.evK an s.2.1 ev).2,Pg.rC s.2.1 (Pg.evK an s.2.1 ev).2)
def ckP (an:Pg.RSt->ByteArray->Pg.RSt) (s:List (ByteArray×Pg.RSt)×Pg.RSt×Nat):Option Int->List (ByteArray×Pg.RSt)×Pg.RSt×Nat
 | none=>s
 | some z=>(s.1++(Pg.ckK an s.2.1 (u64 z)).1,(Pg.ckK an s.2.1 (u64 z)).2,Pg.rC s.2.1 (Pg.ckK an s.2.1 (u64 z)).2)
def plP (an:Pg.RSt->ByteArray->Pg.RSt) (L:List ByteArray) (T:List Int) (r:Pg.RSt):Nat->List (ByteArray×Pg.RSt)×Pg.RSt×Nat
 | 0=>([],r,0)
 | k+1=>ckP an (evP an (plP an L T r k) L[k]?) T[k]?
theorem CL (an:Pg.RSt->ByteArray->Pg.RSt) (t:Nat):∀ (n k:Nat) (r:Pg.RSt),(Pg.eT an t n k r).1.length<=n
 | 0,_,_=>by unfold Pg.eT;exact Mt _
 | n+1,k,r=>by
  have ih:=CL an t n (k+1);unfold Pg.eT
  repeat' split
  all_goals first | exact MJ _ | exact Nat.succ_le_succ (MJ _) | exact Nat.succ_le_succ (ih _)
theorem CN (an:Pg.RSt->ByteArray->Pg.RSt) (s:List (ByteArray×Pg.RSt)×Pg.RSt×Nat) (o:Option ByteArray):(evP an s o).1.length<=s.1.length+1:=by
 cases o with
 | none=>exact Nat.le_succ _
 | some ev =>
  show (s.1++(Pg.evK an s.2.1 ev).1).length<=_;unfold Pg.evK;split <;> simp
theorem wm (an:Pg.RSt->ByteArray->Pg.RSt) (s:List (ByteArray×Pg.RSt)×Pg.RSt×Nat) (o:Option Int):(ckP an s o).1.length<=s.1.length+201:=by
 cases o with
 | none=>exact PD _ _
 | some z =>
  show (s.1++(Pg.ckK an s.2.1 (u64 z)).1).length<=_;unfold Pg.ckK;have:=CL an (u64 z) 201 0 s.2.1;split <;> (rw [MN];first | omega | simp)
theorem xu (an:Pg.RSt->ByteArray->Pg.RSt) (L:List ByteArray) (T:List Int) (r:Pg.RSt):∀ k,(plP an L T r k).1.length<=k*202
 | 0=>Mt _
 | k+1=>by
  have h1:=xu an L T r k;have h2:=CN an (plP an L T r k) L[k]?;have h3:=wm an (evP an (plP an L T r k) L[k]?) T[k]?;show (ckP an (evP an (plP an L T r k) L[k]?) T[k]?).1.length<=_;omega
section
variable (W0:World) (n0 xb b:Nat) (ps:List Pg.PS) (an:Pg.RSt->ByteArray->Pg.RSt) (O:Nat->Prop)
def PlJ (A:List (ByteArray×Pg.RSt)) (r:Pg.RSt) (sl:Ref.Sl) (W:World):Prop:=Pg.Sn W n0 xb b ps an r (Pg.Gr O W0 W)/\Pg.LN W W0 b ps (.slice sl.a sl.n sl.c) A/\Mo (Pg.Own O W0) W0 W
def PlQ (A B:List (ByteArray×Pg.RSt)) (r:Pg.RSt) (sl:Ref.Sl) (l:Value) (W:World):Prop:=PlJ W0 n0 xb b ps an O A r sl W/\Pg.LN W b b ps l B
variable {W0 n0 xb b ps an O}
theorem Ej {O':Nat->Prop} {W W':World} (h:Mo (Pg.Own O W0) W0 W) (k:Mo (Pg.Own O' W) W W') (hO:∀ i,i<W0.heap.size->O' i->O i):Mo (Pg.Own O W0) W0 W':=h.trans' k fun i hi ⟨q1,q2,c,t,f,q3,q4⟩=>Oe fun hn=>by
 have e:=h.block i hi hn;exact hn ⟨hO i hi q1,fun v hv=>q2 v ((MK (a:=⟨i,0,none⟩) e).trans hv),c,t,f,e.symm.trans q3,q4⟩
theorem wM {O:Nat->Prop} {W W':World} (h:Mo (Pg.Own O W) W W'):Kd Pg.cZ W W':=fV h fun k c t f ⟨_,_,c',t',f',q3,q4⟩ hc=>by
 rw [hc] at q3;cases q3
 exact q4
theorem PlJ.next {r:Pg.RSt} {sl:Ref.Sl} {W W':World} (h:PlJ W0 n0 xb b ps an O A r sl W) (hb:b<=W0.heap.size) {z:List (ByteArray×Pg.RSt)×Pg.RSt} (hA:Pg.An W n0 xb b ps an r (Pg.Gr O W0 W) z l k W'):k=Pg.rC r z.2/\PlQ W0 n0 xb b ps an O A z.1 z.2 sl l W':=by
 obtain ⟨h1,h2,h3⟩:=h;obtain ⟨a1,a2,a3,a4⟩:=hA;have hs:=h3.size;have hs':=a4.size;exact ⟨a1,⟨a2.mono (fun i hi=>by
  rcases hi with (hi | hi) | hi
  ·exact .inl hi
  ·exact .inr ⟨hi.1,zaa⟩
  ·exact .inr ⟨zaa,hi.2⟩) (fun i hi=>by
  rcases hi with hi | hi
  ·have:=h1.own i (.inl hi);omega
  ·have:=h1.le;omega),h2.kd (wM a4) zao zao,Ej h3 a4 (fun i hi ho=>ho.elim id (fun h=>absurd h.1 zaa))⟩,a3⟩
theorem PlQ.app {B:List (ByteArray×Pg.RSt)} {r:Pg.RSt} {sl:Ref.Sl} {W:World} (h:PlQ W0 n0 xb b ps an O A B r sl l W) (hb:b<=W0.heap.size) (hn:A.length+B.length<=4000000) {ops:Array Oper} {rest:List Oper} {o:Oper} {a:Act} {Q:Exit->Act->World->Prop} (hgd:o.guard=none) (s x:Operand) (ho:o.op = .call { callee := .builtin .append,args:=#[s,x],argTypes:=#[26,26] }) (hs:a.eval s = .slice sl.a sl.n sl.c) (hx:a.eval x=l)
  (k:∀ (sl':Ref.Sl) w',Hid (PlJ W0 n0 xb b ps an O (A++B) r sl' w')->wpList prog ops Q rest (a.put o.dst (.slice sl'.a sl'.n sl'.c)) w'):wpList prog ops Q (o::rest) a W:=by
 obtain ⟨⟨h1,h2,h3⟩,h4⟩:=h;refine Dm hgd s x ho W0 b ps _ l A B hs hx h2 h4 hn h3.size (fun sl' w' h5 hm=>k sl' w' ?_);obtain ⟨vs,_,hrow,_⟩:=h2;have hP:∀ k,(Value.slice sl.a sl.n sl.c).ownBlock=some k->W0.heap.size<=k/\∃ c,W.heap[k]?=some (.cells c 47 (0,0)):=fun k hk=>⟨(Nc hrow k hk).1,bP hrow k hk⟩;have hsz:=h3.size;have hsz':=hm.size;obtain ⟨p,q1,q2,q3,q4,q5⟩:=h1.ex;refine ⟨⟨⟨p,q1.stp hm (fun k hk=>⟨by have:=(hP k hk).1;omega,(hP k hk).2⟩),q2,q3,q4,fun i hi ho => ?_⟩,fun i hi => ?_⟩,h5,h3.trans' hm (fun i hi hp=>absurd (hP i hp).1 zaa)⟩
 ·by_cases hw:i<W.heap.size
  ·exact (q5 i hw ho).imp id (fun h=>⟨h.1,hi⟩)
  ·exact .inr ⟨zaa,hi⟩
 ·rcases hi with hi | hi
  ·have:=h1.own i (.inl hi);omega
  ·have:=h1.le;omega
end
end Fr
theorem GQ (W0:World) (n0 xb b:Nat) (ps:List Pg.PS) (an:Pg.RSt->ByteArray->Pg.RSt) (r:Pg.RSt) (O:Nat->Prop) (h:Pg.Sn W0 n0 xb b ps an r O) (hl:Pg.Lw n0) (hE:Pg.qI W0) (hg:0<n0) (hcl:∀ ev:ByteArray,ev.size<=1000000->mM ev) (a ra:Option Addr) (c rc:Nat) (L:List ByteArray) (T:List Int) (hEv:∀ W,Mo (Pg.Own O W0) W0 W->Fr.As W a L/\Fr.De W ra T) (hL:L.length<=8192) (hT:T.length<=8192) (hx:∀ x∈L,x.size<=8192) :
  () 8 #[xb,.slice a L.length c,.slice ra T.length rc] W0 fun e w'=>∃ sl:Ref.Sl,e = .returned (.tuple #[.slice sl.a sl.n sl.c,.int .i64 ((Fr.plP an L T r (max L.length T.length)).2.2:Nat)])/\Hid (Fr.PlJ W0 n0 xb b ps an O (Fr.plP an L T r (max L.length T.length)).1 (Fr.plP an L T r (max L.length T.length)).2.1 sl w'):=by
 have hle:=h.le;have HEV:Hid (∀ W A r sl,Fr.PlJ W0 n0 xb b ps an O A r sl W->Fr.As W a L/\Fr.De W ra T):=fun W A r sl hJ=>hEv W hJ.2.2;have hET:∀ W A r sl,Fr.PlJ W0 n0 xb b ps an O A r sl W->Pg.qI W:=fun W A r sl hJ=>(hJ.2.2.cell (p:=⟨0,0,none⟩) (MR hg (Mv hle.1 hle.2)) (fun hp=>absurd (h.own _ hp.1).1 (Nat.not_le_of_lt hg))).trans hE;have HCE:Hid (∀ W A r1 sl (x:ByteArray),x.size<=8192->Fr.PlJ W0 n0 xb b ps an O A r1 sl W->() 16 #[xb,.string x] W fun e w'=>∃ l,∃ k:Nat,e = .returned (.tuple #[l,(k:Int)])/\k=Pg.rC r1 (Pg.evK an r1 x).2/\Hid (Fr.PlQ W0 n0 xb b ps an O A (Pg.evK an r1 x).1 (Pg.evK an r1 x).2 sl l w')):=fun W A r1 sl x hx hJ=>by
  refine MC (hJ.1.tld hl (z:=Pg.evK an r1 x) (fun p e hS=>by
   have:=IZ hS (hET W A r1 sl hJ) hg hcl x zaa
   rwa [e] at this)) ?_
  exact zeb
 have HCC:Hid (∀ W A r1 sl (z:Int),Fr.PlJ W0 n0 xb b ps an O A r1 sl W->() 17 #[xb,.int .u64 (IntKind.u64.wrap z)] W fun e w'=>∃ l,∃ k:Nat,e = .returned (.tuple #[l,(k:Int)])/\k=Pg.rC r1 (Pg.ckK an r1 (Fr.u64 z)).2/\Hid (Fr.PlQ W0 n0 xb b ps an O A (Pg.ckK an r1 (Fr.u64 z)).1 (Pg.ckK an r1 (Fr.u64 z)).2 sl l w')):=fun W A r1 sl z hJ=>by
  rw [(Fr.Hz z).1];refine MC (hJ.1.tld hl (z:=Pg.ckK an r1 (Fr.u64 z)) (fun p e hS=>by
   have:=IN hS (hET W A r1 sl hJ) hg hcl (Fr.u64 z) (Fr.Hz z).2
   rwa [e] at this)) ?_
  exact zeb
 have H0:Hid (Fr.PlJ W0 n0 xb b ps an O [] r ⟨none,0,0⟩ W0):=⟨h.mono (fun _ h => .inl h) (fun k hk=>hk.elim (h.own k) (fun h=>absurd h.1 zaa)),⟨[],rfl,ND ..,fun y hy=>by cases hy⟩,Mo.refl _ _⟩;have HX:Hid _:=hx;have HLE:Hid _:=hle.2;clear h hE hEv hcl hx hET hle;obtain ⟨M,hM⟩:∃ M,max L.length T.length=M:=⟨_,rfl⟩;have hM1:L.length<=M:=zaa;have hM2:T.length<=M:=zaa;have hM3:M<=8192:=zaa;have HM:Hid (M=L.length\/M=T.length):=by unfold Hid;omega
 rw [hM];clear hM;go_enter func8,ntmps8;go_wp2
 go_loopw [8,9,10] (fun o q i wr=>∃ (k:Nat) (sl:Ref.Sl),k<=M/\i = .int .i64 k/\q = .int .i64 ((Fr.plP an L T r k).2.2:Nat)/\o = .slice sl.a sl.n sl.c/\Hid (Fr.PlJ W0 n0 xb b ps an O (Fr.plP an L T r k).1 (Fr.plP an L T r k).2.1 sl wr)) (fun _ _ i _=>M-(intOf i).toNat)
 case atStart=>exact ⟨0,⟨none,0,0⟩,MJ _,rfl,rfl,rfl,H0⟩
 case round =>
  obtain ⟨k,sl,hk,rfl,rfl,rfl,HJ⟩:=hrel;have hpl:=Fr.xu an L T r k;have HNX:Hid (Fr.plP an L T r (k+1)=Fr.ckP an (Fr.evP an (Fr.plP an L T r k) L[k]?) T[k]?):=rfl;obtain ⟨S,hS⟩:∃ S,Fr.plP an L T r k=S:=⟨_,rfl⟩;rw [hS] at HJ hpl HNX ⊢;have HSS:Hid _:=hS;clear hS;have hnn:¬ (k:Int)<0:=zaa;obtain ⟨hEV,hIN⟩:=HEV.out wr _ _ sl HJ.out;by_cases hkL:k<L.length
  ·obtain ⟨x,hx⟩:∃ x,L[k]?=some x:=⟨_,Mu hkL⟩;obtain ⟨eb,off,rfl,hc⟩:=hEV k x hx;have hlt':((k:Int)<(L.length:Int)):=zaa;have HC:Hid _:=HCE.out wr _ _ sl x (HX.out x (MG hx)) HJ.out;have h1l:=Fr.CN an S (some x);have hap:∀ A B:List (ByteArray×Pg.RSt),A=S.1->B=(Pg.evK an S.2.1 x).1->A.length+B.length<=4000000:=fun A B hA hB=>by
    have:(S.1++(Pg.evK an S.2.1 x).1).length<=S.1.length+1:=h1l;rw [MN] at this;rw [hA,hB];omega
   rw [hx] at HNX;have HAP:Hid _:=hap _ _ rfl rfl;clear hx hEV hap;by_cases hkT:k<T.length
   ·obtain ⟨z,hz⟩:∃ z,T[k]?=some z:=⟨_,Mu hkT⟩;have hlt2:((k:Int)<(T.length:Int)):=zaa;rw [hz] at HNX;have HIN:Hid _:=fun W A r1 sl1 (hJ:Fr.PlJ W0 n0 xb b ps an O A r1 sl1 W)=>(HEV.out W A r1 sl1 hJ).2 k z hz;obtain ⟨rb,roff,rfl,_⟩:=hIN k z hz;have h2l:=Fr.wm an (Fr.evP an S (some x)) (some z);have HAP2:Hid ((S.1++(Pg.evK an S.2.1 x).1).length+(Pg.ckK an (Pg.evK an S.2.1 x).2 (Fr.u64 z)).1.length<=4000000):=by
     have h3:((S.1++(Pg.evK an S.2.1 x).1)++(Pg.ckK an (Pg.evK an S.2.1 x).2 (Fr.u64 z)).1).length<=(S.1++(Pg.evK an S.2.1 x).1).length+201:=h2l;have h4:(S.1++(Pg.evK an S.2.1 x).1).length<=S.1.length+1:=h1l;rw [MN] at h3;unfold Hid;omega
    clear hz hIN h1l h2l hpl;go_wp2_with (first
     | (go_at_call 16;refine MC HC.out ?_;rintro e w2 ⟨l,z2,rfl,hz2,h2⟩)
     | (at_builtin;refine h2.out.app HLE.out HAP.out rfl _ _ rfl rfl rfl ?_;intro sl3 w3 h3;have hc3:=HIN.out w3 _ _ sl3 h3.out;obtain ⟨rb',roff',hra,hc3⟩:=hc3;cases hra;have HC2:Hid _:=HCC.out w3 _ _ sl3 z h3.out)
     | (go_at_call 17;refine MC HC2.out ?_;rintro e w4 ⟨l4,z4,rfl,hz4,h4⟩)
     | (at_builtin;refine h4.out.app HLE.out HAP2.out rfl _ _ rfl rfl rfl ?_;intro sl5 w5 h5))
    exact zdM
   ·have hlt2:¬ ((k:Int)<(T.length:Int)):=zaa;rw [M4 zaa] at HNX;clear hIN h1l hpl;go_wp2_with (first
     | (go_at_call 16;refine MC HC.out ?_;rintro e w2 ⟨l,z2,rfl,hz2,h2⟩)
     | (at_builtin;refine h2.out.app HLE.out HAP.out rfl _ _ rfl rfl rfl ?_;intro sl3 w3 h3))
    go_round
    case rel=>exact ⟨k+1,sl3,zaa,zah,by rw [HNX.out];rfl,rfl,by rw [HNX.out];exact h3⟩
    case measure=>simp [intOf];omega
  ·have hlt':¬ ((k:Int)<(L.length:Int)):=zaa;rw [M4 zaa] at HNX;by_cases hkT:k<T.length
   ·obtain ⟨z,hz⟩:∃ z,T[k]?=some z:=⟨_,Mu hkT⟩;have hlt2:((k:Int)<(T.length:Int)):=zaa;rw [hz] at HNX;obtain ⟨rb,roff,rfl,hc3⟩:=hIN k z hz;have HC2:Hid _:=HCC.out wr _ _ sl z HJ.out;have h2l:=Fr.wm an S (some z);have HAP2:Hid (S.1.length+(Pg.ckK an S.2.1 (Fr.u64 z)).1.length<=4000000):=by
     have h3:(S.1++(Pg.ckK an S.2.1 (Fr.u64 z)).1).length<=S.1.length+201:=h2l;rw [MN] at h3;unfold Hid;omega
    clear hz hIN hEV h2l hpl;go_wp2_with (first
     | (go_at_call 17;refine MC HC2.out ?_;rintro e w4 ⟨l4,z4,rfl,hz4,h4⟩)
     | (at_builtin;refine h4.out.app HLE.out HAP2.out rfl _ _ rfl rfl rfl ?_;intro sl5 w5 h5))
    exact zdM
   ·have hlt2:¬ ((k:Int)<(T.length:Int)):=zaa;obtain rfl:k=M:=by have:=HM.out;omega
    clear hIN hEV hpl;go_wp2;go_ret2;exact ⟨sl,by rw [HSS.out];rfl,by rw [HSS.out];exact HJ⟩
namespace Fr
def tot (L:List ByteArray):Nat:=(L.map ByteArray.size).sum
theorem Ag (h:L[k]?=some s):tot (L.take (k+1))=tot (L.take k)+s.size:=by
 unfold tot;rw [Oa,h,Ny,Ru];simp
theorem Hw (L:List ByteArray) (k:Nat):tot (L.take k)<=tot L:=by
 have h:tot L=tot (L.take k)+tot (L.drop k):=by unfold tot;rw [<- Ru,<- Ny,List.take_append_drop]
 omega
theorem J6 (h:L[k]?=some s):s.size<=tot L:=by
 have h1:=Ag h;have h2:=Hw L (k+1);omega
def Ii (s:ByteArray) (w:World) (e:Ending) (w':World):Prop:=Below w w w'/\match Pro.read s with
 | .fault _ _=>e = .returned (.tuple #[.pointer none,.slice none 0 0,.bool true])
 | .eO S=>∃ xb sb b ps,e = .returned (.tuple #[.pointer (some ⟨xb,0,none⟩),.slice (some ⟨sb,0,none⟩) 1 1,.bool true])/\Pg.Sn w' w.heap.size xb b ps (Pg.anS S) (Pg.stS S) (fun k=>w.heap.size<=k/\k<w'.heap.size)/\Pg.bO ps=Pg.bO (Pg.psF (Pg.X0 S))/\Pg.LN w' b b ps (.slice (some ⟨sb,0,none⟩) 1 1) [(⟨#[]⟩,Pg.stS S)]/\(Pg.stS S).now=0
end Fr
theorem oZ (s:ByteArray) (w:World) (hv:kP w) (hs:s.size<=1000000):() 7 #[s] w (Fr.Ii s w):=by
 have HP:Hid _:=kK s w hv zaa;have HST:Hid (∀ V,Below w w V->() 15 #[(s.size:Int)] V fun e w'=>e = .returned true/\Hid (Below w w w')):=fun V hb=>(wP s.size V (hv.ak hb) hs).mono (fun e w' x=>⟨x.1,hb.trans (x.2.mono hb.size)⟩);clear hv;go_enter func7,ntmps7;go_wp2_with fail;refine MC HP.out ?_;rintro e w1 ⟨hb1,hp⟩;cases hR:Pro.read s with
 | fault c l =>
  rw [hR] at hp;subst hp;have hc:=Pro.GY hR;have HRR:Hid _:=hR;clear hR;dsimp only;go_wp2_with (go_at_call 15;refine MC (HST.out _ hb1) ?_;rintro e w2 ⟨rfl,hb2⟩);go_ret3;unfold Fr.Ii;rw [HRR.out];exact ⟨hb2.out,rfl⟩
 | eO S =>
  rw [hR] at hp;obtain ⟨xb,sb,p,r,rfl,h1,h2,_,sv,rfl,q2,q3,q4,q5,q6⟩:=hp;have HR:Hid (Fr.Ii s w (.returned (.tuple #[xb,.slice sb 1 1,true])) w1):=by
   unfold Hid Fr.Ii;rw [hR];exact ⟨hb1,xb,sb,p.lo.n,p.ps,rfl,⟨⟨p,h1,rfl,rfl,q3,fun k hk ho=>⟨Mv h1.n0 (p.lo.le k ho),hk⟩⟩,fun k hk=>hk⟩,q2,.one q4 q5 q6,h2⟩
  clear hR h1 h2 q2 q3 q4 q5 q6;generalize Pg.stS S=r at *;by_cases hf:r.fin=6
  ·rw [show Pg.fuelN r.fin=6 by rw [hf];rfl];exact ze4
  ·rw [show Pg.fuelN r.fin=0 by unfold Pg.fuelN;rw [Mz hf]];exact ze4
theorem I0 (s:ByteArray) (a ra:Option Addr) (c rn rc:Nat) (L:List ByteArray) (w:World) (hE:Fr.As w a L) (hbd:s.size+L.length+rn+Fr.tot L<=4194304) :
  () 6 #[s,.slice a L.length c,.slice ra rn rc] w fun e w'=>e = .returned (.bool (decide (8192<s.size+L.length+rn+Fr.tot L)))/\w'=w:=by
 have HE:Hid _:=hE;clear hE;have hs1:=hbd;go_enter func6,ntmps6;go_wp2
 go_loopw [7,8] (fun n i wr=>∃ k:Nat,k<=L.length/\i = .int .i64 k/\n = .int .i64 ((s.size+L.length+rn+Fr.tot (L.take k):Nat):Int)/\wr=w) (fun _ i _=>L.length-(intOf i).toNat)
 case atStart=>exact ⟨0,MJ _,rfl,by simp [Fr.tot],rfl⟩
 case round =>
  obtain ⟨k,hk,rfl,rfl,rfl⟩:=hrel;by_cases hlt:k<L.length
  ·obtain ⟨x,hx⟩:∃ x,L[k]?=some x:=⟨_,Mu hlt⟩;obtain ⟨b,off,rfl,hc⟩:=HE.out k x hx;have hlt':((k:Int)<(L.length:Int)):=zaa;have h1:=Fr.Ag hx;have h2:=Fr.Hw L (k+1);have HT:Hid _:=h1;generalize Fr.tot (L.take k)=T at *;clear h1;go_wp2
   go_round
   case rel =>
    refine ⟨k+1,zaa,zah,?_,by first | trivial | rfl⟩;have h3:=HT.out;rw [Go.IntWalk.wrap64_in _ zaa,h3]
    go_num
   case measure=>simp [intOf];omega
  ·obtain rfl:k=L.length:=zaa;rw [NO];go_wp2;go_ret;exact ⟨by congr 2;simp;omega,rfl⟩
namespace Fr
def Zs (W:World) (n:Nat) (zv:Value) (O:Nat->Prop):Prop:=(zv = .pointer none/\∀ k,¬ O k)\/∃ zb b ps an r,zv = .pointer (some ⟨zb,0,none⟩)/\Pg.Sn W n zb b ps an r O
theorem Zs.other {W W':World} {zv:Value} {O Q:Nat->Prop} (h:Zs W n zv O) (hm:Mo (Pg.Own Q W) W W') (hQ:∀ k,Q k->O k->False) (hl:Pg.Lw n) (hn:∀ k,Q k->n<=k):Zs W' n zv O:=h.imp id fun ⟨zb,b,ps,an,r,e,hS⟩=>⟨zb,b,ps,an,r,e,hS.other hm hQ hl hn⟩
theorem Zs.own {W:World} {zv:Value} {O:Nat->Prop} (h:Zs W n zv O) (k:Nat) (hk:O k):n<=k/\k<W.heap.size:=by
 rcases h with ⟨_,h⟩ | ⟨_,_,_,_,_,_,h⟩
 ·exact absurd hk (h k)
 ·exact h.own k hk
theorem wG {W W':World} {O Q:Nat->Prop} (hd:∀ k,O k->Q k->False) (hQ:∀ k,Q k->k<W.heap.size) (k:Nat) (h:Pg.Gr O W W' k) (hq:Q k):False:=h.elim (fun h=>hd k h hq) (fun h=>by have:=hQ k hq;omega)
theorem gL {O Q:Nat->Prop} (hd:∀ k,O k->Q k->False) (k:Nat) (h:Q k) (hq:O k):False:=hd k hq h
def Ra (W:World) (ra:Option Addr) (T:List Int):Prop:=T=[]\/∃ rb z,ra=some ⟨rb,0,none⟩/\T=[z]/\W.heap[rb]?=some (.cells #[(z:Int)] 3 (0,0))
def Arg (n:Nat) (W:World) (a ra:Option Addr) (L:List ByteArray) (T:List Int):Prop:=(∀ W',Kd Pg.cZ W W'->Below n W W'->As W' a L/\De W' ra T)/\L.length<=8192/\T.length<=8192/\∀ x∈L,x.size<=8192
theorem IE {W:World} {ev:ByteArray} (hev:ev.size<=8192) {eb:Nat} (ha:W.heap[eb]?=some (.cells #[ev] 9 (0,0))) {ra:Option Addr} {T:List Int} (hr:Ra W ra T) (n:Nat):Arg n W (some ⟨eb,0,none⟩) ra [ev] T:=by
 refine ⟨fun W' hk _=>⟨fun i s hs => ?_,fun i z hz => ?_⟩,zad,by rcases hr with rfl | ⟨_,_,_,rfl,_⟩ <;> simp,fun x hx=>by rw [List.mem_singleton.1 hx];exact hev⟩
 ·obtain ⟨hi,rfl⟩:=Mx.1 hs;have hi:i<1:=hi;obtain rfl:i=0:=zaa;exact ⟨eb,0,rfl,(My _ _ _ _ _ _ ((hk.ak _ _ _ _ ha zao).trans ha)).trans rfl⟩
 ·rcases hr with rfl | ⟨rb,z',rfl,rfl,hb⟩
  ·cases hz
  ·obtain ⟨hi,rfl⟩:=Mx.1 hz;have hi:i<1:=hi;obtain rfl:i=0:=zaa;exact ⟨rb,0,rfl,(My _ _ _ _ _ _ ((hk.ak _ _ _ _ hb zao).trans hb)).trans rfl⟩
theorem o0 {W W':World} {O:Nat->Prop} (h:Mo (Pg.Own O W) W W') (hO:∀ k,O k->n<=k) (hn:n<=W.heap.size):Below n W W':=⟨h.os,h.tape,h.output,h.size,fun k hk=>h.block k zaa (fun hp=>by have:=hO k hp.1;omega)⟩
abbrev plA (an:Pg.RSt->ByteArray->Pg.RSt) (L:List ByteArray) (T:List Int) (r:Pg.RSt):List (ByteArray×Pg.RSt)×Pg.RSt×Nat:=plP an L T r (max L.length T.length)
theorem Km {w W:World} {xb b:Nat} {ps:List Pg.PS} {an:Pg.RSt->ByteArray->Pg.RSt} {r:Pg.RSt} {O:Nat->Prop} (hb:Below w w W) (h:Pg.Sn W w xb b ps an r O) (hv:kP w) (hcl:∀ ev:ByteArray,ev.size<=1000000->mM ev) {a ra:Option Addr} {T:List Int} (hA:Arg w.heap.size W a ra L T) (c rc:Nat) :
  () 8 #[xb,.slice a L.length c,.slice ra T.length rc] W fun e w'=>∃ sl:Ref.Sl,e = .returned (.tuple #[.slice sl.a sl.n sl.c,.int .i64 ((plA an L T r).2.2:Nat)])/\Hid (PlJ W w xb b ps an O (plA an L T r).1 (plA an L T r).2.1 sl w') :=
 GQ W w xb b ps an r O h hv.lw ((hb.cell (p:=⟨0,0,none⟩) (MQ _ _ hv.tC)).trans hv.tC) (MQ _ _ hv.tC) hcl a ra c rc L T (fun W' hm=>hA.1 W' (wM hm) (o0 hm (fun k hk=>(h.own k hk).1) hb.size)) hA.2.1 hA.2.2.1 hA.2.2.2
section
variable (w:World) (xb yb bx b2:Nat) (psx psy:List Pg.PS) (an:Pg.RSt->ByteArray->Pg.RSt) (zv:Value)
def TwS (rx ry:Pg.RSt) (W:World):Prop:=Below w w W/\∃ Ox Oy Oz:Nat->Prop,Pg.Sn W w xb bx psx an rx Ox/\Pg.Sn W w yb b2 psy an ry Oy/\Zs W w zv Oz/\(∀ k,Ox k->Oy k->False)/\(∀ k,Ox k->Oz k->False)/\∀ k,Oy k->Oz k->False
variable {w xb yb bx b2 psx psy an zv} {rx ry:Pg.RSt} {W W':World}
theorem TwS.ak (h:TwS w xb yb bx b2 psx psy an zv rx ry W) (hb:Below W W W') (hl:Pg.Lw w.heap.size):TwS w xb yb bx b2 psx psy an zv rx ry W':=by
 obtain ⟨h0,Ox,Oy,Oz,h1,h2,h3,hd⟩:=h;exact ⟨h0.trans (hb.mono h0.size),Ox,Oy,Oz,h1.ak hb hl,h2.ak hb hl,h3.other (Q:=fun _=>False) (ay hb) (fun _ h _=>h) hl (fun _ h=>h.elim),hd⟩
theorem TwS.px (h:TwS w xb yb bx b2 psx psy an zv rx ry W) (hv:kP w) (hcl:∀ ev:ByteArray,ev.size<=1000000->mM ev) {a ra:Option Addr} {T:List Int} (hA:Arg w.heap.size W a ra L T) (c rc:Nat) :
  () 8 #[xb,.slice a L.length c,.slice ra T.length rc] W fun e W'=>∃ sl:Ref.Sl,e = .returned (.tuple #[.slice sl.a sl.n sl.c,.int .i64 ((plA an L T rx).2.2:Nat)])/\Hid (TwS w xb yb bx b2 psx psy an zv (plA an L T rx).2.1 ry W'/\Pg.LN W' W bx psx (.slice sl.a sl.n sl.c) (plA an L T rx).1/\Kd Pg.cZ W W'):=by
 obtain ⟨h0,Ox,Oy,Oz,h1,h2,h3,d1,d2,d3⟩:=h;refine (Km h0 h1 hv hcl hA c rc).mono ?_;rintro e W' ⟨sl,rfl,hJ⟩;obtain ⟨j1,j2,j3⟩:=hJ.out;have hn:∀ k,Ox k->w.heap.size<=k:=fun k hk=>(h1.own k hk).1;exact ⟨sl,rfl,⟨h0.trans (o0 j3 hn h0.size),_,Oy,Oz,j1,h2.other j3 d1 hv.lw hn,h3.other j3 d2 hv.lw hn,wG d1 (fun k hk=>(h2.own k hk).2),wG d2 (fun k hk=>(h3.own k hk).2),d3⟩,j2,wM j3⟩
theorem TwS.py (h:TwS w xb yb bx b2 psx psy an zv rx ry W) (hv:kP w) (hcl:∀ ev:ByteArray,ev.size<=1000000->mM ev) {a ra:Option Addr} {T:List Int} (hA:Arg w.heap.size W a ra L T) (c rc:Nat) :
  () 8 #[yb,.slice a L.length c,.slice ra T.length rc] W fun e W'=>∃ sl:Ref.Sl,e = .returned (.tuple #[.slice sl.a sl.n sl.c,.int .i64 ((plA an L T ry).2.2:Nat)])/\Hid (TwS w xb yb bx b2 psx psy an zv rx (plA an L T ry).2.1 W'/\Pg.LN W' W b2 psy (.slice sl.a sl.n sl.c) (plA an L T ry).1/\Kd Pg.cZ W W'):=by
 obtain ⟨h0,Ox,Oy,Oz,h1,h2,h3,d1,d2,d3⟩:=h;refine (TwS.px (xb:=yb) (yb:=xb) (bx:=b2) (b2:=bx) (psx:=psy) (psy:=psx) ⟨h0,Oy,Ox,Oz,h2,h1,h3,gL d1,d3,d2⟩ hv hcl hA c rc).mono ?_;rintro e W' ⟨sl,rfl,hJ⟩;obtain ⟨⟨j0,Py,Px,Pz,j1,j2,j3,e1,e2,e3⟩,j4⟩:=hJ.out;exact ⟨sl,rfl,⟨j0,Px,Py,Pz,j2,j1,j3,gL e1,e3,e2⟩,j4⟩
theorem TwS.pz (h:TwS w xb yb bx b2 psx psy an zb rx ry W) (hv:kP w) (hcl:∀ ev:ByteArray,ev.size<=1000000->mM ev) {a ra:Option Addr} {T:List Int} (hA:Arg w.heap.size W a ra L T) (c rc:Nat) :
  () 8 #[zb,.slice a L.length c,.slice ra T.length rc] W fun e W'=>∃ (l:Value) (k:Nat),e = .returned (.tuple #[l,(k:Int)])/\Hid (TwS w xb yb bx b2 psx psy an zb rx ry W'/\Kd Pg.cZ W W'):=by
 obtain ⟨h0,Ox,Oy,Oz,h1,h2,h3,d1,d2,d3⟩:=h;obtain ⟨e,_⟩ | ⟨zb',b,ps,an',r,e,hz⟩:=id h3
 ·cases e
 cases e
 refine (Km h0 hz hv hcl hA c rc).mono ?_;rintro e W' ⟨sl,rfl,hJ⟩;obtain ⟨j1,j2,j3⟩:=hJ.out;have hn:∀ k,Oz k->w.heap.size<=k:=fun k hk=>(hz.own k hk).1;exact ⟨_,_,rfl,⟨h0.trans (o0 j3 hn h0.size),Ox,Oy,_,h1.other j3 (gL d2) hv.lw hn,h2.other j3 (gL d3) hv.lw hn,.inr ⟨_,_,_,_,_,rfl,j1⟩,d1,gL (wG (gL d2) (fun k hk=>(h1.own k hk).2)),gL (wG (gL d3) (fun k hk=>(h2.own k hk).2))⟩,wM j3⟩
end
theorem Sn.low {W:World} {m xb b:Nat} {ps:List Pg.PS} {an:Pg.RSt->ByteArray->Pg.RSt} {r:Pg.RSt} {O:Nat->Prop} (h:Pg.Sn W n xb b ps an r O) (hm:m<=n):Pg.Sn W m xb b ps an r O:=by
 obtain ⟨p,h1,h2⟩:=h.ex;exact ⟨⟨p,⟨h1.at',h1.lo,Mv hm h1.n0,h1.lv⟩,h2⟩,fun k hk=>⟨Mv hm (h.own k hk).1,(h.own k hk).2⟩⟩
theorem LA {w:World} (hv:kP w) (t:ByteArray) (ht:t.size<=1000000) (V:World) (hb:Below w w V):() 7 #[t] V fun e w'=>∃ zv zl,e = .returned (.tuple #[zv,zl,true])/\Hid (Below V V w'/\∃ Oz:Nat->Prop,Zs w' w zv Oz/\∀ k,Oz k->V.heap.size<=k):=by
 refine (oZ t V (hv.ak hb) ht).mono ?_;rintro e w' ⟨h1,h2⟩;cases hR:Pro.read t with
 | fault c l =>
  rw [hR] at h2;exact ⟨_,_,h2,h1,fun _=>False,.inl ⟨rfl,fun _ h=>h⟩,fun _ h=>h.elim⟩
 | eO S =>
  rw [hR] at h2;obtain ⟨zb,sb,b,ps,e1,h3,_⟩:=h2;exact ⟨_,_,e1,h1,_,.inr ⟨zb,b,ps,_,_,rfl,Sn.low h3 hb.size⟩,fun k hk=>hk.1⟩
section
variable (w:World) (xb yb bx b2:Nat) (psx psy:List Pg.PS) (an:Pg.RSt->ByteArray->Pg.RSt) (zv:Value) (ev:ByteArray) (T:List Int) (eb:Nat) (ra:Option Addr) (r:Pg.RSt) (sl:Ref.Sl)
def Mid (V:World):Prop:=TwS w xb yb bx b2 psx psy an zv (plA an [ev] T r).2.1 r V/\(∃ base,Pg.LN V base bx psx (.slice sl.a sl.n sl.c) (plA an [ev] T r).1)/\V.heap[eb]?=some (.cells #[ev] 9 (0,0))/\Ra V ra T
variable {w xb yb bx b2 psx psy an zv ev T eb ra r sl} {V:World}
theorem Ra.kd {V V':World} (h:Ra V ra T) (hk:Kd Pg.cZ V V'):Ra V' ra T:=h.imp id fun ⟨rb,z,a,b,c⟩=>⟨rb,z,a,b,(hk.ak _ _ _ _ c zao).trans c⟩
theorem Mid.of {V V':World} (h:Mid w xb yb bx b2 psx psy an zv ev T eb ra r sl V) (hk:Kd Pg.cZ V V') (hT:TwS w xb yb bx b2 psx psy an zv (plA an [ev] T r).2.1 r V'):Mid w xb yb bx b2 psx psy an zv ev T eb ra r sl V':=by
 obtain ⟨_,⟨base,h2⟩,h3,h4⟩:=h;exact ⟨hT,⟨base,h2.kd hk zao zao⟩,(hk.ak _ _ _ _ h3 zao).trans h3,h4.kd hk⟩
theorem Mid.start (h:TwS w xb yb bx b2 psx psy an zv r r V) (hv:kP w) (hcl:∀ ev:ByteArray,ev.size<=1000000->mM ev) (hev:ev.size<=8192) (ha:V.heap[eb]?=some (.cells #[ev] 9 (0,0))) (hr:Ra V ra T) (rc:Nat) :
  () 8 #[xb,.slice eb 1 1,.slice ra T.length rc] V fun e V'=>∃ sl:Ref.Sl,e = .returned (.tuple #[.slice sl.a sl.n sl.c,.int .i64 ((plA an [ev] T r).2.2:Nat)])/\Hid (Mid w xb yb bx b2 psx psy an zv ev T eb ra r sl V'):=(h.px hv hcl (IE hev ha hr _) 1 rc).mono fun e V' ⟨sl,e1,h1⟩=>⟨sl,e1,h1.out.1,⟨_,h1.out.2.1⟩,(h1.out.2.2.ak _ _ _ _ ha zao).trans ha,hr.kd h1.out.2.2⟩
theorem Mid.L1 (h:Mid w xb yb bx b2 psx psy an zb ev T eb ra r sl V) (hv:kP w) (hcl:∀ ev:ByteArray,ev.size<=1000000->mM ev) (hev:ev.size<=8192) (z:Int) :
  () 8 #[zb,.slice eb 1 1,.slice V 1 1] (V.alloc (.cells #[(z:Int)] 3)) fun e V'=>∃ (l:Value) (k:Nat),e = .returned (.tuple #[l,(k:Int)])/\Hid (Mid w xb yb bx b2 psx psy an zb ev T eb ra r sl V'):=by
 have hb:Below V V (V.alloc (.cells #[(z:Int)] 3)):=(Mw _ _).alloc (Mt _) _;have h1:=h.of (bc hb) (h.1.ak hb hv.lw);refine (h1.1.pz hv hcl (IE (T:=[z]) hev h1.2.2.1 (.inr ⟨_,z,rfl,rfl,MD _ _⟩) _) 1 1).mono ?_;rintro e V' ⟨l,k,rfl,h2⟩;exact ⟨l,k,rfl,h1.of h2.out.2 h2.out.1⟩
theorem Mid.fin (h:Mid w xb yb bx b2 psx psy an zv ev T eb ra r sl V) (hv:kP w) (hcl:∀ ev:ByteArray,ev.size<=1000000->mM ev) (hev:ev.size<=8192) (htd:∀ A:List (ByteArray×Pg.RSt),A.map (tdS psx)=A.map (tdS psy)) (rc:Nat) :
  () 8 #[yb,.slice eb 1 1,.slice ra T.length rc] V fun e V'=>∃ sl2:Ref.Sl,e = .returned (.tuple #[.slice sl2.a sl2.n sl2.c,.int .i64 ((plA an [ev] T r).2.2:Nat)])/\Hid (() 10 #[.slice sl.a sl.n sl.c,.slice sl2.a sl2.n sl2.c] V' fun e w'=>e = .returned true/\Hid (TwS w xb yb bx b2 psx psy an zv (plA an [ev] T r).2.1 (plA an [ev] T r).2.1 w')):=by
 refine (h.1.py hv hcl (IE hev h.2.2.1 h.2.2.2 _) 1 rc).mono ?_;rintro e V' ⟨sl2,rfl,h2⟩;obtain ⟨j1,j2,j3⟩:=h2.out;obtain ⟨base,hl⟩:=h.2.1;have t1:=qF (hl.kd j3 zao zao);rw [htd] at t1;refine ⟨sl2,rfl,(uh V' sl sl2 _ t1 (qF j2) (by rw [MH];have h1:=(IE hev h.2.2.1 h.2.2.2 0).2.2.1;have h2:[ev].length=1:=rfl;exact Mv (xu an [ev] T r _) zaa)).mono ?_⟩;rintro e w' ⟨rfl,hb⟩;exact ⟨rfl,j1.ak hb hv.lw⟩
end
end Fr
theorem Cm (s t:ByteArray) (a ra:Option Addr) (c rc:Nat) (L:List ByteArray) (T:List Int) (w:World) (hv:kP w) (hcl:∀ ev:ByteArray,ev.size<=1000000->mM ev) (hE:Fr.As w a L) (hI:Fr.De w ra T) (htb:t.size<=4194304) (hbd:s.size+L.length+T.length+Fr.tot L<=4194304) :
  () 4 #[s,t,.slice a L.length c,.slice ra T.length rc] w fun e w'=>e = .returned true/\Below w w w':=by
 have HF:Hid _:=I0 s a ra c T.length rc L w hE hbd;by_cases hfar:8192<s.size+L.length+T.length+Fr.tot L
 ·rw [NC hfar] at HF;exact zdD
 rw [No hfar] at HF;by_cases hts:8192<t.size
 ·have hts':(8192:Int)<(t.size:Int):=zaa;exact zdD
 have hts':¬ (8192:Int)<(t.size:Int):=zaa;have HV:Hid _:=hv;have HBZ:Hid _:=fun V hb=>Fr.LA hv t zaa V hb;cases hR:Pro.read s with
 | fault fc fl =>
  have HBS:Hid (∀ V,Below w w V->() 7 #[s] V fun e w'=>e = .returned (.tuple #[.pointer none,.slice none 0 0,true])/\Hid (Below w w w')):=fun V hb=>(oZ s V (hv.ak hb) zaa).mono fun e w' ⟨h1,h2⟩=>by
   rw [hR] at h2;exact ⟨h2,hb.trans (h1.mono hb.size)⟩
  clear hR hv hcl hE hI hfar;go_enter func4,ntmps4;go_wp2_with (go_at_call 6;refine MC HF.out ?_;rintro e w1 ⟨rfl,hw1⟩;rw [hw1];clear hw1 w1);refine MC (HBS.out w (Mw _ _)) ?_;rintro e w1 ⟨rfl,h1⟩;dsimp only;go_wp2_with fail;refine MC (HBZ.out w1 h1.out) ?_;rintro e w2 ⟨zv,zl,rfl,h2⟩;have h2b:Hid (Below w w w2):=h1.out.trans (h2.out.1.mono h1.out.size);dsimp only;go_wp2_with fail;refine MC (HBS.out w2 h2b.out) ?_;rintro e w3 ⟨rfl,h3⟩;dsimp only;go_wp2;go_ret;exact ⟨rfl,h3.out⟩
 | eO S =>
  have HBS:Hid (∀ V,Below w w V->() 7 #[s] V fun e w'=>∃ xb sb,e = .returned (.tuple #[.pointer (some ⟨xb,0,none⟩),.slice (some ⟨sb,0,none⟩) 1 1,true])/\Hid (Below V.heap.size V w'/\∃ b ps,Pg.Sn w' w xb b ps (Pg.anS S) (Pg.stS S) (fun k=>V.heap.size<=k/\k<w'.heap.size)/\Pg.bO ps=Pg.bO (Pg.psF (Pg.X0 S))/\Pg.LN w' b b ps (.slice (some ⟨sb,0,none⟩) 1 1) [(⟨#[]⟩,Pg.stS S)])):=fun V hb=>(oZ s V (hv.ak hb) zaa).mono fun e w' ⟨h1,h2⟩=>by
   rw [hR] at h2;obtain ⟨xb,sb,b,ps,e1,h3,h4,h5,_⟩:=h2;exact ⟨xb,sb,e1,h1,b,ps,Fr.Sn.low h3 hb.size,h4,h5⟩
  have hlw:=hv.lw;have HEV:Hid (∀ W,Below w w W->Fr.As W a L/\Fr.De W ra T):=fun W hb=>⟨fun i x hx=>by
   obtain ⟨b,off,e,hc⟩:=hE i x hx;exact ⟨b,off,e,(hb.cell (p:=⟨b,off+i,none⟩) (MQ _ _ hc)).trans hc⟩,fun i x hx=>by
   obtain ⟨b,off,e,hc⟩:=hI i x hx;exact ⟨b,off,e,(hb.cell (p:=⟨b,off+i,none⟩) (MQ _ _ hc)).trans hc⟩⟩
  have HSZ:Hid (∀ (k:Nat) (x:ByteArray),L[k]?=some x->x.size<=8192):=fun k x hx=>by have:=Fr.J6 hx;omega
  have HCL:Hid _:=hcl;have hLb:L.length<=8192:=zaa;have hTb:T.length<=8192:=zaa;clear hR hv hcl hE hI hfar hbd;go_enter func4,ntmps4;go_wp2_with (go_at_call 6;refine MC HF.out ?_;rintro e w1 ⟨rfl,hw1⟩;rw [hw1];clear hw1 w1);refine MC (HBS.out w (Mw _ _)) ?_;rintro e w1 ⟨xb,sb,rfl,h1⟩;dsimp only;go_wp2_with fail;refine MC (HBZ.out w1 h1.out.1) ?_;rintro e w2 ⟨zv,zl,rfl,h2⟩;have h2b:Hid (Below w w w2):=h1.out.1.trans (h2.out.1.mono h1.out.1.size);dsimp only;go_wp2_with fail;refine MC (HBS.out w2 h2b.out) ?_;rintro e w3 ⟨yb,sy,rfl,h3⟩;obtain ⟨bx,b2,psx,psy,HT⟩:∃ bx b2 psx psy,Hid (Fr.TwS w xb yb bx b2 psx psy (Pg.anS S) zv (Pg.stS S) (Pg.stS S) w3/\(∀ A:List (ByteArray×Pg.RSt),A.map (Fr.tdS psx)=A.map (Fr.tdS psy))/\() 10 #[.slice sb 1 1,.slice sy 1 1] w3 fun e w'=>e = .returned true/\Below w3 w3 w'):=by
   obtain ⟨p1,bx,psx,p2,p3,p4⟩:=h1.out;obtain ⟨q1,Oz,q2,q3⟩:=h2.out;obtain ⟨r1,b2,psy,r2,r3,r4⟩:=h3.out;have s1:=p1.size;have s2:=q1.size;have s3:=r1.size;have hb12:=q1;have htd:∀ A:List (ByteArray×Pg.RSt),A.map (Fr.tdS psx)=A.map (Fr.tdS psy):=fun A=>by
    have:Fr.tdS psx=Fr.tdS psy:=by unfold Fr.tdS;rw [p3,r3]
    rw [this]
   refine ⟨bx,b2,psx,psy,⟨h2b.out.trans (r1.mono h2b.out.size),_,_,Oz,(p2.ak q1 hlw).ak r1 hlw,r2,q2.other (Q:=fun _=>False) (ay r1) (fun _ h _=>h) hlw (fun _ h=>h.elim),fun k a b=>zaa,fun k a b=>by have:=q3 k b;omega,fun k a b=>by have:=(q2.own k b).2;omega⟩,htd,?_⟩;have t1:=Fr.qF (v:=⟨some ⟨sb,0,none⟩,1,1⟩) ((p4.no (bc q1)).no (bc r1));rw [htd] at t1;exact uh w3 ⟨some ⟨sb,0,none⟩,1,1⟩ ⟨some ⟨sy,0,none⟩,1,1⟩ _ t1 (Fr.qF (v:=⟨some ⟨sy,0,none⟩,1,1⟩) r4) zad
  clear h1 h2 h3 h2b HBS HBZ HF;have HAL:Hid _:=HT.out.2.2;have HTD:Hid _:=HT.out.2.1;generalize Pg.stS S=r0 at *;generalize Pg.anS S=an at *;dsimp only;go_wp2_with (go_at_call 10;refine MC HAL.out ?_;rintro e w4 ⟨rfl,hb4⟩;have HT4:Hid _:=HT.out.1.ak hb4 hlw;clear hb4);clear HT HAL
  go_loopw [20] (fun i wr=>∃ k:Nat,k<=L.length/\i = .int .i64 k/\Hid (∃ r,Fr.TwS w xb yb bx b2 psx psy an zv r r wr)) (fun i _=>L.length-(intOf i).toNat)
  case atStart=>exact ⟨0,MJ _,rfl,r0,HT4.out⟩
  case round =>
   obtain ⟨k,hk,rfl,HR⟩:=hrel;by_cases hlt:k<L.length
   ·obtain ⟨x,hx⟩:∃ x,L[k]?=some x:=⟨_,Mu hlt⟩;obtain ⟨r,hT⟩:=HR.out;obtain ⟨hEV,hIN⟩:=HEV.out wr hT.1;obtain ⟨eb,off,rfl,hc⟩:=hEV k x hx;have hsx:=HSZ.out k x hx;have hlt':((k:Int)<(L.length:Int)):=zaa;have hnn:¬ (k:Int)<0:=zaa;have hb1:Below wr wr (wr.alloc (.cells #[x] 9)):=(Mw _ _).alloc (Mt _) _;have he1:(wr.alloc (.cells #[x] 9)).heap[wr.heap.size]?=some (.cells #[x] 9 (0,0)):=MD _ _;have hT1:=hT.ak hb1 hlw;have HZ:Hid (zv = .pointer none\/∃ zb,zv = .pointer (some ⟨zb,0,none⟩)):=by
     obtain ⟨_,_,_,_,_,_,hz,_⟩:=hT;exact hz.imp (fun h=>h.1) (fun ⟨zb,_,_,_,_,e,_⟩=>⟨zb,e⟩)
    by_cases hkT:k<T.length
    case' pos =>
     obtain ⟨z,hz⟩:∃ z,T[k]?=some z:=⟨_,Mu hkT⟩;have hlt2:((k:Int)<(T.length:Int)):=zaa;obtain ⟨rb,roff,rfl,hcz⟩:=hIN k z hz;have hcz1:(wr.alloc (.cells #[x] 9)).cell? ⟨rb,roff+k,none⟩=some ↑(z:Int):=(hb1.cell (p:=⟨rb,roff+k,none⟩) (MQ _ _ hcz)).trans hcz;have hb2:Below (wr.alloc (.cells #[x] 9)).heap.size (wr.alloc (.cells #[x] 9)) ((wr.alloc (.cells #[x] 9)).alloc (.cells #[(z:Int)] 3)):=(Mw _ _).alloc (Mt _) _;have hz2:=MD (wr.alloc (.cells #[x] 9)) (.cells #[(z:Int)] 3);rw [NH] at hz2;have HX:Hid _:=Fr.Mid.start (T:=[z]) (hT1.ak hb2 hlw) HV.out HCL.out hsx ((hb2.block _ zad).trans he1) (.inr ⟨_,z,rfl,rfl,hz2⟩) 1;clear hx hz hEV hIN hT hT1 he1 hz2 hb1 hb2 hcz
    case' neg =>
     have hlt2:¬ ((k:Int)<(T.length:Int)):=zaa;have HX:Hid _:=Fr.Mid.start (T:=[]) (ra:=none) hT1 HV.out HCL.out hsx he1 (.inl rfl) 0;clear hx hEV hIN hT hT1 he1 hb1
    all_goals
     go_wp2_with fail;refine MC HX.out ?_;rintro e w5 ⟨sl,rfl,h5⟩
     rcases HZ.out with rfl | ⟨zb,rfl⟩
     case' inl =>
      dsimp only;go_wp2_with fail;have HY:Hid _:=h5.out.fin HV.out HCL.out hsx HTD.out
     case' inr =>
      dsimp only;go_wp2_with fail;refine MC (h5.out.L1 HV.out HCL.out hsx _) ?_;rintro e w6 ⟨l6,k6,rfl,h6⟩;dsimp only;go_wp2_with fail;have HY:Hid _:=h6.out.fin HV.out HCL.out hsx HTD.out
     all_goals
      refine MC (HY.out _) ?_;rintro e w7 ⟨sl2,rfl,h7⟩;dsimp only;go_wp2_with (go_at_call 10;refine MC h7.out ?_;rintro e w8 ⟨rfl,h8⟩)
      go_round
      case rel=>exact ⟨k+1,zaa,zah,_,h8.out⟩
      case measure=>simp [intOf];omega
   ·obtain rfl:k=L.length:=zaa;go_wp2;go_ret;obtain ⟨_,hb,_⟩:=HR.out;exact ⟨rfl,hb⟩
