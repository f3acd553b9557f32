import Derived.Test.YtibbecdlllchkaaGreatDoorM23
set_option maxRecDepth 100000
set_option maxHeartbeats 8000000
namespace Go.Proofs.YtibbecdlllchkaaGreatDoor
variable {zp:Prop}
theorem zdA(h:zp:=by
 go_round
 case rel=>exact⟨k+1,sl5,zaa,zah,by rw[HNX.out];rfl,rfl,by rw[HNX.out];exact h5⟩
 case measure=>simp[intOf];omega):zp:=h
theorem zdG(h:zp:=by
 cases h1:S'[i]?<;>cases h2:S[i]?<;>rw[h1,h2]at this<;>first|rfl|(cases this;done)|exact Qh this):zp:=h
theorem zdZ(h:zp:=by
 rintro e w' ⟨l,k,rfl,hA⟩;obtain⟨q1,q2⟩:=hJ.next hle.2 hA.out;exact⟨l,k,rfl,q1,q2⟩):zp:=h
theorem zed(h:zp:=by
 simp only[List.append_assoc,List.cons_append,List.nil_append,List.append_nil]):zp:=h
theorem ze9(h:zp:=by
 clear hf;dsimp only;go_wp2;go_ret3;exact HR.out):zp:=h
theorem zaB(h:zp:=by unfold Vis;decide):zp:=h
open Tryz
variable {A:List U.Act}{r:Y.RSt}{sl:U.Sl}{l:Value}{k n:Nat}{a:U.Act}{L ws:List ()}{s:()}{T:List Int}{m:U.Move}{x:U.State}
section
open Go.RowKit Go.Proofs Go.Shelf
namespace F
def plP(an:Y.RSt->()->Y.RSt)(L:List ())(T:List Int)(r:Y.RSt):Nat->List (()×Y.RSt)×Y.RSt×Nat
 |0=>([],r,0)
 |k+1=>ckP an (evP an (plP an L T r k) L[k]?) T[k]?
theorem zj(an:Y.RSt->()->Y.RSt)(L:List ())(T:List Int)(r:Y.RSt):∀k,(plP an L T r k).1.length<=k*202
 |0=>Po _
 |k+1=>by
  have h1:=zj an L T r k;have h2:=EK an (plP an L T r k) L[k]?;have h3:=yg an (evP an (plP an L T r k) L[k]?) T[k]?;show(ckP an (evP an (plP an L T r k) L[k]?) T[k]?).1.length<=_;omega
section
variable (W0:World)(n0 xb b:Nat)(ps:List Y.PS)(an:Y.RSt->()->Y.RSt)(O:Nat->Prop)
def PlJ(A:List (()×Y.RSt))(r:Y.RSt)(sl:U.Sl)(W:World):Prop:=Y.Sn W n0 xb b ps an r (Y.Gr O W0 W)/\Y.LN W W0 b ps (.slice sl.a sl.n sl.c) A/\Mo (Y.Own O W0) W0 W
def PlQ(A B:List (()×Y.RSt))(r:Y.RSt)(sl:U.Sl)(l:Value)(W:World):Prop:=PlJ W0 n0 xb b ps an O A r sl W/\Y.LN W b b ps l B
variable {W0 n0 xb b ps an O}
theorem GB{O':Nat->Prop}{W W':World}(h:Mo (Y.Own O W0) W0 W)(k:Mo (Y.Own O' W) W W')(hO:∀i,i<W0.heap.size->O' i->O i):Mo (Y.Own O W0) W0 W':=h.trans' k fun i hi ⟨q1,q2,c,t,f,q3,q4⟩=>Ra fun hn=>by
 have e:=h.block i hi hn;exact hn ⟨hO i hi q1,fun v hv=>q2 v ((PN (a:=⟨i,0,none⟩) e).trans hv),c,t,f,e.symm.trans q3,q4⟩
theorem C6{O:Nat->Prop}{W W':World}(h:Mo (Y.Own O W) W W'):Kd Y.eM W W':=gS h fun k c t f ⟨_,_,c',t',f',q3,q4⟩ hc=>by
 rw[hc]at q3;cases q3
 exact q4
theorem PlJ.next{A:List (()×Y.RSt)}{W W':World}(h:PlJ W0 n0 xb b ps an O A r sl W)(hb:b<=W0.heap.size){z:List (()×Y.RSt)×Y.RSt}(hA:Y.An W n0 xb b ps an r (Y.Gr O W0 W) z l k W'):k=Y.sZ r z.2/\PlQ W0 n0 xb b ps an O A z.1 z.2 sl l W':=by
 obtain⟨h1,h2,h3⟩:=h;obtain⟨a1,a2,a3,a4⟩:=hA;have hs:=h3.size;have hs':=a4.size;exact⟨a1,⟨a2.mono (fun i hi=>by
  rcases hi with(hi|hi)|hi
  ·exact .inl hi
  ·exact .inr ⟨hi.1,zaa⟩
  ·exact .inr ⟨zaa,hi.2⟩) (fun i hi=>by
  rcases hi with hi|hi
  ·have:=h1.own i (.inl hi);omega
  ·have:=h1.le;omega),h2.kd (C6 a4) zaw zaw,GB h3 a4 (fun i hi ho=>ho.elim id (fun h=>absurd h.1 zaa))⟩,a3⟩
theorem PlQ.app{A B:List (()×Y.RSt)}{W:World}(h:PlQ W0 n0 xb b ps an O A B r sl l W)(hb:b<=W0.heap.size)(hn:A.length+B.length<=4000000){ops:Array Oper}{rest:List Oper}{o:Oper}{a:Act}{Q:Exit->Act->World->Prop}(hgd:o.guard=none)(s x:Operand)(ho:o.op=.call { callee:=.builtin .append,args:=#[s,x],argTypes:=#[26,26] })(hs:a.eval s=.slice sl.a sl.n sl.c)(hx:a.eval x=l)
  (k:∀(sl':U.Sl) w',Hid (PlJ W0 n0 xb b ps an O (A++B) r sl' w')->wpList prog ops Q rest (a.put o.dst (.slice sl'.a sl'.n sl'.c)) w'):wpList prog ops Q (o::rest) a W:=by
 obtain⟨⟨h1,h2,h3⟩,h4⟩:=h;refine Fy hgd s x ho W0 b ps _ l A B hs hx h2 h4 hn h3.size (fun sl' w' h5 hm=>k sl' w' ?_);obtain⟨vs,_,U5,_⟩:=h2;have hP:∀k,(Value.slice sl.a sl.n sl.c).ownBlock=some k->W0.heap.size<=k/\∃c,W.heap[k]?=some (.cells c 50 (0,0)):=fun k hk=>⟨(Qf U5 k hk).1,b8 U5 k hk⟩;have Vf:=h3.size;have hsz':=hm.size;obtain⟨p,q1,q2,q3,q4,q5⟩:=h1.ex;refine⟨⟨⟨p,q1.stp hm (fun k hk=>⟨by have:=(hP k hk).1;omega,(hP k hk).2⟩),q2,q3,q4,fun i hi ho=>?_⟩,fun i hi=>?_⟩,h5,h3.trans' hm (fun i hi hp=>absurd (hP i hp).1 zaa)⟩
 ·by_cases hw:i<W.heap.size
  ·exact(q5 i hw ho).imp id (fun h=>⟨h.1,hi⟩)
  ·exact .inr ⟨zaa,hi⟩
 ·rcases hi with hi|hi
  ·have:=h1.own i (.inl hi);omega
  ·have:=h1.le;omega
end
end F
theorem J2(W0:World)(n0 xb b:Nat)(ps:List Y.PS)(an:Y.RSt->()->Y.RSt)(r:Y.RSt)(O:Nat->Prop)(h:Y.Sn W0 n0 xb b ps an r O)(hl:Y.Lw n0)(hE:Y.sg W0)(hg:0<n0)(Vu:∀ev:(),ev.size<=1000000->sf ev)(a ra:Option Addr)(c rc:Nat)(L:List ())(T:List Int)(hEv:∀W,Mo (Y.Own O W0) W0 W->F.Fl W a L/\F.Hv W ra T)(hL:L.length<=8192)(hT:T.length<=8192)(hx:∀x∈L,x.size<=8192):
  () 9 #[xb,.slice a L.length c,.slice ra T.length rc] W0 fun e w'=>∃sl:U.Sl,e=.returned (.tuple #[.slice sl.a sl.n sl.c,.int .i64 ((F.plP an L T r (max L.length T.length)).2.2:Nat)])/\Hid (F.PlJ W0 n0 xb b ps an O (F.plP an L T r (max L.length T.length)).1 (F.plP an L T r (max L.length T.length)).2.1 sl w'):=by
 have hle:=h.le;have HEV:Hid (∀W A r sl,F.PlJ W0 n0 xb b ps an O A r sl W->F.Fl W a L/\F.Hv W ra T):=fun W A r sl hJ=>hEv W hJ.2.2;have hET:∀W A r sl,F.PlJ W0 n0 xb b ps an O A r sl W->Y.sg W:=fun W A r sl hJ=>(hJ.2.2.cell (p:=⟨0,0,none⟩) (PY hg (Pr hle.1 hle.2)) (fun hp=>absurd (h.own _ hp.1).1 (Nat.not_le_of_lt hg))).trans hE;have HCE:Hid (∀W A r1 sl (x:()),x.size<=8192->F.PlJ W0 n0 xb b ps an O A r1 sl W->() 17 #[xb,.string x] W fun e w'=>∃l,∃k:Nat,e=.returned (.tuple #[l,(k:Int)])/\k=Y.sZ r1 (Y.evK an r1 x).2/\Hid (F.PlQ W0 n0 xb b ps an O A (Y.evK an r1 x).1 (Y.evK an r1 x).2 sl l w')):=fun W A r1 sl x hx hJ=>by
  refine Pw (hJ.1.tld hl (z:=Y.evK an r1 x) (fun p e hS=>by
   have:=Lq hS (hET W A r1 sl hJ) hg Vu x zaa
   rwa [e]at this)) ?_
  exact zdZ
 have HCC:Hid (∀W A r1 sl (z:Int),F.PlJ W0 n0 xb b ps an O A r1 sl W->() 18 #[xb,.int .u64 (IntKind.u64.wrap z)] W fun e w'=>∃l,∃k:Nat,e=.returned (.tuple #[l,(k:Int)])/\k=Y.sZ r1 (Y.ckK an r1 (F.u64 z)).2/\Hid (F.PlQ W0 n0 xb b ps an O A (Y.ckK an r1 (F.u64 z)).1 (Y.ckK an r1 (F.u64 z)).2 sl l w')):=fun W A r1 sl z hJ=>by
  rw[(F.KC z).1];refine Pw (hJ.1.tld hl (z:=Y.ckK an r1 (F.u64 z)) (fun p e hS=>by
   have:=Lf hS (hET W A r1 sl hJ) hg Vu (F.u64 z) (F.KC z).2
   rwa [e]at this)) ?_
  exact zdZ
 have H0:Hid (F.PlJ W0 n0 xb b ps an O [] r ⟨none,0,0⟩ W0):=⟨h.mono (fun _ h=>.inl h) (fun k hk=>hk.elim (h.own k) (fun h=>absurd h.1 zaa)),⟨[],rfl,QC ..,fun y hy=>by cases hy⟩,Mo.refl _ _⟩;have HX:Hid _:=hx;have XC:Hid _:=hle.2;clear h hE hEv Vu hx hET hle;obtain⟨M,hM⟩:∃M,max L.length T.length=M:=⟨_,rfl⟩;have YO:L.length<=M:=zaa;have Ws:T.length<=M:=zaa;have Wt:M<=8192:=zaa;have HM:Hid (M=L.length\/M=T.length):=by unfold Hid;omega
 rw[hM];clear hM;go_enter func9,ntmps9;go_wp2
 go_loopw[8,9,10] (fun o q i wr=>∃(k:Nat) (sl:U.Sl),k<=M/\i=.int .i64 k/\q=.int .i64 ((F.plP an L T r k).2.2:Nat)/\o=.slice sl.a sl.n sl.c/\Hid (F.PlJ W0 n0 xb b ps an O (F.plP an L T r k).1 (F.plP an L T r k).2.1 sl wr)) (fun _ _ i _=>M-(intOf i).toNat)
 case atStart=>exact⟨0,⟨none,0,0⟩,PK _,rfl,rfl,rfl,H0⟩
 case round=>
  obtain⟨k,sl,hk,rfl,rfl,rfl,HJ⟩:=hrel;have VI:=F.zj an L T r k;have HNX:Hid (F.plP an L T r (k+1)=F.ckP an (F.evP an (F.plP an L T r k) L[k]?) T[k]?):=rfl;obtain⟨S,hS⟩:∃S,F.plP an L T r k=S:=⟨_,rfl⟩;rw[hS]at HJ VI HNX⊢;have HSS:Hid _:=hS;clear hS;have hnn:¬(k:Int)<0:=zaa;obtain⟨hEV,hIN⟩:=HEV.out wr _ _ sl HJ.out;by_cases hkL:k<L.length
  ·obtain⟨x,hx⟩:∃x,L[k]?=some x:=⟨_,Pp hkL⟩;obtain⟨eb,off,rfl,hc⟩:=hEV k x hx;have hlt':((k:Int)<(L.length:Int)):=zaa;have HC:Hid _:=HCE.out wr _ _ sl x (HX.out x (PD hx)) HJ.out;have h1l:=F.EK an S (some x);have XW:∀A B:List (()×Y.RSt),A=S.1->B=(Y.evK an S.2.1 x).1->A.length+B.length<=4000000:=fun A B hA hB=>by
    have:(S.1++(Y.evK an S.2.1 x).1).length<=S.1.length+1:=h1l;rw[PI]at this;rw[hA,hB];omega
   rw[hx]at HNX;have HAP:Hid _:=XW _ _ rfl rfl;clear hx hEV XW;by_cases hkT:k<T.length
   ·obtain⟨z,hz⟩:∃z,T[k]?=some z:=⟨_,Pp hkT⟩;have hlt2:((k:Int)<(T.length:Int)):=zaa;rw[hz]at HNX;have HIN:Hid _:=fun W A r1 sl1 (hJ:F.PlJ W0 n0 xb b ps an O A r1 sl1 W)=>(HEV.out W A r1 sl1 hJ).2 k z hz;obtain⟨rb,roff,rfl,_⟩:=hIN k z hz;have h2l:=F.yg an (F.evP an S (some x)) (some z);have HAP2:Hid ((S.1++(Y.evK an S.2.1 x).1).length+(Y.ckK an (Y.evK an S.2.1 x).2 (F.u64 z)).1.length<=4000000):=by
     have h3:((S.1++(Y.evK an S.2.1 x).1)++(Y.ckK an (Y.evK an S.2.1 x).2 (F.u64 z)).1).length<=(S.1++(Y.evK an S.2.1 x).1).length+201:=h2l;have h4:(S.1++(Y.evK an S.2.1 x).1).length<=S.1.length+1:=h1l;rw[PI]at h3;unfold Hid;omega
    clear hz hIN h1l h2l VI;go_wp2_with(first
     |(go_at_call 17;refine Pw HC.out ?_;rintro e w2 ⟨l,z2,rfl,Vl,h2⟩)
     |(at_builtin;refine h2.out.app XC.out HAP.out rfl _ _ rfl rfl rfl ?_;intro sl3 w3 h3;have hc3:=HIN.out w3 _ _ sl3 h3.out;obtain⟨rb',roff',YM,hc3⟩:=hc3;cases YM;have HC2:Hid _:=HCC.out w3 _ _ sl3 z h3.out)
     |(go_at_call 18;refine Pw HC2.out ?_;rintro e w4 ⟨l4,z4,rfl,hz4,h4⟩)
     |(at_builtin;refine h4.out.app XC.out HAP2.out rfl _ _ rfl rfl rfl ?_;intro sl5 w5 h5))
    exact zdA
   ·have hlt2:¬((k:Int)<(T.length:Int)):=zaa;rw[P6 zaa]at HNX;clear hIN h1l VI;go_wp2_with(first
     |(go_at_call 17;refine Pw HC.out ?_;rintro e w2 ⟨l,z2,rfl,Vl,h2⟩)
     |(at_builtin;refine h2.out.app XC.out HAP.out rfl _ _ rfl rfl rfl ?_;intro sl3 w3 h3))
    go_round
    case rel=>exact⟨k+1,sl3,zaa,zah,by rw[HNX.out];rfl,rfl,by rw[HNX.out];exact h3⟩
    case measure=>simp[intOf];omega
  ·have hlt':¬((k:Int)<(L.length:Int)):=zaa;rw[P6 zaa]at HNX;by_cases hkT:k<T.length
   ·obtain⟨z,hz⟩:∃z,T[k]?=some z:=⟨_,Pp hkT⟩;have hlt2:((k:Int)<(T.length:Int)):=zaa;rw[hz]at HNX;obtain⟨rb,roff,rfl,hc3⟩:=hIN k z hz;have HC2:Hid _:=HCC.out wr _ _ sl z HJ.out;have h2l:=F.yg an S (some z);have HAP2:Hid (S.1.length+(Y.ckK an S.2.1 (F.u64 z)).1.length<=4000000):=by
     have h3:(S.1++(Y.ckK an S.2.1 (F.u64 z)).1).length<=S.1.length+201:=h2l;rw[PI]at h3;unfold Hid;omega
    clear hz hIN hEV h2l VI;go_wp2_with(first
     |(go_at_call 18;refine Pw HC2.out ?_;rintro e w4 ⟨l4,z4,rfl,hz4,h4⟩)
     |(at_builtin;refine h4.out.app XC.out HAP2.out rfl _ _ rfl rfl rfl ?_;intro sl5 w5 h5))
    exact zdA
   ·have hlt2:¬((k:Int)<(T.length:Int)):=zaa;obtain rfl:k=M:=by have:=HM.out;omega
    clear hIN hEV VI;go_wp2;go_ret2;exact⟨sl,by rw[HSS.out];rfl,by rw[HSS.out];exact HJ⟩
namespace F
def tot(L:List ()):Nat:=(L.map ByteArray.size).sum
theorem B2(h:L[k]?=some s):tot (L.take (k+1))=tot (L.take k)+s.size:=by
 unfold tot;rw[QE,h,Qj,UR];simp
theorem Kz(L:List ())(k:Nat):tot (L.take k)<=tot L:=by
 have h:tot L=tot (L.take k)+tot (L.drop k):=by unfold tot;rw[<- UR,<- Qj,TM]
 omega
theorem MI(h:L[k]?=some s):s.size<=tot L:=by
 have h1:=B2 h;have h2:=Kz L (k+1);omega
def KN(s:())(w:World)(e:Ending)(w':World):Prop:=Below w w w'/\match J.read s with
 |.fault _ _=>e=.returned (.tuple #[.pointer none,.slice none 0 0,.bool true])
 |.dX S=>∃xb sb b ps,e=.returned (.tuple #[.pointer (some ⟨xb,0,none⟩),.slice (some ⟨sb,0,none⟩) 1 1,.bool true])/\Y.Sn w' w.heap.size xb b ps (Y.anS S) (Y.stS S) (fun k=>w.heap.size<=k/\k<w'.heap.size)/\Y.bR ps=Y.bR (Y.psF (Y.X0 S))/\Y.LN w' b b ps (.slice (some ⟨sb,0,none⟩) 1 1) [(⟨#[]⟩,Y.stS S)]/\(Y.stS S).now=0
end F
theorem vV(s:())(w:World)(hv:qp w)(hs:s.size<=1000000):() 6 #[s] w (F.KN s w):=by
 have HP:Hid _:=l8 s w hv zaa;have HST:Hid (∀V,Below w w V->() 13 #[(s.size:Int)] V fun e w'=>e=.returned true/\Hid (Below w w w')):=fun V hb=>(yG s.size V (hv.aq hb) hs).mono (fun e w' x=>⟨x.1,hb.trans (x.2.mono hb.size)⟩);clear hv;go_enter func6,ntmps6;go_wp2_with fail;refine Pw HP.out ?_;rintro e w1 ⟨U3,hp⟩;cases hR:J.read s with
 |fault c l=>
  rw[hR]at hp;subst hp;have hc:=J.Bu hR;have Zg:Hid _:=hR;clear hR;dsimp only;go_wp2_with(go_at_call 13;refine Pw (HST.out _ U3) ?_;rintro e w2 ⟨rfl,U4⟩);go_ret3;unfold F.KN;rw[Zg.out];exact⟨U4.out,rfl⟩
 |dX S=>
  rw[hR]at hp;obtain⟨xb,sb,p,r,rfl,h1,h2,_,sv,rfl,q2,q3,q4,q5,q6⟩:=hp;have HR:Hid (F.KN s w (.returned (.tuple #[xb,.slice sb 1 1,true])) w1):=by
   unfold Hid F.KN;rw[hR];exact⟨U3,xb,sb,p.lo.n,p.ps,rfl,⟨⟨p,h1,rfl,rfl,q3,fun k hk ho=>⟨Pr h1.n0 (p.lo.le k ho),hk⟩⟩,fun k hk=>hk⟩,q2,.one q4 q5 q6,h2⟩
  clear hR h1 h2 q2 q3 q4 q5 q6;generalize Y.stS S=r at *;by_cases hf:r.fin=6
  ·rw[show Y.fuelN r.fin=6 by rw[hf];rfl];exact ze9
  ·rw[show Y.fuelN r.fin=0 by unfold Y.fuelN;rw[Pu hf]];exact ze9
theorem Ls(s:())(a ra:Option Addr)(c rn rc:Nat)(L:List ())(w:World)(hE:F.Fl w a L)(WM:s.size+L.length+rn+F.tot L<=4194304):
  () 5 #[s,.slice a L.length c,.slice ra rn rc] w fun e w'=>e=.returned (.bool (decide (8192<s.size+L.length+rn+F.tot L)))/\w'=w:=by
 have HE:Hid _:=hE;clear hE;have WR:=WM;go_enter func5,ntmps5;go_wp2
 go_loopw[7,8] (fun n i wr=>∃k:Nat,k<=L.length/\i=.int .i64 k/\n=.int .i64 ((s.size+L.length+rn+F.tot (L.take k):Nat):Int)/\wr=w) (fun _ i _=>L.length-(intOf i).toNat)
 case atStart=>exact⟨0,PK _,rfl,by simp[F.tot],rfl⟩
 case round=>
  obtain⟨k,hk,rfl,rfl,rfl⟩:=hrel;by_cases Vd:k<L.length
  ·obtain⟨x,hx⟩:∃x,L[k]?=some x:=⟨_,Pp Vd⟩;obtain⟨b,off,rfl,hc⟩:=HE.out k x hx;have hlt':((k:Int)<(L.length:Int)):=zaa;have h1:=F.B2 hx;have h2:=F.Kz L (k+1);have HT:Hid _:=h1;generalize F.tot (L.take k)=T at *;clear h1;go_wp2
   go_round
   case rel=>
    refine⟨k+1,zaa,zah,?_,by first|trivial|rfl⟩;have h3:=HT.out;rw[Go.IntWalk.wrap64_in _ zaa,h3]
    go_num
   case measure=>simp[intOf];omega
  ·obtain rfl:k=L.length:=zaa;rw[Qy];go_wp2;go_ret;exact⟨by congr 2;simp;omega,rfl⟩
namespace F
def Zs(W:World)(n:Nat)(zv:Value)(O:Nat->Prop):Prop:=(zv=.pointer none/\∀k,¬O k)\/∃zb b ps an r,zv=.pointer (some ⟨zb,0,none⟩)/\Y.Sn W n zb b ps an r O
theorem Zs.other{W W':World}{zv:Value}{O Q:Nat->Prop}(h:Zs W n zv O)(hm:Mo (Y.Own Q W) W W')(hQ:∀k,Q k->O k->False)(hl:Y.Lw n)(hn:∀k,Q k->n<=k):Zs W' n zv O:=h.imp id fun⟨zb,b,ps,an,r,e,hS⟩=>⟨zb,b,ps,an,r,e,hS.other hm hQ hl hn⟩
theorem Zs.own{W:World}{zv:Value}{O:Nat->Prop}(h:Zs W n zv O)(k:Nat)(hk:O k):n<=k/\k<W.heap.size:=by
 rcases h with⟨_,h⟩|⟨_,_,_,_,_,_,h⟩
 ·exact absurd hk (h k)
 ·exact h.own k hk
theorem Ja{W W':World}{O Q:Nat->Prop}(hd:∀k,O k->Q k->False)(hQ:∀k,Q k->k<W.heap.size)(k:Nat)(h:Y.Gr O W W' k)(hq:Q k):False:=h.elim (fun h=>hd k h hq) (fun h=>by have:=hQ k hq;omega)
theorem Ao{O Q:Nat->Prop}(hd:∀k,O k->Q k->False)(k:Nat)(h:Q k)(hq:O k):False:=hd k hq h
def Arg(n:Nat)(W:World)(a ra:Option Addr)(L:List ())(T:List Int):Prop:=(∀W',Kd Y.eM W W'->Below n W W'->Fl W' a L/\Hv W' ra T)/\L.length<=8192/\T.length<=8192/\∀x∈L,x.size<=8192
theorem vW{W W':World}{O:Nat->Prop}(h:Mo (Y.Own O W) W W')(hO:∀k,O k->n<=k)(hn:n<=W.heap.size):Below n W W':=⟨h.os,h.tape,h.output,h.size,fun k hk=>h.block k zaa (fun hp=>by have:=hO k hp.1;omega)⟩
abbrev plA(an:Y.RSt->()->Y.RSt)(L:List ())(T:List Int)(r:Y.RSt):List (()×Y.RSt)×Y.RSt×Nat:=plP an L T r (max L.length T.length)
theorem OS{w W:World}{xb b:Nat}{ps:List Y.PS}{an:Y.RSt->()->Y.RSt}{O:Nat->Prop}(hb:Below w w W)(h:Y.Sn W w xb b ps an r O)(hv:qp w)(Vu:∀ev:(),ev.size<=1000000->sf ev){a ra:Option Addr}(hA:Arg w.heap.size W a ra L T)(c rc:Nat):
  () 9 #[xb,.slice a L.length c,.slice ra T.length rc] W fun e w'=>∃sl:U.Sl,e=.returned (.tuple #[.slice sl.a sl.n sl.c,.int .i64 ((plA an L T r).2.2:Nat)])/\Hid (PlJ W w xb b ps an O (plA an L T r).1 (plA an L T r).2.1 sl w'):=
 J2 W w xb b ps an r O h hv.lw ((hb.cell (p:=⟨0,0,none⟩) (PW _ _ hv.s9)).trans hv.s9) (PW _ _ hv.s9) Vu a ra c rc L T (fun W' hm=>hA.1 W' (C6 hm) (vW hm (fun k hk=>(h.own k hk).1) hb.size)) hA.2.1 hA.2.2.1 hA.2.2.2
section
variable (w:World)(xb yb bx b2:Nat)(psx psy:List Y.PS)(an:Y.RSt->()->Y.RSt)(zv:Value)
def TwS(rx ry:Y.RSt)(W:World):Prop:=Below w w W/\∃Ox Oy Oz:Nat->Prop,Y.Sn W w xb bx psx an rx Ox/\Y.Sn W w yb b2 psy an ry Oy/\Zs W w zv Oz/\(∀k,Ox k->Oy k->False)/\(∀k,Ox k->Oz k->False)/\∀k,Oy k->Oz k->False
variable {w xb yb bx b2 psx psy an zv}{rx ry:Y.RSt}{W W':World}
theorem TwS.aq(h:TwS w xb yb bx b2 psx psy an zv rx ry W)(hb:Below W W W')(hl:Y.Lw w.heap.size):TwS w xb yb bx b2 psx psy an zv rx ry W':=by
 obtain⟨h0,Ox,Oy,Oz,h1,h2,h3,hd⟩:=h;exact⟨h0.trans (hb.mono h0.size),Ox,Oy,Oz,h1.aq hb hl,h2.aq hb hl,h3.other (Q:=fun _=>False) (az hb) (fun _ h _=>h) hl (fun _ h=>h.elim),hd⟩
theorem TwS.px(h:TwS w xb yb bx b2 psx psy an zv rx ry W)(hv:qp w)(Vu:∀ev:(),ev.size<=1000000->sf ev){a ra:Option Addr}(hA:Arg w.heap.size W a ra L T)(c rc:Nat):
  () 9 #[xb,.slice a L.length c,.slice ra T.length rc] W fun e W'=>∃sl:U.Sl,e=.returned (.tuple #[.slice sl.a sl.n sl.c,.int .i64 ((plA an L T rx).2.2:Nat)])/\Hid (TwS w xb yb bx b2 psx psy an zv (plA an L T rx).2.1 ry W'/\Y.LN W' W bx psx (.slice sl.a sl.n sl.c) (plA an L T rx).1/\Kd Y.eM W W'):=by
 obtain⟨h0,Ox,Oy,Oz,h1,h2,h3,d1,d2,d3⟩:=h;refine(OS h0 h1 hv Vu hA c rc).mono ?_;rintro e W' ⟨sl,rfl,hJ⟩;obtain⟨j1,j2,j3⟩:=hJ.out;have hn:∀k,Ox k->w.heap.size<=k:=fun k hk=>(h1.own k hk).1;exact⟨sl,rfl,⟨h0.trans (vW j3 hn h0.size),_,Oy,Oz,j1,h2.other j3 d1 hv.lw hn,h3.other j3 d2 hv.lw hn,Ja d1 (fun k hk=>(h2.own k hk).2),Ja d2 (fun k hk=>(h3.own k hk).2),d3⟩,j2,C6 j3⟩
theorem TwS.py(h:TwS w xb yb bx b2 psx psy an zv rx ry W)(hv:qp w)(Vu:∀ev:(),ev.size<=1000000->sf ev){a ra:Option Addr}(hA:Arg w.heap.size W a ra L T)(c rc:Nat):
  () 9 #[yb,.slice a L.length c,.slice ra T.length rc] W fun e W'=>∃sl:U.Sl,e=.returned (.tuple #[.slice sl.a sl.n sl.c,.int .i64 ((plA an L T ry).2.2:Nat)])/\Hid (TwS w xb yb bx b2 psx psy an zv rx (plA an L T ry).2.1 W'/\Y.LN W' W b2 psy (.slice sl.a sl.n sl.c) (plA an L T ry).1/\Kd Y.eM W W'):=by
 obtain⟨h0,Ox,Oy,Oz,h1,h2,h3,d1,d2,d3⟩:=h;refine(TwS.px (xb:=yb) (yb:=xb) (bx:=b2) (b2:=bx) (psx:=psy) (psy:=psx) ⟨h0,Oy,Ox,Oz,h2,h1,h3,Ao d1,d3,d2⟩ hv Vu hA c rc).mono ?_;rintro e W' ⟨sl,rfl,hJ⟩;obtain⟨⟨j0,Py,Px,Pz,j1,j2,j3,e1,e2,e3⟩,j4⟩:=hJ.out;exact⟨sl,rfl,⟨j0,Px,Py,Pz,j2,j1,j3,Ao e1,e3,e2⟩,j4⟩
end
theorem Sn.low{W:World}{m xb b:Nat}{ps:List Y.PS}{an:Y.RSt->()->Y.RSt}{O:Nat->Prop}(h:Y.Sn W n xb b ps an r O)(hm:m<=n):Y.Sn W m xb b ps an r O:=by
 obtain⟨p,h1,h2⟩:=h.ex;exact⟨⟨p,⟨h1.at',h1.lo,Pr hm h1.n0,h1.lv⟩,h2⟩,fun k hk=>⟨Pr hm (h.own k hk).1,(h.own k hk).2⟩⟩
end F
end
section
open Go.RowKit Go.Proofs Go.Shelf
open Go.PlainAid (bt)
namespace Sm
open F (sp mk)
theorem mk_data(w:()):mk w.data.toList=w:=rfl
theorem IQ{l:List UInt8}{x:UInt8}(h:l[k]?=some x):bt (mk l) k=(x.toNat:Int):=by
 obtain⟨h1,rfl⟩:=Ps.1 h;have h2:k<(mk l).size:=h1;unfold bt;rw[dif_pos h2];rfl
theorem CT(l:List UInt8)(a b:Nat):(mk l).extract a b=mk ((l.drop a).take (b-a)):=by
 have h1:((mk l).extract a b).data.toList=(l.drop a).take (b-a):=by
  rw[ByteArray.data_extract,Array.toList_extract,List.extract_eq_take_drop];rfl
 rw[<- h1];rfl
def Vis(w:()):Prop:=∀y∈w.data.toList,33<=y.toNat
theorem KI(h:∀i,i<s.size->33<=bt s i):Vis s:=fun y hy=>by
 obtain⟨i,hi,e⟩:=RL hy;have h1:=h i hi;rw[show bt s i=(y.toNat:Int) from IQ (l:=s.data.toList) (Ps.2 ⟨hi,e⟩)]at h1;omega
theorem Vis.app{a b:()}(ha:Vis a)(hb:Vis b):Vis (a++b):=fun y hy=>by
 rw[TN,Ui]at hy;exact(PQ.1 hy).elim (ha y) (hb y)
theorem nT(h:U.plain s=true):Vis s:=KI fun i hi=>by
 unfold U.plain at h;rw[Qe]at h;have:=RG.1 h.1 i (QF.2 hi);simp[U.jH,U.small,U.more]at this;omega
theorem MO(h:U.cE s=true):Vis s:=KI fun i hi=>by
 unfold U.cE at h;rw[Qe]at h;have:=RG.1 h.1 i (QF.2 hi);simp[U.jW]at this;omega
theorem sH{k:()}(h:U.cy s k=true):s=k++s.extract k.size s.size:=by
 unfold U.cy at h;rw[Qe]at h;have h2:=RO h.2;have h1:=RO h.1;have e1:s.data.toList.take k.size=k.data.toList:=by
  rw[<- mk_data s,CT,List.drop_zero,Nat.sub_zero]at h2;exact congrArg (fun x:()=>x.data.toList) h2
 have e2:s=mk (s.data.toList.take k.size++s.data.toList.drop k.size):=by rw[TM];rfl
 have e3:s.extract k.size s.size=mk (s.data.toList.drop k.size):=by
  conv=>lhs;rw[<- mk_data s,CT]
  rw[SZ (by rw[Sv];exact Po _)]
 rw[e3]
 conv=>lhs;rw[e2,e1]
 exact ByteArray.ext (by rw[TN];apply Array.ext';rw[Ui];rfl)
theorem jO(h:U.called s=true):Vis s:=by
 unfold U.called at h;rw[Ub]at h
 rcases h with h|h
 ·exact nT h
 ·unfold U.kP at h;rw[Qe,Qe]at h;rw[sH h.1];exact Vis.app zaB (MO h.2.1)
theorem Ce(h:U.bM s=true):Vis s:=by
 unfold U.bM at h;rw[Ub]at h
 rcases h with h|h
 ·exact jO h
 ·rw[Qe]at h;rw[sH h.1];exact Vis.app zaB (nT h.2)
theorem dd:∀n:Nat,(Lib.decDigits n).all Num.isD=true/\Num.num 0 (Lib.decDigits n)=n/\(n≠0->∀c,(Lib.decDigits n).head?=some c->c.toNat≠48)/\Lib.decDigits n≠[]:=by
 have hc:∀k,k<10->(UInt8.ofNat (48+k)).toNat=48+k:=fun k hk=>by rw[UInt8.toNat_ofNat'];omega
 have h1:∀k,k<10->Num.isD (UInt8.ofNat (48+k))=true:=fun k hk=>by
  unfold Num.isD;rw[hc k hk];simp;omega
 intro n
 induction n using Nat.strongRecOn with
 |_ n ih=>
  by_cases h:n<10
  ·rw[Uv h];refine⟨by rw[Td,h1 n h];rfl,?_,fun h0 c Ve=>?_,zad⟩
   ·show 0*10+((UInt8.ofNat (48+n)).toNat-48)=n;rw[hc n h];omega
   ·cases Ve
    rw[hc n h];omega
  ·obtain⟨a,b,c,e⟩:=ih (n / 10) zaa;have hk:n % 10<10:=U0 _ zac;have hd:Lib.decDigits n=Lib.decDigits (n / 10)++[UInt8.ofNat (48+n % 10)]:=by
    conv=>lhs;rw[Lib.decDigits,dif_neg h]
   rw[hd];refine⟨by rw[List.all_append,a,Td,h1 _ hk];rfl,?_,fun _ x hx=>?_,zad⟩
   ·unfold Num.num at b⊢;rw[QQ,b];show n / 10*10+((UInt8.ofNat (48+n % 10)).toNat-48)=n;rw[hc _ hk];omega
   ·rcases hq:Lib.decDigits (n / 10) with _|⟨y,l⟩
    ·exact absurd hq e
    ·rw[hq]at hx;cases hx
     exact c zaa x (by rw[hq];rfl)
theorem IX{d:Nat}(h:d<18446744073709551616):U.cE (U.dec d)=true/\U.dV (U.dec d)=d:=by
 obtain⟨a,b,c,e⟩:=dd d;refine(Num.Bh (U.dec d) ?_).1 d ?_
 ·rintro⟨h1,h2⟩;have h1:1<(Lib.decDigits d).length:=h1;have h0:d≠0:=fun e0=>by rw[e0,Uv zac]at h1;simp at h1
  obtain⟨x,l,hx⟩:∃x l,Lib.decDigits d=x::l:=by
   cases hq:Lib.decDigits d with
   |nil=>exact absurd hq e
   |cons x l=>exact⟨x,l,rfl⟩
  refine c h0 x (by rw[hx];rfl) ?_;unfold U.dec at h2;rw[hx]at h2;have h2:((x.toNat:Nat):Int)=48:=h2;omega
 ·show Lib.parseUintB 64 (Lib.decDigits d)=_;rw[Lib.parseUintB,Pu e];show Lib.parseUintM 18446744073709551615 0 _=_;rw[Num.lN _ _ a zac,b,PC zaa]
theorem yf(h0:0<k)(h:k<=1500):U.called (U.bA++U.dec k)=true:=by
 have e1:(U.bA++U.dec k).extract 6 (U.bA++U.dec k).size=U.dec k:=ByteArray.extract_append_eq_right rfl (P2 _ _);have e2:(U.bA++U.dec k).extract 0 6=U.bA:=ByteArray.extract_append_eq_left rfl;obtain⟨d1,d2⟩:=IX (d:=k) zaa;unfold U.called U.kP U.cy;rw[e1,show U.bA.size=6 from rfl,e2,d1,d2,P2,show U.bA.size=6 from rfl,Qp (show 6<=6+(U.dec k).size by omega),Qp (show(0:Int)<(k:Int) by omega),Qp (show(k:Int)<=1500 by omega)];simp
def jn:List ()->List UInt8
 |[]=>[]
 |w::ws=>w.data.toList++ws.flatMap fun x=>32::x.data.toList
theorem zy(c:UInt8):∀(x l acc:List UInt8),(∀y∈x,y≠c)->sp c (x++l) acc=sp c l (acc++x)
 |[],l,acc,_=>by rw[R6,Rb]
 |y::x,l,acc,h=>by
  rw[Sd,sp,Pu (h y (PZ ..)),zy c x l _ (fun z hz=>h z (P3 _ hz)),Qd];rfl
theorem Vis.ne{w:()}(h:Vis w){c:UInt8}(hc:c.toNat<33):∀y∈w.data.toList,y≠c:=fun y hy e=>by
 have:=h y hy;rw[e]at this;omega
theorem M7:∀(ws:List ()) (w:()),(∀x∈w::ws,Vis x)->(sp 32 (jn (w::ws)) []).map mk=w::ws
 |[],w,h=>by
  rw[jn,zy 32 _ _ _ ((h w (PZ ..)).ne zac)];rfl
 |x::ws,w,h=>by
  rw[jn,zy 32 _ _ _ ((h w (PZ ..)).ne zac),QB,Sd,sp,PC rfl,Q7,R6];exact congrArg (w::·) (M7 ws x fun z hz=>h z (P3 _ hz))
def ln(p:Nat×List ()):List UInt8:=List.replicate p.1 32++jn p.2
theorem JD{d:Nat}{w:()}(h:∀x∈w::ws,Vis x)(h0:w.size≠0):U.cW (mk (ln (d,w::ws)))=d/\U.cut (U.rest (mk (ln (d,w::ws)))) 32=w::ws:=by
 obtain⟨y,l,e⟩:∃y l,jn (w::ws)=y::l/\33<=y.toNat:=by
  cases hq:w.data.toList with
  |nil=>exact absurd (show w.size=0 from congrArg List.length hq) h0
  |cons y l=>exact⟨y,l++_,by rw[jn,hq];rfl,h w (PZ ..) y (by rw[hq];exact PZ ..)⟩
 have Vf:(mk (ln (d,w::ws))).size=d+(l.length+1):=by
  show(ln (d,w::ws)).length=_;unfold ln;rw[e.1,PI,RP,Qw]
 have hk:∀k,k<d->bt (mk (ln (d,w::ws))) k=32:=fun k hk=>IQ (x:=32) (by
  unfold ln;rw[Qo (by rw[RP];exact hk),List.getElem?_replicate,PC hk])
 have hd:bt (mk (ln (d,w::ws))) d=(y.toNat:Int):=IQ (by
  unfold ln;rw[Qr (by rw[RP];exact Po _),RP,RR,e.1];rfl)
 have hb:∀f k,k<=d->d<k+f->U.iC (mk (ln (d,w::ws))) f k=d:=by
  intro f
  induction f with
  |zero=>intro k h1 h2;omega
  |succ f ih=>
   intro k h1 h2;rw[U.iC];by_cases Wj:k=d
   ·subst Wj;rw[hd,Pu zaa]
   ·rw[hk k zaa,PC rfl];exact ih (k+1) zaa zaa
 have VM:U.cW (mk (ln (d,w::ws)))=d:=hb _ 0 (PK _) zaa;refine⟨VM,?_⟩;have hr:U.rest (mk (ln (d,w::ws)))=mk (jn (w::ws)):=by
  unfold U.rest;rw[VM,CT,SZ (by rw[Sv];exact Po _)];unfold ln;rw[List.drop_left' (RP ..)]
 rw[hr];exact(F.CK (mk (jn (w::ws))) 32).trans (M7 ws w h)
def tx(LL:List (Nat×List ())):List UInt8:=LL.flatMap fun p=>ln p++[10]
theorem Oj:∀(LL:List (Nat×List ())),(∀p∈LL,∀x∈p.2,Vis x)->U.cut (mk (tx LL)) 10=LL.map (fun p=>mk (ln p))++[mk []]:=by
 have key:∀(LL:List (Nat×List ())),(∀p∈LL,∀x∈p.2,Vis x)->sp 10 (tx LL) []=LL.map ln++[[]]:=by
  intro LL
  induction LL with
  |nil=>intro _;rfl
  |cons p LL ih=>
   intro h;have hn:∀y∈ln p,y≠10:=fun y hy=>by
    unfold ln at hy
    rcases PQ.1 hy with hy|hy
    ·rw[(List.mem_replicate.1 hy).2];decide
    ·have hv:=h p (PZ ..);cases hq:p.2 with
     |nil=>rw[hq]at hy;cases hy
     |cons w ws=>
      rw[hq,jn]at hy;rw[hq]at hv
      rcases PQ.1 hy with hy|hy
      ·exact(hv w (PZ ..)).ne zac y hy
      ·obtain⟨x,hx,hy⟩:=Rv.1 hy
       rcases QH.1 hy with rfl|hy
       ·decide
       ·exact(hv x (P3 _ hx)).ne zac y hy
   have e:tx (p::LL)=ln p++(10::tx LL):=by
    unfold tx;rw[QB,Qd];rfl
   rw[e,zy 10 _ _ _ hn,sp,PC rfl,R6,ih fun q hq=>h q (P3 _ hq)];rfl
 intro LL h;refine(F.CK (mk (tx LL)) 10).trans ?_;show(sp 10 (tx LL) []).map mk=_;rw[key LL h,Qj,QW];rfl
open F (sp mk)
open J (pOf eR da bh fm bg bW cI pTo eV bj aS PL)
def AN(a:U.Act):Prop:=(a.how=J.gb/\U.called a.event=true/\a.id=ByteArray.empty/\a.delay=0)\/(a.how=J.cZ/\a.event=ByteArray.empty/\U.called a.id=true/\a.delay=0)\/(a.how=J.gP/\U.called a.event=true/\(a.id=ByteArray.empty\/U.called a.id=true)/\∃d:Nat,a.delay=d/\d<18446744073709551616)
theorem AN.shape(h:AN a):J.Shape a:=by
 rcases h with h|h|h
 ·exact .inl ⟨h.1,h.2.2.1⟩
 ·exact .inr (.inl ⟨h.1,h.2.1⟩)
 ·exact .inr (.inr h.1)
theorem mU{P:()->Bool}{l r:List ()}{x:()}(h:pOf P l=some (x,r)):P x=true:=by
 cases l with
 |nil=>cases h
 |cons y l=>
  rw[pOf]at h;split at h
  ·cases h;assumption
  ·cases h
theorem wU{l r:List ()}{d:Int}(h:eR l=some (d,r)):∃n:Nat,d=n/\n<18446744073709551616:=by
 cases l with
 |nil=>cases h
 |cons y l=>
  rw[eR]at h;split at h
  ·rename_i hy;cases h
   unfold U.dV U.m64;rw[PC hy];exact⟨U.val y y.size % 18446744073709551616,by simp[IntKind.wrap,IntKind.signed,IntKind.bits],U0 _ zac⟩
  ·cases h
theorem Ft{l r:List ()}{a:U.Act}(h:bh l=some (a,r)):AN a:=by
 cases l with
 |nil=>cases h
 |cons x l=>
  rw[bh]at h;split at h
  ·obtain⟨q,h1,h2⟩:=PU.1 h;cases h2
   exact .inl ⟨rfl,mU h1,rfl,rfl⟩
  ·split at h
   ·obtain⟨q,h1,h2⟩:=PU.1 h;cases h2
    unfold da at h1
    repeat' split at h1
    all_goals first
     |(cases h1;done)
     | (cases h1
        refine .inr (.inr ⟨rfl,mU zal,?_,wU zal⟩)
        first
         |exact .inl rfl
         |exact .inr (mU zal))
   ·split at h
    ·obtain⟨q,h1,h2⟩:=PU.1 h;cases h2
     exact .inr (.inl ⟨rfl,rfl,mU h1,rfl⟩)
    ·cases h
theorem lf:∀(f:Nat) (l r:List ()) (A:List U.Act),fm f l=some (A,r)->∀a∈A,AN a
 |0,l,r,A,h,a,ha=>by cases h;cases ha
 |f+1,[],r,A,h,a,ha=>by cases h;cases ha
 |f+1,x::l,r,A,h,a,ha=>by
  rw[fm]at h;split at h
  ·split at h
   ·cases h
   ·rename_i b r' h1;split at h
    ·cases h
    ·rename_i A' t h2;cases h
     rcases QH.1 ha with rfl|ha
     ·exact Ft h1
     ·exact lf f _ _ _ h2 a ha
  ·cases h;cases ha
structure MvN(m:U.Move):Prop where
 ev:U.bM m.event=true
 dst:m.to=ByteArray.empty\/U.plain m.to=true
 ai:∀a∈m.ai,AN a
 aft:m.after=true->U.called m.event=true/\∃d:Nat,m.delay=d/\d<18446744073709551616
 now:m.after=false->m.delay=0
theorem EX{l r:List ()}{t:()}(h:eV l=some ((t,A),r)):(t=ByteArray.empty\/U.plain t=true)/\∀a∈A,AN a:=by
 unfold eV at h;split at h
 ·cases h
 ·rename_i t' r' h1;obtain⟨q,h2,h3⟩:=PU.1 h;cases h3
  refine⟨?_,lf _ _ _ _ h2⟩;cases l with
  |nil=>cases h1;exact .inl rfl
  |cons y l=>
   rw[pTo]at h1;split at h1
   ·exact .inr (mU h1)
   ·cases h1;exact .inl rfl
def LnN(num:Nat):PL->Prop
 |.state _ n=>U.plain n=true
 |.move ev af d t A=>MvN ⟨ev,t,af,d,A,num⟩
 |.enter A=>∀a∈A,AN a
 |.leave A=>∀a∈A,AN a
theorem LX{num:Nat}(h0:0<num)(hn:num<=1500){l r:List ()}{L:PL}(h:bj num l=some (L,r)):LnN num L:=by
 have XT:∀{l r:List ()} {A:List U.Act},bW l=some (A,r)->∀a∈A,AN a:=fun{l r A} h=>by
  unfold bW at h
  repeat' split at h
  all_goals first|(cases h;done)|(rename_i h1;cases h;exact lf _ _ _ _ h1)
 cases l with
 |nil=>cases h
 |cons x l=>
  rw[bj]at h
  iterate 3
   split at h
   ·obtain⟨q,h1,h2⟩:=PU.1 h;cases h2
    exact mU h1
  split at h
  ·obtain⟨q,h1,h2⟩:=PU.1 h;cases h2
   unfold cI at h1
   repeat' split at h1
   all_goals first|(cases h1;done)|(cases h1;exact mU zal)
  split at h
  ·split at h
   ·cases h
   ·rename_i ev r1 h1;obtain⟨⟨⟨t,A⟩,r2⟩,h2,h3⟩:=PU.1 h;cases h3
    obtain⟨a,b⟩:=EX h2;exact⟨mU h1,a,b,fun e=>zaI,fun _=>rfl⟩
  split at h
  ·split at h
   ·cases h
   ·rename_i d r1 h1;obtain⟨⟨⟨t,A⟩,r2⟩,h2,h3⟩:=PU.1 h;cases h3
    obtain⟨a,b⟩:=EX h2;have hc:=yf h0 hn;exact⟨by unfold U.bM;rw[hc];rfl,a,b,fun _=>⟨hc,wU h1⟩,fun e=>zaI⟩
  iterate 2
   split at h
   ·obtain⟨q,h1,h2⟩:=PU.1 h;cases h2
    exact XT h1
  cases h
def aW(a:U.Act):List ():=J.bDo::(if a.how.toList == U.cd then[J.gb,a.event] else if a.how.toList == U.bO then[J.cZ,a.id] else if a.id.size=0 then[J.gP,a.event,U.dec a.delay.toNat] else[J.gP,a.event,U.dec a.delay.toNat,J.bAs,a.id])
theorem yv(b:()):(b.toList == b.toList)=true:=zad
theorem MN(d:Nat):Vis (U.dec d):=fun y hy=>by
 have:=RG.1 (dd d).1 y hy;simp[Num.isD]at this;omega
theorem Nn(h:AN a):∀x∈aW a,Vis x:=by
 have v1:Vis J.bDo:=zaB;have v2:Vis J.gb:=zaB;have v3:Vis J.cZ:=zaB;have v4:Vis J.gP:=zaB;have v5:Vis J.bAs:=zaB;have v6:=MN a.delay.toNat;unfold aW
 rcases h with⟨h1,h2,h3,h4⟩|⟨h1,h2,h3,h4⟩|⟨h1,h2,h3,h4⟩
 ·have:=jO h2;rw[h1,iz,PC zac];simp[v1,v2,this]
 ·have:=jO h3;rw[h1,eB,Pu zac,PC zac];simp[v1,v3,this]
 ·have:=jO h2;rw[h1,fB,Pu zac,Pu zac];split
  ·simp[v1,v4,v6,this]
  ·rename_i h0;have h3:=jO (h3.resolve_left fun e=>h0 zaT);simp[v1,v4,v5,v6,this,h3]
theorem xQ(h:AN a){r:List ()}(hr:r=[]\/∃r',r=J.bDo::r'):bh ((aW a).tail++r)=some (a,r):=by
 obtain⟨how,event,id,delay⟩:=a;unfold aW
 rcases h with⟨h1,h2,h3,h4⟩|⟨h1,h2,h3,h4⟩|⟨h1,h2,h3,d,h4,h5⟩
 ·dsimp only at h1 h2 h3 h4;subst h1 h3 h4;simp only[iz,show(U.cd == U.cd)=true by decide,if_true,List.tail_cons,List.cons_append,List.nil_append,bh,pOf,h2,Option.map_some]
 ·dsimp only at h1 h2 h3 h4;subst h1 h2 h4;simp only[eB,show(U.bO == U.cd)=false by decide,show(U.bO == U.fD)=false by decide,show(U.bO == U.bO)=true by decide,Bool.false_eq_true,if_false,if_true,List.tail_cons,List.cons_append,List.nil_append,bh,pOf,h3,Option.map_some]
 ·dsimp only at h1 h2 h3 h4;subst h1 h4;obtain⟨d1,d2⟩:=IX h5;have hda:(J.bDo.toList == J.bAs.toList)=false:=by rw[P1,P1];decide
  simp only[fB,show(U.fD == U.cd)=false by decide,show(U.fD == U.bO)=false by decide,Bool.false_eq_true,if_false,List.tail_cons,Int.toNat_natCast];by_cases h0:id.size=0
  ·have e:id=ByteArray.empty:=h3.resolve_right fun e=>sJ e h0;subst e;rw[PC h0];simp only[List.cons_append,List.nil_append,bh,fB,show(U.fD == U.cd)=false by decide,show(U.fD == U.fD)=true by decide,Bool.false_eq_true,if_false,if_true,da,pOf,h2,eR,d1,d2]
   rcases hr with rfl|⟨r',rfl⟩
   ·rfl
   ·simp only[hda,Bool.false_eq_true,if_false];rfl
  ·have e:=h3.resolve_left fun e=>h0 zaT;rw[Pu h0];simp only[List.cons_append,List.nil_append,bh,fB,show(U.fD == U.cd)=false by decide,show(U.fD == U.fD)=true by decide,Bool.false_eq_true,if_false,if_true,da,pOf,h2,eR,d1,d2,yv,e];rfl
theorem Eu(A:List U.Act):A.flatMap aW=[]\/∃r',A.flatMap aW=J.bDo::r':=by
 cases A with
 |nil=>exact .inl rfl
 |cons a A=>exact .inr ⟨_,rfl⟩
theorem su:∀(A:List U.Act) (f:Nat),(∀a∈A,AN a)->A.length<=f->fm f (A.flatMap aW)=some (A,[])
 |[],0,_,_=>rfl
 |[],f+1,_,_=>rfl
 |a::A,0,_,h=>by simp at h
 |a::A,f+1,h,hf=>by
  have e:(a::A).flatMap aW=J.bDo::((aW a).tail++A.flatMap aW):=rfl;rw[e,fm,PC (yv _),xQ (h a (PZ ..)) (Eu A)];dsimp only;rw[su A f (fun b hb=>h b (P3 _ hb)) (by simpa using hf)]
theorem n5{A:List U.Act}(h:∀a∈A,AN a):bg (A.flatMap aW)=some (A,[]):=su A _ h (by
 clear h
 induction A with
 |nil=>exact PK _
 |cons a A ih=>
  rw[QB,PI,Qw];have:1<=(aW a).length:=by unfold aW;rw[Qw];omega
  omega)
def sW(k:Int)(n:()):List ():=J.bm k::n::if k=4 then[J.jz] else[]
theorem BO{k:Int}(h0:0<=k)(h4:k<=4){n:()}(h:U.plain n=true)(num:Nat):aS num (sW k n)=some (.state k n):=by
 have hk:k=0\/k=1\/k=2\/k=3\/k=4:=zaa;unfold aS sW
 rcases hk with rfl|rfl|rfl|rfl|rfl
 all_goals simp[J.bm,bj,pOf,cI,h,J.iA,J.eO,J.ir,J.bV,show(U.aK == U.cM)=false by decide,show(U.bK == U.cM)=false by decide,show(U.bK == U.aK)=false by decide,show(U.aO == U.cM)=false by decide,show(U.aO == U.aK)=false by decide,show(U.aO == U.bK)=false by decide]
def bOn:():=⟨#[111,110]⟩
theorem Mk:bOn.toList=U.cOn:=zao
theorem CS:J.fU.toList=U.lr:=zao
theorem Dd:J.eS.toList=U.oz:=zao
def mW(m:U.Move):List ():=bOn::m.event::((if m.to.toList.isEmpty then[] else[J.qw,m.to])++m.ai.flatMap aW)
theorem yO(num:Nat)(r:List ()):bj num (bOn::r)=match pOf U.bM r with
   |none=>none
   |some (ev,r1)=>(eV r1).map fun q=>(.move ev false 0 q.1.1 q.1.2,q.2):=by
 rw[bj,Mk,Pu zac,Pu zac,Pu zac,Pu zac,PC zac];rfl
theorem Du(h:MvN m)(num:Nat):aS num (mW m)=some (.move m.event false 0 m.to m.ai):=by
 have hA:=n5 h.ai;unfold aS mW;rw[yO,pOf,PC h.ev];dsimp only;have e:eV ((if m.to.toList.isEmpty then[] else[J.qw,m.to])++m.ai.flatMap aW)=some ((m.to,m.ai),[]):=by
  unfold eV
  rcases h.dst with e|e
  ·have hi:m.to.toList.isEmpty=true:=by rw[e,P1];rfl
   rw[PC hi,R6];have ht:pTo (m.ai.flatMap aW)=some (ByteArray.empty,m.ai.flatMap aW):=by
    rcases Eu m.ai with e1|⟨r',e1⟩
    ·rw[e1];rfl
    ·rw[e1,pTo,Pu (by rw[P1,P1];decide)]
   rw[ht];dsimp only;rw[hA,e];rfl
  ·have hi:¬m.to.toList.isEmpty=true:=fun e1=>wW e (by
    rw[P1,Ri]at e1;exact congrArg List.length e1)
   rw[Pu hi];rw[Sd,pTo,PC (yv _),Sd,pOf,PC e];dsimp only;rw[R6,hA];rfl
 rw[e];rfl
theorem sT(h:∀a∈A,AN a)(h0:A≠[])(num:Nat):aS num (J.fU::A.flatMap aW)=some (.enter A)/\aS num (J.eS::A.flatMap aW)=some (.leave A):=by
 have hd:bW (A.flatMap aW)=some (A,[]):=by
  unfold bW;rw[n5 h];cases A with
  |nil=>exact absurd rfl h0
  |cons a A=>rfl
 unfold aS;constructor
 ·rw[bj,CS,Pu zac,Pu zac,Pu zac,Pu zac,Pu zac,Pu zac,PC zac,hd];rfl
 ·rw[bj,Dd,Pu zac,Pu zac,Pu zac,Pu zac,Pu zac,Pu zac,Pu zac,PC zac,hd];rfl
open F (sp mk)
open J (aS PL)
abbrev by'(b:()):List UInt8:=b.data.toList
theorem dU(a b:()):by' (a++b)=by' a++by' b:=by rw[by',TN,Ui]
abbrev bl(l:List ()):List UInt8:=l.flatMap fun x=>32::x.data.toList
theorem NP(w:())(ws r:List ()):jn (w::(ws++r))=jn (w::ws)++bl r:=by
 rw[jn,jn,Qc,Qd]
theorem J1:∀d,by' (U.pad d)=List.replicate d 32
 |0=>rfl
 |d+1=>by
  rw[U.pad,dU,J1 d,List.replicate_succ'];rfl
theorem Ib:by' (U.bDo++J.l6 a)=bl (aW a):=by
 have e1:∀l:List (),bl (J.bDo::l)=32::100::111::bl l:=fun l=>rfl;have e2:∀b:(),by' (U.bDo++b)=32::100::111::32::by' b:=fun b=>by rw[dU];rfl
 have e3:∀(b:()) (l:List ()),bl (b::l)=32::(by' b++bl l):=fun b l=>rfl;have e4:by' U.b1=[32]:=rfl
 have e5:by' U.bAs=32::(by' J.bAs++[32]):=rfl
 have e6:bl []=[]:=rfl;unfold aW J.l6 J.jJ
 repeat' split
 all_goals simp only[e1,e2,e3,e4,e5,e6,dU,List.append_nil,List.append_assoc,List.cons_append,List.nil_append]
theorem Em(h:∀a∈A,AN a):by' (U.written A)=bl (A.flatMap aW):=by
 have key:∀k,k<=A.length->by' (U.ew A k)=bl ((A.take k).flatMap aW):=by
  intro k
  induction k with
  |zero=>intro _;rfl
  |succ k ih=>
   intro hk;rw[U.ew,Pp hk];dsimp only;rw[J.xB (h _ (P7 hk)).shape,Ss,dU,ih zaa,Ib,QE,Pp hk,Sf,Qc,RH,bl,bl,bl,Qc]
 have:=key A.length (Po _);rw[Qy]at this;exact this
theorem yL{d:Nat}{h w:()}(hh:by' h=jn (w::ws))(hA:∀a∈A,AN a):by' (J.iK d h A)=ln (d,w::(ws++A.flatMap aW))++[10]:=by
 unfold J.iK ln;rw[dU,dU,dU,J1,Em hA,hh];dsimp only;rw[NP,Qd (List.replicate d 32)];rfl
structure StN(x:U.State):Prop where
 dep:0<=x.depth
 nm:U.plain x.name=true
 wd:J.gO x
 en:∀a∈x.enter,AN a
 lv:∀a∈x.leave,AN a
 mv:∀m∈x.aa,MvN m/\m.after=false
def lsP(x:U.State):List ((Nat×List ())×PL):=
 ((x.depth.toNat,sW (J.aj x) x.name),.state (J.aj x) x.name) ::
   ((if x.enter.isEmpty then[] else[((x.depth.toNat+1,J.fU::x.enter.flatMap aW),.enter x.enter)]) ++
   ((if x.leave.isEmpty then[] else[((x.depth.toNat+1,J.eS::x.leave.flatMap aW),.leave x.leave)]) ++
   x.aa.map fun m=>((x.depth.toNat+1,mW m),.move m.event false 0 m.to m.ai)))
theorem uQ(a b:List (Nat×List ())):tx (a++b)=tx a++tx b:=Qc
theorem Ed(p:Nat×List ()):tx [p]=ln p++[10]:=by unfold tx;rw[RH]
theorem ON:∃ws,by' (J.ee m)=jn (bOn::ws)/\mW m=bOn::(ws++m.ai.flatMap aW):=by
 unfold J.ee mW;split
 ·exact⟨[m.event],by rw[dU,jn];show _=by' bOn++(32::by' m.event++[]);rw[Rb];rfl,rfl⟩
 ·refine⟨[m.event,J.qw,m.to],?_,rfl⟩;rw[dU,dU,dU,jn];show _=by' bOn++(32::by' m.event++(32::by' J.qw++(32::by' m.to++[])))
  rw[Rb,show by' J.Lc=by' bOn++[32] from rfl,show by' U.bTo=32::by' J.qw++[32] from rfl];simp only[List.append_assoc,List.cons_append,List.nil_append]
theorem GZ(h:StN x):by' (J.ej x)=tx ((lsP x).map (·.1)):=by
 have e1:by' (J.iK x.depth.toNat (J.eH (J.aj x) x.name) [])=tx [(x.depth.toNat,sW (J.aj x) x.name)]:=by
  rw[Ed];unfold sW;have hh:by' (J.eH (J.aj x) x.name)=jn (J.bm (J.aj x)::x.name::if J.aj x=4 then[J.jz] else[]):=by
   unfold J.eH;split
   ·rw[dU,dU,dU,jn];show _=_++(32::by' x.name++(32::by' J.jz++[]));rw[show by' U.b1=[32] from rfl,show by' U.Ac=32::by' J.jz from rfl];exact zed
   ·rw[dU,dU,jn];show _=_++(32::by' x.name++[]);rw[show by' U.b1=[32] from rfl];exact zed
  rw[yL hh (fun a ha=>by cases ha),List.flatMap_nil,Rb]
 have e2:∀(b:()) (A:List U.Act) (L:PL),(∀a∈A,AN a)->by' (J.mg (x.depth.toNat+1) b A)=tx ((if A.isEmpty then[] else[((x.depth.toNat+1,b::A.flatMap aW),L)]).map (·.1)):=fun b A L hA=>by
  unfold J.mg;split
  ·rfl
  ·rw[TA,Ed];exact yL (ws:=[]) (by rw[jn,List.flatMap_nil,Rb]) hA
 have e3:∀k,k<=x.aa.length->by' (J.aX (x.depth.toNat+1) x.aa k)=tx ((x.aa.take k).map fun m=>(x.depth.toNat+1,mW m)):=by
  intro k
  induction k with
  |zero=>intro _;rfl
  |succ k ih=>
   intro hk;rw[J.aX,Pp hk];dsimp only;obtain⟨ws,f1,f2⟩:=ON (m:=x.aa[k]);rw[dU,ih zaa,yL f1 (h.mv _ (P7 hk)).1.ai,QE,Pp hk,Sf,Qj,uQ,TA,Ed,f2]
 have e4:=e3 x.aa.length (Po _);rw[Qy]at e4;unfold J.ej J.pw lsP;rw[dU,dU,dU,e1,e2 _ _ (.enter x.enter) h.en,e2 _ _ (.leave x.leave) h.lv,e4,Qd,Qd,<- uQ,<- uQ,<- uQ,Q7,Qj,Qj,QW];rfl
theorem Np{X:List U.State}(h:∀x∈X,StN x):by' (J.cn X X.length)=tx ((X.flatMap lsP).map (·.1)):=by
 have key:∀k,k<=X.length->by' (J.cn X k)=tx (((X.take k).flatMap lsP).map (·.1)):=by
  intro k
  induction k with
  |zero=>intro _;rfl
  |succ k ih=>
   intro hk;rw[J.cn,Pp hk];dsimp only;rw[dU,ih zaa,GZ (h _ (P7 hk)),QE,Pp hk,Sf,Qc,RH,Qj,uQ]
 have:=key X.length (Po _);rw[Qy]at this;exact this
structure LnG(q:(Nat×List ())×PL):Prop where
 vis:∀w∈q.1.2,Vis w
 hd:∃w ws,q.1.2=w::ws/\w.size≠0
 pl:∀num,aS num q.1.2=some q.2
theorem NU(h:StN x):∀q∈lsP x,LnG q:=by
 have hA:∀{A:List U.Act},(∀a∈A,AN a)->∀w∈A.flatMap aW,Vis w:=fun hA w hw=>by
  obtain⟨a,ha,hw⟩:=Rv.1 hw;exact Nn (hA a ha) w hw
 intro q hq;unfold lsP at hq
 rcases QH.1 hq with rfl|hq
 ·obtain⟨k,k0,k4,hw,hd⟩:=h.wd;have e:=J.eC k0 k4 hw hd;rw[e];have hv:=nT h.nm;have v1:Vis J.jz:=zaB;have hk:k=0\/k=1\/k=2\/k=3\/k=4:=zaa;have v2:Vis (J.bm k)/\(J.bm k).size≠0:=by rcases hk with rfl|rfl|rfl|rfl|rfl<;>(unfold Vis;decide)
  refine⟨fun w hw=>?_,⟨_,_,rfl,v2.2⟩,fun num=>BO k0 k4 h.nm num⟩;unfold sW at hw
  rcases QH.1 hw with rfl|hw
  ·exact v2.1
  rcases QH.1 hw with rfl|hw
  ·exact hv
  ·split at hw
   ·rw[PB.1 hw];exact v1
   ·cases hw
 rcases PQ.1 hq with hq|hq
 ·split at hq
  ·cases hq
  ·rename_i h0;rw[PB.1 hq];refine⟨fun w hw=>?_,⟨_,_,rfl,zac⟩,fun num=>(sT h.en (fun e=>h0 zaT) num).1⟩
   rcases QH.1 hw with rfl|hw
   ·unfold Vis;decide
   ·exact hA h.en w hw
 rcases PQ.1 hq with hq|hq
 ·split at hq
  ·cases hq
  ·rename_i h0;rw[PB.1 hq];refine⟨fun w hw=>?_,⟨_,_,rfl,zac⟩,fun num=>(sT h.lv (fun e=>h0 zaT) num).2⟩
   rcases QH.1 hw with rfl|hw
   ·unfold Vis;decide
   ·exact hA h.lv w hw
 ·obtain⟨m,hm,rfl⟩:=P0.1 hq;have hn:=(h.mv m hm).1;refine⟨fun w hw=>?_,⟨_,_,rfl,zac⟩,fun num=>Du hn num⟩;unfold mW at hw
  rcases QH.1 hw with rfl|hw
  ·unfold Vis;decide
  rcases QH.1 hw with rfl|hw
  ·exact Ce hn.ev
  rcases PQ.1 hw with hw|hw
  ·split at hw
   ·cases hw
   ·rename_i h0
    rcases QH.1 hw with rfl|hw
    ·unfold Vis;decide
    ·rw[PB.1 hw];exact nT (hn.dst.resolve_left fun e=>h0 (by rw[e,P1];rfl))
  ·exact hA hn.ai w hw
def iS:List U.State->Nat->List ((Nat×List ())×PL)->Option (List U.State)
 |S,_,[]=>some S
 |S,i,q::r=>(U.aR S i (J.aC (i+1) q.2) (q.1.1:Int)).bind fun S'=>iS S' (i+1) r
theorem nS:∀(a b:List ((Nat×List ())×PL)) (S:List U.State) (i:Nat),iS S i (a++b)=(iS S i a).bind fun S'=>iS S' (i+a.length) b
 |[],b,S,i=>rfl
 |q::a,b,S,i=>by
  rw[Sd,iS,iS];cases U.aR S i (J.aC (i+1) q.2) (q.1.1:Int) with
  |none=>rfl
  |some S'=>
   rw[Sw,Sw,nS a b S' (i+1),Qw,QG,Nat.add_comm 1]
theorem B9{A:List (U.j9×Int)}:∀(Q:List ((Nat×List ())×PL)) (k:Nat),(∀j q,Q[j]?=some q->A[k+j]?=some (J.aC (k+j+1) q.2,(q.1.1:Int)))->U.aT A (k+Q.length)=(U.aT A k).bind fun S=>iS S k Q
 |[],k,_=>by cases U.aT A k<;>rfl
 |q::Q,k,h=>by
  rw[Qw,show k+(Q.length+1)=k+1+Q.length by omega,B9 Q (k+1) (fun j q' hj=>by rw[show k+1+j=k+(j+1) by omega];exact h (j+1) q' hj),U.aT];cases U.aT A k with
  |none=>rfl
  |some S=>
   have h1:A[k]?=some (J.aC (k+1) q.2,(q.1.1:Int)):=h 0 q rfl;dsimp only;rw[h1];rfl
theorem Dp{Q:List ((Nat×List ())×PL)}(h:∀q∈Q,LnG q)(h0:0<Q.length)(t:())(ht:by' t=tx (Q.map (·.1))):U.syn (U.cut t 10)=none/\(U.cut t 10).length-1=Q.length/\U.aT (U.aF (U.cut t 10) Q.length) Q.length=iS [] 0 Q:=by
 have hc:U.cut t 10=Q.map (fun q=>mk (ln q.1))++[mk []]:=by
  have:=Oj (Q.map (·.1)) (fun p hp x hx=>by
   obtain⟨q,hq,rfl⟩:=P0.1 hp;exact(h q hq).vis x hx)
  rw[QW]at this;rw[<- ht]at this;exact this
 have hl:(U.cut t 10).length-1=Q.length:=by rw[hc,PI,PE];rfl
 have hp:∀j q,Q[j]?=some q->U.pc (U.cut t 10) j=mk (ln q.1):=fun j q hj=>by
  unfold U.pc;rw[hc,PH,Qo (by rw[PE];exact(Ps.1 hj).1),Pv,hj];rfl
 have hw:∀j q,Q[j]?=some q->U.cW (U.pc (U.cut t 10) j)=q.1.1/\U.iw (U.pc (U.cut t 10) j) j=J.aC (j+1) q.2:=fun j q hj=>by
  have hq:=h q (PD hj);obtain⟨w,ws,e,hz⟩:=hq.hd;obtain⟨b1,b2⟩:=JD (d:=q.1.1) (w:=w) (ws:=ws) (by rw[<- e];exact hq.vis) hz;rw[<- e]at b1 b2;refine⟨by rw[hp j q hj];exact b1,J.mJ ?_⟩;unfold J.wl;rw[hp j q hj];show aS (j+1) (U.cut (U.rest (mk (ln (q.1.1,q.1.2)))) 32)=_;rw[b2];exact hq.pl _
 refine⟨?_,hl,?_⟩
 ·have hs:∀k,k<=Q.length->U.lV (U.cut t 10) k=none:=by
   intro k
   induction k with
   |zero=>intro _;rfl
   |succ k ih=>
    intro hk;rw[U.lV,ih zaa];dsimp only;rw[(hw k _ (Pp hk)).2,Pu];cases Q[k].2<;>first|exact(by decide:¬(115:Int)=0)|exact(by decide:¬(109:Int)=0)|exact(by decide:¬(101:Int)=0)|exact(by decide:¬(108:Int)=0)
  unfold U.syn;rw[hl,hs _ (Po _)];have he:U.pc (U.cut t 10) Q.length=mk []:=by
   unfold U.pc;rw[hc,PH,Qr (by rw[PE];exact Po _),PE,RR];rfl
  dsimp only;rw[he,Qp h0,P1];rfl
 ·have:=B9 (A:=U.aF (U.cut t 10) Q.length) Q 0 (fun j q hj=>by
   have hj':=(Ps.1 hj).1;unfold U.aF;rw[Rz,Pv,Tu hj',Ud,(hw j q hj).1,(hw j q hj).2])
  rw[Rz]at this;rw[this];rfl
end Sm
end
section
open Go.RowKit Go.Proofs Go.Shelf
namespace Sm
open J (PL)
def ro(x:U.State):U.State:=⟨x.word,x.name,x.deep,x.up,x.depth,0,[],[],[],0,0⟩
def co(x:U.State):U.State:={ x with line:=0,has0:=0,has1:=0,aa:=x.aa.map fun m=>{ m with line:=0 } }
theorem yx(S:List U.State)(k:Nat):(S.map ro).getD k U.st0=ro (S.getD k U.st0):=by
 rw[PH,PH,Pv];cases S[k]?<;>rfl
theorem Na(S:List U.State)(d:Int):U.cQ (S.map ro) d=U.cQ S d:=by
 have key:∀k,U.eY (S.map ro) d k=U.eY S d k:=by
  intro k
  induction k with
  |zero=>rfl
  |succ k ih=>rw[U.eY,U.eY,yx,ih];rfl
 unfold U.cQ;rw[key,PE]
theorem EL(S:List U.State)(x:U.State):U.fits ((S.map ro).map U.emb) (U.emb (ro x))=U.fits (S.map U.emb) (U.emb x):=by
 have e1:∀k,((U.vM ((S.map ro).map U.emb) k).s).word=(U.vM (S.map U.emb) k).s.word:=fun k=>by
  unfold U.vM;rw[PH,PH,Pv,Pv,Pv];cases S[k.toNat]?<;>rfl
 have e2:∀k,U.mR ((S.map ro).map U.emb) k=U.mR (S.map U.emb) k:=fun k=>by
  unfold U.mR;rw[List.all_map,List.all_map,List.all_map];rfl
 unfold U.fits;rw[e1,e2,PE,PE,PE];rfl
theorem KE{S S':List U.State}(h:S.map ro=S'.map ro)(d:Int):U.cQ S d=U.cQ S' d:=by rw[<- Na,h,Na]
theorem rT{S S':List U.State}(h:S.map ro=S'.map ro){x':U.State}(hx:ro x=ro x'):U.fits (S.map U.emb) (U.emb x)=U.fits (S'.map U.emb) (U.emb x'):=by rw[<- EL,h,hx,EL]
structure Std(S:List U.State)(x:U.State):Prop where
 up:U.cQ S x.depth=x.up
 pos:0<x.depth->0<=x.up
 fit:U.fits (S.map U.emb) (U.emb x)=true
 his:(x.word.toList == U.aO)=true->x.enter=[]/\x.leave=[]/\x.aa=[]
 fin:(x.word.toList == U.bK)=true->x.aa=[]
theorem Std.of{S S':List U.State}(h:Std S x)(e:S.map ro=S'.map ro):Std S' x:=⟨by rw[<- KE e];exact h.up,h.pos,by rw[<- rT e rfl];exact h.fit,h.his,h.fin⟩
def TOK(S:List U.State):Prop:=∀(i:Nat) (x:U.State),S[i]?=some x->Std (S.take i) x
theorem zD{S S':List U.State}(h:S.map ro=S'.map ro)(i:Nat):(S.take i).map ro=(S'.take i).map ro:=by rw[List.map_take,List.map_take,h]
theorem TOK.fu{S:List U.State}(h:TOK S)(k:Nat)(f:U.State->U.State)(hr:∀x,ro (f x)=ro x)(hf:∀x,S[k]?=some x->((x.word.toList == U.aO)=false/\((x.word.toList == U.bK)=true->(f x).aa=x.aa))):TOK (U.fu S k f):=by
 unfold U.fu;by_cases hk:k<S.length
 ·have e0:S.getD k U.st0=S[k]:=by rw[PH,Pp hk];rfl
  rw[e0];have hm:(S.set k (f S[k])).map ro=S.map ro:=Y.jc ro S k S[k] _ (Pp hk) (hr _);intro i x hx;by_cases e:k=i
  ·subst e;rw[P4 hk]at hx;cases hx
   have h1:=h k _ (Pp hk);obtain⟨g1,g2⟩:=hf _ (Pp hk);have e1:(f S[k]).depth=S[k].depth:=by show(ro (f S[k])).depth=(ro S[k]).depth;rw[hr]
   have e2:(f S[k]).up=S[k].up:=by show(ro (f S[k])).up=(ro S[k]).up;rw[hr]
   have e3:(f S[k]).word=S[k].word:=by show(ro (f S[k])).word=(ro S[k]).word;rw[hr]
   refine⟨by rw[KE (zD hm k),e1,e2];exact h1.up,by rw[e1,e2];exact h1.pos,by rw[rT (zD hm k) (hr _)];exact h1.fit,fun e=>?_,fun e=>?_⟩
   ·rw[e3,g1]at e;cases e
   ·rw[e3]at e;rw[g2 e];exact h1.fin e
  ·rw[Qb e]at hx;exact(h i x hx).of (zD hm.symm i)
 ·rw[SL zaa];exact h
theorem TOK.step{S S':List U.State}{i d:Nat}{x:U.j9}(h:TOK S)(hs:U.aR S i x d=some S'):TOK S':=by
 unfold U.aR at hs;split at hs
 ·cases hs
 rename_i h1;split at hs
 ·split at hs
  ·rename_i hf;cases hs
   intro j y hy;by_cases e:j<S.length
   ·rw[Qo e]at hy;rw[List.take_append_of_le_length zaa];exact h j y hy
   ·have hj:j=S.length:=by
     have:=(Ps.1 hy).1;rw[PI,Q6]at this;omega
    subst hj;rw[Qr (Po _),RR]at hy;cases hy
    rw[List.take_left];exact⟨rfl,fun e=>by show 0<=U.cQ S d;have:0<(d:Int):=e;omega,hf,fun _=>⟨rfl,rfl,rfl⟩,fun _=>rfl⟩
  ·cases hs
 split at hs
 ·cases hs
 split at hs
 ·cases hs
 rename_i hh;have hg:∀y,S[(U.cQ S d).toNat]?=some y->(y.word.toList == U.aO)=false:=fun y hy=>by
  rw[PH,hy]at hh;exact SH.2 hh
 split at hs
 ·split at hs
  ·cases hs
  ·rename_i YA;cases hs
   refine h.fu _ _ (fun _=>rfl) fun y hy=>⟨hg y hy,fun e=>?_⟩;rw[PH,hy]at YA;exact absurd e YA
 iterate 2
  split at hs
  ·split at hs
   ·cases hs
   ·cases hs
    exact h.fu _ _ (fun _=>rfl) fun y hy=>⟨hg y hy,fun _=>rfl⟩
 cases hs
 exact h
theorem B1{P:List ()}{n:Nat}:∀(i:Nat) (S:List U.State),U.aT (U.aF P n) i=some S->TOK S
 |0,S,h=>by cases h;intro i x hx;simp at hx
 |i+1,S,h=>by
  rw[U.aT]at h;cases ht:U.aT (U.aF P n) i with
  |none=>rw[ht]at h;cases h
  |some S0=>
   rw[ht]at h;have h0:=B1 i S0 ht;dsimp only at h;split at h
   ·cases h;exact h0
   ·rename_i x d hl;obtain⟨k,hk⟩:∃k:Nat,d=k:=by
     unfold U.aF at hl;rw[Pv]at hl;cases hq:(List.range n)[i]? with
     |none=>rw[hq]at hl;cases hl
     |some j=>rw[hq]at hl;exact⟨_,(Prod.mk.inj (Qh hl)).2.symm⟩
    subst hk;exact h0.step h
section
variable {S0:List U.State}{y:U.State}{d:Nat}
theorem Fh(hd:y.depth=d):U.cQ (S0++[y]) ((d+1:Nat):Int)=S0.length/\(S0++[y]).getD S0.length U.st0=y:=by
 have e:(S0++[y]).getD S0.length U.st0=y:=by
  rw[PH,Qr (Po _),RR];rfl
 refine⟨?_,e⟩;unfold U.cQ;rw[PC zaa,PI,Q6,U.eY,e,PC zaa]
theorem Hj(hd:y.depth=d)(f:U.State->U.State):U.fu (S0++[y]) S0.length f=S0++[f y]:=by
 unfold U.fu;rw[(Fh hd).2,SB _ _ (Po _),RR];rfl
theorem qO(hd:y.depth=d)(hh:(y.word.toList == U.aO)=false)(i:Nat)(L:PL):U.aR (S0++[y]) i (J.aC (i+1) L) ((d+1:Nat):Int)=match L with
  |.state _ _=>U.aR (S0++[y]) i (J.aC (i+1) L) ((d+1:Nat):Int)
  |.move ev af dl t A=>if y.word.toList == U.bK then none else some (S0++[{ y with aa:=y.aa++[⟨ev,t,af,dl,A,(i+1:Nat)⟩] }])
  |.enter A=>if 0<y.has0 then none else some (S0++[{ y with has0:=i+1,enter:=A }])
  |.leave A=>if 0<y.has1 then none else some (S0++[{ y with has1:=i+1,leave:=A }]):=by
 obtain⟨e1,e2⟩:=Fh (S0:=S0) hd;have e3:=Hj (S0:=S0) hd;have g1:¬(0<((d+1:Nat):Int)/\((S0.length:Nat):Int)<0):=zaa;have g2:¬((S0.length:Nat):Int)<0:=zaa;have g3:¬(y.word.toList == U.aO)=true:=by rw[hh];decide
 cases L with
 |state k n=>rfl
 |move ev af dl t A=>
  unfold U.aR;rw[e1,QR,e2,Pu g1,Pu (by show ¬(109:Int)=115;decide),Pu g2,Pu g3,PC zae,e3];rfl
 |enter A=>
  unfold U.aR;rw[e1,QR,e2,Pu g1,Pu (by show ¬(101:Int)=115;decide),Pu g2,Pu g3,Pu (by show ¬(101:Int)=109;decide),PC zae,e3];rfl
 |leave A=>
  unfold U.aR;rw[e1,QR,e2,Pu g1,Pu (by show ¬(108:Int)=115;decide),Pu g2,Pu g3,Pu (by show ¬(108:Int)=109;decide),Pu (by show ¬(108:Int)=101;decide),PC zae,e3];rfl
end
theorem tM{S0:List U.State}{d:Nat}:∀(M:List U.Move) (y:U.State) (i:Nat),y.depth=d->(y.word.toList == U.aO)=false->(M≠[]->(y.word.toList == U.bK)=false)->(∀m∈M,m.after=false/\m.delay=0)->∃N,iS (S0++[y]) i (M.map fun m=>((d+1,mW m),.move m.event false 0 m.to m.ai))=some (S0++[{ y with aa:=y.aa++N }])/\N.map (fun m=>{ m with line:=0 })=M.map fun m=>{ m with line:=0 }
 |[],y,i,_,_,_,_=>⟨[],by rw[Rb];rfl,rfl⟩
 |m::M,y,i,hd,hh,hf,hm=>by
  have h1:=qO (S0:=S0) hd hh i (.move m.event false 0 m.to m.ai);dsimp only at h1;rw[hf zad]at h1;rw[Q7,iS];dsimp only;rw[h1];obtain⟨N,g1,g2⟩:=tM (S0:=S0) M { y with aa:=y.aa++[⟨m.event,m.to,false,0,m.ai,(i+1:Nat)⟩] } (i+1) hd hh (fun _=>hf zad) (fun m' h'=>hm m' (P3 _ h'));refine⟨⟨m.event,m.to,false,0,m.ai,(i+1:Nat)⟩::N,?_,?_⟩
  ·rw[Pu zac,Sw,g1,Qd];rfl
  ·rw[Q7,Q7,g2];obtain⟨m1,m2⟩:=hm m (PZ ..);obtain⟨a,b,c,e,f,g⟩:=m;dsimp only at m1 m2;rw[m1,m2]
theorem GA{S0:List U.State}(h:StN x)(hs:Std S0 x)(i:Nat):∃x',iS S0 i (lsP x)=some (S0++[x'])/\co x'=co x:=by
 obtain⟨k,k0,k4,hw,hdp⟩:=h.wd;have hk:=J.eC k0 k4 hw hdp;obtain⟨d,hd⟩:∃d:Nat,x.depth=d:=⟨x.depth.toNat,by have:=h.dep;omega⟩;have hmv:∀m∈x.aa,m.after=false/\m.delay=0:=fun m hm=>⟨(h.mv m hm).2,(h.mv m hm).1.now (h.mv m hm).2⟩;have h1:U.aR S0 i (J.aC (i+1) (.state k x.name)) (d:Int)=some (S0++[⟨x.word,x.name,x.deep,x.up,x.depth,(i+1:Nat),[],[],[],0,0⟩]):=by
  have e1:=hs.up;have e2:=hs.pos;have e3:=hs.fit;rw[hd]at e1 e2;unfold U.aR;rw[e1,Pu zaa,PC zae];have e4:U.jF (J.aC (i+1) (.state k x.name)) x.up (d:Int)=⟨x.word,x.name,x.deep,x.up,x.depth,(i+1:Nat),[],[],[],0,0⟩:=by
   rw[hd,hw,hdp];rfl
  rw[e4,rT (S':=S0) rfl (x':=x) zae,e3];rfl
 unfold lsP;rw[hk,hd,QR,iS];dsimp only;rw[h1,Sw];by_cases hh:(x.word.toList == U.aO)=true
 ·obtain⟨a,b,c⟩:=hs.his hh;rw[a,b,c];refine⟨_,rfl,?_⟩;unfold co;rw[a,b,c]
 have hh:(x.word.toList == U.aO)=false:=SH.2 hh;have YA:x.aa≠[]->(x.word.toList == U.bK)=false:=fun h0=>SH.2 fun e=>h0 (hs.fin e);rw[nS];obtain⟨a0,ha⟩:∃a0,iS (S0++[⟨x.word,x.name,x.deep,x.up,x.depth,(i+1:Nat),[],[],[],0,0⟩]) (i+1) (if x.enter.isEmpty then[] else[((d+1,J.fU::x.enter.flatMap aW),.enter x.enter)])=some (S0++[⟨x.word,x.name,x.deep,x.up,x.depth,(i+1:Nat),[],x.enter,[],a0,0⟩]):=by
  split
  ·rename_i e;exact⟨0,by rw[Ri.1 e];rfl⟩
  ·refine⟨((i+1:Nat):Int)+1,?_⟩;rw[iS];dsimp only;rw[qO (S0:=S0) (y:=⟨x.word,x.name,x.deep,x.up,x.depth,(i+1:Nat),[],[],[],0,0⟩) hd hh (i+1) (.enter x.enter)];rfl
 rw[ha,Sw,nS];obtain⟨b0,hb⟩:∃b0,iS (S0++[⟨x.word,x.name,x.deep,x.up,x.depth,(i+1:Nat),[],x.enter,[],a0,0⟩]) (i+1+(if x.enter.isEmpty then([]:List ((Nat×List ())×PL)) else[((d+1,J.fU::x.enter.flatMap aW),.enter x.enter)]).length) (if x.leave.isEmpty then[] else[((d+1,J.eS::x.leave.flatMap aW),.leave x.leave)])=some (S0++[⟨x.word,x.name,x.deep,x.up,x.depth,(i+1:Nat),[],x.enter,x.leave,a0,b0⟩]):=by
  generalize i+1+(if x.enter.isEmpty then([]:List ((Nat×List ())×PL)) else[((d+1,J.fU::x.enter.flatMap aW),.enter x.enter)]).length=j;split
  ·rename_i e;exact⟨0,by rw[Ri.1 e];rfl⟩
  ·refine⟨(j:Int)+1,?_⟩;rw[iS];dsimp only;rw[qO (S0:=S0) (y:=⟨x.word,x.name,x.deep,x.up,x.depth,(i+1:Nat),[],x.enter,[],a0,0⟩) hd hh j (.leave x.leave)];rfl
 rw[hb,Sw];obtain⟨N,g1,g2⟩:=tM (S0:=S0) x.aa ⟨x.word,x.name,x.deep,x.up,x.depth,(i+1:Nat),[],x.enter,x.leave,a0,b0⟩ _ hd hh YA hmv;refine⟨_,g1,?_⟩;unfold co;dsimp only;rw[R6,g2]
theorem JH{S S':List U.State}(h:S.map co=S'.map co):S.map ro=S'.map ro:=by
 have e:∀T:List U.State,T.map ro=(T.map co).map ro:=fun T=>by rw[QW];rfl
 rw[e S,e S',h]
theorem sD{X:List U.State}(h:∀x∈X,StN x)(ht:TOK X):∀k,k<=X.length->∃S',iS [] 0 ((X.take k).flatMap lsP)=some S'/\S'.map co=(X.take k).map co
 |0,_=>⟨[],rfl,rfl⟩
 |k+1,hk=>by
  obtain⟨S',h1,h2⟩:=sD h ht k zaa;have VB:k<X.length:=hk;obtain⟨x',h3,h4⟩:=GA (S0:=S') (h _ (P7 VB)) ((ht k _ (Pp VB)).of (JH h2).symm) (0+((X.take k).flatMap lsP).length);refine⟨S'++[x'],?_,?_⟩
  ·rw[QE,Pp VB,Sf,Qc,RH,nS,h1,Sw,h3]
  ·rw[QE,Pp VB,Sf,Qj,Qj,h2,TA,TA,h4]
open J (PL aS)
structure StM(x:U.State):Prop where
 nm:U.plain x.name=true
 en:∀a∈x.enter,AN a
 lv:∀a∈x.leave,AN a
 mv:∀m∈x.aa,MvN m
theorem J9{S:List U.State}(h:J.read s=.dX S):TOK S/\∀x∈S,StM x:=by
 unfold J.read at h;split at h
 ·cases h
 rename_i Vf;split at h
 ·cases h
 rename_i hs;split at h
 ·cases h
 rename_i S' ht;split at h
 ·cases h
 split at h
 ·cases h
 cases h
 refine⟨B1 _ _ ht,fun x hx=>?_⟩;have hI:=J.mG (J.nR hs) (Po _) ht;have hl:=ph (s:=s) (c:=10);have ok:∀{j:Nat} {L:PL},j<(U.cut s 10).length-1->aS (j+1) (J.wl (U.cut s 10) j)=some L->LnN (j+1) L:=fun hj hL=>LX zaa zaa (J.jP hL);refine⟨?_,?_,?_,fun m hm=>?_⟩
 ·obtain⟨j,L,hj,_,hL,e⟩:=hI.fro x.line (.nm x.name) ⟨x,hx,rfl,rfl⟩;have:=ok hj hL;cases L with
  |state k n=>cases e;exact this
  |move ev af d t A=>cases e
  |enter A=>cases e
  |leave A=>cases e
 ·rcases hI.en0 x hx with h0|h0
  ·obtain⟨j,L,hj,_,hL,e⟩:=hI.fro x.has0 (.en x.enter) ⟨x,hx,rfl,h0,rfl⟩;have:=ok hj hL;cases L with
   |enter A=>
    have e':x.enter=A:=by injection e
    rw[e'];exact this
   |state k n=>cases e
   |move ev af d t A=>cases e
   |leave A=>cases e
  ·rw[h0];intro a ha;cases ha
 ·rcases hI.lv0 x hx with h0|h0
  ·obtain⟨j,L,hj,_,hL,e⟩:=hI.fro x.has1 (.lv x.leave) ⟨x,hx,rfl,h0,rfl⟩;have:=ok hj hL;cases L with
   |leave A=>
    have e':x.leave=A:=by injection e
    rw[e'];exact this
   |state k n=>cases e
   |move ev af d t A=>cases e
   |enter A=>cases e
  ·rw[h0];intro a ha;cases ha
 ·obtain⟨j,L,hj,_,hL,e⟩:=hI.fro m.line (.mv m) ⟨rfl,x,hx,hm⟩;have:=ok hj hL;cases L with
  |move ev af d t A=>cases e;exact this
  |state k n=>cases e
  |enter A=>cases e
  |leave A=>cases e
theorem Jg{x:U.State}(h:StM x):∀k,(∀a∈U.dA x k,AN a)/\∀a∈U.bS x k,AN a
 |0=>⟨h.en,h.lv⟩
 |k+1=>by
  obtain⟨h1,h2⟩:=Jg h k;rw[U.dA,U.bS];cases hm:x.aa[k]? with
  |none=>exact⟨h1,h2⟩
  |some m=>
   dsimp only;by_cases ha:m.after=true
   ·obtain⟨c,d⟩:=(h.mv m (PD hm)).aft ha;rw[PC ha,PC ha];refine⟨fun a hx=>?_,fun a hx=>?_⟩
    ·rcases PQ.1 hx with hx|hx
     ·exact h1 a hx
     ·rw[PB.1 hx];exact .inr (.inr ⟨rfl,c,.inr c,d⟩)
    ·rcases PQ.1 hx with hx|hx
     ·exact h2 a hx
     ·rw[PB.1 hx];exact .inr (.inl ⟨rfl,rfl,c,rfl⟩)
   ·rw[Pu ha,Pu ha];exact⟨h1,h2⟩
theorem OH(h:StM x)(hl:J.nY x/\J.gO x):StN (J.fj x):=by
 refine⟨hl.1.dep0,h.nm,hl.2,(Jg h _).1,(Jg h _).2,fun m hm=>?_⟩;obtain⟨m0,Zd,rfl⟩:=P0.1 hm;have h0:=h.mv m0 Zd;unfold J.dq;split
 ·exact⟨⟨h0.ev,h0.dst,h0.ai,fun e=>zaI,fun _=>rfl⟩,rfl⟩
 ·rename_i e;exact⟨h0,SH.2 e⟩
theorem Od(x:U.State):ro (J.fj x)=ro x:=rfl
theorem EV(S:List U.State):(S.map J.fj).map ro=S.map ro:=by rw[QW];rfl
theorem L1{S:List U.State}(h:TOK S):TOK (S.map J.fj):=by
 intro i y hy;rw[Pv]at hy;cases hx:S[i]? with
 |none=>rw[hx]at hy;cases hy
 |some x=>
  rw[hx]at hy;cases hy
  have h0:=h i x hx;have e:((S.map J.fj).take i).map ro=(S.take i).map ro:=by rw[<- List.map_take,EV]
  refine⟨by rw[KE e];exact h0.up,h0.pos,by rw[rT e (Od x)];exact h0.fit,fun hh=>?_,fun hf=>?_⟩
  ·obtain⟨a,b,c⟩:=h0.his hh;unfold J.fj;dsimp only;rw[c];exact⟨a,b,rfl⟩
  ·unfold J.fj;dsimp only;rw[h0.fin hf];rfl
def cl(x:U.State):U.State:=co (J.fj x)
theorem Gp(h:∀m∈x.aa,m.after=false):J.fj x=x:=by
 have e1:∀k,U.dA x k=x.enter/\U.bS x k=x.leave:=by
  intro k
  induction k with
  |zero=>exact⟨rfl,rfl⟩
  |succ k ih=>
   rw[U.dA,U.bS];cases hm:x.aa[k]? with
   |none=>exact ih
   |some m=>
    dsimp only;rw[h m (PD hm)];exact ih
 have e2:x.aa.map J.dq=x.aa:=by
  conv=>rhs;rw[<- List.map_id x.aa]
  refine SO fun m hm=>?_;unfold J.dq;rw[h m hm];rfl
 unfold J.fj;rw[(e1 _).1,(e1 _).2,e2]
theorem Ip{y:U.State}(h:co x=co y)(hy:∀m∈y.aa,m.after=false):∀m∈x.aa,m.after=false:=fun m hm=>by
 have e:x.aa.map (fun m=>{ m with line:=0 })=y.aa.map fun m=>{ m with line:=0 }:=congrArg (fun z:U.State=>z.aa) h;have h1:=QT (f:=fun m:U.Move=>{ m with line:=0 }) hm;rw[e]at h1;obtain⟨m',h2,h3⟩:=P0.1 h1;have h4:m'.after=m.after:=by injection h3
 rw[<- h4];exact hy m' h2
section
variable {S S':List U.State}(h:S'.map cl=S.map cl)
theorem Ab{β:Type}(h:S'.map cl=S.map cl){f:U.State->β}{g:U.State->β}(hf:∀x,f x=g (cl x))(i:Nat):S'[i]?.map f=S[i]?.map f:=by
 have e:∀T:List U.State,T[i]?.map f=(T.map cl)[i]?.map g:=fun T=>by
  rw[Pv];cases T[i]? with
  |none=>rfl
  |some x=>exact congrArg some (hf x)
 rw[e,e,h]
theorem Cj(h:S'.map cl=S.map cl):Y.X0 S'=Y.X0 S:=by
 apply RA
 intro i;unfold Y.X0;rw[Pv,Pv];exact Ab h (g:=fun x=>(⟨J.aj x,x.name,x.depth,x.up,U.Sl.nil,U.Sl.nil,U.Sl.nil,U.Sl.nil⟩:Y.MS)) (fun x=>rfl) i
theorem I6(h:S'.map cl=S.map cl):Y.EN0 S'=Y.EN0 S/\Y.LV0 S'=Y.LV0 S:=by
 refine⟨funext fun i=>?_,funext fun i=>?_⟩
 ·have:=Ab h (f:=fun x=>(J.fj x).enter.map Y.kT) (g:=fun x=>x.enter.map Y.kT) (fun x=>rfl) i;unfold Y.EN0;exact zdG
 ·have:=Ab h (f:=fun x=>(J.fj x).leave.map Y.kT) (g:=fun x=>x.leave.map Y.kT) (fun x=>rfl) i;unfold Y.LV0;exact zdG
theorem OO(h:S'.map cl=S.map cl):Y.mvB S'=Y.mvB S:=by
 funext i;have:=Ab h (f:=fun x=>(J.fj x).aa.map fun m=>(m.event,(Y.eQ (Y.psF (Y.X0 S)) (Y.b7 (Y.X0 S) (Y.X0 S).length) i ⟨m.event,false,0,m.to,U.Sl.nil⟩,m.ai.map Y.kT))) (g:=fun x=>x.aa.map fun m=>(m.event,(Y.eQ (Y.psF (Y.X0 S)) (Y.b7 (Y.X0 S) (Y.X0 S).length) i ⟨m.event,false,0,m.to,U.Sl.nil⟩,m.ai.map Y.kT))) (fun x=>by
  unfold cl co;dsimp only;rw[QW];rfl) i
 unfold Y.mvB;rw[Cj h];exact zdG
theorem MX(h:S'.map cl=S.map cl):Y.anS S'=Y.anS S:=by
 have e1:Y.H0 S'=Y.H0 S:=by unfold Y.H0;rw[Cj h]
 have e2:Y.D0 S'=Y.D0 S:=by
  funext k;unfold Y.D0;rw[e1];cases(Y.H0 S)[k]? with
  |none=>rfl
  |some y=>
   have:=Ab h (f:=fun x=>decide (J.aj x=4)) (g:=fun x=>decide (J.aj x=4)) (fun x=>rfl) y.idx;dsimp only;cases h1:S'[y.idx]?<;>cases h2:S[y.idx]?<;>rw[h1,h2]at this<;>first|rfl|(cases this;done)|exact Qh this
 unfold Y.anS;rw[Cj h,(I6 h).1,(I6 h).2,OO h,e1,e2]
theorem OX(h:S'.map cl=S.map cl):Y.stS S'=Y.stS S:=by
 unfold Y.stS;rw[MX h,Cj h,(I6 h).1]
def txt(S:List U.State):():=J.cn (S.map J.fj) S.length
theorem Ok(h:S'.map cl=S.map cl):txt S'=txt S:=by
 have e1:∀(d:Nat) (M:List U.Move) (j:Nat),J.aX d (M.map fun m=>{ m with line:=0 }) j=J.aX d M j:=by
  intro d M j
  induction j with
  |zero=>rfl
  |succ j ih=>
   rw[J.aX,J.aX,Pv,ih];cases M[j]?<;>rfl
 have e2:∀x,J.ej (co x)=J.ej x:=fun x=>by
  unfold J.ej;show J.pw x++J.aX (x.depth.toNat+1) (x.aa.map _) (x.aa.map _).length=_;rw[e1,PE]
 have e3:∀(X:List U.State) k,J.cn (X.map co) k=J.cn X k:=by
  intro X k
  induction k with
  |zero=>rfl
  |succ k ih=>
   rw[J.cn,J.cn,Pv,ih];cases X[k]? with
   |none=>rfl
   |some x=>exact congrArg (J.cn X k++·) (e2 x)
 have e4:∀T:List U.State,(T.map J.fj).map co=T.map cl:=fun T=>by rw[QW];rfl
 have hl:S'.length=S.length:=by rw[<- PE (f:=cl),h,PE]
 unfold txt;rw[<- e3,<- e3 (S.map J.fj),e4,e4,h,hl]
end
theorem Bn{S S':List U.State}(h:S'.map ro=S.map ro)(n:()):U.place (S'.map U.emb) n=U.place (S.map U.emb) n:=by
 have e:∀T:List U.State,(T.map U.emb).findIdx? (U.C4 n)=((T.map ro).map U.emb).findIdx? (U.C4 n):=fun T=>by
  rw[QW,List.findIdx?_map,List.findIdx?_map];rfl
 unfold U.place;rw[e,h,<- e]
theorem Ob{S S':List U.State}(h:S'.map ro=S.map ro)(k:Int):U.regions (S'.map U.emb) k=U.regions (S.map U.emb) k:=by
 have e:∀(T:List U.State) i,U.mZ (T.map U.emb) k i=U.mZ ((T.map ro).map U.emb) k i:=fun T i=>by
  induction i with
  |zero=>rfl
  |succ i ih=>
   rw[U.mZ,U.mZ,ih,Pv,Pv,Pv];cases T[i]?<;>rfl
 have hl:S'.length=S.length:=by rw[<- PE (f:=ro),h,PE]
 unfold U.regions;rw[e,e S,h,PE,PE,hl]
theorem Gm{S:List U.State}(h:J.read s=.dX S)(hz:(txt S).size<=1500):∃S',J.read (txt S)=.dX S'/\S'.map cl=S.map cl:=by
 obtain⟨hT,hM⟩:=J9 h;have hC:J.nw S:=J.oR (by rw[<- J.nL];exact h);have hN:∀x∈S.map J.fj,StN x:=fun x hx=>by
  obtain⟨y,hy,rfl⟩:=P0.1 hx;exact OH (hM y hy) (hC.low y hy)
 have hL:=L1 hT;obtain⟨S',h1,h2⟩:=sD hN hL _ (Po _);rw[Qy]at h1 h2;have hby:=Np hN;have hQ:∀q∈(S.map J.fj).flatMap lsP,LnG q:=fun q hq=>by
  obtain⟨x,hx,hq⟩:=Rv.1 hq;exact NU (hN x hx) q hq
 have Xf:0<((S.map J.fj).flatMap lsP).length:=by
  have:=hC.pos;cases S with
  |nil=>cases this
  |cons x S=>rw[Q7,QB,PI];unfold lsP;rw[Qw];omega
 obtain⟨r1,r2,r3⟩:=Dp hQ Xf (txt S) (by unfold txt;rw[PE]at hby;exact hby);have hro:S'.map ro=S.map ro:=(JH h2).trans (EV S);have hlen:S'.length=S.length:=by rw[<- PE (f:=ro),hro,PE]
 have haf:∀x∈S',∃y∈S,co x=co (J.fj y):=fun x hx=>by
  have:=QT (f:=co) hx;rw[h2,QW]at this;obtain⟨y,hy,e⟩:=P0.1 this;exact⟨y,hy,e.symm⟩
 have hna:∀x∈S',∀m∈x.aa,m.after=false:=fun x hx=>by
  obtain⟨y,hy,e⟩:=haf x hx;exact Ip e fun m hm=>((hN _ (QT hy)).mv m hm).2
 have hwd:∀i,(S'.getD i U.st0).word=(S.getD i U.st0).word/\(S'.getD i U.st0).name=(S.getD i U.st0).name:=fun i=>by
  have e:=yx S' i;rw[hro,yx]at e;exact⟨(congrArg (fun z:U.State=>z.word) e).symm,(congrArg (fun z:U.State=>z.name) e).symm⟩
 have ZP:∀k,k<=S'.length->U.dE S' k=none:=by
  intro k
  induction k with
  |zero=>intro _;rfl
  |succ k ih=>
   intro hk;rw[U.dE,ih zaa];dsimp only;rw[Pu];intro e;rw[Qe,(hwd k).1,Ob hro,Ri]at e;exact hC.par k zaa (eq_of_beq e.1) e.2
 have htm:U.ru (S'.map U.emb)=false:=by
  unfold U.ru;rw[UN,Ti];intro x hx e;obtain⟨m,hm,e⟩:=RV.1 (show(x.aa.any (·.after))=true from e);rw[hna x hx m hm]at e;cases e
 have VD:∀k,k<=S'.length->U.lJ (S'.map U.emb) false k=0:=by
  intro k
  induction k with
  |zero=>intro _;rfl
  |succ k ih=>
   intro hk;have VB:k<S'.length:=hk;have e0:S'.getD k U.st0=S'[k]:=by rw[PH,Pp VB];rfl
   rw[U.lJ,Pv,Pp VB,Ud];dsimp only;rw[ih zaa];show U.kV _ false k 0 S'[k]=0;have hu:=hC.uniq k zaa;rw[show(J.sAt S k).name=S'[k].name by rw[<- e0];exact(hwd k).2.symm,<- Bn hro]at hu;have hmv:∀M:List U.Move,(∀m∈M,m∈S'[k].aa)->M.foldl (U.nh (S'.map U.emb) false) 0=0:=by
    intro M
    induction M with
    |nil=>intro _;rfl
    |cons m M ihM=>
     intro Ze;have hb:U.jd (S'.map U.emb) false m=false:=by
      obtain⟨y,hy,e⟩:=haf S'[k] (P7 VB);have e2:S'[k].aa.map (fun m=>{ m with line:=0 })=(J.fj y).aa.map fun m=>{ m with line:=0 }:=congrArg (fun z:U.State=>z.aa) e;have h3:=QT (f:=fun m:U.Move=>{ m with line:=0 }) (Ze m (PZ ..));rw[e2]at h3;obtain⟨m',hm',e3⟩:=P0.1 h3;obtain⟨m0,Zd,rfl⟩:=P0.1 hm';have e4:m0.to=m.to:=(Y.pH m0).2.symm.trans (by injection e3);unfold U.jd;rw[Bn hro,<- e4,RQ,Tf];cases hq:m0.to.toList with
      |nil=>rfl
      |cons c l=>
       have:=hC.tos y hy m0 Zd (by rw[hq];rfl);rw[Ql (show ¬U.place (S.map U.emb) m0.to<0 by omega)];rfl
     rw[R4,U.nh,hb];exact ihM fun m' h'=>Ze m' (P3 _ h')
   unfold U.kV U.BP;rw[Pu hu,hmv _ (fun _ h=>h)];rfl
 refine⟨S',?_,?_⟩
 ·rw[J.nL];unfold U.read;rw[Pu zaa,r1];dsimp only;rw[r2,r3,h1];dsimp only;rw[ZP _ (Po _),U.named,htm,PE,VD _ (Po _)];rfl
 ·have e:S'.map cl=S'.map co:=SO fun x hx=>by unfold cl;rw[Gp (hna x hx)]
  rw[e,h2,QW];rfl
