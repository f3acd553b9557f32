import Derived.Test.YtpkhcncoildcnaaGreatDoorM23
import Derived.Laws.AppendOwnNone
set_option maxRecDepth 100000
set_option maxHeartbeats 8000000
namespace Go.Proofs.YtpkhcncoildcnaaGreatDoor
variable {zp:Prop}
theorem zdL(h:zp:=by
 rcases hO1 with rfl|rfl
 all_goals
  go_wp2
 all_goals
  go_round
  case rel=>exact⟨q+1,zaa,by rw[HK.out],HB⟩
  case measure=>have:=HKK.out;simp[intOf];omega):zp:=h
theorem zdW(h:zp:=by
 go_wp2
 all_goals
  go_round
  case rel=>exact⟨q+1,zaa,by rw[HK.out],HB⟩
  case measure=>have:=HKK.out;simp[intOf];omega):zp:=h
theorem zd0(h:zp:=by
 obtain⟨rfl,hb⟩:=hw;exact⟨_,r.fin,rfl,by unfold Y.zS;rw[OB hf],h.aq hb,.nil,Y.RfE.of hb h.lv.mt.lo',.bel hb⟩):zp:=h
theorem zd4(h:zp:=by
 go_wp2
 go_round
 case rel=>exact⟨c+1,zaa,zag,by rw[HA.out];rfl,zbu,HB⟩
 case measure=>simp[intOf];omega):zp:=h
theorem zeW(h:zp:=by
 rintro e w' ⟨l,k,V,rfl,h5,hb⟩;exact⟨l,k,rfl,h5.aq hb⟩):zp:=h
theorem zaQ(h:zp:=by unfold pI gq;decide):zp:=h
theorem zbi(h:zp:=by unfold ynL;simpa using hi):zp:=h
open Tryz
variable {k sb i g:Nat}{s:()}{l:Value}{z:List (()×Y.RSt)×Y.RSt}{V:World}{P:Nat->Prop}{v:U.Sl}{xs:List Value}{I:List Bool}{E:List Nat}
section
open Go.RowKit Go.Proofs Go.Shelf
namespace F
def sp(c:UInt8):List UInt8->List UInt8->List (List UInt8)
 |[],acc=>[acc]
 |x::l,acc=>if x=c then acc::sp c l [] else sp c l (acc++[x])
theorem Jr(c:UInt8):∀(l acc:List UInt8),sp c l acc≠[]
 |[],_=>by simp[sp]
 |x::l,acc=>by
  unfold sp;split
  ·simp
  ·exact Jr c l _
theorem Ek(c x:UInt8):∀(l acc:List UInt8),sp c (l++[x]) acc=if x=c then sp c l acc++[[]] else(sp c l acc).set ((sp c l acc).length-1) ((sp c l acc)[(sp c l acc).length-1]?.getD []++[x])
 |[],acc=>by
  by_cases h:x=c
  ·simp[sp,h]
  ·simp[sp,h]
 |y::l,acc=>by
  have ih:=Ek c x l;have hp:=Jr c l [];rw[Tw];by_cases hy:y=c
  ·simp only[sp,if_pos hy,ih];by_cases h:x=c
   ·simp only[if_pos h,List.cons_append]
   ·simp only[if_neg h];obtain⟨a,L,hL⟩:∃a L,sp c l []=a::L:=by
     cases hq:sp c l [] with
     |nil=>exact absurd hq hp
     |cons a L=>exact⟨a,L,rfl⟩
    rw[hL];simp
  ·simp only[sp,if_neg hy,ih]
theorem MD(s:())(c:UInt8):U.cut s (c.toNat:Int)=(sp c s.data.toList []).map mk:=by
 have key:∀k,k<=s.data.toList.length->U.bO s (c.toNat:Int) k=(sp c (s.data.toList.take k) []).map mk:=by
  intro k
  induction k with
  |zero=>intro _;rfl
  |succ k ih=>
   intro hk;have ih:=ih zaa;have UD:k<s.data.toList.length:=zaa;obtain⟨x,hx⟩:∃x,s.data.toList[k]?=some x:=⟨_,Ou UD⟩;have hb:Go.PlainAid.bt s k=(x.toNat:Int):=by
    obtain⟨h1,rfl⟩:=Oz.1 hx;have h2:k<s.size:=h1;unfold Go.PlainAid.bt;rw[dif_pos h2];rfl
   have he:s.extract k (k+1)=mk [x]:=by
    have h1:(s.extract k (k+1)).data.toList=[x]:=by
     rw[QE,Array.toList_extract,List.extract_eq_take_drop,show k+1-k=1 by omega,List.take_one,List.head?_drop,hx];rfl
    generalize s.extract k (k+1)=z at h1;obtain⟨⟨z⟩⟩:=z;have h1:z=[x]:=h1;rw[h1];rfl
   rw[PQ,hx,Th,Ek,U.bO,ih,hb,he];by_cases h:x=c
   ·rw[OD (by rw[h]),OD h,Pk];rfl
   ·have TU:¬((x.toNat:Int)=(c.toNat:Int)):=fun e=>h (SX.1 zaa);rw[OB TU,OB h,Qw,OK,OF]
    congr 1
    cases(sp c (s.data.toList.take k) [])[(sp c (s.data.toList.take k) []).length-1]? with
    |none=>rfl
    |some l=>simp[mk];rfl
 have:=key s.data.toList.length (Ow _);rw[Pw]at this;exact this
def I4(P:List ()):U.Got:=match U.syn P with
 |some i=>.fault 2 ((i:Int)+1)
 |none=>match U.aZ (U.aK P (P.length-1)) (P.length-1) with
  |none=>.fault 3 (U.gV (U.aK P (P.length-1)) (P.length-1))
  |some S=>match U.dW S S.length with
   |some l=>.fault 3 l
   |none=>match J.br S P (P.length-1) with
    |some i=>.fault 4 ((i:Int)+1)
    |none=>.fu S
theorem Lm(l:List UInt8)(h:l.length<=1500):J.read (mk l)=I4 ((sp 10 l []).map mk):=by
 have h1:U.cut (mk l) 10=(sp 10 l []).map mk:=MD (mk l) 10;unfold J.read;rw[OB (by show ¬1500<l.length;omega),h1];rfl
def okK(l:List UInt8):Bool:=decide (l.length<=1500)&&match I4 ((sp 10 l []).map mk) with|.fu S=>Y.quiet S|.fault _ _=>false
theorem Ma(hk:k<12):okK (kt k)=true:=Ro.1 (show((List.range 12).all fun k=>okK (kt k))=true by kernel_rfl) k (PD.2 hk)
theorem LD(hk:k<12):(mk (kt k)).size<=1073741824:=by
 have h:=Ma hk;unfold okK at h;rw[O2]at h;have h1:=QL h.1;show(kt k).length<=_;omega
theorem Aq{k:Nat}(hk:k<12):∃S,J.read (mk (kt k))=.fu S/\Y.quiet S=true:=by
 have h:=Ma hk;unfold okK at h;rw[O2]at h;have hs:=QL h.1;rw[Lm _ hs];cases hr:I4 ((sp 10 (kt k) []).map mk) with
 |fault c l=>rw[hr]at h;cases h.2
 |fu S=>
  rw[hr]at h;exact⟨S,rfl,h.2⟩
end F
namespace Y
def fuelN(fe:Nat):Nat:=if fe=6 then 6 else 0
theorem Ge(fe:Nat)(w:World)(hg:uC w):
  () 16 #[fuelV fe] w fun ev w'=>ev=.returned (.tuple #[.int .i64 (fuelN fe),(0:Int)])/\Below w w w':=by
 unfold fuelV fuelN;by_cases h:fe=6
 ·rw[OD h,OD h];exact ui 6 w hg
 ·rw[OB h,OB h];exact Bh w
def BB(s:())(w:World)(e:Ending)(w':World):Prop:=Below w w w'/\match J.read s with
 |.fault c l=>e=.returned (.tuple #[.pointer none,.slice none 0 0,.int .i64 c,.int .i64 l])
 |.fu S=>∃xb sb p r,e=.returned (.tuple #[.pointer (some ⟨xb,0,none⟩),.slice (some ⟨sb,0,none⟩) 1 1,.int .i64 (fuelN r.fin),.int .i64 0])/\Ses w' w.heap.size xb p r/\r.now=0/\(quiet S=true->r.fin=0)/\StM w' S sb p r
theorem StM.aq{W W':World}{S:List U.State}{p:Par}{r:RSt}(h:StM W S sb p r)(hb:Below W W W'):StM W' S sb p r:=by
 obtain⟨sv,a,b,c,d,e,f⟩:=h;exact⟨sv,a,b,c,(hb.block _ (Ov.1 d).1).trans d,e.str (.bel hb),f⟩
end Y
theorem J.I6{c l:Int}(h:J.read s=.fault c l):0<c:=by
 unfold J.read at h
 repeat' split at h
 all_goals first|(cases h;decide)|cases h
theorem lD(s:())(w:World)(hv:xi w)(hs:s.size<=1073741824):
  () 13 #[s] w (Y.BB s w):=by
 have HL:Hid _:=Df s w hv hs;have HV:Hid _:=hv;clear hv;go_enter func13,ntmps13;go_wp2_with fail;refine OI HL.out ?_;rintro e w1 ⟨TM,hp⟩;cases hR:J.read s with
 |fault c l=>
  rw[hR]at hp;obtain⟨b,rfl,V5⟩:=hp;have XD:Hid _:=hR;have HT:Hid _:=Dj b c l w1 (HV.out.aq TM).uK V5;clear hR V5;dsimp only;go_wp2_with fail;refine OI HT.out ?_;rintro e w2 ⟨rfl,TP⟩;have HB:Hid _:=TM.trans (TP.mono TM.size);clear TP TM;dsimp only;go_wp2
  (try simp only[Exit.inBlock,Exit.then])
  refine Qb (ph rfl _ _ _) rfl ?_;unfold Y.BB;rw[XD.out];exact⟨HB.out,rfl⟩
 |fu S=>
  rw[hR]at hp;obtain⟨xb,sb,p,r,rfl,h1⟩:=hp;have XD:Hid _:=hR;have HT:Hid _:=Y.Ge r.fin w1 (HV.out.aq TM).uK;have H1:Hid _:=h1;clear hR h1;dsimp only;go_wp2_with fail;refine OI HT.out ?_;rintro e w2 ⟨rfl,TP⟩;have HB:Hid _:=TM.trans (TP.mono TM.size);have HB2:Hid _:=TP;clear TP TM;dsimp only;go_wp2
  (try simp only[Exit.inBlock,Exit.then])
  refine Qb (ph rfl _ _ _) rfl ?_;unfold Y.BB;rw[XD.out];exact⟨HB.out,xb,sb,p,r,rfl,H1.out.1.aq HB2.out,H1.out.2.1,H1.out.2.2.1,H1.out.2.2.2.aq HB2.out⟩
namespace Y
def evK(an:RSt->()->RSt)(r:RSt)(ev:()):List (()×RSt)×RSt:=if r.fin=0 then([(ev,bY an r ev)],bY an r ev) else([],r)
def ckK(an:RSt->()->RSt)(r:RSt)(t:Nat):List (()×RSt)×RSt:=if r.fin=0 then eQ an t 201 0 r else([],r)
def zS(r r':RSt):Nat:=if r.fin=0 then(if r'.fin=6 then 6 else 0) else r.fin
theorem LN.one{W:World}{n0:Nat}{ps:List PS}{ev:()}{r:RSt}{sv:Value}(h:W.heap[sb]?=some (.cells #[ev,.int .u64 r.now,sv] 38 (0,0)))(hn:Nms W n0 sv ((els r.act).map (bJ ps)))(hb:n0<=sb):LN W n0 n0 ps (.slice sb 1 1) [(ev,r)]:=
 ⟨[sv],rfl,⟨rfl,.inr ⟨sb,1,_,rfl,hb,h,Ow _,zah,rfl,rfl⟩⟩,fun y hy=>by
  obtain rfl:=OE.1 hy;exact hn⟩
theorem LN.nil{W:World}{n0:Nat}{ps:List PS}:LN W n0 n0 ps (.slice none 0 0) []:=⟨[],rfl,Pt ..,fun y hy=>by cases hy⟩
end Y
section
variable (w:World)(n0 xb:Nat)(p:Y.Par)(r:Y.RSt)
def Y.Tld(z:List (()×Y.RSt)×Y.RSt)(l:Value)(k:Nat)(V:World):Prop:=k=Y.zS r z.2/\Y.Ses V n0 xb p z.2/\Y.LN V p.lo p.lo p.ps l z.1/\Y.Rf p.lo w V/\Y.iL w V
variable {w n0 xb p r}
theorem Y.Tld.uK(h:Y.Tld w n0 xb p r z l k V)(hE:Y.uC w)(hg:0<n0):Y.uC V:=by
 obtain⟨_,h1,_,hf,_⟩:=h;exact(hf.bel.cell (p:=⟨0,0,none⟩) (OS hg h1.n0)).trans hE
theorem Y.Tld.aq{V':World}(h:Y.Tld w n0 xb p r z l k V)(hb:Below V V V'):Y.Tld w n0 xb p r z l k V':=by
 obtain⟨h4,h5,h6,h7,h8⟩:=h;exact⟨h4,h5.aq hb,h6.no (bE hb),h7.trans (Y.RfE.of hb h5.lv.mt.lo'),h8.trans (.bel hb)⟩
theorem Kt(h:Y.Ses w n0 xb p r)(hE:Y.uC w)(hg:0<n0)(Um:∀ev:(),ev.size<=1000000->Bv ev)(ev:())(Vg:ev.size<=1000000):
  () 8 #[xb,ev] w fun e w'=>∃l,∃k:Nat,e=.returned (.tuple #[l,(k:Int)])/\Hid (Y.Tld w n0 xb p r (Y.evK p.an r ev) l k w'):=by
 refine OI (tE w xb p.mb (Y.Tld w n0 xb p r (Y.evK p.an r ev)) h.at' (fun l k V hV=>hV.uK hE hg) ev ((Fb w _ _ _ _ _ _ _ _ _ _ _ _ _ _ _ _ _ _ _ r ev h.lv Vg (Um ev Vg)).mono fun e w' hw=>?_)) ?_
 ·unfold Y.xj at hw;by_cases hf:r.fin=0
  ·rw[OD hf]at hw;rw[show Y.evK p.an r ev=([(ev,Y.bY p.an r ev)],Y.bY p.an r ev) from OD hf];obtain⟨sb,sv,rfl,h5,h6,h7,h8,h9,h10⟩:=hw;obtain⟨k,e1,e2⟩:=Y.fuel_err _ h7.qk.fin;exact⟨_,k,by rw[<- e1],by unfold Y.zS;rw[OD hf];exact e2,⟨h8.kd.aq _ _ _ _ h.at' zaP |>.trans h.at',h.lo,h.n0,h7⟩,.one h5 h6 h9,h8,h10⟩
  ·rw[OB hf]at hw;rw[show Y.evK p.an r ev=([],r) from OB hf];exact zd0
 ·exact zeW
theorem Kg(h:Y.Ses w n0 xb p r)(hE:Y.uC w)(hg:0<n0)(Um:∀ev:(),ev.size<=1000000->Bv ev)(t:Nat)(ht:t<18446744073709551616):
  () 9 #[xb,.int .u64 t] w fun e w'=>∃l,∃k:Nat,e=.returned (.tuple #[l,(k:Int)])/\Hid (Y.Tld w n0 xb p r (Y.ckK p.an r t) l k w'):=by
 refine OI (tC w xb p.mb (Y.Tld w n0 xb p r (Y.ckK p.an r t)) h.at' (fun l k V hV=>hV.uK hE hg) t ((EW w _ _ _ _ _ _ _ _ _ _ _ _ _ _ _ _ _ _ _ r t h.lv ht Um).mono fun e w' hw=>?_)) ?_
 ·unfold Y.pN at hw;by_cases hf:r.fin=0
  ·rw[OD hf]at hw;rw[show Y.ckK p.an r t=Y.eQ p.an t 201 0 r from OD hf];obtain⟨sv,rfl,_,h6,h7,h8,h9⟩:=hw;obtain⟨k,e1,e2⟩:=Y.fuel_err _ h7.qk.fin;exact⟨_,k,by rw[<- e1],by unfold Y.zS;rw[OD hf];exact e2,⟨h8.kd.aq _ _ _ _ h.at' zaP |>.trans h.at',h.lo,h.n0,h7⟩,h6,h8,h9⟩
  ·rw[OB hf]at hw;rw[show Y.ckK p.an r t=([],r) from OB hf];exact zd0
 ·exact zeW
end
end
section
open Go.RowKit Go.Proofs Go.Shelf Lg
namespace Y
variable {S:List U.State}
theorem pM{x:MS}(hx:(X0 S)[i]?=some x):i<S.length/\x.kind=J.al (J.sAt S i)/\x.owner=(J.sAt S i).up/\x.name=(J.sAt S i).name:=by
 unfold X0 at hx;rw[OF]at hx;obtain⟨y,hy,rfl⟩:=O0.1 hx;have e:J.sAt S i=y:=by unfold J.sAt;rw[OJ,hy];rfl
 rw[e];exact⟨(Oz.1 hy).1,rfl,rfl,rfl⟩
theorem Ev(hC:J.gw S):uE (X0 S) where
 own:=fun i x hx=>by
  obtain⟨hi,_,e,_⟩:=pM hx;have:=hC.shp.wf i hi;rw[e];exact zej
 leaf:=fun i x hx=>by
  obtain⟨hi,e,_⟩:=pM hx;have hw:=(hC.low _ (k9 hi)).2;obtain⟨k,k0,k4,k1,k2⟩:=id hw;have hk:=J.eY k0 k4 k1 k2;by_cases q0:k=0
  ·exact .inl (by rw[e,hk,q0])
  by_cases q1:k=1
  ·exact .inr (.inl (by rw[e,hk,q1]))
  refine .inr (.inr fun j y hy ho=>?_);obtain⟨hj,_,e2,_⟩:=pM hy;have hl:=hC.shp.leaf j hj zaa;rw[show(J.sAt S j).up.toNat=i by omega]at hl;by_cases q2:k=2
  ·have:=J.lu hw;rw[hk,q2,Pe rfl]at this;exact hl.1 (Sc.1 this)
  ·have:=xW hw (by rw[hk];unfold isH;rcases(show k=3\/k=4 by omega) with rfl|rfl<;>rfl);rw[hl.2]at this;cases this
 his:=fun i x hx hk=>by
  obtain⟨hi,e,e2,_⟩:=pM hx;rw[e]at hk;have:=hC.shp.hup i hi (xW (hC.low _ (k9 hi)).2 hk);rw[e2];omega
 len:=by unfold X0;rw[OK];exact hC.shp.len
variable {h:uE (X0 S)}
theorem xx(r:RSt)(ev:())(g:Inv (X0 S) h r):Inv (X0 S) h (anS S r ev):=GN g (fun y hy=>by
 obtain⟨z,hz,rfl⟩:=O7.1 hy;exact oE h.own h.his _ z hz) (fun o y hy=>by
 unfold mvB at hy;split at hy
 ·obtain⟨m,_,rfl⟩:=O7.1 hy;exact⟨_,rfl⟩
 ·cases hy) _ _ ev
theorem Eo(hp:0<S.length):Inv (X0 S) h (stS S):=by
 have hW:=rK (h:=h);have h0l:0<(X0 S).length:=by unfold X0;rw[OK];exact hp
 have ho:js (X0 S) 0=none:=by
  cases e:js (X0 S) 0 with
  |none=>rfl
  |some o=>have:=(trX (X0 S) h).lt e;omega
 have hH:¬(trX (X0 S) h).H 0:=fun x=>by
  have hx:=Ou h0l
  rcases h.own 0 _ hx with q|⟨o,_,q⟩
  ·exact h.his 0 _ hx (x _ hx) q
  ·omega
 have g:=hW.first hH ho;obtain⟨e1,e2⟩:=pY (psF (X0 S)) (bn (X0 S) (X0 S).length) (EN0 S) (els (bW (psF (X0 S)) 0)) r0;refine qn xx 60 _ ⟨L.congr g fun i=>(e2 i).trans ⟨fun x=>?_,fun x=>?_⟩,fun d u _ _=>.inl (by rw[e1];rfl)⟩
 ·rcases x with x|x
  ·simp[Bt,r0]at x
  ·exact(cC.1 x).2
 ·have:i<(X0 S).length:=(trX (X0 S) h).top (g.un i x).2;exact .inr (cC.2 ⟨by have:=h.len;omega,x⟩)
theorem Ku{r:RSt}(g:Inv (X0 S) h r)(ev:()):(∀x∈(evK (anS S) r ev).1,Inv (X0 S) h x.2)/\Inv (X0 S) h (evK (anS S) r ev).2:=by
 unfold evK;split
 ·have:=wU xx g ev;exact⟨fun x hx=>by rw[OE.1 hx];exact this,this⟩
 ·exact zfK
theorem Kh{r:RSt}(g:Inv (X0 S) h r)(t:Nat):(∀x∈(ckK (anS S) r t).1,Inv (X0 S) h x.2)/\Inv (X0 S) h (ckK (anS S) r t).2:=by
 unfold ckK;split
 ·exact zE xx t 201 0 r g
 ·exact zfK
end Y
end
section
open Go.RowKit Go.Proofs Go.Shelf
open Go.PlainAid (bt)
namespace F
structure Rw where
 word:()
 name:()
 depth:Int
 up:Int
def eR(x:U.State):Rw:=⟨x.word,x.name,x.depth,x.up⟩
def upR(R:List Rw)(d:Int):Nat->Int
 |0=>-1
 |k+1=>match R[k]? with|some y=>if y.depth=d-1 then(k:Int) else upR R d k|none=>upR R d k
def stW(w:()):Bool:=w.toList == U.cy||(w.toList == U.aE||(w.toList == U.bT||w.toList == U.aO))
def ew(R:List Rw)(t:()):List Rw:=if 2<=(U.cut (U.rest t) 32).length/\stW (U.at' (U.cut (U.rest t) 32) 0)=true then R++[⟨U.at' (U.cut (U.rest t) 32) 0,U.at' (U.cut (U.rest t) 32) 1,(U.aY t:Int),upR R (U.aY t) R.length⟩] else R
theorem Lz(l:List ())(n:Nat)(h:(U.said l n).kind≠0):(2<=l.length/\stW (U.at' l 0)=true/\(U.said l n).kind=115/\(U.said l n).word=U.at' l 0/\(U.said l n).name=U.at' l 1)\/(¬(2<=l.length/\stW (U.at' l 0)=true)/\(U.said l n).kind≠115):=by
 obtain⟨x,hx⟩:∃x,U.said l n=x:=⟨_,rfl⟩;rw[hx]at h⊢;have hz:U.gE=x->False:=fun e=>h (by rw[<- e];rfl);unfold U.said at hx;by_cases hl:l.length<2
 ·rw[OD hl]at hx;exact(hz hx).elim
 rw[OB hl]at hx;unfold stW;by_cases h1:(U.is l 0 U.cy||(U.is l 0 U.aE||U.is l 0 U.bT))=true
 ·rw[OD h1]at hx;split at hx
  ·subst hx;refine .inl ⟨zaa,?_,rfl,rfl,rfl⟩;rw[<- Bool.or_assoc,<- Bool.or_assoc,Bool.or_assoc ((U.at' l 0).toList == U.cy)];unfold U.is at h1;rw[h1];rfl
  ·exact(hz hx).elim
 rw[OB h1]at hx;by_cases h2:U.is l 0 U.aO=true
 ·rw[OD h2]at hx;split at hx
  ·subst hx;refine .inl ⟨zaa,?_,rfl,rfl,rfl⟩;unfold U.is at h2;rw[h2];simp
  ·exact(hz hx).elim
 rw[OB h2]at hx;refine .inr ⟨fun e=>?_,?_⟩
 ·unfold U.is at h1 h2;simp only[Bool.or_eq_true,not_or]at h1 h2 e
  rcases e.2 with e|e|e|e
  ·exact h1.1 e
  ·exact h1.2.1 e
  ·exact h1.2.2 e
  ·exact h2 e
 ·by_cases h3:(U.is l 0 U.kI||U.is l 0 U.nI)=true
  ·have hb:bt (U.at' l 0) 0≠115:=by
    unfold U.is at h3;rw[Rb,Sc,Sc,R1]at h3;have e0:∀c:List UInt8,(U.at' l 0).data.toList=c->U.at' l 0=⟨c.toArray⟩:=fun c e=>ByteArray.ext (by rw[<- e])
    rcases h3 with e|e<;>(rw[e0 _ e];decide)
   repeat' split at hx
   all_goals first
    |exact(hz hx).elim
    |(subst hx;first|exact hb|exact(show(109:Int)≠115 by decide))
  ·rw[OB h3]at hx
   repeat' split at hx
   all_goals first
    |exact(hz hx).elim
    |(subst hx;exact(show(109:Int)≠115 by decide))
theorem JG{S:List U.State}{d:Int}:∀k,k<=S.length->0<=U.fh S d k->upR (S.map eR) d k=U.fh S d k
 |0,_,h=>by unfold U.fh at h;omega
 |k+1,hk,h=>by
  have e:S.getD k U.st0=S[k]:=by rw[OJ,Ou zaa];rfl
  unfold upR U.fh at *;rw[OF,Ou zaa];rw[e]at h⊢;simp only[Option.map_some];show(if S[k].depth=d-1 then _ else _)=_;by_cases h1:S[k].depth=d-1
  ·rw[OD h1,OD h1]
  ·rw[OB h1]at h⊢;rw[OB h1];by_cases h2:S[k].depth<d-1
   ·rw[OD h2]at h;omega
   ·rw[OB h2]at h⊢;exact JG k zaa h
theorem uv{R:List Rw}(h:∀x∈R,0<=x.depth):∀k,upR R 0 k=-1
 |0=>rfl
 |k+1=>by
  unfold upR;split
  ·rename_i y hy;rw[OB (by have:=h y (OG hy);omega)];exact uv h k
  ·exact uv h k
theorem LP(S:List U.State)(k:Nat){f:U.State->U.State}(hf:∀p,eR (f p)=eR p):(U.gu S k f).map eR=S.map eR:=by
 unfold U.gu;by_cases hk:k<S.length
 ·refine Y.iQ eR S k S[k] _ (Ou hk) ?_;rw[hf,OJ,Ou hk];rfl
 ·rw[RD zaa]
theorem LH{S S':List U.State}{n:Nat}{t:()}(hk:(U.eJ t n).kind≠0)(h0:∀x∈S,0<=x.depth)(h:U.bk S i (U.eJ t n) (U.aY t)=some S'):S'.map eR=ew (S.map eR) t/\∀x∈S',0<=x.depth:=by
 have hw:=Lz (U.cut (U.rest t) 32) (n+1) hk;obtain⟨x,hx⟩:∃x,U.eJ t n=x:=⟨_,rfl⟩;rw[show U.said (U.cut (U.rest t) 32) (n+1)=x from hx]at hw;rw[hx]at h;clear hx hk;have hsame:S'.map eR=S.map eR->∀x∈S',0<=x.depth:=fun e x hx=>by
  have:=Qt (f:=eR) hx;rw[e]at this;obtain⟨y,hy,e⟩:=O7.1 this;have e:y.depth=x.depth:=congrArg Rw.depth e;have:=h0 y hy;omega
 unfold U.bk at h;by_cases h1:0<(U.aY t:Int)/\U.dr S (U.aY t)<0
 ·rw[OD h1]at h;cases h
 rw[OB h1]at h;have hup:upR (S.map eR) (U.aY t) (S.map eR).length=U.dr S (U.aY t):=by
  rw[OK];unfold U.dr at h1⊢;by_cases e:0<(U.aY t:Int)
  ·rw[OD e]at h1⊢;exact JG _ (Ow _) zaa
  ·rw[OB e,show(U.aY t:Int)=0 by omega];exact uv (fun x hx=>by obtain⟨y,hy,rfl⟩:=O7.1 hx;exact h0 y hy) _
 rcases hw with⟨w1,w2,w3,w4,w5⟩|⟨w1,w2⟩
 ·rw[OD w3]at h;split at h
  ·cases h
   refine⟨?_,fun y hx=>?_⟩
   ·unfold ew;rw[OD ⟨w1,w2⟩,hup,Pk];rw[<- w4,<- w5];rfl
   ·rcases OT.1 hx with hx|hx
    ·exact h0 _ hx
    ·rw[OE.1 hx];exact Tc _
  ·cases h
 ·rw[OB w2]at h;have hS:S'.map eR=S.map eR:=by
   repeat' split at h
   all_goals first
    |(cases h;done)
    |(cases h;rfl)
    |(cases h;exact LP S _ fun p=>rfl)
  exact⟨by unfold ew;rw[OB w1];exact hS,hsame hS⟩
theorem Eh{P:List ()}{n:Nat}(hn:n<=P.length)(hk:∀j,j<n->(U.eJ (U.pc P j) j).kind≠0):∀(i:Nat) (S:List U.State),i<=n->U.aZ (U.aK P n) i=some S->S.map eR=(P.take i).foldl ew []/\∀x∈S,0<=x.depth
 |0,S,_,h=>by cases h;exact⟨rfl,fun x hx=>zau⟩
 |i+1,S,hi,h=>by
  rw[U.aZ]at h;cases ht:U.aZ (U.aK P n) i with
  |none=>rw[ht]at h;cases h
  |some S0=>
   rw[ht]at h;obtain⟨e1,e2⟩:=Eh hn hk i S0 zaa ht;have hl:(U.aK P n)[i]?=some (U.eJ (U.pc P i) i,(U.aY (U.pc P i):Int)):=by
    unfold U.aK;rw[OF,RF zaa];rfl
   rw[hl]at h;obtain⟨f1,f2⟩:=LH (hk i zaa) e2 h;refine⟨?_,f2⟩;rw[f1,e1,PQ,Px,show P[i]?=some (U.pc P i) by unfold U.pc;rw[OJ,Ou zaa];rfl,Th,QB,List.foldl_nil]
theorem wM{P:List ()}:∀k,U.lg P k=none->∀j,j<k->(U.eJ (U.pc P j) j).kind≠0
 |0,_,j,hj=>by omega
 |k+1,h,j,hj=>by
  unfold U.lg at h;split at h
  ·cases h
  ·rename_i hs;split at h
   ·cases h
   ·by_cases e:j=k
    ·rw[e];assumption
    ·exact wM k hs j zaa
theorem FX{S:List U.State}(h:J.read s=.fu S):S.map eR=((U.cut s 10).take ((U.cut s 10).length-1)).foldl ew []:=by
 unfold J.read at h;split at h
 ·cases h
 ·split at h
  ·cases h
  ·rename_i hs;split at h
   ·cases h
   ·rename_i S' ht;split at h
    ·cases h
    ·split at h
     ·cases h
     ·cases h
      refine(Eh zaa (wM _ ?_) _ S (Ow _) ht).1;unfold U.syn at hs;split at hs
      ·cases hs
      ·assumption
end F
end
section
open Go.RowKit Go.Proofs Go.Shelf
namespace Y
def Mc(v:Value):Prop:=(∃a,v=.pointer a)\/∃i,v=.int .u64 i
def N4(W:World)(k:Nat):Prop:=∀v,W.cell? k=some v->Mc v
def pI(t:TypeId):Prop:=gq t\/t=38
section
variable {w w':World}{lo pb b cap:Nat}{ps:List PS}{fin:Nat}{EN LV:Nat->List PA}{hvs:U.Sl}{H:List HV}{D:Nat->Bool}{mbm n:Nat}{T:()->Option (List (Option PM))}{M:()->Option Nat}{Lr:Nat->List (Option Nat)}{pmF:Nat->PM}{acF:Nat->List PA}
theorem jW.sep(h:jW w lo pb b cap ps fin EN LV hvs H D mbm n T M Lr pmF acF)(hk:Kd pI w w')(ho:KeepsOthers w w')(hb:Below 0 w w')(hs:∀(k:Nat) (v:Value),k<lo->w.cell? k=some v->¬Mc v->w'.heap[k]?=w.heap[k]?):jW w' lo pb b cap ps fin EN LV hvs H D mbm n T M Lr pmF acF:=by
 have T8:w'.heap[pb]?=w.heap[pb]?:=hs pb _ h.bG.pb' h.bG.bG.row (by rintro(⟨_,e⟩|⟨_,e⟩)<;>cases e);have hc:∀i,w'.cell? ⟨pb,i,none⟩=w.cell? ⟨pb,i,none⟩:=fun i=>OO (a:=⟨pb,i,none⟩) T8;have hA:∀(v:U.Sl) (L:List PA),fW w lo v L->fW w' lo v L:=fun v L a=>⟨a.n,a.cap,fun k x hx=>by
  obtain⟨ab,a1,a2,a3⟩:=a.cell k x hx;obtain⟨x0,h0⟩:∃x0,L[0]?=some x0:=⟨_,Ou (by have:=(Oz.1 hx).1;omega)⟩;obtain⟨ab',b1,_,b3⟩:=a.cell 0 x0 h0;rw[a1]at b1;cases b1
  exact⟨ab,a1,a2,(OO (a:=⟨ab,k,none⟩) (hs ab _ a2 b3 (by cases x0<;>(rintro(⟨_,e⟩|⟨_,e⟩)<;>cases e)))).trans a3⟩,a.ok,a.len⟩
 refine⟨⟨⟨(hc 0).trans h.bG.bG.row,fun i p hi=>?_,h.bG.bG.sm,h.bG.bG.len⟩,h.bG.pb',h.bG.b',(hc 2).trans h.bG.f2,h.bG.finl,h.bG.own,h.bG.pts,fun i p hp=>hA _ _ (h.bG.en i p hp),fun i p hp=>hA _ _ (h.bG.lv i p hp),h.bG.lw⟩,⟨(hc 1).trans h.hist.c1,Kd.row hk h.hist.row zaQ,fun k y hy=>?_,h.hist.len⟩,⟨T8.trans h.mov.pl,h.mov.tab.kd (P:=(·≠mbm)) hk (fun t ht=>?_) zaQ ⟨hb.os,hb.tape,hb.output,hb.size,fun k hk hn=>?_⟩ (fun h=>h rfl)⟩,fun ev g i m a b=>?_,h.N,h.inn⟩
 ·obtain⟨p0,h0⟩:∃p0,ps[0]?=some p0:=⟨_,Ou (by have:=(Oz.1 hi).1;omega)⟩;have hc0:=(h.bG.bG.at' 0 p0 h0).c0;have V5:=hs b _ h.bG.b' hc0 (by rintro(⟨_,e⟩|⟨_,e⟩)<;>cases e);refine(h.bG.bG.at' i p hi).mo (P:=(·≠b)) ⟨hb.os,hb.tape,hb.output,hb.size,fun k _ hn=>?_⟩ (OW _ _ hc0) (fun h=>h rfl);obtain rfl:k=b:=Qf hn;exact V5
 ·obtain⟨a,b,po,c,d⟩:=h.hist.aq k y hy;exact⟨a,b,po,c,d.kd hk zaQ zaQ⟩
 ·rcases ht with rfl|rfl|rfl|rfl|rfl<;>(unfold pI gq;decide)
 ·obtain rfl:k=mbm:=Qf hn;obtain⟨es,cl,hm⟩:=h.mov.tab.map.kind;exact(ho.same k _ hm rfl).trans hm.symm
 ·have hm:=h.mva ev g i m a b;exact⟨hm.at'.kd hk (fun t ht=>by rcases ht with rfl|rfl|rfl|rfl|rfl<;>(unfold pI gq;decide)),hm.own,hm.lv,hA _ _ hm.aw,hm.en⟩
end
theorem Io{W W':World}(hm:Mo P W W')(hP:∀k,P k->∃c t f,W.heap[k]?=some (.cells c t f)):KeepsOthers W W':=⟨hm.size,fun k o hk ho=>(hm.block k (Ov.1 hk).1 (fun hp=>by
 obtain⟨c,t,f,h1⟩:=hP k hp;rw[hk]at h1;cases h1
 cases ho)).trans hk⟩
def Own(O:Nat->Prop)(W:World)(k:Nat):Prop:=O k/\N4 W k/\∃c t f,W.heap[k]?=some (.cells c t f)/\gq t
section
variable {W W':World}{n0 xb:Nat}{p:Par}{r:RSt}
theorem Ses.stp(h:Ses W n0 xb p r)(hm:Mo P W W')(hP:∀k,P k->p.lo.n<=k/\∃c,W.heap[k]?=some (.cells c 38 (0,0))):Ses W' n0 xb p r:=by
 have hl0:=h.lv.mt.lo';have hk:Kd pI W W':=gO hm (fun k c t f hp hc=>by
  obtain⟨_,c',h1⟩:=hP k hp;rw[hc]at h1;cases h1
  exact .inr rfl)
 have hb:Below p.lo.n W W':=⟨hm.os,hm.tape,hm.output,hm.size,fun k hk=>hm.block k (OS hk hl0) (fun hp=>zbZ)⟩;have Xj:∀k,P k->∃c t,W.heap[k]?=some (.cells c t (0,0))/\¬cR t:=fun k hk=>by
  obtain⟨_,c,hc⟩:=hP k hk;exact⟨c,_,hc,qd⟩
 exact⟨(hk.aq _ _ _ _ h.at' zaQ).trans h.at',h.lo,h.n0,⟨jW.sep h.lv.run hk (Io hm (fun k hk=>by obtain⟨c,t,h,_⟩:=Xj k hk;exact⟨c,t,_,h⟩)) (hb.mono (OL _)) (fun k v hk _ _=>hb.block k hk),h.lv.sz,h.lv.sza,h.lv.mt.moU h.lv.run.bG.lw hm (fun k hk=>⟨(hP k hk).1,Xj k hk⟩),h.lv.ok,h.lv.qk,h.lv.q0,h.lv.idl.moU h.lv.mt hm Xj⟩⟩
end
structure Sn(W:World)(n0 xb b:Nat)(ps:List PS)(an:RSt->()->RSt)(r:RSt)(O:Nat->Prop):Prop where
 ex:∃p:Par,Ses W n0 xb p r/\p.lo.n=b/\p.ps=ps/\p.an=an/\∀k,k<W.heap.size->p.lo.ok k->O k
 own:∀k,O k->n0<=k/\k<W.heap.size
def Gr(O:Nat->Prop)(W W':World)(k:Nat):Prop:=O k\/W.heap.size<=k/\k<W'.heap.size
def An(W:World)(n0 xb b:Nat)(ps:List PS)(an:RSt->()->RSt)(r:RSt)(O:Nat->Prop)(z:List (()×RSt)×RSt)(l:Value)(k:Nat)(W':World):Prop:=k=zS r z.2/\Sn W' n0 xb b ps an z.2 (Gr O W W')/\LN W' b b ps l z.1/\Mo (Own O W) W W'
end Y
namespace F
def BA(W:World)(v:U.Sl)(N:List ()):Prop:=v.n=N.length/\N.length<=v.c/\N.length<=32/\∀(k:Nat) (x:()),N[k]?=some x->∃g,v.a=some ⟨g,0,none⟩/\W.cell? ⟨g,k,none⟩=some ↑x
def BE(W:World)(v:U.Sl)(L:List (()×Nat×List ())):Prop:=v.n=L.length/\L.length<=v.c/\∀(k:Nat) (x:()×Nat×List ()),L[k]?=some x->∃g sl,v.a=some ⟨g,0,none⟩/\W.cell? ⟨g,k*3,none⟩=some ↑x.1/\W.cell? ⟨g,k*3+1,none⟩=some (.int .u64 x.2.1)/\W.cell? ⟨g,k*3+2,none⟩=some (.slice (U.Sl.a sl) sl.n sl.c)/\BA W sl x.2.2
theorem BA.aq{W W':World}{N:List ()}(h:BA W v N)(hb:Below W W W'):BA W' v N:=⟨h.1,h.2.1,h.2.2.1,fun k x hx=>by
 obtain⟨g,a,c⟩:=h.2.2.2 k x hx;exact⟨g,a,(hb.cell (p:=(g,k)) (OW _ _ c)).trans c⟩⟩
theorem BE.aq{W W':World}{L:List (()×Nat×List ())}(h:BE W v L)(hb:Below W W W'):BE W' v L:=⟨h.1,h.2.1,fun k x hx=>by
 obtain⟨g,sl,a,c1,c2,c3,n⟩:=h.2.2 k x hx;have hg:=OW _ _ c1;exact⟨g,sl,a,(hb.cell (p:=(g,k*3)) hg).trans c1,(hb.cell (p:=(g,k*3+1)) hg).trans c2,(hb.cell (p:=(g,k*3+2)) hg).trans c3,n.aq hb⟩⟩
def tdS(ps:List Y.PS)(x:()×Y.RSt):()×Nat×List ():=(x.1,x.2.now,(Y.els x.2.act).map (Y.bJ ps))
theorem iZ{W:World}{base e size n:Nat}{v:Value}(h:W.ownsRow base e size v n xs):∃sl:U.Sl,v=.slice sl.a sl.n sl.c:=by
 rcases h.2 with⟨h0,_⟩|⟨g,cap,cur,h0,_⟩
 ·exact⟨⟨none,0,0⟩,h0⟩
 ·exact⟨⟨some ⟨g,0,none⟩,n,cap⟩,h0⟩
theorem qg{W:World}{b e size n:Nat}(h:W.ownsRow b e size (.slice v.a v.n v.c) n xs):v.n=n/\n<=v.c:=by
 rcases h.2 with⟨h0,h1⟩|⟨g,cap,cur,h0,_,_,h3,_⟩
 ·simp only[Value.slice.injEq]at h0;omega
 ·simp only[Value.slice.injEq]at h0;omega
theorem EI{w:World}{ops:Array Oper}{rest:List Oper}{o:Oper}{a:Act}{Q:Exit->Act->World->Prop}(hgd:o.guard=none)(s x:Operand)(ho:o.op=.call { callee:=.builtin .append,args:=#[s,x],argTypes:=#[26,26] })
  (base lo:Nat) (ps:List Y.PS) (v u:Value) (A B:List (()×Y.RSt)) (hs:a.eval s=v) (hx:a.eval x=u) (hA:Y.LN w base lo ps v A) (hB:Y.LN w lo lo ps u B) (hn:A.length+B.length<=4000000) (WM:base<=w.heap.size)
  (h:∀(sl:U.Sl) w',Y.LN w' base lo ps (.slice sl.a sl.n sl.c) (A++B)->Mo (fun k=>v.ownBlock=some k) w w'->wpList prog ops Q rest (a.put o.dst (.slice sl.a sl.n sl.c)) w'):wpList prog ops Q (o::rest) a w:=by
 obtain⟨i0,hi,Ue,Ub,Uf⟩:=PZ vR;obtain⟨va,a1,a2,a3⟩:=hA;obtain⟨vb,b1,b2,b3⟩:=hB
 rcases b2.2 with⟨rfl,Xt⟩|⟨g,cap,cur,rfl,c1,c2,c3,c4,c5,c6⟩
 ·obtain rfl:=Qx.1 Xt;refine wpList_append_own_none hgd s x _ ho base _ i0 3 underlying26 hi v A.length _ hs a2 hx ?_;obtain⟨sl,rfl⟩:=iZ a2;exact h sl w ⟨va,by rw[Ra];exact a1,by rw[Ra];exact a2,by rw[Ra];exact a3⟩ (Mo.refl _ _)
 ·have hln:((B.zip vb).flatMap Y.stC).length=B.length*3:=b2.1;refine wpList_append_own _ hgd s x _ ho base _ i0 _ 3 48 underlying26 hi Ue Ub Uf rfl zac v A.length _ hs a2 ⟨g,0,none⟩ B.length cap ((B.zip vb).flatMap Y.stC) hx hln (fun j y hj=>?_) (fun y hy=>?_) zah zaa WM (fun v' w' d1 d2 _=>?_)
  ·rw[<- c6,RV]at hj;split at hj
   ·rw[PN]at hj;simp[Addr.add_lit,World.cell?,c2,hj]
   ·cases hj
  ·obtain⟨z,hz,hy⟩:=Q3.1 hy;obtain⟨na,nc,e⟩:=(b3 z hz).n;unfold Y.stC at hy;rw[e]at hy;simp at hy
   rcases hy with rfl|rfl|rfl<;>rfl
  ·obtain⟨sl,rfl⟩:=iZ d1;have hm:Mo (fun k=>v.ownBlock=some k) w w':=⟨d2.os,d2.tape,d2.output,d2.size,fun k hk hn=>d2.block k hk (fun e=>hn e.symm)⟩;have hk:Kd Y.pI w w':=gO hm (fun k c t f hp hc=>by
    obtain⟨c',TZ⟩:=bS a2 k hp;rw[hc]at TZ;cases TZ
    exact .inr rfl)
   refine h sl w' ⟨va++vb,by simp[a1,b1],?_,fun y hy=>?_⟩ hm
   ·rw[S1 a1.symm,Ph,OM];exact d1
   ·rw[S1 a1.symm]at hy
    rcases OT.1 hy with hy|hy
    ·exact Kd.row hk (a3 y hy) (by unfold Y.pI Y.gq;decide)
    ·exact Kd.row hk (b3 y hy) (by unfold Y.pI Y.gq;decide)
theorem LJ{W:World}{base lo:Nat}{ps:List Y.PS}{L:List (()×Y.RSt)}(h:Y.LN W base lo ps (.slice v.a v.n v.c) L):BE W v (L.map (tdS ps)):=by
 obtain⟨vs,hl,h,hn⟩:=h;refine⟨by rw[OK];exact(qg h).1,by rw[OK];exact(qg h).2,fun k y hy=>?_⟩;rw[OF]at hy;obtain⟨x,hx,rfl⟩:=O0.1 hy;obtain⟨hk,rfl⟩:=Oz.1 hx;obtain⟨g,cap,e⟩:=U.eG h zaa;have h0:=aC h (OL _);rw[e]at h0;simp only[Value.slice.injEq]at e;have hz:(L.zip vs).length=L.length:=by rw[List.length_zip];omega
 have h1:W.ownsRow 0 38 3 (.slice g (L.zip vs).length cap) (L.zip vs).length ((L.zip vs).flatMap Y.stC):=by rw[hz];exact h0
 have hg:(L.zip vs)[k]'(zaa)=(L[k],vs[k]'(zaa)):=List.getElem_zip;have Uq:=hn _ (Pl (show k<(L.zip vs).length by omega));rw[hg]at Uq;obtain⟨sl,hsl⟩:=iZ Uq;have hsl:vs[k]'(zaa)=.slice sl.a sl.n sl.c:=hsl;refine⟨g,sl,e.1,(Row.cell (f:=Y.stC) (n:=3) (fun _=>rfl) h1 (j:=0) zac zaa).trans ?_,(Row.cell (f:=Y.stC) (n:=3) (fun _=>rfl) h1 (j:=1) zac zaa).trans ?_,(Row.cell (f:=Y.stC) (n:=3) (fun _=>rfl) h1 (j:=2) zac zaa).trans ?_,?_⟩
 ·rw[hg];rfl
 ·rw[hg];rfl
 ·rw[hg];show some (vs[k]'(zaa))=_;rw[hsl]
 ·have Uq:Y.Nms W lo (vs[k]'(zaa)) ((Y.els L[k].2.act).map (Y.bJ ps)):=Uq;rw[hsl]at Uq;have Yo:((Y.els L[k].2.act).map (Y.bJ ps)).length<=32:=by
   rw[OK];unfold Y.els;exact Ox (PB _ _) (by rw[QV];exact Ow _)
  show BA W sl ((Y.els L[k].2.act).map (Y.bJ ps));generalize(Y.els L[k].2.act).map (Y.bJ ps)=N at Uq Yo;refine⟨(qg Uq).1,(qg Uq).2,Yo,fun j y hy=>?_⟩;obtain⟨hj,rfl⟩:=Oz.1 hy;obtain⟨g2,cap2,e2⟩:=U.eG Uq zaa;have h0:=aC Uq (OL _);rw[e2]at h0;simp only[Value.slice.injEq]at e2;have:=Row.cell (f:=Y.Dg) (n:=1) (fun _=>rfl) h0 (j:=0) zac hj;rw[RC,S9]at this;exact⟨g2,e2.1,this.trans rfl⟩
end F
def fy(w:World)(g:Nat)(I:List Bool):Prop:=w.heap[g]?=some (.cells (I.map Value.bool).toArray 4 (0,0))
theorem fy.cell{w:World}(h:fy w g I){b:Bool}(hi:I[i]?=some b):w.cell? (g,i)=some (.bool b):=by
 have:w.heap[g]?=some (.cells (I.map Value.bool).toArray 4 (0,0)):=h;simp[World.cell?,this,hi]
theorem fy.frozen{w:World}(h:fy w g I)(i:Nat):w.frozen? (g,i)=false:=by
 have:w.heap[g]?=some (.cells (I.map Value.bool).toArray 4 (0,0)):=h;simp[World.frozen?,this]
theorem fy.set{w:World}(h:fy w g I)(i:Nat)(b:Bool):fy (w.setCell (g,i) (.bool b)) g (I.set i b):=by
 unfold fy;rw[OP w g i _ _ _ h];simp[List.map_set]
theorem H7:(Tryz.prog.info? 4).map (fun i=>(i.zero,i.size,i.bytes))=some (some (.bool false),1,1):=zab
theorem tQ(n:Nat)(hn:n<=4096)(w:World):(Instr.makeSlice 54 (.int .i64 n) (.int .i64 n)).run prog w=.ok (.slice w n n) (w.alloc (.cells (Array.replicate n (.bool false)) 4)):=by
 obtain⟨i0,hi,Ue,Ub,Uf⟩:=PZ H7;have h:=Tu (P:=prog) w 54 4 i0 (.bool false) underlying54 hi Ue .i64 .i64 n n zaa (Int.le_refl _) zbp zbx zaa;rw[h,Ub];simp only[Int.toNat_natCast,Nat.mul_one];have:madeCells (Value.bool false).cells n=Array.replicate n (.bool false):=by
  exact zem
 rw[this]
namespace F
def xm(W:World)(v:U.Sl)(R:List Rw):Prop:=v.n=R.length/\R.length<=v.c/\∀(k:Nat) (x:Rw),R[k]?=some x->∃g,v.a=some ⟨g,0,none⟩/\W.cell? ⟨g,k*4,none⟩=some ↑x.word/\W.cell? ⟨g,k*4+1,none⟩=some ↑x.name/\W.cell? ⟨g,k*4+3,none⟩=some ↑(x.up:Int)
theorem xm.aq{W W':World}{R:List Rw}(h:xm W v R)(hb:Below W W W'):xm W' v R:=⟨h.1,h.2.1,fun k x hx=>by
 obtain⟨g,a,c0,c1,c3⟩:=h.2.2 k x hx;have hg:=OW _ _ c0;exact⟨g,a,(hb.cell (p:=(g,k*4)) hg).trans c0,(hb.cell (p:=(g,k*4+1)) hg).trans c1,(hb.cell (p:=(g,k*4+3)) hg).trans c3⟩⟩
def cnt(p:Nat->Bool):Nat->Nat
 |0=>0
 |n+1=>if p n then cnt p n+1 else cnt p n
theorem sr(p:Nat->Bool):∀n,cnt p n<=n
 |0=>Ow _
 |n+1=>by have:=sr p n;unfold cnt;split<;>omega
theorem ox{p:Nat->Bool}:∀n,(∀i,i<n->p i=false)->cnt p n=0
 |0,_=>rfl
 |n+1,h=>by rw[cnt,h n (RL n)];exact ox n fun i hi=>h i zaa
theorem Hi{p q:Nat->Bool}:∀n,(∀i,i<n->p i=q i)->cnt p n=cnt q n
 |0,_=>rfl
 |n+1,h=>by rw[cnt,cnt,h n (RL n),Hi n fun i hi=>h i zaa]
theorem DY{p:Nat->Bool}:∀n,(∃i,i<n/\p i=true)->(∀i j,i<n->j<n->p i=true->p j=true->i=j)->cnt p n=1
 |0,⟨_,h,_⟩,_=>by omega
 |n+1,⟨i,h,e⟩,u=>by
  rw[cnt];cases hn:p n with
  |false=>
   refine DY n ⟨i,?_,e⟩ fun i j a b=>u i j zaa zaa;have:i≠n:=fun q=>by rw[q,hn]at e;cases e
   omega
  |true=>
   have:=ox (p:=p) n fun j hj=>Q8.2 fun q=>by
    have:=u j n zaa zaa q hn;omega
   rw[this];rfl
def jY(R:List Rw)(k:Int)(i:Nat):Bool:=match R[i]? with|some x=>decide (x.up=k)&&!(x.word.toList == U.aO)|none=>false
def onP(R:List Rw)(E:List Nat)(k:Int)(i:Nat):Bool:=jY R k i&&decide (i∈E)
structure Mk(R:List Rw)(N:List ())(E:List Nat):Prop where
 len:R.length<=24
 n:N.length=E.length
 srt:E.Pairwise (·<·)
 nm:∀(i e:Nat),E[i]?=some e->∃x,R[e]?=some x/\N[i]?=some x.name/\(x.word.toList == U.aO)=false
 uq:∀(i j:Nat) (x y:Rw),R[i]?=some x->R[j]?=some y->x.name=y.name->i=j
 out:∀k:Nat,k<R.length->k ∉ E->cnt (onP R E k) R.length=0
 par:∀(k:Nat) (x:Rw),k∈E->R[k]?=some x->(x.word.toList == U.aE)=true->cnt (onP R E k) R.length=cnt (jY R k) R.length
 one:∀k:Int,-1<=k->k<R.length->(k<0\/k.toNat∈E)->(∀x,R[k.toNat]?=some x->0<=k->(x.word.toList == U.aE)=false)->cnt (jY R k) R.length=0\/cnt (onP R E k) R.length=1
def atF(E:List Nat):Nat->Nat
 |0=>0
 |m+1=>E.getD m 0+1
theorem Mv{E:List Nat}(h:E.Pairwise (·<·)){m e:Nat}(he:E[m]?=some e):atF E m<=e:=by
 cases m with
 |zero=>exact OL _
 |succ m=>
  obtain⟨hm,rfl⟩:=Oz.1 he;have:=List.pairwise_iff_getElem.1 h m (m+1) zaa hm (RL _);show E.getD m 0+1<=_;rw[OJ,Ou zaa];exact this
def ynL(n:Nat)(E:List Nat):List Bool:=(List.range n).map fun i=>decide (i∈E)
theorem qz{n:Nat}(hi:i<n):(ynL n E)[i]?=some (decide (i∈E)):=by
 unfold ynL;rw[OF,RF hi];rfl
theorem LX{n:Nat}:Array.replicate n (Value.bool false)=((ynL n (E.take 0)).map Value.bool).toArray:=by
 rw[<- List.toArray_replicate]
 congr 1
 apply Qo
 intro i;rw[OF];by_cases hi:i<n
 ·rw[qz hi];simp[hi]
 ·rw[OV za4,OV zbi];rfl
theorem LY{n m e:Nat}(he:E[m]?=some e):(ynL n (E.take m)).set e true=ynL n (E.take (m+1)):=by
 apply Qo
 intro i;by_cases hi:i<n
 ·rw[qz hi,PQ,he];by_cases e1:e=i
  ·subst e1;rw[OR zbi];simp
  ·rw[OU e1,qz hi];simp[show ¬i=e from fun q=>e1 q.symm]
 ·rw[OV zbi,OV zbi]
end F
theorem Fw(w:World)(u v:U.Sl)(R:List F.Rw)(N:List ())(E:List Nat)(hu:F.xm w u R)(hv:F.BA w v N)(hL:F.Mk R N E):
  () 10 #[.slice u.a u.n u.c,.slice v.a v.n v.c] w fun e w'=>e=.returned true/\Below w w w':=by
 obtain⟨ua,un,uc⟩:=u;obtain⟨va,vn,vc⟩:=v;obtain⟨h1,h2,_⟩:=id hu;obtain⟨h3,h4,Yo,_⟩:=id hv;dsimp only at h1 h2 h3 h4;subst h1;subst h3;have hR24:=hL.len;have HU:Hid (∀W,Below w w W->F.xm W ⟨ua,R.length,uc⟩ R/\F.BA W ⟨va,N.length,vc⟩ N):=fun W hb=>⟨hu.aq hb,hv.aq hb⟩;have HL:Hid _:=hL;have Wu:=tQ R.length zaa;have HB0:Hid (Below w w (w.alloc (.cells (Array.replicate R.length (.bool false)) 4))/\fy (w.alloc (.cells (Array.replicate R.length (.bool false)) 4)) w.heap.size (F.ynL R.length (E.take 0))):=⟨(Oy _ _).alloc (Ow _) _,by
  unfold fy;rw[OH,<- F.LX]⟩
 clear hu hv hL;go_enter func10,ntmps10;go_wp2
 go_loopw[6,7] (fun a i wr=>∃m:Nat,m<=N.length/\i=.int .i64 m/\a=.int .i64 (F.atF E m)/\Hid (Below w w wr/\fy wr w (F.ynL R.length (E.take m)))) (fun _ i _=>N.length-(intOf i).toNat)
 case atStart=>exact⟨0,OL _,rfl,rfl,HB0⟩
 case round=>
  obtain⟨m,hm,rfl,rfl,HB⟩:=hrel;by_cases TX:m<N.length
  ·obtain⟨e,he⟩:∃e,E[m]?=some e:=⟨_,Ou (by have:=HL.out.n;omega)⟩;obtain⟨x,hx,Yr,hxh⟩:=HL.out.nm m e he;have hel:=(Oz.1 hx).1;have hae:=F.Mv HL.out.srt he;obtain⟨q1,q2⟩:=HU.out wr HB.out.1;obtain⟨gn,rfl,_⟩:=q2.2.2.2 m x.name Yr;obtain⟨g,rfl,_⟩:=q1.2.2 e x hx;have HN:Hid (∀W,Below w w W->W.cell? (gn,m)=some ↑x.name):=fun W hb=>by
    obtain⟨_,e,c⟩:=(HU.out W hb).2.2.2.2 m x.name Yr;cases e
    exact c
   have HC:Hid (∀W (k:Nat) (y:F.Rw),Below w w W->R[k]?=some y->W.cell? ⟨g,k*4,none⟩=some (.string y.word)/\W.cell? ⟨g,k*4+1,none⟩=some (.string y.name)):=fun W k y hb hy=>by
    obtain⟨_,e,c0,c1,_⟩:=(HU.out W hb).1.2.2 k y hy;cases e
    exact⟨c0,c1⟩
   have hlt':((m:Int)<(N.length:Int)):=zaa;have HNX:Hid (F.atF E (m+1)=e+1):=by show E.getD m 0+1=_;rw[OJ,he];rfl
   have XQ:Hid _:=F.LY (n:=R.length) he;generalize F.atF E m=a0 at *;have HX:Hid _:=hx;clear q1 q2 hx Yr he;go_wp2
   go_loopw[6] (fun a wr=>∃b:Nat,b<=e/\a=.int .i64 b/\Hid (Below w w wr/\fy wr w (F.ynL R.length (E.take m)))) (fun a _=>e-(intOf a).toNat)
   case atStart=>exact⟨a0,hae,rfl,HB⟩
   case round=>
    clear HB;obtain⟨b,hb,rfl,HB⟩:=hrel;obtain⟨y,hy⟩:∃y,R[b]?=some y:=⟨_,Ou zaa⟩;have cn:=HN.out wr HB.out.1;have c1:=(HC.out wr b y HB.out.1 hy).2;have hlb:((b:Int)<(R.length:Int)):=zaa;have hlb2:b<R.length:=zaa;by_cases hbe:b<e
    ·have TU:(y.name.toList == x.name.toList)=false:=by
      rw[P5];intro q;have:=HL.out.uq b e y x hy HX.out (ByteArray.ext (by rw[R1,R1]at q;exact Array.ext' q));omega
     have hne2:decide (y.name.toList=x.name.toList)=false:=by simpa using TU
     clear hy;go_wp2_with fail
     go_big_quiet(fail)
     go_wp2
     go_round
     case rel=>exact⟨b+1,zaa,zag,QK HB.out.1 _,HB.out.2⟩
     case measure=>simp[intOf];omega
    ·obtain rfl:b=e:=zaa;cases hy.symm.trans HX.out
     have c0:=(HC.out wr b x HB.out.1 hy).1;have TU:(x.name.toList == x.name.toList)=true:=zad;have hne2:decide (x.name.toList=x.name.toList)=true:=zad;have hh1:(x.word.toList == [104,105,115,116,111,114,121])=false:=hxh;have hh2:decide (x.word.toList=[104,105,115,116,111,114,121])=false:=by simpa using hh1
     have UE:((b:Int) == (R.length:Int))=false:=by rw[P5];omega
     have hbl2:decide ((b:Int)=(R.length:Int))=false:=by rw[decide_eq_false_iff_not];omega
     have Vp:=HB.out.2.frozen b;have VS:=HB.out.2.cell (F.qz (E:=E.take m) hlb2);have HBS:Hid (∀n,Below w w ((wr.drewN n).setCell (w,b) (.bool true))/\fy ((wr.drewN n).setCell (w,b) (.bool true)) w.heap.size (F.ynL R.length (E.take (m+1)))):=fun n=>by
      have h2:fy (wr.drewN n) w.heap.size (F.ynL R.length (E.take m)):=HB.out.2;exact⟨(QK HB.out.1 n).setCell (Ow _) _,by rw[<- XQ.out];exact h2.set b true⟩
     clear hy hxh;go_wp2_with fail
     go_big_quiet(fail)
     go_wp2
     go_round
     case rel=>exact⟨m+1,zaa,zag,by rw[HNX.out];go_num,HBS.out _⟩
     case measure=>simp[intOf];omega
  ·obtain rfl:m=N.length:=zaa;rw[HL.out.n,Pw]at HB;clear Wu HB0;have HN:Hid (∀(k:Nat) W (y:F.Rw),Below w w W->R[k]?=some y->∃g,ua=some ⟨g,0,none⟩/\W.cell? ⟨g,k*4,none⟩=some (.string y.word)/\W.cell? ⟨g,k*4+3,none⟩=some ↑(y.up:Int)):=fun k W y hb hy=>by
    obtain⟨g,e,c0,_,c3⟩:=(HU.out W hb).1.2.2 k y hy;exact⟨g,e,c0,c3⟩
   clear HU;go_wp2
   go_loopw[8,9,10,11,12] (fun k _a _b _i _s wr=>∃q:Nat,q<=R.length+1/\k=.int .i64 ((q:Int)-1)/\Hid (Below w w wr/\fy wr w (F.ynL R.length E))) (fun k _ _ _ _ _=>R.length+1-(intOf k+1).toNat)
   case atStart=>exact⟨0,OL _,rfl,HB⟩
   case round=>
    clear HB;obtain⟨q,hq,rfl,HB⟩:=hrel;by_cases hqn:q<R.length+1
    ·have hlt2:((q:Int)-1<(R.length:Int)):=zaa;go_wp2
     go_loopw[9,10,11] (fun a b i wr=>∃c:Nat,c<=R.length/\i=.int .i64 c/\a=.int .i64 (F.cnt (F.jY R ((q:Int)-1)) c)/\b=.int .i64 (F.cnt (F.onP R E ((q:Int)-1)) c)/\Hid (Below w w wr/\fy wr w (F.ynL R.length E))) (fun _ _ i _=>R.length-(intOf i).toNat)
     case atStart=>exact⟨0,OL _,rfl,rfl,rfl,HB⟩
     case round=>
      clear HB;obtain⟨c,hc,rfl,rfl,rfl,HB⟩:=hrel;by_cases Um:c<R.length
      ·obtain⟨y,hy⟩:∃y,R[c]?=some y:=⟨_,Ou Um⟩;obtain⟨g,rfl,c0,c3⟩:=HN.out c wr y HB.out.1 hy;have VS:=HB.out.2.cell (F.qz (E:=E) Um);have hlc:((c:Int)<(R.length:Int)):=zaa;have hA:=F.sr (F.jY R ((q:Int)-1)) c;have hO:=F.sr (F.onP R E ((q:Int)-1)) c;have HA:Hid (F.cnt (F.jY R ((q:Int)-1)) (c+1)=if(decide (y.up=(q:Int)-1)&&!(y.word.toList == U.aO)) then F.cnt (F.jY R ((q:Int)-1)) c+1 else F.cnt (F.jY R ((q:Int)-1)) c):=by
        unfold Hid;rw[F.cnt,F.jY,hy]
       have HO:Hid (F.cnt (F.onP R E ((q:Int)-1)) (c+1)=if(decide (y.up=(q:Int)-1)&&!(y.word.toList == U.aO))&&decide (c∈E) then F.cnt (F.onP R E ((q:Int)-1)) c+1 else F.cnt (F.onP R E ((q:Int)-1)) c):=by
        unfold Hid;rw[F.cnt,F.onP,F.jY,hy]
       generalize F.cnt (F.jY R ((q:Int)-1)) c=na at *;generalize F.cnt (F.onP R E ((q:Int)-1)) c=no at *;clear hy;by_cases hup:y.up=(q:Int)-1
       ·have hup':(y.up == (q:Int)-1)=true:=by simpa using hup
        rw[Pe hup]at HA HO;cases hh:(y.word.toList == U.aO) with
        |true=>
         rw[hh]at HA HO;have hh1:(y.word.toList == [104,105,115,116,111,114,121])=true:=hh;clear hh;exact zd4
        |false=>
         rw[hh]at HA HO;have hh1:(y.word.toList == [104,105,115,116,111,114,121])=false:=hh;clear hh;by_cases VC:c∈E
         ·rw[Pe VC]at VS HO;clear VC;go_wp2
          go_round
          case rel=>exact⟨c+1,zaa,zag,by rw[HA.out];go_num,by rw[HO.out];go_num,HB⟩
          case measure=>simp[intOf];omega
         ·rw[Pc VC]at VS HO;clear VC;go_wp2
          go_round
          case rel=>exact⟨c+1,zaa,zag,by rw[HA.out];go_num,zbu,HB⟩
          case measure=>simp[intOf];omega
       ·have hup':(y.up == (q:Int)-1)=false:=by simpa using hup
        rw[Pc hup]at HA HO;exact zd4
      ·obtain rfl:c=R.length:=zaa;have hA:=F.sr (F.jY R ((q:Int)-1)) R.length;have hO:=F.sr (F.onP R E ((q:Int)-1)) R.length;have HK:Hid ((q+1:Nat)-1=(q:Int)-1+1):=by unfold Hid;omega
       obtain⟨K,hK⟩:∃K:Int,(q:Int)-1=K:=⟨_,rfl⟩;have hK1: -1<=K:=zaa;have hK2:K<R.length:=zaa;rw[hK]at hA hO hlt2 HK⊢;have HKK:Hid _:=hK;have hO1:=HL.out.one K hK1 hK2;clear hK;by_cases hn:K<0
       ·have hn':¬(0:Int)<=K:=zaa;have hn2:¬K>=0:=zaa
        replace hO1:=hO1 (.inl hn) (fun x _ h=>absurd h hn')
        generalize F.cnt (F.jY R K) R.length=na at *;generalize F.cnt (F.onP R E K) R.length=no at *;exact zdL
       ·obtain⟨p,rfl⟩:∃p:Nat,K=p:=⟨K.toNat,zaa⟩;have Uo:p<R.length:=zaa;obtain⟨y,hy⟩:∃y,R[p]?=some y:=⟨_,Ou Uo⟩;obtain⟨g,rfl,c0,_⟩:=HN.out p wr y HB.out.1 hy;have VS:=HB.out.2.cell (F.qz (E:=E) Uo);have YE:(p:Int)>=0:=zaa;have hp1:¬(p:Int)<0:=zaa;by_cases VC:p∈E
        ·rw[Pe VC]at VS;cases hw:(y.word.toList == U.aE) with
         |true=>
          have e:=HL.out.par p y VC hy hw;rw[e]at hO⊢;have Ul:(y.word.toList == [112,97,114,97,108,108,101,108])=true:=hw;generalize F.cnt (F.jY R p) R.length=na at *;clear hO1 hw hy VC e;exact zdW
         |false=>
          replace hO1:=hO1 (.inr VC) (fun x hx _=>by rw[QJ,hy]at hx;cases hx;exact hw)
          have Ul:(y.word.toList == [112,97,114,97,108,108,101,108])=false:=hw;generalize F.cnt (F.jY R p) R.length=na at *;generalize F.cnt (F.onP R E p) R.length=no at *;clear hw hy VC;exact zdL
        ·rw[Pc VC]at VS;have e:=HL.out.out p Uo VC;rw[e]at hO⊢;generalize F.cnt (F.jY R p) R.length=na at *;clear hO1 hy VC e;exact zdW
    ·obtain rfl:q=R.length+1:=zaa;go_wp2;go_ret;exact⟨rfl,HB.out.1⟩
