import Derived.Test.YtpkhcncoildcnaaGreatDoorM09
import Derived.Test.YtpkhcncoildcnaaGreatDoorM17
import Derived.Shelf.SlicesE.Clone
set_option maxRecDepth 100000
set_option maxHeartbeats 8000000
namespace Go.Proofs.YtpkhcncoildcnaaGreatDoor
variable {zp:Prop}
theorem zdE(h:zp:=by
 have h1:=Vs e he hb;have h0:=(TL.1 hr).1;rw[heq]at h1
 rcases QD i listed.size with h'|h'
 ·simp[h']at h0 h1;rw[h0]at h1;cases h1
 ·simp[Array.getElem?_eq_none h']at h1):zp:=h
theorem zeq(h:zp:=by
 exact⟨j,zaa,by rw[iV S x j zaa,OD j1];exact j2,by rw[iV S x j zaa,OD j1];exact j3⟩):zp:=h
theorem zev(h:zp:=by
 rintro e w' ⟨v',rfl,ho,_,hb⟩;obtain⟨s,rfl⟩:=Jp ho;exact⟨s,rfl,ho,hb⟩):zp:=h
theorem zfa(h:zp:=by
 subst Yf;exact hy.wpOp hi trivial ⟨fun h _=>hS h,H⟩):zp:=h
theorem zfc(h:zp:=by
 subst e0;exact⟨U.Sl.nil,rfl,Pt _ _ _ _,Oy _ _⟩):zp:=h
theorem zfh(h:zp:=by
 rw[Array.setIfInBounds_comm _ _ Yf];exact h3.2.2):zp:=h
theorem zfv(h:zp:=by
 have:=Ti hj Yf;rw[H.1]at this;cases this):zp:=h
theorem zaj(h:zp:=by go_simp;(try with_reducible rfl)):zp:=h
theorem zbo(h:zp:=by rw[h]at hr;cases hr):zp:=h
theorem zbO(h:zp:=by show a.event.size<=1000000;omega):zp:=h
theorem zcw(h:zp:=by show a.delay.toNat<18446744073709551616;omega):zp:=h
open Tryz
variable {x:J.DS}{i n B g cap size fuel lo:Nat}{w w' wr W:World}{e:TypeId}{xs:List Value}{v ve vl vm sv:U.Sl}{listed:Array Bool}{a:Act}{oi:Oper}{rs:List Nat}{M:List J.PV}{Z X:List J.DS}{L:List Y.PA}
section
open Go.RowKit
namespace J
abbrev sAt(S:List U.State)(k:Nat):U.State:=S.getD k U.st0
def iH(x:U.State):Bool:=x.word.toList == U.aO
structure Shp(S:List U.State):Prop where
 len:S.length<=24
 wf:∀i,i<S.length->-1<=(sAt S i).up/\(sAt S i).up<i
 hup:∀i,i<S.length->iH (sAt S i)=true->0<=(sAt S i).up
 leaf:∀i,i<S.length->0<=(sAt S i).up->(sAt S (sAt S i).up.toNat).word.toList≠U.bT/\iH (sAt S (sAt S i).up.toNat)=false
 hst:∀i,i<S.length->iH (sAt S i)=true->(sAt S (sAt S i).up.toNat).word.toList≠U.aE->∃j,j<S.length/\(sAt S j).up=(sAt S i).up/\iH (sAt S j)=false
theorem Shp.nil:Shp []:=⟨OL _,fun i h=>absurd h (R3 i),fun i h=>absurd h (R3 i),fun i h=>absurd h (R3 i),fun i h=>absurd h (R3 i)⟩
theorem Shp.congr{S S':List U.State}(h:Shp S)(hl:S'.length=S.length)(hw:∀i,(sAt S' i).word=(sAt S i).word)(hu:∀i,(sAt S' i).up=(sAt S i).up):Shp S':=by
 have hh:∀i,iH (sAt S' i)=iH (sAt S i):=fun i=>by unfold iH;rw[hw]
 refine⟨by rw[hl];exact h.len,fun i hi=>?_,fun i hi=>?_,fun i hi=>?_,fun i hi=>?_⟩
 ·rw[hu];exact h.wf i zaa
 ·rw[hu,hh];exact h.hup i zaa
 ·rw[hu,hw,hh];exact h.leaf i zaa
 ·rw[hu,hw,hh];intro a b;obtain⟨j,h1,h2,h3⟩:=h.hst i zaa a b;exact⟨j,zaa,by rw[hu];exact h2,by rw[hh];exact h3⟩
theorem AU(S:List U.State)(k:Nat)(f:U.State->U.State)(i:Nat):sAt (U.gu S k f) i=if k=i/\k<S.length then f (sAt S k) else sAt S i:=by
 unfold sAt U.gu;simp only[List.getD_eq_getElem?_getD];by_cases e:k=i
 ·subst e;by_cases hk:k<S.length
  ·rw[OR hk,OD ⟨rfl,hk⟩];rfl
  ·rw[OB (fun x=>hk x.2),OV (by rw[ON];omega),OV zaa]
 ·rw[OU e,OB (fun x=>e x.1)]
theorem Shp.gu{S:List U.State}(h:Shp S)(k:Nat)(f:U.State->U.State)(hf:∀x,(f x).word=x.word/\(f x).up=x.up):Shp (U.gu S k f):=by
 refine h.congr (by unfold U.gu;simp) (fun i=>?_) (fun i=>?_)
 ·rw[AU];split
  ·rename_i e;rw[(hf _).1,e.1]
  ·rfl
 ·rw[AU];split
  ·rename_i e;rw[(hf _).2,e.1]
  ·rfl
theorem iV(S:List U.State)(x:U.State)(i:Nat)(hi:i<S.length+1):sAt (S++[x]) i=if i<S.length then sAt S i else x:=by
 unfold sAt;rw[OJ,OJ];by_cases e:i<S.length
 ·rw[Pv e,OD e]
 ·rw[PE zaa,OB e,show i-S.length=0 by omega];rfl
theorem mC{S:List U.State}{d:Int}:∀n,-1<=U.fh S d n
 |0=>by unfold U.fh;omega
 |n+1=>by
  have:=mC (S:=S) (d:=d) n;rw[U.fh]
  repeat' split
  all_goals omega
theorem Ew(S:List U.State)(d:Int): -1<=U.dr S d:=by
 unfold U.dr;split
 ·exact mC _
 ·omega
theorem Shp.snoc{S:List U.State}(h:Shp S){x:U.State}(hu: -1<=x.up)(hu2:x.up<S.length)(hf:U.fits (S.map U.emb) (U.emb x)=true):Shp (S++[x]):=by
 have Uy:∀u:Nat,u<S.length->(U.Dq (S.map U.emb) (u:Int)).s=sAt S u:=fun u hul=>by
  unfold U.Dq sAt;rw[QJ,OJ,OJ,OF,Ou hul];rfl
 unfold U.fits at hf;split at hf
 ·cases hf
 rename_i h1;simp only[Bool.or_eq_true,decide_eq_true_eq,List.length_map,Bool.and_eq_true,not_or,not_and]at h1;obtain⟨WT,_,hnh⟩:=h1;have hx:(U.emb x).s=x:=rfl;rw[hx]at hf hnh;have hl:=h.len;have hlen:(S++[x]).length=S.length+1:=zad;have XG:(iH x=true->0<=x.up)/\(0<=x.up->(sAt S x.up.toNat).word.toList≠U.bT/\iH (sAt S x.up.toNat)=false)/\(iH x=true->(sAt S x.up.toNat).word.toList≠U.aE->∃j,j<S.length/\(sAt S j).up=x.up/\iH (sAt S j)=false):=by
  have Wz:iH x=true->0<=x.up:=fun hh=>by
   by_cases e:x.up<0
   ·exact absurd hh (hnh e)
   ·omega
  by_cases e:x.up<0
  ·exact⟨Wz,fun e2=>zaa,fun hh=>by have:=Wz hh;omega⟩
  ·rw[OB e]at hf;obtain⟨u,hu'⟩:∃u:Nat,x.up=u:=⟨x.up.toNat,zaa⟩;rw[hu',Uy u zaa]at hf;split at hf
   ·cases hf
   rename_i h2;simp only[Bool.or_eq_true,not_or]at h2;have hlf:(sAt S x.up.toNat).word.toList≠U.bT/\iH (sAt S x.up.toNat)=false:=by
    rw[hu',QJ];refine⟨fun e2=>h2.1 (by rw[e2];decide),?_⟩;rw[Q8];exact fun e2=>h2.2 e2
   refine⟨Wz,fun _=>hlf,fun hh hp=>?_⟩;rw[hu',QJ]at hp;split at hf
   ·rename_i h3;exact absurd zaG hp
   ·have VJ:(x.word.toList == U.aO)=true:=hh;rw[VJ,Bool.not_true,Sr]at hf;have hnn:U.tp (S.map U.emb) (u:Int)=false:=by simpa using hf
    unfold U.tp at hnn;have:∃y∈S,y.up=(u:Int):=by
     rw[Sz]at hnn;obtain⟨z,hz,Uf⟩:=hnn;obtain⟨y,hy,rfl⟩:=O7.1 hz;refine⟨y,hy,Qf fun e=>Uf ?_⟩;show(!decide (y.up=(u:Int)))=true;rw[Pc e];rfl
    obtain⟨y,hy,hyu⟩:=this;obtain⟨a,ha⟩:=SR hy;have U9:=(Oz.1 ha).1;have hsa:sAt S a=y:=by unfold sAt;rw[OJ,ha];rfl
    cases hya:iH y
    ·exact⟨a,U9,by rw[hsa,hyu,hu'],by rw[hsa];exact hya⟩
    ·obtain⟨j,j1,j2,j3⟩:=h.hst a U9 (by rw[hsa];exact hya) (by rw[hsa,hyu,QJ];exact hp);exact⟨j,j1,by rw[j2,hsa,hyu,hu'],j3⟩
 have Zi:∀u:Int,u<S.length->0<=u->sAt (S++[x]) u.toNat=sAt S u.toNat:=fun u a b=>by rw[iV S x _ zaa,OD zaa]
 refine⟨by rw[hlen];omega,fun i hi=>?_,fun i hi=>?_,fun i hi=>?_,fun i hi=>?_⟩
 ·rw[hlen]at hi;rw[iV S x i hi];split
  ·rename_i e;exact h.wf i e
  ·exact⟨hu,zaa⟩
 ·rw[hlen]at hi;rw[iV S x i hi];split
  ·rename_i e;exact h.hup i e
  ·exact XG.1
 ·rw[hlen]at hi;rw[iV S x i hi];split
  ·rename_i e;intro h0;rw[Zi _ (by have:=(h.wf i e).2;omega) h0];exact h.leaf i e h0
  ·intro h0;rw[Zi _ hu2 h0];exact XG.2.1 h0
 ·rw[hlen]at hi;rw[iV S x i hi];split
  ·rename_i e;intro hh hp;have h0:=h.hup i e hh;rw[Zi _ (by have:=(h.wf i e).2;omega) h0]at hp;obtain⟨j,j1,j2,j3⟩:=h.hst i e hh hp;exact zeq
  ·intro hh hp;have h0:=XG.1 hh;rw[Zi _ hu2 h0]at hp;obtain⟨j,j1,j2,j3⟩:=XG.2.2 hh hp;exact zeq
theorem Shp.step{S S':List U.State}(h:Shp S){x:U.kD}{d:Int}(hs:U.bk S i x d=some S'):Shp S'/\(0<S.length->0<S'.length)/\(S=[]->0<S'.length):=by
 have V8:=Ew S d;unfold U.bk at hs;have hemp:S=[]->U.dr S d<0:=fun e=>by
  subst e;unfold U.dr;split
  ·show U.fh [] d 0<0;rw[U.fh];decide
  ·decide
 have Vo:∀k f,(U.gu S k f).length=S.length:=fun k f=>by unfold U.gu;simp
 repeat' split at hs
 all_goals first
  |(cases hs;done)
  | (cases hs
     rename_i hf;refine⟨h.snoc V8 ?_ hf,fun _=>zad,fun _=>zad⟩;show U.dr S d<S.length;by_cases e:U.dr S d<0
     ·omega
     ·have:=pK e;omega)
  | (cases hs
     exact⟨h,fun e=>e,fun e=>absurd (hemp e) zam⟩)
  | (cases hs
     exact⟨h.gu _ _ (fun _=>⟨rfl,rfl⟩),fun e=>by rw[Vo];exact e,fun e=>absurd (hemp e) zam⟩)
theorem A0{A:List (U.kD×Int)}:∀{i:Nat} {S:List U.State},i<=A.length->U.aZ A i=some S->Shp S/\(0<i->0<S.length)
 |0,S,_,h=>by cases h;exact⟨Shp.nil,fun e=>zaa⟩
 |i+1,S,hi,h=>by
  rw[U.aZ]at h;split at h
  ·cases h
  rename_i S0 h0;obtain⟨ih,ihl⟩:=A0 zaa h0;rw[Ou zaa]at h;dsimp only at h;obtain⟨a,b,c⟩:=ih.step h;refine⟨a,fun _=>?_⟩;cases hS:S0 with
  |nil=>exact c hS
  |cons y l=>exact b (by rw[hS];simp)
theorem KL{P:List ()}{S:List U.State}(h:Itm P S n)(t:Bool):∀x∈S.map U.emb,0<x.s.line/\(∀m∈x.s.aj,0<m.line)/\((t&&U.cD x.s.enter)=true->0<x.s.has0)/\((t&&U.cD x.s.leave)=true->0<x.s.has1):=by
 have mineN:U.cD []=false:=rfl;exact zc7
theorem tv{S:List U.State}:∀{k:Nat},U.dW S k=none->∀i,i<k->(sAt S i).word.toList=U.aE->U.regions (S.map U.emb) i≠[]
 |0,_,i,hi,_=>by omega
 |k+1,h,i,hi,hw=>by
  rw[U.dW]at h;split at h
  ·cases h
  rename_i h0;split at h
  ·cases h
  rename_i h1;by_cases e:i=k
  ·subst e;intro hr;apply h1
   have hw2:((S.getD i U.st0).word.toList == U.aE)=true:=by rw[show(S.getD i U.st0).word.toList=_ from hw];decide
   rw[hw2,hr];rfl
  ·exact tv h0 i zaa hw
structure gw(S:List U.State):Prop where
 shp:Shp S
 pos:0<S.length
 par:∀i,i<S.length->(sAt S i).word.toList=U.aE->U.regions (S.map U.emb) i≠[]
 uniq:∀i,i<S.length->¬U.place (S.map U.emb) (sAt S i).name<i
 tos:∀x∈S,∀m∈x.aj,m.to.toList.isEmpty=false->0<=U.place (S.map U.emb) m.to
 low:∀x∈S,qA x/\iG x
theorem tK{s:()}{S:List U.State}(h:U.read s=.fu S):gw S:=by
 have Zi:=I5 h;unfold U.read at h;split at h
 ·cases h
 ·cases YL:U.syn (U.cut s 10) with
  |some i=>rw[YL]at h;cases h
  |none=>
   rw[YL]at h;dsimp only at h;cases ht:U.aZ (U.aK (U.cut s 10) ((U.cut s 10).length-1)) ((U.cut s 10).length-1) with
   |none=>rw[ht]at h;cases h
   |some S'=>
    rw[ht]at h;dsimp only at h;have hI:=oI (qw YL) (Ow _) ht;have hll:(U.aK (U.cut s 10) ((U.cut s 10).length-1)).length=(U.cut s 10).length-1:=by unfold U.aK;simp
    obtain⟨hS1,hS2⟩:=A0 (by rw[hll];exact Ow _) ht;have Xt:0<(U.cut s 10).length-1:=by
     unfold U.syn at YL;split at YL
     ·cases YL
     ·split at YL
      ·rename_i e;rw[O2]at e;exact QL e.1
      ·cases YL
    split at h
    ·cases h
    rename_i hp;split at h
    ·cases h
    rename_i hn;cases h
    have hpn:U.dW S S.length=none:=by
     cases hq:U.dW S S.length with
     |none=>rfl
     |some l=>
      have:=qh hI (Ow _) hq;rw[hq]at hp;exact absurd this hp
    have TT:=th (X:=S.map U.emb) (t:=U.wR (S.map U.emb)) (KL hI _) (S.map U.emb).length (Ow _);have hz:∀l,¬∃q,∃h:q<(S.map U.emb).length,q<(S.map U.emb).length/\StB (S.map U.emb) (U.wR (S.map U.emb)) q (S.map U.emb)[q].s l:=by
     rcases TT with⟨_,e⟩|⟨e,_⟩
     ·exact e
     ·exact absurd e hn
    have hst:∀q (hq:q<S.length) l,¬StB (S.map U.emb) (U.wR (S.map U.emb)) q S[q] l:=fun q hq l hb=>hz l ⟨q,by simpa using hq,by simpa using hq,by rw[List.getElem_map];exact hb⟩;refine⟨hS1,hS2 Xt,fun i hi hw=>tv hpn i hi hw,fun i hi TX=>?_,fun x hx m hm TU=>?_,Zi⟩
    ·have e:sAt S i=S[i]:=by unfold sAt;rw[OJ,Ou hi];rfl
     rw[e]at TX;exact hst i hi _ (.inl ⟨TX,rfl⟩)
    ·obtain⟨q,hq,rfl⟩:=QX hx;by_cases e:0<=U.place (S.map U.emb) m.to
     ·exact e
     ·exfalso;refine hst q hq m.line (.inr (.inl ⟨m,hm,?_,rfl⟩));unfold U.kW;have h1:(m.to.toList == [])=false:=by
       cases hz:m.to.toList with
       |nil=>rw[hz]at TU;cases TU
       |cons=>rfl
      rw[h1,Pe (show U.place (S.map U.emb) m.to<0 by omega)];rfl
end J
end
section
open Go.RowKit Go.Proofs Go.Shelf
def Cu:Go.Shelf.Ren:=⟨fun|41=>112|n=>n,fun|22=>178|23=>271|4=>4|n=>n,fun|n=>n⟩
theorem Iv:Go.Proofs.SlLaysE0.n41 prog Cu where
 mixed:=zab
 f41:=⟨Tryz.f112.name,zac,Tryz.func112.trans (congrArg some zab)⟩
 t4:=underlying4
 a4:=Sa
 z4:=RP
 v4:=Q9
 t22:=underlying178
 a22:=Tryz.isAgg178
 z22:=Tryz.sizeOf178
 v22:=Tryz.zeroValue178
def Cv:Go.Shelf.Ren:=⟨fun|41=>113|n=>n,fun|22=>186|23=>260|4=>4|n=>n,fun|n=>n⟩
theorem Iw:Go.Proofs.SlLaysE0.n41 prog Cv where
 mixed:=zab
 f41:=⟨Tryz.f113.name,zac,Tryz.func113.trans (congrArg some zab)⟩
 t4:=underlying4
 a4:=Sa
 z4:=RP
 v4:=Q9
 t22:=underlying186
 a22:=Tryz.isAgg186
 z22:=Tryz.sizeOf186
 v22:=Tryz.zeroValue186
def Cw:Go.Shelf.Ren:=⟨fun|41=>69|n=>n,fun|22=>169|23=>188|4=>4|n=>n,fun|n=>n⟩
theorem Iy:Go.Proofs.SlLaysE0.n41 prog Cw where
 mixed:=zab
 f41:=⟨Tryz.f69.name,zac,Tryz.func69.trans (congrArg some zab)⟩
 t4:=underlying4
 a4:=Sa
 z4:=RP
 v4:=Q9
 t22:=underlying169
 a22:=Tryz.isAgg169
 z22:=Tryz.sizeOf169
 v22:=Tryz.zeroValue169
theorem Fj:(Tryz.prog.info? 260).map (fun i=>(i.zero,i.size,i.bytes))=some (some (.agg #[ByteArray.empty,false,.int .u64 0,ByteArray.empty,.slice none 0 0]),5,72):=zab
theorem Cp:(Tryz.prog.info? 188).map (fun i=>(i.zero,i.size,i.bytes))=some (some (.agg #[(0:Int),ByteArray.empty,(0:Int),(0:Int),.slice none 0 0,.slice none 0 0,.slice none 0 0,.slice none 0 0]),8,136):=zab
theorem yq{m:Nat}(h:w.ownsRow B e n (.slice g m cap) m xs):∀j u,xs[j]?=some u->w.cell? ⟨g,0+j,none⟩=some u:=by
 intro j u hj;have TX:j<m*n:=by rw[<- h.1];exact(Oz.1 hj).1
 rw[QC,h.cellAt j TX];exact hj
theorem GF(a:U.Act):(bm a).oneCell'=true:=by
 unfold bm wG
 repeat' split
 all_goals rfl
def Bz(e:TypeId)(size n:Nat)(xs:List Value)(w:World)(en:Ending)(w':World):Prop:=∃s:U.Sl,en=.returned (.slice s.a s.n s.c)/\w'.ownsRow w e size s.v n xs/\Below w w w'
theorem Jp{v:Value}(h:w.ownsRow B e size v n xs):∃s:U.Sl,v=s.v:=by
 obtain⟨a,k,c,rfl⟩:=U.iZ h;exact⟨⟨a,k,c⟩,rfl⟩
theorem so(a:Option Addr)(n c:Nat)(A:List U.Act)(w:World)(h:w.ownsRow 0 271 1 (.slice a n c) A.length (A.map bm))(hl:A.length<=1000000):
  () 112 #[.slice a n c] w (Bz 271 1 A.length (A.map bm) w):=by
 rcases h.2 with⟨h0,hn⟩|⟨g,cap,cur,h0,_⟩
 ·cases h0
  refine(AnyE.slices_Clone_nil Iv 0 0 w).mono ?_;rintro e w' ⟨rfl,rfl⟩;have e0:A=[]:=QI hn;exact zfc
 ·obtain⟨i0,hi,Ue,Ub,Uf⟩:=PZ nO;rw[h0]at h⊢;refine(AnyE.slices_Clone Iv i0 .nilIface 1 16 hi Ue Ub Uf rfl zac (fun w=>zab) g 0 A.length cap (A.map bm) w h.1 zah zaa (yq h) ?_).mono ?_
  ·intro u hu;obtain⟨x,_,rfl⟩:=O7.1 hu;exact GF x
  ·exact zev
theorem BY(a:Option Addr)(n c:Nat)(M:List J.PV)(w:World)(h:w.ownsRow 0 260 5 (.slice a n c) M.length (M.flatMap J.bl))(hl:M.length<=1000000):
  () 113 #[.slice a n c] w (Bz 260 5 M.length (M.flatMap J.bl) w):=by
 rcases h.2 with⟨h0,hn⟩|⟨g,cap,cur,h0,_⟩
 ·cases h0
  refine(AnyE.slices_Clone_nil Iw 0 0 w).mono ?_;rintro e w' ⟨rfl,rfl⟩;have e0:M=[]:=QI hn;exact zfc
 ·obtain⟨i0,hi,Ue,Ub,Uf⟩:=PZ Fj;rw[h0]at h⊢;refine(AnyE.slices_Clone Iw i0 _ 5 72 hi Ue Ub Uf rfl zac (fun w=>zab) g 0 M.length cap (M.flatMap J.bl) w h.1 zah zaa (yq h) ?_).mono ?_
  ·intro u hu;obtain⟨x,_,hx⟩:=Q3.1 hu;simp only[J.bl,List.mem_cons,List.not_mem_nil,or_false]at hx
   rcases hx with rfl|rfl|rfl|rfl|rfl<;>rfl
  ·exact zev
theorem BZ(a:Option Addr)(n c:Nat)(X:List J.DS)(w:World)(h:w.ownsRow 0 188 8 (.slice a n c) X.length (X.flatMap J.aP))(hl:X.length<=1000000):
  () 69 #[.slice a n c] w (Bz 188 8 X.length (X.flatMap J.aP) w):=by
 rcases h.2 with⟨h0,hn⟩|⟨g,cap,cur,h0,_⟩
 ·cases h0
  refine(AnyE.slices_Clone_nil Iy 0 0 w).mono ?_;rintro e w' ⟨rfl,rfl⟩;have e0:X=[]:=QI hn;exact zfc
 ·obtain⟨i0,hi,Ue,Ub,Uf⟩:=PZ Cp;rw[h0]at h⊢;refine(AnyE.slices_Clone Iy i0 _ 8 136 hi Ue Ub Uf rfl zac (fun w=>zab) g 0 X.length cap (X.flatMap J.aP) w h.1 zah zaa (yq h) ?_).mono ?_
  ·intro u hu;obtain⟨x,_,hx⟩:=Q3.1 hu;simp only[J.aP,List.mem_cons,List.not_mem_nil,or_false]at hx
   rcases hx with rfl|rfl|rfl|rfl|rfl|rfl|rfl|rfl<;>rfl
  ·exact zev
end
section
open Go
section
variable {P:Program}{ops:Array Oper}{Q:Exit->Act->World->Prop}{md:Region.Mode}{S:World->Prop}{s:Nat}
def fF(P:Program)(md:Region.Mode)(ops:Array Oper)(Q:Exit->Act->World->Prop)(S:World->Prop)(s:Nat):Nat->Array Bool->Act->World->Prop
 |0,listed,a,w=>Region.ready md ops listed=[]/\Q .normal a w
 |fuel+1,listed,a,w=>
  (Region.ready md ops listed=[]->Q .normal a w) /\
  ∀i∈Region.ready md ops listed,wpOp P ops Q i (fun a' w'=>(listed.getD s true=false->i≠s->S w')/\fF P md ops Q S s fuel (listed.setIfInBounds i true) a' w') a w
theorem uy:∀(fuel:Nat) (listed:Array Bool) (a:Act) (w:World),fF P md ops Q S s fuel listed a w->wpAny P md ops Q fuel listed a w
 |0,_,_,_,h=>h
 |fuel+1,_,_,_,h=>⟨h.1,fun i hi=>TK (fun a' w' h'=>uy fuel _ a' w' h'.2) (h.2 i hi)⟩
theorem jJ(l:Array Bool)(s:Nat):(l.setIfInBounds s true).getD s true=true:=by
 simp only[Array.getD_eq_getD_getElem?,Array.getElem?_setIfInBounds];split
 ·split<;>simp
 ·rename_i h;exact absurd trivial h
theorem getD_set_true(l:Array Bool)(i s:Nat)(h:l.getD s true=true):(l.setIfInBounds i true).getD s true=true:=by
 by_cases e:i=s
 ·subst e;exact jJ l i
 ·rw[Sw true e];exact h
theorem xd:∀(fuel:Nat) (listed:Array Bool) (a:Act) (w:World),listed.getD s true=true->wpAny P md ops Q fuel listed a w->fF P md ops Q S s fuel listed a w
 |0,_,_,_,_,h=>h
 |fuel+1,listed,_,_,hs,h=>⟨h.1,fun i hi=>TK (fun a' w' h'=>⟨fun hf=>absurd (hs.symm.trans hf) zac,xd fuel _ a' w' (getD_set_true _ _ _ hs) h'⟩) (h.2 i hi)⟩
theorem jS(hr:Region.ready md ops listed=[s])(h:wpAny P md ops Q (fuel+1) listed a w):fF P md ops Q S s (fuel+1) listed a w:=
 ⟨h.1,fun i hi=>by
  have e:i=s:=by rw[hr]at hi;simpa using hi
  subst e;exact TK (fun a' w' h'=>⟨fun _ TU=>absurd rfl TU,xd fuel _ a' w' (jJ _ _) h'⟩) (h.2 i hi)⟩
theorem yY{i:Nat}{oi os:Oper}{v:Value}(hi:ops[i]?=some oi)(Ya:∀(j:Nat) (o:Oper) cs b,ops[j]?=some o->o.op≠.select cs b)
  (hQ:∀c a w,Q (.panic c) (a.put oi.dst v) w->Q (.panic c) a w) (hso:ops[s]?=some os) (XM:∃e∈os.after,Region.binds md e=true/\e.on=i):
  ∀(fuel:Nat) (listed:Array Bool) (a:Act) (w:World),
   (∀j oj,ops[j]?=some oj->j≠i->listed.getD j true=false->(∀e∈oj.after,Region.binds md e=true->e.on≠i)->oi.apart ops oj=true) ->
   i∈Region.ready md ops listed->listed.getD s true=false->YieldsIf P ops S oi v a->S w ->
   fF P md ops Q S s fuel (listed.setIfInBounds i true) (a.put oi.dst v) w->fF P md ops Q S s (fuel+1) listed a w:=by
 intro fuel
 induction fuel with
 |zero=>
  intro listed a w _ hr _ hy hS H;refine⟨fun h=>zbo,fun j hj=>?_⟩;by_cases Yf:j=i
  ·subst Yf;exact hy.wpOp hi hS ⟨fun _ _=>hS,H⟩
  ·exact zfv
 |succ fuel ih=>
  intro listed a w XN hr TV hy hS H;refine⟨fun h=>zbo,fun j hj=>?_⟩;by_cases Yf:j=i
  ·subst Yf;exact hy.wpOp hi hS ⟨fun _ _=>hS,H⟩
  ·have h1:=H.2 j (Ti hj Yf);obtain⟨hjun,oj,hoj,Vs⟩:=TL.1 hj;have pend:∀(o:Oper),(∀e∈o.after,Region.binds md e=true->listed.getD e.on false=true)->∀e∈o.after,Region.binds md e=true->e.on≠i:=fun o Vs e he hb heq=>by
    exact zdE
   have hnot:=pend oj Vs;have hjs:j≠s:=fun e=>by
    subst e;obtain⟨x,hx,hb,VC⟩:=XM;rw[hso]at hoj;cases hoj
    exact hnot x hx hb VC
   have his:i≠s:=fun e=>by
    subst e;obtain⟨x,hx,hb,VC⟩:=XM;obtain⟨_,o',ho',hall'⟩:=TL.1 hr;rw[hso]at ho';cases ho'
    exact pend os hall' x hx hb VC
   have h2:=wpOp_putIf hoj (XN j oj hoj Yf hjun hnot) (fun cs b=>Ya i oi cs b hi) (fun cs b=>Ya j oj cs b hoj) hQ hy h1;have Yi:∀k ok,ops[k]?=some ok->k≠i->(listed.setIfInBounds j true).getD k true=false ->
     (∀e∈ok.after,Region.binds md e=true->e.on≠i)->oi.apart ops ok=true:=fun k ok hk hki hun Va=>by
    refine XN k ok hk hki ?_ Va;by_cases YM:j=k
    ·subst YM;exact hjun
    ·rw[Sw true YM]at hun;exact hun
   refine TK (fun a' w' h3=>?_) h2;have UL:S w':=h3.2.1 (by rw[Sw true his];exact TV) hjs;refine⟨fun _ _=>UL,ih (listed.setIfInBounds j true) a' w' Yi (Ti hr (Ne.symm Yf)) (by rw[Sw true hjs];exact TV) h3.1 UL ?_⟩;exact zfh
theorem dR{os:Oper}{v:Value}(hi:ops[i]?=some oi)
  (hs:Region.noSelect ops=true) (hf:Region.free md ops listed i=true) (hr:(Region.ready md ops listed).contains i=true)
  (hQ:∀c a w,Q (.panic c) (a.put oi.dst v) w->Q (.panic c) a w) (hso:ops[s]?=some os) (XM:(os.after.any fun e=>Region.binds md e&&e.on == i)=true) (TV:listed.getD s true=false) (hy:YieldsIf P ops S oi v a) (hS:S w)
  (h:fF P md ops Q S s fuel (listed.setIfInBounds i true) (a.put oi.dst v) w):fF P md ops Q S s (fuel+1) listed a w:=
 yY hi (Region.noSelect_spec hs) hQ hso (by
  rw[Array.any_eq_true]at XM;obtain⟨k,hk,hb⟩:=XM;rw[O2]at hb;exact⟨_,Array.getElem_mem hk,hb.1,by simpa using hb.2⟩) fuel listed a w (Region.free_spec hi hf) (by simpa using hr) TV hy hS h
theorem vg{i:Nat}{oi:Oper}{v:Value}(hi:ops[i]?=some oi)(Ya:∀(j:Nat) (o:Oper) cs b,ops[j]?=some o->o.op≠.select cs b)
  (hQ:∀c a w,Q (.panic c) (a.put oi.dst v) w->Q (.panic c) a w) (his:i≠s):
  ∀(fuel:Nat) (listed:Array Bool) (a:Act) (w:World),
   (∀j oj,ops[j]?=some oj->j≠i->listed.getD j true=false->(∀e∈oj.after,Region.binds md e=true->e.on≠i)->oi.apart ops oj=true) ->
   i∈Region.ready md ops listed->YieldsIf P ops (fun _=>True) oi v a->(listed.getD s true=false->S w) ->
   fF P md ops Q S s fuel (listed.setIfInBounds i true) (a.put oi.dst v) w->fF P md ops Q S s (fuel+1) listed a w:=by
 intro fuel
 induction fuel with
 |zero=>
  intro listed a w _ hr hy hS H;refine⟨fun h=>zbo,fun j hj=>?_⟩;by_cases Yf:j=i
  ·exact zfa
  ·exact zfv
 |succ fuel ih=>
  intro listed a w XN hr hy hS H;refine⟨fun h=>zbo,fun j hj=>?_⟩;by_cases Yf:j=i
  ·exact zfa
  ·have h1:=H.2 j (Ti hj Yf);obtain⟨hjun,oj,hoj,Vs⟩:=TL.1 hj;have hnot:∀e∈oj.after,Region.binds md e=true->e.on≠i:=fun e he hb heq=>by
    exact zdE
   have h2:=wpOp_putIf hoj (XN j oj hoj Yf hjun hnot) (fun cs b=>Ya i oi cs b hi) (fun cs b=>Ya j oj cs b hoj) hQ hy h1;have Yi:∀k ok,ops[k]?=some ok->k≠i->(listed.setIfInBounds j true).getD k true=false ->
     (∀e∈ok.after,Region.binds md e=true->e.on≠i)->oi.apart ops ok=true:=fun k ok hk hki hun Va=>by
    refine XN k ok hk hki ?_ Va;by_cases YM:j=k
    ·subst YM;exact hjun
    ·rw[Sw true YM]at hun;exact hun
   refine TK (fun a' w' h3=>?_) h2;have UL:listed.getD s true=false->j≠s->S w':=fun hl hjs=>h3.2.1 (by rw[Sw true his];exact hl) hjs;refine⟨UL,ih (listed.setIfInBounds j true) a' w' Yi (Ti hr (Ne.symm Yf)) h3.1 (fun hl=>?_) ?_⟩
   ·by_cases hjs:j=s
    ·subst hjs;rw[jJ]at hl;cases hl
    ·exact UL (by rw[Sw true hjs]at hl;exact hl) hjs
   ·exact zfh
theorem ax{v:Value}(hi:ops[i]?=some oi)
  (hs:Region.noSelect ops=true) (hf:Region.free md ops listed i=true) (hr:(Region.ready md ops listed).contains i=true)
  (hQ:∀c a w,Q (.panic c) (a.put oi.dst v) w->Q (.panic c) a w) (his:i≠s) (hy:YieldsIf P ops (fun _=>True) oi v a) (hS:S w)
  (h:fF P md ops Q S s fuel (listed.setIfInBounds i true) (a.put oi.dst v) w):fF P md ops Q S s (fuel+1) listed a w:=
 vg hi (Region.noSelect_spec hs) hQ his fuel listed a w (Region.free_spec hi hf) (by simpa using hr) hy (fun _=>hS) h
def bF(P:Program)(md:Region.Mode)(ops:Array Oper)(Q:Exit->Act->World->Prop)(S:World->Prop)(s:Nat)(fuel:Nat)(listed:Array Bool)(a:Act)(w:World)(rs:List Nat):Prop:=
 ∀i∈rs,wpOp P ops Q i (fun a' w'=>(listed.getD s true=false->i≠s->S w')/\fF P md ops Q S s fuel (listed.setIfInBounds i true) a' w') a w
theorem bF.nil:bF P md ops Q S s fuel listed a w []:=fun _ h=>zav
theorem bF.cons{o:Oper}(ho:ops[i]?=some o)
  (h:∀K':Act->World->Prop,Shut (∀a w,S w->(S w->fF P md ops Q S s fuel (listed.setIfInBounds i true) a w)->K' a w)->if Region.wanted o (yielded ops a.tmps)=true then Oper.wp P o a w K' Q else K' (a.put o.dst undef) w)
  (hs:bF P md ops Q S s fuel listed a w rs):bF P md ops Q S s fuel listed a w (i::rs):=fun j hj=>by
 rcases P2.1 hj with rfl|hj
 ·exact wpOp_step ho (fun K' hK=>h K' (fun a w hS hW=>hK a w ⟨fun _ _=>hS,hW hS⟩))
 ·exact hs j hj
theorem eB(hr:Region.ready md ops listed=rs)(TU:rs≠[])
  (h:bF P md ops Q S s fuel listed a w rs):fF P md ops Q S s (fuel+1) listed a w:=⟨fun h0=>absurd (hr▸h0) TU,hr▸h⟩
theorem mF(s:Nat){id:Nat}(hm:P.follows .mixedOrders=true)(hS:S w.drew)
  (h:S w.drew->fF P .any ops Q S s ops.size (Array.replicate ops.size false) a w.drew):(Code.region id ops true).wp P Q a w:=
 Qh hm (uy _ _ _ _ (h hS))
end
end
section
open Go.RowKit Go.Proofs
theorem ng:(Tryz.prog.info? 260).map (·.size)=some 5:=zab
theorem Md{base:Nat}(h:w.ownsRow base e size v.v n xs):v.n=n:=by
 rcases h.2 with⟨h,h0⟩|⟨g,cap,cur,h,_⟩
 ·exact zfw
 ·exact zfJ
theorem Db:(Tryz.prog.info? 274).map (·.size)=some 1:=zab
theorem sQ(x:U.State):∀j,(U.eD x j).length<=x.enter.length+j
 |0=>Ow _
 |j+1=>by
  have:=sQ x j;rw[U.eD]
  repeat' split
  all_goals(try rw[OM])
  all_goals(try simp only[List.length_cons,List.length_nil])
  all_goals omega
theorem qe(x:U.State):∀j,(U.cM x j).length<=x.leave.length+j
 |0=>Ow _
 |j+1=>by
  have:=qe x j;rw[U.cM]
  repeat' split
  all_goals(try rw[OM])
  all_goals(try simp only[List.length_cons,List.length_nil])
  all_goals omega
theorem JV{m:U.Move}(h:m.event.size≠0):bm (U.vQ m)=.iface 278 (.agg #[m.event,.int .u64 m.delay,m.event]):=by
 unfold bm U.vQ wG;rw[show U.nu.toList=U.lQ from mZ,OB zac,OB zac,OB h]
theorem GH(m:U.Move):bm (U.ts m)=.iface 280 (.agg #[m.event]):=by
 unfold bm U.ts;rw[show U.ia.toList=U.fi from iu,OB zac,OD zac]
theorem tf(B g cap u:Nat)(X:List J.DS)(x:J.DS)(M:List J.PV)(w:World)
  (hs:w.ownsRow B 188 8 (.slice g X.length cap) X.length (X.flatMap J.aP)) (hu:u<X.length) (hx:X[u]=x)
  (hM:w.ownsRow 0 260 5 x.vm.v M.length (M.flatMap J.bl)) (hE:w.ownsRow 0 271 1 x.ve.v x.s.enter.length (x.s.enter.map bm)) (hL:w.ownsRow 0 271 1 x.vl.v x.s.leave.length (x.s.leave.map bm))
  (hm:M.map (·.m)=x.s.aj) (hMl:M.length<=4096) (hEl:x.s.enter.length<=4096) (Yt:x.s.leave.length<=4096) (Vg:∀y∈M,y.m.after=true->y.m.event.size≠0):
  () 70 #[(g,u*8)] w fun e w'=>e=.returned (.tuple #[])/\∃ve vl vm,cU w w' B g cap X u x ve vl vm (U.eD x.s M.length) (U.cM x.s M.length) (M.map J.iI):=by
 obtain⟨s,⟨pa,pn,pc⟩,⟨ea,en,ec⟩,⟨la,ln,lc⟩,⟨ma,mn,mc⟩⟩:=x;obtain⟨x,hxx⟩:∃x:J.DS,x=⟨s,⟨pa,pn,pc⟩,⟨ea,en,ec⟩,⟨la,ln,lc⟩,⟨ma,mn,mc⟩⟩:=⟨_,rfl⟩;have cells:∀(W:World),Below w w W->W.cell? (g,u*8+5)=some (.slice ea en ec)/\W.cell? (g,u*8+6)=some (.slice la ln lc)/\W.cell? (g,u*8+7)=some (.slice ma mn mc):=by
  intro W hb;have hs':=bj hs hb;refine⟨?_,?_,?_⟩<;>(rw[hs'.cellAt _ zaa,U.ka (f:=J.aP) (n:=8) (fun _=>rfl) X u _ zac hu,hx];rfl)
 have froz:∀(W:World) (j:Nat),Below w w W->W.frozen? ⟨g,j,none⟩=false:=fun W j hb=>P7 (aC (bj hs hb) (OL _)) _;have hEl':s.enter.length<=4096:=hEl;have hLl':s.leave.length<=4096:=Yt;have HS:Hid _:=hs;have HX:Hid _:=hx;have HXX:Hid _:=hxx;have HM:Hid _:=hM;have HE:Hid _:=hE;have HL:Hid _:=hL;have HC:Hid _:=cells;have HF:Hid _:=froz;have Hm:Hid _:=hm;have Hev:Hid _:=Vg;have hgw:g<w.heap.size:=(O8 hs g rfl).2;have VF:Below w w w.drew:=(Oy _ _).drew;have hcw:=cells w.drew VF;clear hs hx hxx hM hE hL cells froz hm Vg;go_enter func70,ntmps70
 go_upto_region 0 with fail
 refine mF (s:=20) (S:=(fun W=>W.cell? (g,u*8+5)=some (.slice ea en ec)/\W.cell? (g,u*8+6)=some (.slice la ln lc)/\W.cell? (g,u*8+7)=some (.slice ma mn mc))) zab hcw (fun u0=>?_);refine ax (i:=0) (v:=.pointer (some ⟨g,u*8,none⟩)) rfl zab zab zab (fun _ _ _ h=>h) zac (Or.inl ⟨zaf,fun w _=>zaj⟩) u0 ?_;refine ax (i:=1) (v:=.pointer (some ⟨g,u*8,none⟩)) rfl zab zab zab (fun _ _ _ h=>h) zac (Or.inl ⟨zaf,fun w _=>zaj⟩) u0 ?_;refine ax (i:=2) (v:=.pointer (some ⟨g,u*8,none⟩)) rfl zab zab zab (fun _ _ _ h=>h) zac (Or.inl ⟨zaf,fun w _=>zaj⟩) u0 ?_;refine ax (i:=3) (v:=.pointer (some ⟨g,u*8,none⟩)) rfl zab zab zab (fun _ _ _ h=>h) zac (Or.inl ⟨zaf,fun w _=>zaj⟩) u0 ?_;refine ax (i:=8) (v:=.pointer (some ⟨g,u*8,none⟩)) rfl zab zab zab (fun _ _ _ h=>h) zac (Or.inl ⟨zaf,fun w _=>zaj⟩) u0 ?_;refine ax (i:=13) (v:=.pointer (some ⟨g,u*8,none⟩)) rfl zab zab zab (fun _ _ _ h=>h) zac (Or.inl ⟨zaf,fun w _=>zaj⟩) u0 ?_;refine ax (i:=4) (v:=.pointer (some ⟨g,u*8,none⟩)) rfl zab zab zab (fun _ _ _ h=>h) zac (Or.inl ⟨zaf,fun w _=>zaj⟩) u0 ?_;refine ax (i:=5) (v:=.pointer (some ⟨g,u*8+5,none⟩)) rfl zab zab zab (fun _ _ _ h=>h) zac (Or.inl ⟨zaf,fun w _=>zaj⟩) u0 ?_;refine dR (i:=6) (v:=.slice ea en ec) rfl zab zab zab (fun _ _ _ h=>h) rfl zab zab (Or.inl ⟨zaf,fun w UL=>zai⟩) u0 ?_;refine ax (i:=9) (v:=.pointer (some ⟨g,u*8,none⟩)) rfl zab zab zab (fun _ _ _ h=>h) zac (Or.inl ⟨zaf,fun w _=>zaj⟩) u0 ?_;refine ax (i:=10) (v:=.pointer (some ⟨g,u*8+6,none⟩)) rfl zab zab zab (fun _ _ _ h=>h) zac (Or.inl ⟨zaf,fun w _=>zaj⟩) u0 ?_;refine dR (i:=11) (v:=.slice la ln lc) rfl zab zab zab (fun _ _ _ h=>h) rfl zab zab (Or.inl ⟨zaf,fun w UL=>zai⟩) u0 ?_;refine ax (i:=14) (v:=.pointer (some ⟨g,u*8,none⟩)) rfl zab zab zab (fun _ _ _ h=>h) zac (Or.inl ⟨zaf,fun w _=>zaj⟩) u0 ?_;refine ax (i:=15) (v:=.pointer (some ⟨g,u*8+7,none⟩)) rfl zab zab zab (fun _ _ _ h=>h) zac (Or.inl ⟨zaf,fun w _=>zaj⟩) u0 ?_;refine dR (i:=16) (v:=.slice ma mn mc) rfl zab zab zab (fun _ _ _ h=>h) rfl zab zab (Or.inl ⟨zaf,fun w UL=>zai⟩) u0 ?_;refine eB (rs:=[7]) zab zad ?_;refine bF.cons rfl (fun K hK=>?_) bF.nil;go_simp;refine OI (so ea en ec s.enter _ (bj HE.out VF) zaa) ?_;rintro e w1 ⟨se,rfl,hE1,TM⟩;have Zj:Below w w w1:=VF.trans TM;dsimp only;refine hK.out _ _ (HC.out _ Zj) (fun u0=>?_);clear hK K;refine eB (rs:=[12]) zab zad ?_;refine bF.cons rfl (fun K hK=>?_) bF.nil;go_simp;refine OI (so la ln lc s.leave _ (bj HL.out Zj) zaa) ?_;rintro e w2 ⟨sl,rfl,hL2,TP⟩;have Us:Below w w w2:=Zj.trans (TP.mono Zj.size);dsimp only;refine hK.out _ _ (HC.out _ Us) (fun u0=>?_);clear hK K;refine eB (rs:=[17]) zab zad ?_;refine bF.cons rfl (fun K hK=>?_) bF.nil;go_simp;refine OI (BY ma mn mc M _ (bj HM.out Us) zaa) ?_;rintro e w3 ⟨⟨sma,smn,smc⟩,rfl,Vi,Ug⟩;have Yj:Below w w w3:=Us.trans (Ug.mono Us.size);dsimp only;refine hK.out _ _ (HC.out _ Yj) (fun u0=>?_);clear hK K;refine ax (i:=18) (v:=.pointer (some ⟨g,u*8,none⟩)) rfl zab zab zab (fun _ _ _ h=>h) zac (Or.inl ⟨zaf,fun w _=>zaj⟩) u0 ?_;refine ax (i:=19) (v:=.pointer (some ⟨g,u*8+5,none⟩)) rfl zab zab zab (fun _ _ _ h=>h) zac (Or.inl ⟨zaf,fun w _=>zaj⟩) u0 ?_;refine jS zab ?_;have Xv:apart se sl:=by
  unfold apart;cases e1:se.v.ownBlock with
  |none=>exact .inl rfl
  |some k=>
   refine .inr (fun e2=>?_);have h1:=(O8 hE1 k e1).2;have h2:=(O8 hL2 k e2.symm).1;omega
 have sz1:=Zj.size;have sz2:=Us.size;have hnM:smn=M.length:=Md (v:=⟨sma,smn,smc⟩) Vi;subst hnM;have G0:cU w (((w3.setCell (g,u*8+5) (.slice se.a se.n se.c)).setCell (g,u*8+6) (.slice sl.a sl.n sl.c)).setCell (g,u*8+7) (.slice sma M.length smc)) B g cap X u x se sl ⟨sma,M.length,smc⟩ s.enter s.leave M:=by
  rw[HXX.out];exact cU.begin HS.out hu HX.out Yj (bj (bj (aC hE1 (Ow _)) TP) Ug) (bj (aC hL2 sz1) Ug) (aC Vi sz2) Xv
 obtain⟨c5,c6,c7⟩:=HC.out _ Yj;have f5:=HF.out w3 (u*8+5) Yj;have f6:=HF.out w3 (u*8+6) Yj;have f7:=HF.out w3 (u*8+7) Yj;have HG:Hid _:=G0;clear G0 Xv hE1 hL2 Vi TM TP Ug u0 hcw sz1 sz2;refine zA 20 rfl fun K hK=>?_;go_simp;refine hK _ _ ?_;clear hK K;refine TA (i:=21) (v:=.pointer (some ⟨g,u*8,none⟩)) rfl zab zab zab (fun _ _ _ h=>h) (Or.inl ⟨zaf,fun w=>zaj⟩) ?_;refine TA (i:=22) (v:=.pointer (some ⟨g,u*8+6,none⟩)) rfl zab zab zab (fun _ _ _ h=>h) (Or.inl ⟨zaf,fun w=>zaj⟩) ?_;refine zA 23 rfl fun K hK=>?_;go_simp;refine hK _ _ ?_;clear hK K;refine TA (i:=24) (v:=.pointer (some ⟨g,u*8,none⟩)) rfl zab zab zab (fun _ _ _ h=>h) (Or.inl ⟨zaf,fun w=>zaj⟩) ?_;refine TA (i:=25) (v:=.pointer (some ⟨g,u*8+7,none⟩)) rfl zab zab zab (fun _ _ _ h=>h) (Or.inl ⟨zaf,fun w=>zaj⟩) ?_;refine zA 26 rfl fun K hK=>?_;go_simp;refine hK _ _ ?_;clear hK K;refine P0 zab ?_ _;have G0:=HG.out;clear HG c5 c6 c7 f5 f6 f7 Yj Us Zj HC HF;generalize((w3.setCell (g,u*8+5) (.slice se.a se.n se.c)).setCell (g,u*8+6) (.slice sl.a sl.n sl.c)).setCell (g,u*8+7) (.slice sma M.length smc)=W0 at G0⊢;have c7:W0.cell? (g,u*8+7)=some (.slice sma M.length smc):=(G0.cell hu 7 zac).trans rfl;have HG0:Hid _:=G0;clear G0;go_wp2
 go_loopg[34] M.length (fun q i wr=>∃(j:Nat) (ve vl:U.Sl),q=M.length-j/\j<=M.length/\i=.int .i64 j/\cU w wr B g cap X u x ve vl ⟨sma,M.length,smc⟩ (U.eD s j) (U.cM s j) (J.bh M j))
 case atStart=>exact⟨0,se,sl,rfl,OL _,rfl,HG0.out⟩
 case round=>
  clear c7;obtain⟨j,ve,vl,hq,hj,rfl,G⟩:=hrel;by_cases XC:j<M.length
  ·have hQl:=J.me M j hj;obtain⟨mb,cm,hvm⟩:=U.eG G.aj zaa;simp only[U.Sl.v,Value.slice.injEq]at hvm;obtain⟨rfl,-,rfl⟩:=hvm;have Uh:wr.ownsRow 0 260 5 (.slice mb (J.bh M j).length smc) (J.bh M j).length ((J.bh M j).flatMap J.bl):=by
    have:=aC G.aj (OL _);unfold U.Sl.v at this;rw[<- hQl]at this;exact this
   have TS:=Row.range (f:=J.bl) (n:=5) (fun _=>rfl) Uh (by rw[hQl];exact XC);rw[J.l9 M j XC]at TS;have hcm:M.length<=smc:=by
    rcases Uh.2 with⟨h,_⟩|⟨g',cap',cur,h,_,_,hle,_⟩
    ·cases h
    ·simp at h;rw[h.2];rw[hQl]at hle;exact hle
   have hmlt:mb<wr.heap.size:=(O8 Uh mb rfl).2;obtain⟨y,hy⟩:∃y,y=M[j]:=⟨_,rfl⟩;have hym:y∈M:=by rw[hy];exact Pl XC
   have HMJ:Hid (s.aj[j]?=some y.m):=by
    unfold Hid;rw[show s.aj=M.map (·.m) from Hm.out.symm,OF,Ou XC,<- hy];rfl
   rw[<- hy]at TS;unfold J.bl at TS;have HY:Hid _:=hy;have HQL:Hid _:=hQl;clear hQl;have HG:Hid _:=G;have UN:=G.glt.2;clear Uh hy G;cases ha:y.m.after with
   |false=>
    have HA:Hid _:=ha;go_wp2_with(first
     |(refine PW rfl 260 (.tmp 37) rfl mb (j*5) rfl _ _ TS underlying260 rfl ng ?_)
     |(refine aJ rfl 260 (.tmp 3) (.tmp 38) rfl 260 _ _ rfl rfl ng rfl rfl ?_)
     |fail)
    have V5:Below wr wr (wr.alloc (.cells #[y.m.event,false,.int .u64 y.m.delay,y.m.to,.slice y.v.a y.v.n y.v.c] 260)):=(Oy _ _).alloc (Ow _) _;have HG1:Hid (cU w (wr.alloc (.cells #[y.m.event,false,.int .u64 y.m.delay,y.m.to,.slice y.v.a y.v.n y.v.c] 260)) B g cap X u x ve vl ⟨some ⟨mb,0,none⟩,M.length,smc⟩ (U.eD s (j+1)) (U.cM s (j+1)) (J.bh M (j+1))):=by
     unfold Hid;have e1:U.eD s (j+1)=U.eD s j:=by rw[U.eD,HMJ.out];simp[HA.out]
     have e2:U.cM s (j+1)=U.cM s j:=by rw[U.cM,HMJ.out];simp[HA.out]
     rw[e1,e2,J.yp M j XC (by rw[<- HY.out];exact HA.out)];exact HG.out.aq V5
    go_roundg (M.length-(j+1))
    case measure=>omega
    case rel=>exact⟨j+1,ve,vl,rfl,zaa,zag,HG1.out⟩
   |true=>
    have HA:Hid _:=ha;go_wp2_with(first
     |(refine PW rfl 260 (.tmp 37) rfl mb (j*5) rfl _ _ TS underlying260 rfl ng ?_)
     |(refine aJ rfl 260 (.tmp 3) (.tmp 38) rfl 260 _ _ rfl rfl ng rfl rfl ?_)
     |(refine aJ rfl 274 (.tmp 4) (.tmp 44) rfl 274 _ _ rfl rfl Db rfl rfl ?_)
     |fail)
    obtain⟨i0,hi,Ue,Ub,Uf⟩:=PZ nO;have hev0:y.m.event.size≠0:=Hev.out y hym ha;have HV1:Hid _:=JV hev0;have HV2:Hid _:=GH y.m;have Vm:=sQ s j;have Xx:=qe s j;clear hev0 TS;obtain⟨W2,WR⟩:∃z,z=(wr.alloc (.cells #[y.m.event,true,.int .u64 y.m.delay,y.m.to,.slice y.v.a y.v.n y.v.c] 260)).alloc (.cells #[y.m.event] 274):=⟨_,rfl⟩;have hm2:W2.heap[wr.heap.size]?=some (.cells #[y.m.event,true,.int .u64 y.m.delay,y.m.to,.slice y.v.a y.v.n y.v.c] 260 (0,0)):=by rw[WR];exact fk _ _ _
    have Ur:W2.heap[wr.heap.size+1]?=some (.cells #[y.m.event] 274 (0,0)):=by rw[WR];exact bU _ _ _
    have TP:Below wr wr W2:=by rw[WR];exact((Oy _ _).alloc (Ow _) _).alloc zad _
    have WS:wr.heap.size+2<=W2.heap.size:=by rw[WR];simp
    have hsz2b:W2.heap.size<=wr.heap.size+2:=by rw[WR];simp
    have HCS:Hid (∀W,Below W2 W2 W->W.cell? (g,u*8+5)=some (.slice ve.a ve.n ve.c)/\W.cell? ↑(wr.heap.size+1)=some ↑y.m.event/\W.cell? wr=some ↑y.m.event/\W.cell? ⟨wr,2,none⟩=some (.int .u64 y.m.delay)):=by
     intro W hb;have h1:=(hb.block _ zaa).trans hm2;have h2:=(hb.block _ zaa).trans Ur;refine⟨(((HG.out.aq TP).aq hb).cell hu 5 zac).trans rfl,?_,?_,?_⟩
     ·rw[OA W _ _ _ _ _ h2];rfl
     ·rw[OA W _ _ _ _ _ h1];rfl
     ·rw[OA W _ _ _ _ _ h1];rfl
    change Code.wp _ _ _ _ ((wr.alloc (.cells #[y.m.event,true,.int .u64 y.m.delay,y.m.to,.slice y.v.a y.v.n y.v.c] 260)).alloc (.cells #[y.m.event] 274));rw[<- WR];clear WR ha;refine mF (s:=17) (S:=(fun W=>W.cell? (g,u*8+5)=some (.slice ve.a ve.n ve.c)/\W.cell? ↑(wr.heap.size+1)=some ↑y.m.event/\W.cell? wr=some ↑y.m.event/\W.cell? ⟨wr,2,none⟩=some (.int .u64 y.m.delay))) zab (HCS.out _ (Oy _ _).drew) (fun u0=>?_);refine ax (i:=0) (v:=.pointer (some ⟨g,u*8,none⟩)) rfl zab zab zab (fun _ _ _ h=>h) zac (Or.inl ⟨zaf,fun w _=>zaj⟩) u0 ?_;refine ax (i:=1) (v:=.pointer (some ⟨g,u*8,none⟩)) rfl zab zab zab (fun _ _ _ h=>h) zac (Or.inl ⟨zaf,fun w _=>zaj⟩) u0 ?_;refine ax (i:=2) (v:=.pointer (some ⟨g,u*8,none⟩)) rfl zab zab zab (fun _ _ _ h=>h) zac (Or.inl ⟨zaf,fun w _=>zaj⟩) u0 ?_;refine ax (i:=3) (v:=.pointer (some ⟨g,u*8+5,none⟩)) rfl zab zab zab (fun _ _ _ h=>h) zac (Or.inl ⟨zaf,fun w _=>zaj⟩) u0 ?_;refine dR (i:=4) (v:=.slice ve.a ve.n ve.c) rfl zab zab zab (fun _ _ _ h=>h) rfl zab zab (Or.inl ⟨zaf,fun w UL=>zai⟩) u0 ?_;refine dR (i:=5) (v:=.agg #[y.m.event]) rfl zab zab zab (fun _ _ _ h=>h) rfl zab zab (Or.inl ⟨zaf,fun w UL=>zai⟩) u0 ?_;refine ax (i:=6) (v:=.pointer (some ⟨wr,2,none⟩)) rfl zab zab zab (fun _ _ _ h=>h) zac (Or.inl ⟨zaf,fun w _=>zaj⟩) u0 ?_;refine dR (i:=7) (v:=.int .u64 y.m.delay) rfl zab zab zab (fun _ _ _ h=>h) rfl zab zab (Or.inl ⟨zaf,fun w UL=>zai⟩) u0 ?_;refine ax (i:=8) (v:=.agg #[y.m.event,.int .u64 y.m.delay]) rfl zab zab zab (fun _ _ _ h=>h) zac (Or.inl ⟨zaf,fun w _=>zaj⟩) u0 ?_;refine ax (i:=9) (v:=.pointer (some ⟨wr,0,none⟩)) rfl zab zab zab (fun _ _ _ h=>h) zac (Or.inl ⟨zaf,fun w _=>zaj⟩) u0 ?_;refine dR (i:=10) (v:=.string y.m.event) rfl zab zab zab (fun _ _ _ h=>h) rfl zab zab (Or.inl ⟨zaf,fun w UL=>zai⟩) u0 ?_;refine ax (i:=11) (v:=.agg #[y.m.event,.int .u64 y.m.delay,y.m.event]) rfl zab zab zab (fun _ _ _ h=>h) zac (Or.inl ⟨zaf,fun w _=>zaj⟩) u0 ?_;refine ax (i:=12) (v:=.iface 278 (.agg #[y.m.event,.int .u64 y.m.delay,y.m.event])) rfl zab zab zab (fun _ _ _ h=>h) zac (Or.inl ⟨zaf,fun w _=>zaj⟩) u0 ?_;refine eB (rs:=[13]) zab zad ?_;refine bF.cons rfl (fun K hK=>?_) bF.nil;go_simp;have UM:Below W2 W2 ((W2.alloc (.cells #[.iface 278 (.agg #[y.m.event,.int .u64 y.m.delay,y.m.event])] 271)).drew):=((Oy _ _).alloc (Ow _) _).drew;refine hK.out _ _ (HCS.out _ UM) (fun u0=>?_);clear hK K;refine eB (rs:=[14]) zab zad ?_;refine bF.cons rfl (fun K hK=>?_) bF.nil;refine step_append_lies _ zaf _ _ _ zaf w.heap.size 271 i0 _ 1 16 underlying178 hi Ue Ub Uf rfl zac (.slice ve.a ve.n ve.c) (U.eD s j).length ((U.eD s j).map bm) zaf ((QH (HG.out.aq TP).enter _).drew) ⟨W2,0,none⟩ 1 1 [.iface 278 (.agg #[y.m.event,.int .u64 y.m.delay,y.m.event])] zaf zaf (World.news_of_block (cs:=#[.iface 278 (.agg #[y.m.event,.int .u64 y.m.delay,y.m.event])]) (t:=271) (fr:=(0,0)) (OH W2 _)) zao zaa zah zaa (by have:=(HG.out.aq TP).ai.size;simp;omega) (W2.heap.size+1) zad ?_;intro g5 cap5 w5 TQ L8 Uy U2;have Vk:ak g w w5:=lh HG.out.ai (TP.trans (UM.mono TP.size)) L8 (fun k h=>(O8 HG.out.enter k h).1);have TU:=(HG.out.MJ).1;have WA:∀k,k=wr.heap.size\/k=wr.heap.size+1->some k≠ve.v.ownBlock:=fun k hk e=>by
     have:=(O8 HG.out.enter k e.symm).2;omega
    have hS5:w5.cell? (g,u*8+5)=some (.slice ve.a ve.n ve.c)/\w5.cell? ↑(wr.heap.size+1)=some ↑y.m.event/\w5.cell? wr=some ↑y.m.event/\w5.cell? (wr,2)=some (.int .u64 y.m.delay):=
     ⟨(L8.cell_far _ zae TU).trans u0.1,(L8.cell_far _ zae (WA _ (.inr rfl))).trans u0.2.1,(L8.cell_far _ zae (WA _ (.inl rfl))).trans u0.2.2.1,(L8.cell_far _ zae (WA _ (.inl rfl))).trans u0.2.2.2⟩
    have YI:w5.heap[wr.heap.size+1]?=some (.cells #[y.m.event] 274 (0,0)):=(L8.block _ zae (WA _ (.inr rfl))).trans ((UM.block _ zaa).trans Ur);have HG3:Hid (cU w (w5.setCell (g,u*8+5) (.slice g5 ((U.eD s j).length+1) cap5)) B g cap X u x ⟨some ⟨g5,0,none⟩,(U.eD s j).length+1,cap5⟩ vl ⟨some ⟨mb,0,none⟩,M.length,smc⟩ (U.eD s j++[U.vQ y.m]) (U.cM s j) (J.bh M j)):=by
     unfold Hid;refine HG.out.GI (ve':=⟨some ⟨g5,0,none⟩,(U.eD s j).length+1,cap5⟩) hu (TP.trans (UM.mono TP.size)) L8 (by rw[HV1.out];exact TQ) ?_;exact ze5
    have f5:w5.frozen? (g,u*8+5)=false:=(L8.frozen_far _ zae TU).trans ((((Oy W2 W2).alloc (Ow _) _).drew.frozen (p:=(g,u*8+5)) zae).trans ((HG.out.aq TP).frozen _));have hsz5:=L8.size;clear TQ L8 Uy Vk;refine hK.out _ _ hS5 (fun u0=>?_);clear hK K;obtain⟨c5,-,-,-⟩:=hS5;refine ax (i:=15) (v:=.pointer (some ⟨g,u*8,none⟩)) rfl zab zab zab (fun _ _ _ h=>h) zac (Or.inl ⟨zaf,fun w _=>zaj⟩) u0 ?_;refine ax (i:=16) (v:=.pointer (some ⟨g,u*8+5,none⟩)) rfl zab zab zab (fun _ _ _ h=>h) zac (Or.inl ⟨zaf,fun w _=>zaj⟩) u0 ?_;refine jS zab ?_;refine zA 17 rfl fun K hK=>?_;go_simp;refine hK _ _ ?_;clear hK K;refine P0 zab ?_ _;clear c5 f5 u0 HCS UM;have hb5w:wr.heap.size+2<w5.heap.size:=by simp at hsz5;omega
    have U0:(w5.setCell (g,u*8+5) (.slice g5 ((U.eD s j).length+1) cap5)).heap[wr.heap.size+1]?=some (.cells #[y.m.event] 274 (0,0)):=by
     rw[(aa w5 g _ _).block _ zaa];exact YI
    have hsz3:w5.heap.size<=(w5.setCell (g,u*8+5) (.slice g5 ((U.eD s j).length+1) cap5)).heap.size:=by rw[(aa w5 g _ _).size];exact Ow _
    have G3:=HG3.out;clear HG3;generalize w5.setCell (g,u*8+5) (.slice g5 ((U.eD s j).length+1) cap5)=W3 at G3 U0 hsz3⊢;have HG3:Hid _:=G3;clear G3;have HCT:Hid (∀W,Below W3 W3 W->W.cell? (g,u*8+6)=some (.slice vl.a vl.n vl.c)/\W.cell? ↑(wr.heap.size+1)=some ↑y.m.event):=by
     intro W hb;have h2:=(hb.block _ zaa).trans U0;refine⟨((HG3.out.aq hb).cell hu 6 zac).trans rfl,?_⟩;rw[OA W _ _ _ _ _ h2];rfl
    go_upto_region 7 with fail
    refine mF (s:=12) (S:=(fun W=>W.cell? (g,u*8+6)=some (.slice vl.a vl.n vl.c)/\W.cell? ↑(wr.heap.size+1)=some ↑y.m.event)) zab (HCT.out _ (Oy _ _).drew) (fun u0=>?_);refine ax (i:=0) (v:=.pointer (some ⟨g,u*8,none⟩)) rfl zab zab zab (fun _ _ _ h=>h) zac (Or.inl ⟨zaf,fun w _=>zaj⟩) u0 ?_;refine ax (i:=1) (v:=.pointer (some ⟨g,u*8,none⟩)) rfl zab zab zab (fun _ _ _ h=>h) zac (Or.inl ⟨zaf,fun w _=>zaj⟩) u0 ?_;refine ax (i:=2) (v:=.pointer (some ⟨g,u*8,none⟩)) rfl zab zab zab (fun _ _ _ h=>h) zac (Or.inl ⟨zaf,fun w _=>zaj⟩) u0 ?_;refine ax (i:=3) (v:=.pointer (some ⟨g,u*8+6,none⟩)) rfl zab zab zab (fun _ _ _ h=>h) zac (Or.inl ⟨zaf,fun w _=>zaj⟩) u0 ?_;refine dR (i:=4) (v:=.slice vl.a vl.n vl.c) rfl zab zab zab (fun _ _ _ h=>h) rfl zab zab (Or.inl ⟨zaf,fun w UL=>zai⟩) u0 ?_;refine dR (i:=5) (v:=.agg #[y.m.event]) rfl zab zab zab (fun _ _ _ h=>h) rfl zab zab (Or.inl ⟨zaf,fun w UL=>zai⟩) u0 ?_;refine ax (i:=6) (v:=.agg #[y.m.event]) rfl zab zab zab (fun _ _ _ h=>h) zac (Or.inl ⟨zaf,fun w _=>zaj⟩) u0 ?_;refine ax (i:=7) (v:=.iface 280 (.agg #[y.m.event])) rfl zab zab zab (fun _ _ _ h=>h) zac (Or.inl ⟨zaf,fun w _=>zaj⟩) u0 ?_;refine eB (rs:=[8]) zab zad ?_;refine bF.cons rfl (fun K hK=>?_) bF.nil;go_simp;have VV:Below W3 W3 ((W3.alloc (.cells #[.iface 280 (.agg #[y.m.event])] 271)).drew):=((Oy _ _).alloc (Ow _) _).drew;refine hK.out _ _ (HCT.out _ VV) (fun u0=>?_);clear hK K;refine eB (rs:=[9]) zab zad ?_;refine bF.cons rfl (fun K hK=>?_) bF.nil;refine step_append_lies _ zaf _ _ _ zaf w.heap.size 271 i0 _ 1 16 underlying178 hi Ue Ub Uf rfl zac (.slice vl.a vl.n vl.c) (U.cM s j).length ((U.cM s j).map bm) zaf ((QH HG3.out.leave _).drew) ⟨W3,0,none⟩ 1 1 [.iface 280 (.agg #[y.m.event])] zaf zaf (World.news_of_block (cs:=#[.iface 280 (.agg #[y.m.event])]) (t:=271) (fr:=(0,0)) (OH W3 _)) zao zaa zah zaa (by have:=HG3.out.ai.size;simp;omega) (W3.heap.size+1) zad ?_;intro g6 cap6 w6 YJ Vx hat6 hlt6;have hne6:=(HG3.out.MJ).2.1;have hgl3:=HG3.out.glt.2;have hfar6:some (wr.heap.size+1)≠vl.v.ownBlock:=fun e=>by
     have:=(O8 HG.out.leave _ e.symm).2;omega
    have hS6:w6.cell? (g,u*8+6)=some (.slice vl.a vl.n vl.c)/\w6.cell? ↑(wr.heap.size+1)=some ↑y.m.event:=
     ⟨(Vx.cell_far _ zae hne6).trans u0.1,(Vx.cell_far _ zae hfar6).trans u0.2⟩
    have HG4:Hid (cU w (w6.setCell (g,u*8+6) (.slice g6 ((U.cM s j).length+1) cap6)) B g cap X u x ⟨some ⟨g5,0,none⟩,(U.eD s j).length+1,cap5⟩ ⟨some ⟨g6,0,none⟩,(U.cM s j).length+1,cap6⟩ ⟨some ⟨mb,0,none⟩,M.length,smc⟩ (U.eD s j++[U.vQ y.m]) (U.cM s j++[U.ts y.m]) (J.bh M j)):=by
     unfold Hid;refine HG3.out.GJ (vl':=⟨some ⟨g6,0,none⟩,(U.cM s j).length+1,cap6⟩) hu VV Vx (by rw[HV2.out];exact YJ) ?_
     rcases hat6 with h|h
     ·exact .inl h.symm
     ·exact .inr zax
    have f6:w6.frozen? (g,u*8+6)=false:=(Vx.frozen_far _ zae hne6).trans ((VV.frozen (p:=(g,u*8+6)) zae).trans (HG3.out.frozen _));clear YJ Vx hat6;refine hK.out _ _ hS6 (fun u0=>?_);clear hK K;obtain⟨c6,-⟩:=hS6;refine ax (i:=10) (v:=.pointer (some ⟨g,u*8,none⟩)) rfl zab zab zab (fun _ _ _ h=>h) zac (Or.inl ⟨zaf,fun w _=>zaj⟩) u0 ?_;refine ax (i:=11) (v:=.pointer (some ⟨g,u*8+6,none⟩)) rfl zab zab zab (fun _ _ _ h=>h) zac (Or.inl ⟨zaf,fun w _=>zaj⟩) u0 ?_;refine jS zab ?_;refine zA 12 rfl fun K hK=>?_;go_simp;refine hK _ _ ?_;clear hK K;refine P0 zab ?_ _;clear c6 f6 u0 HCT VV;have G4:=HG4.out;clear HG4;generalize w6.setCell (g,u*8+6) (.slice g6 ((U.cM s j).length+1) cap6)=W4 at G4⊢;have c7:W4.drew.cell? (g,u*8+7)=some (.slice mb M.length smc):=(G4.cell hu 7 zac).trans rfl;have hgm:g≠mb:=fun e=>by have:=G4.MJ.2.2;rw[e]at this;exact this rfl
    have hmo4:W4.ownsRow w 260 5 (.slice mb (J.bh M j).length smc) (J.bh M j).length ((J.bh M j).flatMap J.bl):=by
     have:=G4.aj;unfold U.Sl.v at this;rw[show M.length=(J.bh M j).length from HQL.out.symm]at this;exact this
    have hjq:j<(J.bh M j).length:=by rw[HQL.out];exact XC
    obtain⟨v1,m1⟩:∃v1,W4.cell? (mb,j*5+1)=some (.bool v1):=by
     refine⟨(J.bh M j)[j].m.after,?_⟩;rw[hmo4.cellAt _ zaa,U.ka (f:=J.bl) (n:=5) (fun _=>rfl) _ j 1 zac hjq];rfl
    obtain⟨v2,m2⟩:∃v2,W4.cell? (mb,j*5+2)=some (.int .u64 v2):=by
     refine⟨(J.bh M j)[j].m.delay,?_⟩;rw[hmo4.cellAt _ zaa,U.ka (f:=J.bl) (n:=5) (fun _=>rfl) _ j 2 zac hjq];rfl
    have fm1:W4.frozen? (mb,j*5+1)=false:=P7 (aC hmo4 (OL _)) _;have fm2:W4.frozen? (mb,j*5+2)=false:=P7 (aC hmo4 (OL _)) _;have HG5:Hid (cU w ((W4.setCell (mb,j*5+1) (.bool false)).setCell (mb,j*5+2) (.int .u64 0)).drew B g cap X u x ⟨some ⟨g5,0,none⟩,(U.eD s j).length+1,cap5⟩ ⟨some ⟨g6,0,none⟩,(U.cM s j).length+1,cap6⟩ ⟨some ⟨mb,0,none⟩,M.length,smc⟩ (U.eD s (j+1)) (U.cM s (j+1)) (J.bh M (j+1))):=by
     unfold Hid;have hQ:=HQL.out;have T4:=cU.LC (Q:=J.bh M j) (mb:=mb) (cm:=smc) (j:=j) (by rw[hQ];exact G4) hjq;rw[hQ]at T4;have e1:U.eD s (j+1)=U.eD s j++[U.vQ y.m]:=by rw[U.eD,HMJ.out];simp[HA.out]
     have e2:U.cM s (j+1)=U.cM s j++[U.ts y.m]:=by rw[U.cM,HMJ.out];simp[HA.out]
     have e3:J.bh M (j+1)=(J.bh M j).set j { (J.bh M j)[j] with m:={ (J.bh M j)[j].m with after:=false,delay:=0 } }:=by
      rw[J.oS M j XC,J.l9 M j XC hjq,<- HY.out]
      congr 1
      unfold J.iI J.dX;rw[OD HA.out]
     rw[e1,e2,e3];exact T4.aq (Oy _ _).drew
    clear hmo4 hjq G4 HG3 HG
    go_upto_region 8 with fail
    refine OQ (S:=(fun W=>W.cell? (g,u*8+7)=some (.slice mb M.length smc))) zab c7 (fun u0=>?_);refine tH 0 (g,u*8) rfl u0 ?_;refine tH 1 (g,u*8) rfl u0 ?_;refine tH 2 (g,u*8+7) rfl u0 ?_;refine tH 3 (.slice mb M.length smc) rfl u0 ?_;refine tH 4 (.int .i64 j) rfl u0 ?_;refine tH 5 (g,u*8) rfl u0 ?_;refine tH 6 (g,u*8) rfl u0 ?_;refine tH 7 (g,u*8+7) rfl u0 ?_;refine tH 8 (.slice mb M.length smc) rfl u0 ?_;refine tH 9 (.int .i64 j) rfl u0 ?_;refine tH 10 (mb,j*5) rfl u0 ?_;refine tH 11 (mb,j*5+1) rfl u0 ?_;refine zH 12 rfl fun K hK=>?_;go_simp;refine hK.out _ _ (((aa W4 mb (j*5+1) (.bool false)).cell (p:=(g,u*8+7)) hgm).trans c7) (fun u0=>?_);clear hK K;refine tH 13 (mb,j*5) rfl u0 ?_;refine tH 14 (mb,j*5+2) rfl u0 ?_;refine zH 15 rfl fun K hK=>?_;go_simp;refine hK.out _ _ (((aa (W4.setCell (mb,j*5+1) (.bool false)) mb (j*5+2) (.int .u64 0)).cell (p:=(g,u*8+7)) hgm).trans (((aa W4 mb (j*5+1) (.bool false)).cell (p:=(g,u*8+7)) hgm).trans c7)) (fun u0=>?_);clear hK K;refine OY zab ?_ _;go_wp2
    go_roundg (M.length-(j+1))
    case measure=>omega
    case rel=>exact⟨j+1,_,_,rfl,zaa,zag,HG5.out⟩
  ·have hje:j=M.length:=zaa;subst hje;go_wp2;go_end0;refine⟨rfl,ve,vl,⟨sma,M.length,smc⟩,?_⟩;rw[J.AB]at G;rw[HXX.out]at G;exact G
theorem yV{c:Array Value}{fz:Nat×Nat}(h:ak g w w')(hg:w.heap[g]?=some (.cells c e fz)):Touch e w w':=
 ⟨h.size,fun k hk hn=>h.block k hk (fun e0=>by subst e0;exact hn _ _ hg)⟩
theorem gz.fM(h:gz w x M)(T:Touch 188 w w'):gz w' x M:=
 ⟨h.dep0,h.dep,h.name,h.mv,h.mlen,ag h.aj T zac,fun y hy=>ag (h.aw y hy) T zac,h.actsG,ag h.enter T zac,h.enterG,ag h.leave T zac,h.leaveG⟩
theorem gz.aq(h:gz w x M)(hb:Below w w w'):gz w' x M:=h.fM (cT hb)
theorem uL{α:Type}{f:α->List Value}{a b:α}(h:f a=f b)(l:List α)(k:Nat):(l.set k a).flatMap f=(l.set k b).flatMap f:=by
 rw[List.flatMap_def,List.flatMap_def,Qw,Qw,h]
theorem FD{u:Nat}(G:cU w w' B g cap Z u x ve vl vm (U.eD x.s M.length) (U.cM x.s M.length) (M.map J.iI))(Uw:J.qA x.s)(hm:M.map (·.m)=x.s.aj)(ha:∀y∈M,w'.ownsRow 0 271 1 y.v.v y.m.aw.length (y.m.aw.map bm)):
  gz w' { s:=J.td x.s,vp:=x.vp,ve:=ve,vl:=vl,vm:=vm } (M.map J.iI):=by
 have Vd:x.s.aj.length=M.length:=by rw[<- hm,OK]
 have Ud:∀y∈M,y.m∈x.s.aj:=fun y hy=>by rw[<- hm];exact Qt hy
 have hIn:=J.D4 Uw M.length;have hOut:=J.AH Uw M.length;have l1:=sQ x.s M.length;have l2:=qe x.s M.length;have l3:=Uw.mlen;have l4:=Uw.elen;have l5:=Uw.llen;refine⟨Uw.dep0,Uw.dep,Uw.name,?_,za8,?_,?_,?_,?_,?_,?_,?_⟩
 ·show(M.map J.iI).map (·.m)=x.s.aj.map J.dX;rw[<- hm,Q6,Q6];rfl
 ·exact aC G.aj (OL _)
 ·intro y hy;obtain⟨z,hz,rfl⟩:=O7.1 hy;have:=ha z hz;rw[show(J.iI z).m.aw=z.m.aw from J.oO z.m];exact this
 ·intro y hy;obtain⟨z,hz,rfl⟩:=O7.1 hy;obtain⟨h1,h2⟩:=Uw.aj z.m (Ud z hz);refine⟨J.CI h1,?_⟩;rw[show(J.iI z).m.aw=z.m.aw from J.oO z.m];exact h2
 ·show w'.ownsRow 0 _ 1 ve.v (U.eD x.s x.s.aj.length).length ((U.eD x.s x.s.aj.length).map bm);rw[Vd];exact aC G.enter (OL _)
 ·show J.nq (U.eD x.s x.s.aj.length);rw[Vd];exact⟨hIn.1,hIn.2,zaa⟩
 ·show w'.ownsRow 0 _ 1 vl.v (U.cM x.s x.s.aj.length).length ((U.cM x.s x.s.aj.length).map bm);rw[Vd];exact aC G.leave (OL _)
 ·show J.nq (U.cM x.s x.s.aj.length);rw[Vd];exact⟨hOut.1,hOut.2,zaa⟩
structure lH(w wr:World)(sv:U.Sl)(X Z:List J.DS)(k:Nat):Prop where
 bel:Below w w wr
 len:Z.length=X.length
 row:wr.ownsRow w 188 8 sv.v Z.length (Z.flatMap J.aP)
 done:∀i (h:i<Z.length) (h':i<X.length),i<k->Z[i].s=J.td X[i].s/\∃M,gz wr Z[i] M
 rest:∀i (h:i<Z.length) (h':i<X.length),k<=i->Z[i]=X[i]
theorem lH.step{k:Nat}(D:lH w wr ⟨some ⟨g,0,none⟩,Z.length,cap⟩ X Z k)(UD:k<X.length)(Uw:J.qA X[k].s)(hm:M.map (·.m)=X[k].s.aj)
  (ha:∀y∈M,w.ownsRow 0 271 1 y.v.v y.m.aw.length (y.m.aw.map bm)) (G:cU wr w' w g cap Z k X[k] ve vl vm (U.eD X[k].s M.length) (U.cM X[k].s M.length) (M.map J.iI)):
  lH w w' ⟨some ⟨g,0,none⟩,Z.length,cap⟩ X (Z.set k { s:=J.td X[k].s,vp:=X[k].vp,ve:=ve,vl:=vl,vm:=vm }) (k+1):=by
 obtain⟨c,hc⟩:=bS D.row g rfl;have hg:=(O8 D.row g rfl).1;have T:=yV G.ai hc;have hb:Below w w w':=G.ai.below D.bel hg D.bel.size;refine⟨hb,by rw[ON];exact D.len,?_,?_,?_⟩
 ·have e:=uL (f:=J.aP) (a:={ s:=J.td X[k].s,vp:=X[k].vp,ve:=ve,vl:=vl,vm:=vm }) (b:={ X[k] with ve:=ve,vl:=vl,vm:=vm }) rfl Z k;rw[e,ON];exact G.states
 ·intro i h h' hi;rw[ON]at h;rw[PI];by_cases e:k=i
  ·subst e;rw[OD rfl];exact⟨rfl,_,FD G Uw hm (fun y hy=>bj (ha y hy) hb)⟩
  ·rw[OB e];obtain⟨h1,M',h2⟩:=D.done i h h' zaa;exact⟨h1,M',h2.fM T⟩
 ·intro i h h' hi;rw[ON]at h;rw[PI,OB zaa];exact D.rest i h h' zaa
def JO(X:List J.DS)(w:World)(e:Ending)(w':World):Prop:=Below w w w'/\∃cb sv Z,e=.returned (.pointer (some ⟨cb,0,none⟩))/\w'.heap[cb]?=some (.cells #[.slice sv.a sv.n sv.c] 175 (0,0))/\lH w w' sv X Z X.length
theorem Ca(cb:Nat)(sv:U.Sl)(X:List J.DS)(w:World)(hc:w.heap[cb]?=some (.cells #[.slice sv.a sv.n sv.c] 175 (0,0)))(hC:jU w sv X)(Wp:X.length<=1000)(Uw:∀x∈X,J.qA x.s):
  () 39 #[cb] w (JO X w):=by
 obtain⟨sa,sn,sc⟩:=sv;have c0:w.cell? cb=some (.slice sa sn sc):=by rw[OA w _ _ _ _ _ hc];rfl
 have HC:Hid _:=hC;have HOK:Hid _:=Uw;have HCl:Hid _:=BZ sa sn sc X w hC.states zaa;clear hC Uw hc;go_enter func39,ntmps39;go_wp2_with fail;refine OI HCl.out ?_;rintro e w1 ⟨⟨ta,tn,tc⟩,rfl,TO,TM⟩;have hnX:tn=X.length:=Md (v:=⟨ta,tn,tc⟩) TO;subst hnX;have HD0:Hid (lH w w1 ⟨ta,X.length,tc⟩ X X 0):=⟨TM,rfl,TO,fun i _ _ h=>absurd h zaa,fun i _ _ _=>rfl⟩;clear TO TM HCl c0;dsimp only;go_wp2
 go_loopg[12] X.length (fun q i wr=>∃(k:Nat) (Z:List J.DS),q=X.length-k/\k<=X.length/\i=.int .i64 k/\lH w wr ⟨ta,X.length,tc⟩ X Z k)
 case atStart=>exact⟨0,X,rfl,OL _,rfl,HD0.out⟩
 case round=>
  obtain⟨k,Z,hq,hk,rfl,D⟩:=hrel;by_cases UC:k<X.length
  ·have hZl:=D.len;obtain⟨g,cap,hv⟩:=U.eG D.row zaa;simp only[U.Sl.v,Value.slice.injEq]at hv;obtain⟨rfl,-,rfl⟩:=hv;have hkz:k<Z.length:=zaa;have hxk:Z[k]=X[k]:=D.rest k hkz UC (Ow _);have hD:lH w wr ⟨some ⟨g,0,none⟩,Z.length,tc⟩ X Z k:=by rw[hZl];exact D
   have Ud:X[k]∈X:=Pl UC;obtain⟨M,XJ,Vh,Vi⟩:=HC.out.aj X[k] Ud;have hOK:=HOK.out X[k] Ud;have hMl:M.length<=4096:=by have:=hOK.mlen;rw[<- XJ,OK]at this;exact this
   have UX:X.length<=tc:=by
    rcases D.row.2 with⟨h,_⟩|⟨g',cap',cur,h,_,_,hle,_⟩
    ·cases h
    ·simp[U.Sl.v]at h;rw[h.2.2];omega
   have Wk:Hid _:=tf w.heap.size g tc k Z X[k] M wr hD.row hkz hxk (bj Vh D.bel) (bj (HC.out.enter X[k] Ud) D.bel) (bj (HC.out.leave X[k] Ud) D.bel) XJ hMl hOK.elen hOK.llen (fun y hy=>hOK.event y.m (by rw[<- XJ];exact Qt hy));have HN:Hid (∀(w':World) ve vl vm,cU wr w' w g tc Z k X[k] ve vl vm (U.eD X[k].s M.length) (U.cM X[k].s M.length) (M.map J.iI)->∃Z',lH w w' ⟨some ⟨g,0,none⟩,X.length,tc⟩ X Z' (k+1)):=by
    intro w' ve vl vm G;have:=hD.step UC hOK XJ Vi G;rw[hZl]at this;exact⟨_,this⟩
   clear hOK XJ Vh Vi hD hxk D Ud hkz hZl;go_wp2_with fail;refine OI Wk.out ?_;rintro e w2 ⟨rfl,ve,vl,vm,G⟩;obtain⟨Z',D'⟩:=HN.out w2 ve vl vm G;have HD':Hid _:=D';clear D' G;dsimp only;go_wp2
   go_roundg (X.length-(k+1))
   case measure=>omega
   case rel=>exact⟨k+1,Z',rfl,zaa,zag,HD'.out⟩
  ·have hke:k=X.length:=zaa;subst hke;have UI:Below wr wr (wr.alloc (.cells #[.slice ta X.length tc] 175)):=(Oy _ _).alloc (Ow _) _;have HD:Hid _:=D;clear D;go_wp2;go_ret;have D:=HD.out;refine⟨D.bel.trans (UI.mono D.bel.size),wr.heap.size,⟨ta,X.length,tc⟩,Z,rfl,OH _ _,D.bel.trans (UI.mono D.bel.size),D.len,bj D.row UI,fun i h h' hi=>?_,D.rest⟩;obtain⟨h1,M,h2⟩:=D.done i h h' hi;exact⟨h1,M,h2.aq UI⟩
end
section
open Go.RowKit Go.Proofs Go.Shelf
structure xi(w:World):Prop where
 lib:xh w
 uK:w.cell? ⟨0,0,none⟩=some (.iface 197 (.agg #[.pointer (some ⟨9,48,none⟩)]))
 t6:TabAt 3 Lib.deBruijn64tab w
 t5:TabAt 1 Lib.deBruijn32tab w
 k5:∃c t fz,w.heap[1]?=some (.cells c t fz)
 lw:Y.Lw w.heap.size
theorem xi.aq(h:xi w)(hb:Below w w w'):xi w':=
 ⟨h.lib.aq hb,(OO (hb.block _ (OW _ _ h.uK))).trans h.uK,Y.gH h.lw hb h.t6,Y.b8 h.lw hb h.t5,by
  obtain⟨c,t,fz,e⟩:=h.k5;exact⟨c,t,fz,(hb.block _ h.lw.g5).trans e⟩,⟨OS h.lw.g hb.size,OS h.lw.g5 hb.size⟩⟩
namespace Y
def o0(a:U.Act):PA:=if a.how.toList == U.fC then .raise a.event else if a.how.toList == U.fi then .cancel a.id else if a.id.size=0 then .send a.event a.delay.toNat else .sendAs a.event a.delay.toNat a.id
theorem Ni{a:U.Act}(hd:0<=a.delay):(o0 a).v=bm a:=by
 have e:((a.delay.toNat:Nat):Int)=a.delay:=zaa;unfold o0 bm;split
 ·rfl
 ·split
  ·rfl
  ·split
   ·show Value.iface _ (.agg #[a.event,.int .u64 ((a.delay.toNat:Nat):Int)])=_;rw[e];rfl
   ·show Value.iface _ (.agg #[a.event,.int .u64 ((a.delay.toNat:Nat):Int),a.id])=_;rw[e];rfl
theorem Jq{a:U.Act}(h:U.jT a):0<=a.delay:=by
 obtain⟨n,e,_⟩:=h.delay;omega
theorem Ee{a:U.Act}(h:U.jT a):(o0 a).ok/\(o0 a).sz:=by
 obtain⟨n,e,hn⟩:=h.delay;have he:=h.event;unfold o0;split
 ·exact⟨trivial,zbO⟩
 ·split
  ·exact⟨trivial,trivial⟩
  ·split
   ·exact⟨zcw,zbO⟩
   ·exact⟨zcw,zbO⟩
theorem DD{A:List U.Act}(h:w.ownsRow 0 271 1 v.v A.length (A.map bm))(hG:J.nq A):fW w w v (A.map o0):=by
 obtain⟨va,vn,vc⟩:=v;have hl:=hG.len;refine⟨?_,?_,fun k x hx=>?_,fun x hx=>?_,za8⟩
 ·rw[OK]
  rcases h.2 with⟨e,h0⟩|⟨g,cap,cur,e,_⟩
  ·simp[U.Sl.v]at e;rw[h0];exact e.2.1
  ·simp[U.Sl.v]at e;exact e.2.1
 ·rw[OK]
  rcases h.2 with⟨e,h0⟩|⟨g,cap,cur,e,_,_,hle,_⟩
  ·omega
  ·simp[U.Sl.v]at e;rw[e.2.2];exact hle
 ·rw[OF]at hx;obtain⟨a,ha,rfl⟩:∃a,A[k]?=some a/\o0 a=x:=by
   cases hq:A[k]? with
   |none=>rw[hq]at hx;cases hx
   |some a=>rw[hq]at hx;exact⟨a,rfl,zby⟩
  have hk:=(Oz.1 ha).1
  rcases h.2 with⟨_,h0⟩|⟨g,cap,cur,e,_,hg,hle,_,_,h4⟩
  ·omega
  ·simp[U.Sl.v]at e;refine⟨g,e.1,(Ov.1 hg).1,?_⟩;rw[OA w g k _ _ _ hg,Ni (Jq (hG.small a (OG ha)))];have h5:(cur.toList.take (A.length*1))[k]?=(A.map bm)[k]?:=by rw[h4]
   rw[RV,OD zaa]at h5;rw[<- PN,h5,OF,ha];rfl
 ·obtain⟨a,ha,rfl⟩:=O7.1 hx;exact(Ee (hG.small a ha)).1
theorem PA.N0{x y:PA}(h:x.v=y.v):x=y:=by
 cases x<;>cases y<;>simp[PA.v]at h<;>(try obtain⟨rfl,h⟩:=h)<;>(try subst h)<;>(try rfl)
 ·rw[show(_:Nat)=_ from Int.ofNat.inj h]
 ·obtain⟨h1,rfl⟩:=h;rw[show(_:Nat)=_ from Int.ofNat.inj h1]
theorem fW.uniq{L':List PA}(h:fW W lo v L)(k:fW W lo v L'):L=L':=by
 have hl:L.length=L'.length:=by rw[<- h.n,<- k.n]
 apply Qo
 intro i;by_cases hi:i<L.length
 ·obtain⟨x,hx⟩:∃x,L[i]?=some x:=⟨_,Ou hi⟩;obtain⟨y,hy⟩:∃y,L'[i]?=some y:=⟨_,Ou zaa⟩;obtain⟨a,e1,_,e2⟩:=h.cell i x hx;obtain⟨b,e3,_,e4⟩:=k.cell i y hy;rw[e1]at e3;cases e3
  rw[e2]at e4;rw[hx,hy,PA.N0 (Pd e4)]
 ·rw[OV zaa,OV zaa]
open Classical in
noncomputable def oh(W:World)(lo:Nat)(v:U.Sl):List PA:=if h:∃L,fW W lo v L then h.choose else[]
theorem Ka(h:fW W lo v L):oh W lo v=L:=by
 unfold oh;have he:∃L,fW W lo v L:=⟨L,h⟩;rw[dif_pos he];exact he.choose_spec.uniq h
def aL(x:J.DS):MS:=⟨J.al x.s,x.s.name,x.s.depth,x.s.up,x.vp,x.ve,x.vl,x.vm⟩
def LK(y:J.PV):MV:=⟨y.m.event,y.m.after,y.m.delay,y.m.to,y.v⟩
theorem M8(D:lH w wr sv X Z X.length):∃MM:Nat->List J.PV,∀i,(∀z,Z[i]?=some z->gz wr z (MM i))/\(Z[i]?=none->MM i=[]):=by
 have h:∀i:Nat,∃M:List J.PV,(∀z,Z[i]?=some z->gz wr z M)/\(Z[i]?=none->M=[]):=fun i=>by
  cases hz:Z[i]? with
  |none=>exact⟨[],fun z e=>(by cases e),fun _=>rfl⟩
  |some z=>
   obtain⟨hi,rfl⟩:=Oz.1 hz;have Wn:i<X.length:=by have:=D.len;omega
   obtain⟨_,M,hM⟩:=D.done i hi Wn Wn;exact⟨M,fun z e=>(by cases e;exact hM),fun e=>(by cases e)⟩
 exact Classical.axiomOfChoice h
def vOf(MM:Nat->List J.PV)(i:Nat):List MV:=(MM i).map LK
theorem yh(m:U.Move):(J.dX m).event=m.event/\(J.dX m).to=m.to:=by unfold J.dX;split<;>exact⟨rfl,rfl⟩
theorem M7{N:List U.Move}(h:M.map (·.m)=N.map J.dX){y:J.PV}(hy:y∈M):∃m∈N,y.m=J.dX m:=by
 have:y.m∈N.map J.dX:=by rw[<- h];exact Qt hy
 obtain⟨m,hm,e⟩:=O7.1 this;exact⟨m,hm,e.symm⟩
theorem sN{X:List MS}{n:()}{d:Nat}:∀k,k<=X.length->bH X k n=some d->d<k/\∃x,X[d]?=some x/\n=x.name
 |0,_,h=>by cases h
 |k+1,hk,h=>by
  obtain⟨x,hx⟩:∃x,X[k]?=some x:=⟨_,Ou zaa⟩;rw[bH,hx]at h;dsimp only at h;by_cases e:n=x.name
  ·rw[OD e]at h;have:=Pd h;subst this;exact⟨RL _,x,hx,e⟩
  ·rw[OB e]at h;obtain⟨h1,h2⟩:=sN k zaa h;exact⟨zaa,h2⟩
theorem sP{X:List MS}{n:()}{i:Nat}{x:MS}(hx:X[i]?=some x)(hn:n=x.name):∀k,i<k->k<=X.length->∃d,bH X k n=some d
 |0,h,_=>by omega
 |k+1,h,hk=>by
  obtain⟨y,hy⟩:∃y,X[k]?=some y:=⟨_,Ou zaa⟩;rw[bH,hy];dsimp only;by_cases e:n=y.name
  ·rw[OD e];exact⟨k,rfl⟩
  ·rw[OB e];by_cases ek:i=k
   ·subst ek;rw[hx]at hy;cases hy
    exact absurd hn e
   ·exact sP hx hn k zaa zaa
theorem MB{cb:Nat}(D:lH w wr sv X Z X.length)(VS:wr.heap[cb]?=some (.cells #[.slice sv.a sv.n sv.c] 175 (0,0)))(hZ:0<Z.length){MM:Nat->List J.PV}(hM:∀i,(∀z,Z[i]?=some z->gz wr z (MM i))/\(Z[i]?=none->MM i=[])):∃cg cc,ChM wr cb cg cc (Z.map aL) (vOf MM):=by
 obtain⟨sa,sn,sc⟩:=sv
 rcases D.row.2 with⟨_,h0⟩|⟨g,cap,cur,hv,_,hg,_⟩
 ·omega
 simp[U.Sl.v]at hv;obtain⟨rfl,rfl,rfl⟩:=hv;have TO:Row wr 188 8 J.aP (.slice g Z.length sc) Z:=aC D.row (OL _);refine⟨g,sc,⟨by rw[OK];exact VS,⟨cur,(0,0),hg⟩,fun i x hx j v hj=>?_,fun i x hx=>?_⟩⟩
 ·rw[OF]at hx;cases hz:Z[i]? with
  |none=>rw[hz]at hx;cases hx
  |some z=>
   rw[hz]at hx;obtain rfl:aL z=x:=zby;obtain⟨hi,rfl⟩:=Oz.1 hz;have Ze:(J.aP Z[i])[j]?=some v:=hj;have hjl:j<8:=by have:=(Oz.1 Ze).1;simpa[J.aP] using this
   exact(Row.cell (n:=8) (f:=J.aP) (fun _=>rfl) TO hjl hi).trans Ze
 ·rw[OF]at hx;cases hz:Z[i]? with
  |none=>rw[hz]at hx;cases hx
  |some z=>
   rw[hz]at hx;obtain rfl:aL z=x:=zby;have hw:=(hM i).1 z hz;obtain⟨s,vp,ve,vl,⟨ma,mn,mc⟩⟩:=z;have hmr:=hw.aj;have Xs:(vOf MM i).length=(MM i).length:=by unfold vOf;rw[OK]
   rw[Xs];show mn=(MM i).length/\_
   rcases hmr.2 with⟨e,h0⟩|⟨gm,cap,curm,e,_,hgm,hle,_⟩
   ·simp[U.Sl.v]at e;exact⟨zaa,.inl h0⟩
   ·simp[U.Sl.v]at e;obtain⟨rfl,rfl,rfl⟩:=e;refine⟨rfl,.inr ⟨gm,curm,(0,0),rfl,hle,hgm,fun j m hm a v hv=>?_⟩⟩;unfold vOf at hm;rw[OF]at hm;cases hy:(MM i)[j]? with
    |none=>rw[hy]at hm;cases hm
    |some y=>
     rw[hy]at hm;obtain rfl:LK y=m:=by simpa using hm
     obtain⟨hjl,rfl⟩:=Oz.1 hy;have VD:(J.bl (MM i)[j])[a]?=some v:=hv;have U9:a<5:=by have:=(Oz.1 VD).1;simpa[J.bl] using this
     have hmr':Row wr 260 5 J.bl (.slice gm (MM i).length mc) (MM i):=hmr;exact(Row.cell (n:=5) (f:=J.bl) (fun _=>rfl) hmr' U9 hjl).trans VD
end Y
namespace Lw
theorem KY{x y:()}(h:x≠y):(x.toList == y.toList)=false:=by
 rw[P5,ne_eq,Pr,Pr];intro e;apply h
 obtain⟨⟨x⟩⟩:=x;obtain⟨⟨y⟩⟩:=y;have e:x=y:=e;rw[e]
