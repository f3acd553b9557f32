import Derived.Test.YtibbecdlllchkaaGreatDoorM09
import Derived.Test.YtibbecdlllchkaaGreatDoorM16
import Derived.Shelf.SlicesE.Clone
set_option maxRecDepth 100000
set_option maxHeartbeats 8000000
namespace Go.Proofs.YtibbecdlllchkaaGreatDoor
variable {zp:Prop}
theorem zdj(h:zp:=by
 have h1:=WB e he hb;have h0:=(UZ.1 hr).1;rw[heq]at h1
 rcases Rr i listed.size with h'|h'
 ·simp[h']at h0 h1;rw[h0]at h1;cases h1
 ·simp[Array.getElem?_eq_none h']at h1):zp:=h
theorem zd2(h:zp:=by
 exact⟨j,zaa,by rw[jk S x j zaa,PC j1];exact j2,by rw[jk S x j zaa,PC j1];exact j3⟩):zp:=h
theorem zd8(h:zp:=by
 rintro e w' ⟨v',rfl,ho,_,hb⟩;obtain⟨s,rfl⟩:=Kr ho;exact⟨s,rfl,ho,hb⟩):zp:=h
theorem zeW(h:zp:=by
 subst ZL;exact hy.wpOp hi trivial ⟨fun h _=>hS h,H⟩):zp:=h
theorem ze1(h:zp:=by
 subst e0;exact⟨U.Sl.nil,rfl,QC _ _ _ _,Pq _ _⟩):zp:=h
theorem ze6(h:zp:=by
 rw[Array.setIfInBounds_comm _ _ ZL];exact h3.2.2):zp:=h
theorem zfh(h:zp:=by
 have:=Uu hj ZL;rw[H.1]at this;cases this):zp:=h
theorem zaj(h:zp:=by go_simp;(try with_reducible rfl)):zp:=h
theorem zbn(h:zp:=by rw[h]at hr;cases hr):zp:=h
theorem zbN(h:zp:=by show a.event.size<=1000000;omega):zp:=h
theorem zcw(h:zp:=by show a.delay.toNat<18446744073709551616;omega):zp:=h
open Tryz
variable {x:J.DS}{i n B g cap size fuel lo:Nat}{w w' wr W:World}{e:TypeId}{xs:List Value}{v ve vl vm sv:U.Sl}{listed:Array Bool}{a:Act}{oi:Oper}{rs:List Nat}{M:List J.PV}{Z X:List J.DS}{L:List Y.PA}
section
open Go.RowKit
namespace J
abbrev sAt(S:List U.State)(k:Nat):U.State:=S.getD k U.st0
def iW(x:U.State):Bool:=x.word.toList == U.aO
structure Shp(S:List U.State):Prop where
 len:S.length<=24
 wf:∀i,i<S.length->-1<=(sAt S i).up/\(sAt S i).up<i
 hup:∀i,i<S.length->iW (sAt S i)=true->0<=(sAt S i).up
 leaf:∀i,i<S.length->0<=(sAt S i).up->(sAt S (sAt S i).up.toNat).word.toList≠U.bK/\iW (sAt S (sAt S i).up.toNat)=false
 hst:∀i,i<S.length->iW (sAt S i)=true->(sAt S (sAt S i).up.toNat).word.toList≠U.aK->∃j,j<S.length/\(sAt S j).up=(sAt S i).up/\iW (sAt S j)=false
theorem Shp.nil:Shp []:=⟨PK _,fun i h=>absurd h (S9 i),fun i h=>absurd h (S9 i),fun i h=>absurd h (S9 i),fun i h=>absurd h (S9 i)⟩
theorem Shp.congr{S S':List U.State}(h:Shp S)(hl:S'.length=S.length)(hw:∀i,(sAt S' i).word=(sAt S i).word)(hu:∀i,(sAt S' i).up=(sAt S i).up):Shp S':=by
 have hh:∀i,iW (sAt S' i)=iW (sAt S i):=fun i=>by unfold iW;rw[hw]
 refine⟨by rw[hl];exact h.len,fun i hi=>?_,fun i hi=>?_,fun i hi=>?_,fun i hi=>?_⟩
 ·rw[hu];exact h.wf i zaa
 ·rw[hu,hh];exact h.hup i zaa
 ·rw[hu,hw,hh];exact h.leaf i zaa
 ·rw[hu,hw,hh];intro a b;obtain⟨j,h1,h2,h3⟩:=h.hst i zaa a b;exact⟨j,zaa,by rw[hu];exact h2,by rw[hh];exact h3⟩
theorem BG(S:List U.State)(k:Nat)(f:U.State->U.State)(i:Nat):sAt (U.fu S k f) i=if k=i/\k<S.length then f (sAt S k) else sAt S i:=by
 unfold sAt U.fu;simp only[List.getD_eq_getElem?_getD];by_cases e:k=i
 ·subst e;by_cases hk:k<S.length
  ·rw[P4 hk,PC ⟨rfl,hk⟩];rfl
  ·rw[Pu (fun x=>hk x.2),P6 (by rw[PO];omega),P6 zaa]
 ·rw[Qb e,Pu (fun x=>e x.1)]
theorem Shp.fu{S:List U.State}(h:Shp S)(k:Nat)(f:U.State->U.State)(hf:∀x,(f x).word=x.word/\(f x).up=x.up):Shp (U.fu S k f):=by
 refine h.congr (by unfold U.fu;simp) (fun i=>?_) (fun i=>?_)
 ·rw[BG];split
  ·rename_i e;rw[(hf _).1,e.1]
  ·rfl
 ·rw[BG];split
  ·rename_i e;rw[(hf _).2,e.1]
  ·rfl
theorem jk(S:List U.State)(x:U.State)(i:Nat)(hi:i<S.length+1):sAt (S++[x]) i=if i<S.length then sAt S i else x:=by
 unfold sAt;rw[PH,PH];by_cases e:i<S.length
 ·rw[Qo e,PC e]
 ·rw[Qr zaa,Pu e,show i-S.length=0 by omega];rfl
theorem np{S:List U.State}{d:Int}:∀n,-1<=U.eY S d n
 |0=>by unfold U.eY;omega
 |n+1=>by
  have:=np (S:=S) (d:=d) n;rw[U.eY]
  repeat' split
  all_goals omega
theorem Fg(S:List U.State)(d:Int): -1<=U.cQ S d:=by
 unfold U.cQ;split
 ·exact np _
 ·omega
theorem Shp.snoc{S:List U.State}(h:Shp S){x:U.State}(hu: -1<=x.up)(hu2:x.up<S.length)(hf:U.fits (S.map U.emb) (U.emb x)=true):Shp (S++[x]):=by
 have VJ:∀u:Nat,u<S.length->(U.vM (S.map U.emb) (u:Int)).s=sAt S u:=fun u hul=>by
  unfold U.vM sAt;rw[QR,PH,PH,Pv,Pp hul];rfl
 unfold U.fits at hf;split at hf
 ·cases hf
 rename_i h1;simp only[Bool.or_eq_true,decide_eq_true_eq,List.length_map,Bool.and_eq_true,not_or,not_and]at h1;obtain⟨Zo,_,hnh⟩:=h1;have hx:(U.emb x).s=x:=rfl;rw[hx]at hf hnh;have hl:=h.len;have hlen:(S++[x]).length=S.length+1:=zad;have YY:(iW x=true->0<=x.up)/\(0<=x.up->(sAt S x.up.toNat).word.toList≠U.bK/\iW (sAt S x.up.toNat)=false)/\(iW x=true->(sAt S x.up.toNat).word.toList≠U.aK->∃j,j<S.length/\(sAt S j).up=x.up/\iW (sAt S j)=false):=by
  have Xf:iW x=true->0<=x.up:=fun hh=>by
   by_cases e:x.up<0
   ·exact absurd hh (hnh e)
   ·omega
  by_cases e:x.up<0
  ·exact⟨Xf,fun e2=>zaa,fun hh=>by have:=Xf hh;omega⟩
  ·rw[Pu e]at hf;obtain⟨u,hu'⟩:∃u:Nat,x.up=u:=⟨x.up.toNat,zaa⟩;rw[hu',VJ u zaa]at hf;split at hf
   ·cases hf
   rename_i h2;simp only[Bool.or_eq_true,not_or]at h2;have hlf:(sAt S x.up.toNat).word.toList≠U.bK/\iW (sAt S x.up.toNat)=false:=by
    rw[hu',QR];refine⟨fun e2=>h2.1 (by rw[e2];decide),?_⟩;rw[SH];exact fun e2=>h2.2 e2
   refine⟨Xf,fun _=>hlf,fun hh hp=>?_⟩;rw[hu',QR]at hp;split at hf
   ·rename_i h3;exact absurd za4 hp
   ·have Y9:(x.word.toList == U.aO)=true:=hh;rw[Y9,Bool.not_true,Tf]at hf;have hnn:U.mR (S.map U.emb) (u:Int)=false:=by simpa using hf
    unfold U.mR at hnn;have:∃y∈S,y.up=(u:Int):=by
     rw[TE]at hnn;obtain⟨z,hz,Vl⟩:=hnn;obtain⟨y,hy,rfl⟩:=P0.1 hz;refine⟨y,hy,Ra fun e=>Vl ?_⟩;show(!decide (y.up=(u:Int)))=true;rw[Ql e];rfl
    obtain⟨y,hy,hyu⟩:=this;obtain⟨a,ha⟩:=TY hy;have ZC:=(Ps.1 ha).1;have hsa:sAt S a=y:=by unfold sAt;rw[PH,ha];rfl
    cases hya:iW y
    ·exact⟨a,ZC,by rw[hsa,hyu,hu'],by rw[hsa];exact hya⟩
    ·obtain⟨j,j1,j2,j3⟩:=h.hst a ZC (by rw[hsa];exact hya) (by rw[hsa,hyu,QR];exact hp);exact⟨j,j1,by rw[j2,hsa,hyu,hu'],j3⟩
 have hlow:∀u:Int,u<S.length->0<=u->sAt (S++[x]) u.toNat=sAt S u.toNat:=fun u a b=>by rw[jk S x _ zaa,PC zaa]
 refine⟨by rw[hlen];omega,fun i hi=>?_,fun i hi=>?_,fun i hi=>?_,fun i hi=>?_⟩
 ·rw[hlen]at hi;rw[jk S x i hi];split
  ·rename_i e;exact h.wf i e
  ·exact⟨hu,zaa⟩
 ·rw[hlen]at hi;rw[jk S x i hi];split
  ·rename_i e;exact h.hup i e
  ·exact YY.1
 ·rw[hlen]at hi;rw[jk S x i hi];split
  ·rename_i e;intro h0;rw[hlow _ (by have:=(h.wf i e).2;omega) h0];exact h.leaf i e h0
  ·intro h0;rw[hlow _ hu2 h0];exact YY.2.1 h0
 ·rw[hlen]at hi;rw[jk S x i hi];split
  ·rename_i e;intro hh hp;have h0:=h.hup i e hh;rw[hlow _ (by have:=(h.wf i e).2;omega) h0]at hp;obtain⟨j,j1,j2,j3⟩:=h.hst i e hh hp;exact zd2
  ·intro hh hp;have h0:=YY.1 hh;rw[hlow _ hu2 h0]at hp;obtain⟨j,j1,j2,j3⟩:=YY.2.2 hh hp;exact zd2
theorem Shp.step{S S':List U.State}(h:Shp S){x:U.j9}{d:Int}(hs:U.aR S i x d=some S'):Shp S'/\(0<S.length->0<S'.length)/\(S=[]->0<S'.length):=by
 have ZB:=Fg S d;unfold U.aR at hs;have hemp:S=[]->U.cQ S d<0:=fun e=>by
  subst e;unfold U.cQ;split
  ·show U.eY [] d 0<0;rw[U.eY];decide
  ·decide
 have Wz:∀k f,(U.fu S k f).length=S.length:=fun k f=>by unfold U.fu;simp
 repeat' split at hs
 all_goals first
  |(cases hs;done)
  | (cases hs
     rename_i hf;refine⟨h.snoc ZB ?_ hf,fun _=>zad,fun _=>zad⟩;show U.cQ S d<S.length;by_cases e:U.cQ S d<0
     ·omega
     ·have:=qn e;omega)
  | (cases hs
     exact⟨h,fun e=>e,fun e=>absurd (hemp e) zal⟩)
  | (cases hs
     exact⟨h.fu _ _ (fun _=>⟨rfl,rfl⟩),fun e=>by rw[Wz];exact e,fun e=>absurd (hemp e) zal⟩)
theorem BM{A:List (U.j9×Int)}:∀{i:Nat} {S:List U.State},i<=A.length->U.aT A i=some S->Shp S/\(0<i->0<S.length)
 |0,S,_,h=>by cases h;exact⟨Shp.nil,fun e=>zaa⟩
 |i+1,S,hi,h=>by
  rw[U.aT]at h;split at h
  ·cases h
  rename_i S0 h0;obtain⟨ih,ihl⟩:=BM zaa h0;rw[Pp zaa]at h;dsimp only at h;obtain⟨a,b,c⟩:=ih.step h;refine⟨a,fun _=>?_⟩;cases hS:S0 with
  |nil=>exact c hS
  |cons y l=>exact b (by rw[hS];simp)
theorem LH{P:List ()}{S:List U.State}(h:Itm P S n)(t:Bool):∀x∈S.map U.emb,0<x.s.line/\(∀m∈x.s.aa,0<m.line)/\((t&&U.eA x.s.enter)=true->0<x.s.has0)/\((t&&U.eA x.s.leave)=true->0<x.s.has1):=by
 have mineN:U.eA []=false:=rfl;exact zcO
theorem tY{S:List U.State}:∀{k:Nat},U.dE S k=none->∀i,i<k->(sAt S i).word.toList=U.aK->U.regions (S.map U.emb) i≠[]
 |0,_,i,hi,_=>by omega
 |k+1,h,i,hi,hw=>by
  rw[U.dE]at h;split at h
  ·cases h
  rename_i h0;split at h
  ·cases h
  rename_i h1;by_cases e:i=k
  ·subst e;intro hr;apply h1
   have Zf:((S.getD i U.st0).word.toList == U.aK)=true:=by rw[show(S.getD i U.st0).word.toList=_ from hw];decide
   rw[Zf,hr];rfl
  ·exact tY h0 i zaa hw
structure nw(S:List U.State):Prop where
 shp:Shp S
 pos:0<S.length
 par:∀i,i<S.length->(sAt S i).word.toList=U.aK->U.regions (S.map U.emb) i≠[]
 uniq:∀i,i<S.length->¬U.place (S.map U.emb) (sAt S i).name<i
 tos:∀x∈S,∀m∈x.aa,m.to.toList.isEmpty=false->0<=U.place (S.map U.emb) m.to
 low:∀x∈S,nY x/\gO x
theorem oR{s:()}{S:List U.State}(h:U.read s=.dX S):nw S:=by
 have hlow:=J8 h;unfold U.read at h;split at h
 ·cases h
 ·cases hsy:U.syn (U.cut s 10) with
  |some i=>rw[hsy]at h;cases h
  |none=>
   rw[hsy]at h;dsimp only at h;cases ht:U.aT (U.aF (U.cut s 10) ((U.cut s 10).length-1)) ((U.cut s 10).length-1) with
   |none=>rw[ht]at h;cases h
   |some S'=>
    rw[ht]at h;dsimp only at h;have hI:=mG (nR hsy) (Po _) ht;have hll:(U.aF (U.cut s 10) ((U.cut s 10).length-1)).length=(U.cut s 10).length-1:=by unfold U.aF;simp
    obtain⟨hS1,hS2⟩:=BM (by rw[hll];exact Po _) ht;have hn0:0<(U.cut s 10).length-1:=by
     unfold U.syn at hsy;split at hsy
     ·cases hsy
     ·split at hsy
      ·rename_i e;rw[Qe]at e;exact RO e.1
      ·cases hsy
    split at h
    ·cases h
    rename_i hp;split at h
    ·cases h
    rename_i hn;cases h
    have hpn:U.dE S S.length=none:=by
     cases hq:U.dE S S.length with
     |none=>rfl
     |some l=>
      have:=qI hI (Po _) hq;rw[hq]at hp;exact absurd this hp
    have U8:=tP (X:=S.map U.emb) (t:=U.ru (S.map U.emb)) (LH hI _) (S.map U.emb).length (Po _);have hz:∀l,¬∃q,∃h:q<(S.map U.emb).length,q<(S.map U.emb).length/\StB (S.map U.emb) (U.ru (S.map U.emb)) q (S.map U.emb)[q].s l:=by
     rcases U8 with⟨_,e⟩|⟨e,_⟩
     ·exact e
     ·exact absurd e hn
    have hst:∀q (hq:q<S.length) l,¬StB (S.map U.emb) (U.ru (S.map U.emb)) q S[q] l:=fun q hq l hb=>hz l ⟨q,by simpa using hq,by simpa using hq,by rw[List.getElem_map];exact hb⟩;refine⟨hS1,hS2 hn0,fun i hi hw=>tY hpn i hi hw,fun i hi Vd=>?_,fun x hx m hm U9=>?_,hlow⟩
    ·have e:sAt S i=S[i]:=by unfold sAt;rw[PH,Pp hi];rfl
     rw[e]at Vd;exact hst i hi _ (.inl ⟨Vd,rfl⟩)
    ·obtain⟨q,hq,rfl⟩:=RL hx;by_cases e:0<=U.place (S.map U.emb) m.to
     ·exact e
     ·exfalso;refine hst q hq m.line (.inr (.inl ⟨m,hm,?_,rfl⟩));unfold U.jd;have h1:(m.to.toList == [])=false:=by
       cases hz:m.to.toList with
       |nil=>rw[hz]at U9;cases U9
       |cons=>rfl
      rw[h1,Qp (show U.place (S.map U.emb) m.to<0 by omega)];rfl
end J
end
section
open Go.RowKit Go.Proofs Go.Shelf
def Da:Go.Shelf.Ren:=⟨fun|41=>114|n=>n,fun|22=>131|23=>275|4=>4|n=>n,fun|n=>n⟩
theorem Jw:Go.Proofs.SlLaysE0.n41 prog Da where
 mixed:=zab
 f41:=⟨Tryz.f114.name,zac,Tryz.func114.trans (congrArg some zab)⟩
 t4:=underlying4
 a4:=SU
 z4:=SI
 v4:=R5
 t22:=underlying131
 a22:=Tryz.isAgg131
 z22:=Tryz.sizeOf131
 v22:=Tryz.zeroValue131
def Db:Go.Shelf.Ren:=⟨fun|41=>115|n=>n,fun|22=>132|23=>207|4=>4|n=>n,fun|n=>n⟩
theorem Jy:Go.Proofs.SlLaysE0.n41 prog Db where
 mixed:=zab
 f41:=⟨Tryz.f115.name,zac,Tryz.func115.trans (congrArg some zab)⟩
 t4:=underlying4
 a4:=SU
 z4:=SI
 v4:=R5
 t22:=underlying132
 a22:=Tryz.isAgg132
 z22:=Tryz.sizeOf132
 v22:=Tryz.zeroValue132
def Dc:Go.Shelf.Ren:=⟨fun|41=>71|n=>n,fun|22=>117|23=>134|4=>4|n=>n,fun|n=>n⟩
theorem Jz:Go.Proofs.SlLaysE0.n41 prog Dc where
 mixed:=zab
 f41:=⟨Tryz.f71.name,zac,Tryz.func71.trans (congrArg some zab)⟩
 t4:=underlying4
 a4:=SU
 z4:=SI
 v4:=R5
 t22:=underlying117
 a22:=Tryz.isAgg117
 z22:=Tryz.sizeOf117
 v22:=Tryz.zeroValue117
theorem F5:(Tryz.prog.info? 207).map (fun i=>(i.zero,i.size,i.bytes))=some (some (.agg #[ByteArray.empty,false,.int .u64 0,ByteArray.empty,.slice none 0 0]),5,72):=zab
theorem C2:(Tryz.prog.info? 134).map (fun i=>(i.zero,i.size,i.bytes))=some (some (.agg #[(0:Int),ByteArray.empty,(0:Int),(0:Int),.slice none 0 0,.slice none 0 0,.slice none 0 0,.slice none 0 0]),8,136):=zab
theorem yV{m:Nat}(h:w.ownsRow B e n (.slice g m cap) m xs):∀j u,xs[j]?=some u->w.cell? ⟨g,0+j,none⟩=some u:=by
 intro j u hj;have Vd:j<m*n:=by rw[<- h.1];exact(Ps.1 hj).1
 rw[Rz,h.cellAt j Vd];exact hj
theorem Ii(a:U.Act):(bo a).oneCell'=true:=by
 unfold bo xk
 repeat' split
 all_goals rfl
def Cl(e:TypeId)(size n:Nat)(xs:List Value)(w:World)(en:Ending)(w':World):Prop:=∃s:U.Sl,en=.returned (.slice s.a s.n s.c)/\w'.ownsRow w e size s.v n xs/\Below w w w'
theorem Kr{v:Value}(h:w.ownsRow B e size v n xs):∃s:U.Sl,v=s.v:=by
 obtain⟨a,k,c,rfl⟩:=U.kS h;exact⟨⟨a,k,c⟩,rfl⟩
theorem sM(a:Option Addr)(n c:Nat)(A:List U.Act)(w:World)(h:w.ownsRow 0 275 1 (.slice a n c) A.length (A.map bo))(hl:A.length<=1000000):
  () 114 #[.slice a n c] w (Cl 275 1 A.length (A.map bo) w):=by
 rcases h.2 with⟨h0,hn⟩|⟨g,cap,cur,h0,_⟩
 ·cases h0
  refine(AnyE.slices_Clone_nil Jw 0 0 w).mono ?_;rintro e w' ⟨rfl,rfl⟩;have e0:A=[]:=Rp hn;exact ze1
 ·obtain⟨i0,hi,Vv,Vk,Vl⟩:=QV oG;rw[h0]at h⊢;refine(AnyE.slices_Clone Jw i0 .nilIface 1 16 hi Vv Vk Vl rfl zac (fun w=>zab) g 0 A.length cap (A.map bo) w h.1 zag zaa (yV h) ?_).mono ?_
  ·intro u hu;obtain⟨x,_,rfl⟩:=P0.1 hu;exact Ii x
  ·exact zd8
theorem CI(a:Option Addr)(n c:Nat)(M:List J.PV)(w:World)(h:w.ownsRow 0 207 5 (.slice a n c) M.length (M.flatMap J.aQ))(hl:M.length<=1000000):
  () 115 #[.slice a n c] w (Cl 207 5 M.length (M.flatMap J.aQ) w):=by
 rcases h.2 with⟨h0,hn⟩|⟨g,cap,cur,h0,_⟩
 ·cases h0
  refine(AnyE.slices_Clone_nil Jy 0 0 w).mono ?_;rintro e w' ⟨rfl,rfl⟩;have e0:M=[]:=Rp hn;exact ze1
 ·obtain⟨i0,hi,Vv,Vk,Vl⟩:=QV F5;rw[h0]at h⊢;refine(AnyE.slices_Clone Jy i0 _ 5 72 hi Vv Vk Vl rfl zac (fun w=>zab) g 0 M.length cap (M.flatMap J.aQ) w h.1 zag zaa (yV h) ?_).mono ?_
  ·intro u hu;obtain⟨x,_,hx⟩:=Rv.1 hu;simp only[J.aQ,List.mem_cons,List.not_mem_nil,or_false]at hx
   rcases hx with rfl|rfl|rfl|rfl|rfl<;>rfl
  ·exact zd8
theorem CJ(a:Option Addr)(n c:Nat)(X:List J.DS)(w:World)(h:w.ownsRow 0 134 8 (.slice a n c) X.length (X.flatMap J.aM))(hl:X.length<=1000000):
  () 71 #[.slice a n c] w (Cl 134 8 X.length (X.flatMap J.aM) w):=by
 rcases h.2 with⟨h0,hn⟩|⟨g,cap,cur,h0,_⟩
 ·cases h0
  refine(AnyE.slices_Clone_nil Jz 0 0 w).mono ?_;rintro e w' ⟨rfl,rfl⟩;have e0:X=[]:=Rp hn;exact ze1
 ·obtain⟨i0,hi,Vv,Vk,Vl⟩:=QV C2;rw[h0]at h⊢;refine(AnyE.slices_Clone Jz i0 _ 8 136 hi Vv Vk Vl rfl zac (fun w=>zab) g 0 X.length cap (X.flatMap J.aM) w h.1 zag zaa (yV h) ?_).mono ?_
  ·intro u hu;obtain⟨x,_,hx⟩:=Rv.1 hu;simp only[J.aM,List.mem_cons,List.not_mem_nil,or_false]at hx
   rcases hx with rfl|rfl|rfl|rfl|rfl|rfl|rfl|rfl<;>rfl
  ·exact zd8
end
section
open Go
section
variable {P:Program}{ops:Array Oper}{Q:Exit->Act->World->Prop}{md:Region.Mode}{S:World->Prop}{s:Nat}
def fK(P:Program)(md:Region.Mode)(ops:Array Oper)(Q:Exit->Act->World->Prop)(S:World->Prop)(s:Nat):Nat->Array Bool->Act->World->Prop
 |0,listed,a,w=>Region.ready md ops listed=[]/\Q .normal a w
 |fuel+1,listed,a,w=>
  (Region.ready md ops listed=[]->Q .normal a w) /\
  ∀i∈Region.ready md ops listed,wpOp P ops Q i (fun a' w'=>(listed.getD s true=false->i≠s->S w')/\fK P md ops Q S s fuel (listed.setIfInBounds i true) a' w') a w
theorem uU:∀(fuel:Nat) (listed:Array Bool) (a:Act) (w:World),fK P md ops Q S s fuel listed a w->wpAny P md ops Q fuel listed a w
 |0,_,_,_,h=>h
 |fuel+1,_,_,_,h=>⟨h.1,fun i hi=>UY (fun a' w' h'=>uU fuel _ a' w' h'.2) (h.2 i hi)⟩
theorem ke(l:Array Bool)(s:Nat):(l.setIfInBounds s true).getD s true=true:=by
 simp only[Array.getD_eq_getD_getElem?,Array.getElem?_setIfInBounds];split
 ·split<;>simp
 ·rename_i h;exact absurd trivial h
theorem getD_set_true(l:Array Bool)(i s:Nat)(h:l.getD s true=true):(l.setIfInBounds i true).getD s true=true:=by
 by_cases e:i=s
 ·subst e;exact ke l i
 ·rw[TC true e];exact h
theorem xH:∀(fuel:Nat) (listed:Array Bool) (a:Act) (w:World),listed.getD s true=true->wpAny P md ops Q fuel listed a w->fK P md ops Q S s fuel listed a w
 |0,_,_,_,_,h=>h
 |fuel+1,listed,_,_,hs,h=>⟨h.1,fun i hi=>UY (fun a' w' h'=>⟨fun hf=>absurd (hs.symm.trans hf) zac,xH fuel _ a' w' (getD_set_true _ _ _ hs) h'⟩) (h.2 i hi)⟩
theorem kA(hr:Region.ready md ops listed=[s])(h:wpAny P md ops Q (fuel+1) listed a w):fK P md ops Q S s (fuel+1) listed a w:=
 ⟨h.1,fun i hi=>by
  have e:i=s:=by rw[hr]at hi;simpa using hi
  subst e;exact UY (fun a' w' h'=>⟨fun _ U9=>absurd rfl U9,xH fuel _ a' w' (ke _ _) h'⟩) (h.2 i hi)⟩
theorem zJ{i:Nat}{oi os:Oper}{v:Value}(hi:ops[i]?=some oi)(ZF:∀(j:Nat) (o:Oper) cs b,ops[j]?=some o->o.op≠.select cs b)
  (hQ:∀c a w,Q (.panic c) (a.put oi.dst v) w->Q (.panic c) a w) (hso:ops[s]?=some os) (Y6:∃e∈os.after,Region.binds md e=true/\e.on=i):
  ∀(fuel:Nat) (listed:Array Bool) (a:Act) (w:World),
   (∀j oj,ops[j]?=some oj->j≠i->listed.getD j true=false->(∀e∈oj.after,Region.binds md e=true->e.on≠i)->oi.apart ops oj=true) ->
   i∈Region.ready md ops listed->listed.getD s true=false->YieldsIf P ops S oi v a->S w ->
   fK P md ops Q S s fuel (listed.setIfInBounds i true) (a.put oi.dst v) w->fK P md ops Q S s (fuel+1) listed a w:=by
 intro fuel
 induction fuel with
 |zero=>
  intro listed a w _ hr _ hy hS H;refine⟨fun h=>zbn,fun j hj=>?_⟩;by_cases ZL:j=i
  ·subst ZL;exact hy.wpOp hi hS ⟨fun _ _=>hS,H⟩
  ·exact zfh
 |succ fuel ih=>
  intro listed a w Y7 hr Vb hy hS H;refine⟨fun h=>zbn,fun j hj=>?_⟩;by_cases ZL:j=i
  ·subst ZL;exact hy.wpOp hi hS ⟨fun _ _=>hS,H⟩
  ·have h1:=H.2 j (Uu hj ZL);obtain⟨hjun,oj,hoj,WB⟩:=UZ.1 hj;have pend:∀(o:Oper),(∀e∈o.after,Region.binds md e=true->listed.getD e.on false=true)->∀e∈o.after,Region.binds md e=true->e.on≠i:=fun o WB e he hb heq=>by
    exact zdj
   have hnot:=pend oj WB;have hjs:j≠s:=fun e=>by
    subst e;obtain⟨x,hx,hb,hon⟩:=Y6;rw[hso]at hoj;cases hoj
    exact hnot x hx hb hon
   have his:i≠s:=fun e=>by
    subst e;obtain⟨x,hx,hb,hon⟩:=Y6;obtain⟨_,o',ho',hall'⟩:=UZ.1 hr;rw[hso]at ho';cases ho'
    exact pend os hall' x hx hb hon
   have h2:=wpOp_putIf hoj (Y7 j oj hoj ZL hjun hnot) (fun cs b=>ZF i oi cs b hi) (fun cs b=>ZF j oj cs b hoj) hQ hy h1;have ZT:∀k ok,ops[k]?=some ok->k≠i->(listed.setIfInBounds j true).getD k true=false ->
     (∀e∈ok.after,Region.binds md e=true->e.on≠i)->oi.apart ops ok=true:=fun k ok hk hki hun WS=>by
    refine Y7 k ok hk hki ?_ WS;by_cases hjk:j=k
    ·subst hjk;exact hjun
    ·rw[TC true hjk]at hun;exact hun
   refine UY (fun a' w' h3=>?_) h2;have VF:S w':=h3.2.1 (by rw[TC true his];exact Vb) hjs;refine⟨fun _ _=>VF,ih (listed.setIfInBounds j true) a' w' ZT (Uu hr (Ne.symm ZL)) (by rw[TC true hjs];exact Vb) h3.1 VF ?_⟩;exact ze6
theorem dQ{os:Oper}{v:Value}(hi:ops[i]?=some oi)
  (hs:Region.noSelect ops=true) (hf:Region.free md ops listed i=true) (hr:(Region.ready md ops listed).contains i=true)
  (hQ:∀c a w,Q (.panic c) (a.put oi.dst v) w->Q (.panic c) a w) (hso:ops[s]?=some os) (Y6:(os.after.any fun e=>Region.binds md e&&e.on == i)=true) (Vb:listed.getD s true=false) (hy:YieldsIf P ops S oi v a) (hS:S w)
  (h:fK P md ops Q S s fuel (listed.setIfInBounds i true) (a.put oi.dst v) w):fK P md ops Q S s (fuel+1) listed a w:=
 zJ hi (Region.noSelect_spec hs) hQ hso (by
  rw[Array.any_eq_true]at Y6;obtain⟨k,hk,hb⟩:=Y6;rw[Qe]at hb;exact⟨_,Array.getElem_mem hk,hb.1,by simpa using hb.2⟩) fuel listed a w (Region.free_spec hi hf) (by simpa using hr) Vb hy hS h
theorem vN{i:Nat}{oi:Oper}{v:Value}(hi:ops[i]?=some oi)(ZF:∀(j:Nat) (o:Oper) cs b,ops[j]?=some o->o.op≠.select cs b)
  (hQ:∀c a w,Q (.panic c) (a.put oi.dst v) w->Q (.panic c) a w) (his:i≠s):
  ∀(fuel:Nat) (listed:Array Bool) (a:Act) (w:World),
   (∀j oj,ops[j]?=some oj->j≠i->listed.getD j true=false->(∀e∈oj.after,Region.binds md e=true->e.on≠i)->oi.apart ops oj=true) ->
   i∈Region.ready md ops listed->YieldsIf P ops (fun _=>True) oi v a->(listed.getD s true=false->S w) ->
   fK P md ops Q S s fuel (listed.setIfInBounds i true) (a.put oi.dst v) w->fK P md ops Q S s (fuel+1) listed a w:=by
 intro fuel
 induction fuel with
 |zero=>
  intro listed a w _ hr hy hS H;refine⟨fun h=>zbn,fun j hj=>?_⟩;by_cases ZL:j=i
  ·exact zeW
  ·exact zfh
 |succ fuel ih=>
  intro listed a w Y7 hr hy hS H;refine⟨fun h=>zbn,fun j hj=>?_⟩;by_cases ZL:j=i
  ·exact zeW
  ·have h1:=H.2 j (Uu hj ZL);obtain⟨hjun,oj,hoj,WB⟩:=UZ.1 hj;have hnot:∀e∈oj.after,Region.binds md e=true->e.on≠i:=fun e he hb heq=>by
    exact zdj
   have h2:=wpOp_putIf hoj (Y7 j oj hoj ZL hjun hnot) (fun cs b=>ZF i oi cs b hi) (fun cs b=>ZF j oj cs b hoj) hQ hy h1;have ZT:∀k ok,ops[k]?=some ok->k≠i->(listed.setIfInBounds j true).getD k true=false ->
     (∀e∈ok.after,Region.binds md e=true->e.on≠i)->oi.apart ops ok=true:=fun k ok hk hki hun WS=>by
    refine Y7 k ok hk hki ?_ WS;by_cases hjk:j=k
    ·subst hjk;exact hjun
    ·rw[TC true hjk]at hun;exact hun
   refine UY (fun a' w' h3=>?_) h2;have VF:listed.getD s true=false->j≠s->S w':=fun hl hjs=>h3.2.1 (by rw[TC true his];exact hl) hjs;refine⟨VF,ih (listed.setIfInBounds j true) a' w' ZT (Uu hr (Ne.symm ZL)) h3.1 (fun hl=>?_) ?_⟩
   ·by_cases hjs:j=s
    ·subst hjs;rw[ke]at hl;cases hl
    ·exact VF (by rw[TC true hjs]at hl;exact hl) hjs
   ·exact ze6
theorem ay{v:Value}(hi:ops[i]?=some oi)
  (hs:Region.noSelect ops=true) (hf:Region.free md ops listed i=true) (hr:(Region.ready md ops listed).contains i=true)
  (hQ:∀c a w,Q (.panic c) (a.put oi.dst v) w->Q (.panic c) a w) (his:i≠s) (hy:YieldsIf P ops (fun _=>True) oi v a) (hS:S w)
  (h:fK P md ops Q S s fuel (listed.setIfInBounds i true) (a.put oi.dst v) w):fK P md ops Q S s (fuel+1) listed a w:=
 vN hi (Region.noSelect_spec hs) hQ his fuel listed a w (Region.free_spec hi hf) (by simpa using hr) hy (fun _=>hS) h
def bI(P:Program)(md:Region.Mode)(ops:Array Oper)(Q:Exit->Act->World->Prop)(S:World->Prop)(s:Nat)(fuel:Nat)(listed:Array Bool)(a:Act)(w:World)(rs:List Nat):Prop:=
 ∀i∈rs,wpOp P ops Q i (fun a' w'=>(listed.getD s true=false->i≠s->S w')/\fK P md ops Q S s fuel (listed.setIfInBounds i true) a' w') a w
theorem bI.nil:bI P md ops Q S s fuel listed a w []:=fun _ h=>zaE
theorem bI.cons{o:Oper}(ho:ops[i]?=some o)
  (h:∀K':Act->World->Prop,Shut (∀a w,S w->(S w->fK P md ops Q S s fuel (listed.setIfInBounds i true) a w)->K' a w)->if Region.wanted o (yielded ops a.tmps)=true then Oper.wp P o a w K' Q else K' (a.put o.dst undef) w)
  (hs:bI P md ops Q S s fuel listed a w rs):bI P md ops Q S s fuel listed a w (i::rs):=fun j hj=>by
 rcases QH.1 hj with rfl|hj
 ·exact wpOp_step ho (fun K' hK=>h K' (fun a w hS hW=>hK a w ⟨fun _ _=>hS,hW hS⟩))
 ·exact hs j hj
theorem eI(hr:Region.ready md ops listed=rs)(U9:rs≠[])
  (h:bI P md ops Q S s fuel listed a w rs):fK P md ops Q S s (fuel+1) listed a w:=⟨fun h0=>absurd (hr▸h0) U9,hr▸h⟩
theorem nt(s:Nat){id:Nat}(hm:P.follows .mixedOrders=true)(hS:S w.drew)
  (h:S w.drew->fK P .any ops Q S s ops.size (Array.replicate ops.size false) a w.drew):(Code.region id ops true).wp P Q a w:=
 TT hm (uU _ _ _ _ (h hS))
end
end
section
open Go.RowKit Go.Proofs
theorem nO:(Tryz.prog.info? 207).map (·.size)=some 5:=zab
theorem JX{base:Nat}(h:w.ownsRow base e size v.v n xs):v.n=n:=by
 exact zdB
theorem DZ:(Tryz.prog.info? 278).map (·.size)=some 1:=zab
theorem tu(x:U.State):∀j,(U.dA x j).length<=x.enter.length+j
 |0=>Po _
 |j+1=>by
  have:=tu x j;rw[U.dA]
  repeat' split
  all_goals(try rw[PI])
  all_goals(try simp only[List.length_cons,List.length_nil])
  all_goals omega
theorem qH(x:U.State):∀j,(U.bS x j).length<=x.leave.length+j
 |0=>Po _
 |j+1=>by
  have:=qH x j;rw[U.bS]
  repeat' split
  all_goals(try rw[PI])
  all_goals(try simp only[List.length_cons,List.length_nil])
  all_goals omega
theorem KU{m:U.Move}(h:m.event.size≠0):bo (U.wB m)=.iface 282 (.agg #[m.event,.int .u64 m.delay,m.event]):=by
 unfold bo U.wB xk;rw[show U.gP.toList=U.fD from fB,Pu zac,Pu zac,Pu h]
theorem Ij(m:U.Move):bo (U.tT m)=.iface 284 (.agg #[m.event]):=by
 unfold bo U.tT;rw[show U.cZ.toList=U.bO from eB,Pu zac,PC zac]
theorem tK(B g cap u:Nat)(X:List J.DS)(x:J.DS)(M:List J.PV)(w:World)
  (hs:w.ownsRow B 134 8 (.slice g X.length cap) X.length (X.flatMap J.aM)) (hu:u<X.length) (hx:X[u]=x)
  (hM:w.ownsRow 0 207 5 x.vm.v M.length (M.flatMap J.aQ)) (hE:w.ownsRow 0 275 1 x.ve.v x.s.enter.length (x.s.enter.map bo)) (hL:w.ownsRow 0 275 1 x.vl.v x.s.leave.length (x.s.leave.map bo))
  (hm:M.map (·.m)=x.s.aa) (hMl:M.length<=4096) (hEl:x.s.enter.length<=4096) (Z2:x.s.leave.length<=4096) (Wq:∀y∈M,y.m.after=true->y.m.event.size≠0):
  () 72 #[(g,u*8)] w fun e w'=>e=.returned (.tuple #[])/\∃ve vl vm,cY w w' B g cap X u x ve vl vm (U.dA x.s M.length) (U.bS x.s M.length) (M.map J.iX):=by
 obtain⟨s,⟨pa,pn,pc⟩,⟨ea,en,ec⟩,⟨la,ln,lc⟩,⟨ma,mn,mc⟩⟩:=x;obtain⟨x,hxx⟩:∃x:J.DS,x=⟨s,⟨pa,pn,pc⟩,⟨ea,en,ec⟩,⟨la,ln,lc⟩,⟨ma,mn,mc⟩⟩:=⟨_,rfl⟩;have cells:∀(W:World),Below w w W->W.cell? (g,u*8+5)=some (.slice ea en ec)/\W.cell? (g,u*8+6)=some (.slice la ln lc)/\W.cell? (g,u*8+7)=some (.slice ma mn mc):=by
  intro W hb;have hs':=bz hs hb;refine⟨?_,?_,?_⟩<;>(rw[hs'.cellAt _ zaa,U.kJ (f:=J.aM) (n:=8) (fun _=>rfl) X u _ zac hu,hx];rfl)
 have froz:∀(W:World) (j:Nat),Below w w W->W.frozen? ⟨g,j,none⟩=false:=fun W j hb=>RI (aJ (bz hs hb) (PK _)) _;have hEl':s.enter.length<=4096:=hEl;have hLl':s.leave.length<=4096:=Z2;have HS:Hid _:=hs;have HX:Hid _:=hx;have HXX:Hid _:=hxx;have HM:Hid _:=hM;have HE:Hid _:=hE;have HL:Hid _:=hL;have HC:Hid _:=cells;have HF:Hid _:=froz;have Hm:Hid _:=hm;have Hev:Hid _:=Wq;have hgw:g<w.heap.size:=(Qf hs g rfl).2;have Xc:Below w w w.drew:=(Pq _ _).drew;have hcw:=cells w.drew Xc;clear hs hx hxx hM hE hL cells froz hm Wq;go_enter func72,ntmps72
 go_upto_region 0 with fail
 refine nt (s:=20) (S:=(fun W=>W.cell? (g,u*8+5)=some (.slice ea en ec)/\W.cell? (g,u*8+6)=some (.slice la ln lc)/\W.cell? (g,u*8+7)=some (.slice ma mn mc))) zab hcw (fun Pm=>?_);refine ay (i:=0) (v:=.pointer (some ⟨g,u*8,none⟩)) rfl zab zab zab (fun _ _ _ h=>h) zac (Or.inl ⟨zae,fun w _=>zaj⟩) Pm ?_;refine ay (i:=1) (v:=.pointer (some ⟨g,u*8,none⟩)) rfl zab zab zab (fun _ _ _ h=>h) zac (Or.inl ⟨zae,fun w _=>zaj⟩) Pm ?_;refine ay (i:=2) (v:=.pointer (some ⟨g,u*8,none⟩)) rfl zab zab zab (fun _ _ _ h=>h) zac (Or.inl ⟨zae,fun w _=>zaj⟩) Pm ?_;refine ay (i:=3) (v:=.pointer (some ⟨g,u*8,none⟩)) rfl zab zab zab (fun _ _ _ h=>h) zac (Or.inl ⟨zae,fun w _=>zaj⟩) Pm ?_;refine ay (i:=8) (v:=.pointer (some ⟨g,u*8,none⟩)) rfl zab zab zab (fun _ _ _ h=>h) zac (Or.inl ⟨zae,fun w _=>zaj⟩) Pm ?_;refine ay (i:=13) (v:=.pointer (some ⟨g,u*8,none⟩)) rfl zab zab zab (fun _ _ _ h=>h) zac (Or.inl ⟨zae,fun w _=>zaj⟩) Pm ?_;refine ay (i:=4) (v:=.pointer (some ⟨g,u*8,none⟩)) rfl zab zab zab (fun _ _ _ h=>h) zac (Or.inl ⟨zae,fun w _=>zaj⟩) Pm ?_;refine ay (i:=5) (v:=.pointer (some ⟨g,u*8+5,none⟩)) rfl zab zab zab (fun _ _ _ h=>h) zac (Or.inl ⟨zae,fun w _=>zaj⟩) Pm ?_;refine dQ (i:=6) (v:=.slice ea en ec) rfl zab zab zab (fun _ _ _ h=>h) rfl zab zab (Or.inl ⟨zae,fun w VF=>zai⟩) Pm ?_;refine ay (i:=9) (v:=.pointer (some ⟨g,u*8,none⟩)) rfl zab zab zab (fun _ _ _ h=>h) zac (Or.inl ⟨zae,fun w _=>zaj⟩) Pm ?_;refine ay (i:=10) (v:=.pointer (some ⟨g,u*8+6,none⟩)) rfl zab zab zab (fun _ _ _ h=>h) zac (Or.inl ⟨zae,fun w _=>zaj⟩) Pm ?_;refine dQ (i:=11) (v:=.slice la ln lc) rfl zab zab zab (fun _ _ _ h=>h) rfl zab zab (Or.inl ⟨zae,fun w VF=>zai⟩) Pm ?_;refine ay (i:=14) (v:=.pointer (some ⟨g,u*8,none⟩)) rfl zab zab zab (fun _ _ _ h=>h) zac (Or.inl ⟨zae,fun w _=>zaj⟩) Pm ?_;refine ay (i:=15) (v:=.pointer (some ⟨g,u*8+7,none⟩)) rfl zab zab zab (fun _ _ _ h=>h) zac (Or.inl ⟨zae,fun w _=>zaj⟩) Pm ?_;refine dQ (i:=16) (v:=.slice ma mn mc) rfl zab zab zab (fun _ _ _ h=>h) rfl zab zab (Or.inl ⟨zae,fun w VF=>zai⟩) Pm ?_;refine eI (rs:=[7]) zab zad ?_;refine bI.cons rfl (fun K hK=>?_) bI.nil;go_simp;refine Pw (sM ea en ec s.enter _ (bz HE.out Xc) zaa) ?_;rintro e w1 ⟨se,rfl,hE1,U3⟩;have Xt:Below w w w1:=Xc.trans U3;dsimp only;refine hK.out _ _ (HC.out _ Xt) (fun Pm=>?_);clear hK K;refine eI (rs:=[12]) zab zad ?_;refine bI.cons rfl (fun K hK=>?_) bI.nil;go_simp;refine Pw (sM la ln lc s.leave _ (bz HL.out Xt) zaa) ?_;rintro e w2 ⟨sl,rfl,hL2,U4⟩;have Vn:Below w w w2:=Xt.trans (U4.mono Xt.size);dsimp only;refine hK.out _ _ (HC.out _ Vn) (fun Pm=>?_);clear hK K;refine eI (rs:=[17]) zab zad ?_;refine bI.cons rfl (fun K hK=>?_) bI.nil;go_simp;refine Pw (CI ma mn mc M _ (bz HM.out Vn) zaa) ?_;rintro e w3 ⟨⟨sma,smn,smc⟩,rfl,Wt,VA⟩;have XY:Below w w w3:=Vn.trans (VA.mono Vn.size);dsimp only;refine hK.out _ _ (HC.out _ XY) (fun Pm=>?_);clear hK K;refine ay (i:=18) (v:=.pointer (some ⟨g,u*8,none⟩)) rfl zab zab zab (fun _ _ _ h=>h) zac (Or.inl ⟨zae,fun w _=>zaj⟩) Pm ?_;refine ay (i:=19) (v:=.pointer (some ⟨g,u*8+5,none⟩)) rfl zab zab zab (fun _ _ _ h=>h) zac (Or.inl ⟨zae,fun w _=>zaj⟩) Pm ?_;refine kA zab ?_;have XW:apart se sl:=by
  unfold apart;cases e1:se.v.ownBlock with
  |none=>exact .inl rfl
  |some k=>
   refine .inr (fun e2=>?_);have h1:=(Qf hE1 k e1).2;have h2:=(Qf hL2 k e2.symm).1;omega
 have sz1:=Xt.size;have sz2:=Vn.size;have hnM:smn=M.length:=JX (v:=⟨sma,smn,smc⟩) Wt;subst hnM;have G0:cY w (((w3.setCell (g,u*8+5) (.slice se.a se.n se.c)).setCell (g,u*8+6) (.slice sl.a sl.n sl.c)).setCell (g,u*8+7) (.slice sma M.length smc)) B g cap X u x se sl ⟨sma,M.length,smc⟩ s.enter s.leave M:=by
  rw[HXX.out];exact cY.begin HS.out hu HX.out XY (bz (bz (aJ hE1 (Po _)) U4) VA) (bz (aJ hL2 sz1) VA) (aJ Wt sz2) XW
 obtain⟨c5,c6,c7⟩:=HC.out _ XY;have f5:=HF.out w3 (u*8+5) XY;have f6:=HF.out w3 (u*8+6) XY;have f7:=HF.out w3 (u*8+7) XY;have HG:Hid _:=G0;clear G0 XW hE1 hL2 Wt U3 U4 VA Pm hcw sz1 sz2;refine zA 20 rfl fun K hK=>?_;go_simp;refine hK _ _ ?_;clear hK K;refine UJ (i:=21) (v:=.pointer (some ⟨g,u*8,none⟩)) rfl zab zab zab (fun _ _ _ h=>h) (Or.inl ⟨zae,fun w=>zaj⟩) ?_;refine UJ (i:=22) (v:=.pointer (some ⟨g,u*8+6,none⟩)) rfl zab zab zab (fun _ _ _ h=>h) (Or.inl ⟨zae,fun w=>zaj⟩) ?_;refine zA 23 rfl fun K hK=>?_;go_simp;refine hK _ _ ?_;clear hK K;refine UJ (i:=24) (v:=.pointer (some ⟨g,u*8,none⟩)) rfl zab zab zab (fun _ _ _ h=>h) (Or.inl ⟨zae,fun w=>zaj⟩) ?_;refine UJ (i:=25) (v:=.pointer (some ⟨g,u*8+7,none⟩)) rfl zab zab zab (fun _ _ _ h=>h) (Or.inl ⟨zae,fun w=>zaj⟩) ?_;refine zA 26 rfl fun K hK=>?_;go_simp;refine hK _ _ ?_;clear hK K;refine UP zab ?_ _;have G0:=HG.out;clear HG c5 c6 c7 f5 f6 f7 XY Vn Xt HC HF;generalize((w3.setCell (g,u*8+5) (.slice se.a se.n se.c)).setCell (g,u*8+6) (.slice sl.a sl.n sl.c)).setCell (g,u*8+7) (.slice sma M.length smc)=W0 at G0⊢;have c7:W0.cell? (g,u*8+7)=some (.slice sma M.length smc):=(G0.cell hu 7 zac).trans rfl;have HG0:Hid _:=G0;clear G0;go_wp2
 go_loopg[34] M.length (fun q i wr=>∃(j:Nat) (ve vl:U.Sl),q=M.length-j/\j<=M.length/\i=.int .i64 j/\cY w wr B g cap X u x ve vl ⟨sma,M.length,smc⟩ (U.dA s j) (U.bS s j) (J.bu M j))
 case atStart=>exact⟨0,se,sl,rfl,PK _,rfl,HG0.out⟩
 case round=>
  clear c7;obtain⟨j,ve,vl,hq,hj,rfl,G⟩:=hrel;by_cases YV:j<M.length
  ·have hQl:=J.mN M j hj;obtain⟨mb,cm,hvm⟩:=U.dy G.aa zaa;simp only[U.Sl.v,Value.slice.injEq]at hvm;obtain⟨rfl,-,rfl⟩:=hvm;have Vp:wr.ownsRow 0 207 5 (.slice mb (J.bu M j).length smc) (J.bu M j).length ((J.bu M j).flatMap J.aQ):=by
    have:=aJ G.aa (PK _);unfold U.Sl.v at this;rw[<- hQl]at this;exact this
   have Va:=Row.range (f:=J.aQ) (n:=5) (fun _=>rfl) Vp (by rw[hQl];exact YV);rw[J.mM M j YV]at Va;have hcm:M.length<=smc:=by
    rcases Vp.2 with⟨h,_⟩|⟨g',cap',cur,h,_,_,hle,_⟩
    ·cases h
    ·simp at h;rw[h.2];rw[hQl]at hle;exact hle
   have hmlt:mb<wr.heap.size:=(Qf Vp mb rfl).2;obtain⟨y,hy⟩:∃y,y=M[j]:=⟨_,rfl⟩;have hym:y∈M:=by rw[hy];exact P7 YV
   have HMJ:Hid (s.aa[j]?=some y.m):=by
    unfold Hid;rw[show s.aa=M.map (·.m) from Hm.out.symm,Pv,Pp YV,<- hy];rfl
   rw[<- hy]at Va;unfold J.aQ at Va;have HY:Hid _:=hy;have HQL:Hid _:=hQl;clear hQl;have HG:Hid _:=G;have V5:=G.glt.2;clear Vp hy G;cases ha:y.m.after with
   |false=>
    have HA:Hid _:=ha;go_wp2_with(first
     |(refine QA rfl 207 (.tmp 37) rfl mb (j*5) rfl _ _ Va underlying207 rfl nO ?_)
     |(refine aB rfl 207 (.tmp 3) (.tmp 38) rfl 207 _ _ rfl rfl nO rfl rfl ?_)
     |fail)
    have Wl:Below wr wr (wr.alloc (.cells #[y.m.event,false,.int .u64 y.m.delay,y.m.to,.slice y.v.a y.v.n y.v.c] 207)):=(Pq _ _).alloc (Po _) _;have HG1:Hid (cY w (wr.alloc (.cells #[y.m.event,false,.int .u64 y.m.delay,y.m.to,.slice y.v.a y.v.n y.v.c] 207)) B g cap X u x ve vl ⟨some ⟨mb,0,none⟩,M.length,smc⟩ (U.dA s (j+1)) (U.bS s (j+1)) (J.bu M (j+1))):=by
     unfold Hid;have e1:U.dA s (j+1)=U.dA s j:=by rw[U.dA,HMJ.out];simp[HA.out]
     have e2:U.bS s (j+1)=U.bS s j:=by rw[U.bS,HMJ.out];simp[HA.out]
     rw[e1,e2,J.yT M j YV (by rw[<- HY.out];exact HA.out)];exact HG.out.aq Wl
    go_roundg (M.length-(j+1))
    case measure=>omega
    case rel=>exact⟨j+1,ve,vl,rfl,zaa,zah,HG1.out⟩
   |true=>
    have HA:Hid _:=ha;go_wp2_with(first
     |(refine QA rfl 207 (.tmp 37) rfl mb (j*5) rfl _ _ Va underlying207 rfl nO ?_)
     |(refine aB rfl 207 (.tmp 3) (.tmp 38) rfl 207 _ _ rfl rfl nO rfl rfl ?_)
     |(refine aB rfl 278 (.tmp 4) (.tmp 44) rfl 278 _ _ rfl rfl DZ rfl rfl ?_)
     |fail)
    obtain⟨i0,hi,Vv,Vk,Vl⟩:=QV oG;have hev0:y.m.event.size≠0:=Hev.out y hym ha;have HV1:Hid _:=KU hev0;have HV2:Hid _:=Ij y.m;have WU:=tu s j;have YR:=qH s j;clear hev0 Va;obtain⟨W2,Yh⟩:∃z,z=(wr.alloc (.cells #[y.m.event,true,.int .u64 y.m.delay,y.m.to,.slice y.v.a y.v.n y.v.c] 207)).alloc (.cells #[y.m.event] 278):=⟨_,rfl⟩;have hm2:W2.heap[wr.heap.size]?=some (.cells #[y.m.event,true,.int .u64 y.m.delay,y.m.to,.slice y.v.a y.v.n y.v.c] 207 (0,0)):=by rw[Yh];exact fx _ _ _
    have VE:W2.heap[wr.heap.size+1]?=some (.cells #[y.m.event] 278 (0,0)):=by rw[Yh];exact cA _ _ _
    have U4:Below wr wr W2:=by rw[Yh];exact((Pq _ _).alloc (Po _) _).alloc zad _
    have Yi:wr.heap.size+2<=W2.heap.size:=by rw[Yh];simp
    have hsz2b:W2.heap.size<=wr.heap.size+2:=by rw[Yh];simp
    have HCS:Hid (∀W,Below W2 W2 W->W.cell? (g,u*8+5)=some (.slice ve.a ve.n ve.c)/\W.cell? ↑(wr.heap.size+1)=some ↑y.m.event/\W.cell? wr=some ↑y.m.event/\W.cell? ⟨wr,2,none⟩=some (.int .u64 y.m.delay)):=by
     intro W hb;have h1:=(hb.block _ zaa).trans hm2;have h2:=(hb.block _ zaa).trans VE;refine⟨(((HG.out.aq U4).aq hb).cell hu 5 zac).trans rfl,?_,?_,?_⟩
     ·rw[Pt W _ _ _ _ _ h2];rfl
     ·rw[Pt W _ _ _ _ _ h1];rfl
     ·rw[Pt W _ _ _ _ _ h1];rfl
    change Code.wp _ _ _ _ ((wr.alloc (.cells #[y.m.event,true,.int .u64 y.m.delay,y.m.to,.slice y.v.a y.v.n y.v.c] 207)).alloc (.cells #[y.m.event] 278));rw[<- Yh];clear Yh ha;refine nt (s:=17) (S:=(fun W=>W.cell? (g,u*8+5)=some (.slice ve.a ve.n ve.c)/\W.cell? ↑(wr.heap.size+1)=some ↑y.m.event/\W.cell? wr=some ↑y.m.event/\W.cell? ⟨wr,2,none⟩=some (.int .u64 y.m.delay))) zab (HCS.out _ (Pq _ _).drew) (fun Pm=>?_);refine ay (i:=0) (v:=.pointer (some ⟨g,u*8,none⟩)) rfl zab zab zab (fun _ _ _ h=>h) zac (Or.inl ⟨zae,fun w _=>zaj⟩) Pm ?_;refine ay (i:=1) (v:=.pointer (some ⟨g,u*8,none⟩)) rfl zab zab zab (fun _ _ _ h=>h) zac (Or.inl ⟨zae,fun w _=>zaj⟩) Pm ?_;refine ay (i:=2) (v:=.pointer (some ⟨g,u*8,none⟩)) rfl zab zab zab (fun _ _ _ h=>h) zac (Or.inl ⟨zae,fun w _=>zaj⟩) Pm ?_;refine ay (i:=3) (v:=.pointer (some ⟨g,u*8+5,none⟩)) rfl zab zab zab (fun _ _ _ h=>h) zac (Or.inl ⟨zae,fun w _=>zaj⟩) Pm ?_;refine dQ (i:=4) (v:=.slice ve.a ve.n ve.c) rfl zab zab zab (fun _ _ _ h=>h) rfl zab zab (Or.inl ⟨zae,fun w VF=>zai⟩) Pm ?_;refine dQ (i:=5) (v:=.agg #[y.m.event]) rfl zab zab zab (fun _ _ _ h=>h) rfl zab zab (Or.inl ⟨zae,fun w VF=>zai⟩) Pm ?_;refine ay (i:=6) (v:=.pointer (some ⟨wr,2,none⟩)) rfl zab zab zab (fun _ _ _ h=>h) zac (Or.inl ⟨zae,fun w _=>zaj⟩) Pm ?_;refine dQ (i:=7) (v:=.int .u64 y.m.delay) rfl zab zab zab (fun _ _ _ h=>h) rfl zab zab (Or.inl ⟨zae,fun w VF=>zai⟩) Pm ?_;refine ay (i:=8) (v:=.agg #[y.m.event,.int .u64 y.m.delay]) rfl zab zab zab (fun _ _ _ h=>h) zac (Or.inl ⟨zae,fun w _=>zaj⟩) Pm ?_;refine ay (i:=9) (v:=.pointer (some ⟨wr,0,none⟩)) rfl zab zab zab (fun _ _ _ h=>h) zac (Or.inl ⟨zae,fun w _=>zaj⟩) Pm ?_;refine dQ (i:=10) (v:=.string y.m.event) rfl zab zab zab (fun _ _ _ h=>h) rfl zab zab (Or.inl ⟨zae,fun w VF=>zai⟩) Pm ?_;refine ay (i:=11) (v:=.agg #[y.m.event,.int .u64 y.m.delay,y.m.event]) rfl zab zab zab (fun _ _ _ h=>h) zac (Or.inl ⟨zae,fun w _=>zaj⟩) Pm ?_;refine ay (i:=12) (v:=.iface 282 (.agg #[y.m.event,.int .u64 y.m.delay,y.m.event])) rfl zab zab zab (fun _ _ _ h=>h) zac (Or.inl ⟨zae,fun w _=>zaj⟩) Pm ?_;refine eI (rs:=[13]) zab zad ?_;refine bI.cons rfl (fun K hK=>?_) bI.nil;go_simp;have VX:Below W2 W2 ((W2.alloc (.cells #[.iface 282 (.agg #[y.m.event,.int .u64 y.m.delay,y.m.event])] 275)).drew):=((Pq _ _).alloc (Po _) _).drew;refine hK.out _ _ (HCS.out _ VX) (fun Pm=>?_);clear hK K;refine eI (rs:=[14]) zab zad ?_;refine bI.cons rfl (fun K hK=>?_) bI.nil;refine step_append_lies _ zae _ _ _ zae w.heap.size 275 i0 _ 1 16 underlying131 hi Vv Vk Vl rfl zac (.slice ve.a ve.n ve.c) (U.dA s j).length ((U.dA s j).map bo) zae ((RK (HG.out.aq U4).enter _).drew) ⟨W2,0,none⟩ 1 1 [.iface 282 (.agg #[y.m.event,.int .u64 y.m.delay,y.m.event])] zae zae (World.news_of_block (cs:=#[.iface 282 (.agg #[y.m.event,.int .u64 y.m.delay,y.m.event])]) (t:=275) (fr:=(0,0)) (PG W2 _)) zap zaa zag zaa (by have:=(HG.out.aq U4).al.size;simp;omega) (W2.heap.size+1) zad ?_;intro g5 cap5 w5 U6 Pg VJ We;have Wv:au g w w5:=lX HG.out.al (U4.trans (VX.mono U4.size)) Pg (fun k h=>(Qf HG.out.enter k h).1);have U9:=(HG.out.NG).1;have XI:∀k,k=wr.heap.size\/k=wr.heap.size+1->some k≠ve.v.ownBlock:=fun k hk e=>by
     have:=(Qf HG.out.enter k e.symm).2;omega
    have hS5:w5.cell? (g,u*8+5)=some (.slice ve.a ve.n ve.c)/\w5.cell? ↑(wr.heap.size+1)=some ↑y.m.event/\w5.cell? wr=some ↑y.m.event/\w5.cell? (wr,2)=some (.int .u64 y.m.delay):=
     ⟨(Pg.cell_far _ zaf U9).trans Pm.1,(Pg.cell_far _ zaf (XI _ (.inr rfl))).trans Pm.2.1,(Pg.cell_far _ zaf (XI _ (.inl rfl))).trans Pm.2.2.1,(Pg.cell_far _ zaf (XI _ (.inl rfl))).trans Pm.2.2.2⟩
    have ht5:w5.heap[wr.heap.size+1]?=some (.cells #[y.m.event] 278 (0,0)):=(Pg.block _ zaf (XI _ (.inr rfl))).trans ((VX.block _ zaa).trans VE);have HG3:Hid (cY w (w5.setCell (g,u*8+5) (.slice g5 ((U.dA s j).length+1) cap5)) B g cap X u x ⟨some ⟨g5,0,none⟩,(U.dA s j).length+1,cap5⟩ vl ⟨some ⟨mb,0,none⟩,M.length,smc⟩ (U.dA s j++[U.wB y.m]) (U.bS s j) (J.bu M j)):=by
     unfold Hid;refine HG.out.Il (ve':=⟨some ⟨g5,0,none⟩,(U.dA s j).length+1,cap5⟩) hu (U4.trans (VX.mono U4.size)) Pg (by rw[HV1.out];exact U6) ?_;exact zeR
    have f5:w5.frozen? (g,u*8+5)=false:=(Pg.frozen_far _ zaf U9).trans ((((Pq W2 W2).alloc (Po _) _).drew.frozen (p:=(g,u*8+5)) zaf).trans ((HG.out.aq U4).frozen _));have hsz5:=Pg.size;clear U6 Pg VJ Wv;refine hK.out _ _ hS5 (fun Pm=>?_);clear hK K;obtain⟨c5,-,-,-⟩:=hS5;refine ay (i:=15) (v:=.pointer (some ⟨g,u*8,none⟩)) rfl zab zab zab (fun _ _ _ h=>h) zac (Or.inl ⟨zae,fun w _=>zaj⟩) Pm ?_;refine ay (i:=16) (v:=.pointer (some ⟨g,u*8+5,none⟩)) rfl zab zab zab (fun _ _ _ h=>h) zac (Or.inl ⟨zae,fun w _=>zaj⟩) Pm ?_;refine kA zab ?_;refine zA 17 rfl fun K hK=>?_;go_simp;refine hK _ _ ?_;clear hK K;refine UP zab ?_ _;clear c5 f5 Pm HCS VX;have hb5w:wr.heap.size+2<w5.heap.size:=by simp at hsz5;omega
    have Wb:(w5.setCell (g,u*8+5) (.slice g5 ((U.dA s j).length+1) cap5)).heap[wr.heap.size+1]?=some (.cells #[y.m.event] 278 (0,0)):=by
     rw[(ag w5 g _ _).block _ zaa];exact ht5
    have hsz3:w5.heap.size<=(w5.setCell (g,u*8+5) (.slice g5 ((U.dA s j).length+1) cap5)).heap.size:=by rw[(ag w5 g _ _).size];exact Po _
    have G3:=HG3.out;clear HG3;generalize w5.setCell (g,u*8+5) (.slice g5 ((U.dA s j).length+1) cap5)=W3 at G3 Wb hsz3⊢;have HG3:Hid _:=G3;clear G3;have HCT:Hid (∀W,Below W3 W3 W->W.cell? (g,u*8+6)=some (.slice vl.a vl.n vl.c)/\W.cell? ↑(wr.heap.size+1)=some ↑y.m.event):=by
     intro W hb;have h2:=(hb.block _ zaa).trans Wb;refine⟨((HG3.out.aq hb).cell hu 6 zac).trans rfl,?_⟩;rw[Pt W _ _ _ _ _ h2];rfl
    go_upto_region 7 with fail
    refine nt (s:=12) (S:=(fun W=>W.cell? (g,u*8+6)=some (.slice vl.a vl.n vl.c)/\W.cell? ↑(wr.heap.size+1)=some ↑y.m.event)) zab (HCT.out _ (Pq _ _).drew) (fun Pm=>?_);refine ay (i:=0) (v:=.pointer (some ⟨g,u*8,none⟩)) rfl zab zab zab (fun _ _ _ h=>h) zac (Or.inl ⟨zae,fun w _=>zaj⟩) Pm ?_;refine ay (i:=1) (v:=.pointer (some ⟨g,u*8,none⟩)) rfl zab zab zab (fun _ _ _ h=>h) zac (Or.inl ⟨zae,fun w _=>zaj⟩) Pm ?_;refine ay (i:=2) (v:=.pointer (some ⟨g,u*8,none⟩)) rfl zab zab zab (fun _ _ _ h=>h) zac (Or.inl ⟨zae,fun w _=>zaj⟩) Pm ?_;refine ay (i:=3) (v:=.pointer (some ⟨g,u*8+6,none⟩)) rfl zab zab zab (fun _ _ _ h=>h) zac (Or.inl ⟨zae,fun w _=>zaj⟩) Pm ?_;refine dQ (i:=4) (v:=.slice vl.a vl.n vl.c) rfl zab zab zab (fun _ _ _ h=>h) rfl zab zab (Or.inl ⟨zae,fun w VF=>zai⟩) Pm ?_;refine dQ (i:=5) (v:=.agg #[y.m.event]) rfl zab zab zab (fun _ _ _ h=>h) rfl zab zab (Or.inl ⟨zae,fun w VF=>zai⟩) Pm ?_;refine ay (i:=6) (v:=.agg #[y.m.event]) rfl zab zab zab (fun _ _ _ h=>h) zac (Or.inl ⟨zae,fun w _=>zaj⟩) Pm ?_;refine ay (i:=7) (v:=.iface 284 (.agg #[y.m.event])) rfl zab zab zab (fun _ _ _ h=>h) zac (Or.inl ⟨zae,fun w _=>zaj⟩) Pm ?_;refine eI (rs:=[8]) zab zad ?_;refine bI.cons rfl (fun K hK=>?_) bI.nil;go_simp;have WM:Below W3 W3 ((W3.alloc (.cells #[.iface 284 (.agg #[y.m.event])] 275)).drew):=((Pq _ _).alloc (Po _) _).drew;refine hK.out _ _ (HCT.out _ WM) (fun Pm=>?_);clear hK K;refine eI (rs:=[9]) zab zad ?_;refine bI.cons rfl (fun K hK=>?_) bI.nil;refine step_append_lies _ zae _ _ _ zae w.heap.size 275 i0 _ 1 16 underlying131 hi Vv Vk Vl rfl zac (.slice vl.a vl.n vl.c) (U.bS s j).length ((U.bS s j).map bo) zae ((RK HG3.out.leave _).drew) ⟨W3,0,none⟩ 1 1 [.iface 284 (.agg #[y.m.event])] zae zae (World.news_of_block (cs:=#[.iface 284 (.agg #[y.m.event])]) (t:=275) (fr:=(0,0)) (PG W3 _)) zap zaa zag zaa (by have:=HG3.out.al.size;simp;omega) (W3.heap.size+1) zad ?_;intro g6 cap6 w6 hown6 WI hat6 hlt6;have hne6:=(HG3.out.NG).2.1;have hgl3:=HG3.out.glt.2;have hfar6:some (wr.heap.size+1)≠vl.v.ownBlock:=fun e=>by
     have:=(Qf HG.out.leave _ e.symm).2;omega
    have hS6:w6.cell? (g,u*8+6)=some (.slice vl.a vl.n vl.c)/\w6.cell? ↑(wr.heap.size+1)=some ↑y.m.event:=
     ⟨(WI.cell_far _ zaf hne6).trans Pm.1,(WI.cell_far _ zaf hfar6).trans Pm.2⟩
    have HG4:Hid (cY w (w6.setCell (g,u*8+6) (.slice g6 ((U.bS s j).length+1) cap6)) B g cap X u x ⟨some ⟨g5,0,none⟩,(U.dA s j).length+1,cap5⟩ ⟨some ⟨g6,0,none⟩,(U.bS s j).length+1,cap6⟩ ⟨some ⟨mb,0,none⟩,M.length,smc⟩ (U.dA s j++[U.wB y.m]) (U.bS s j++[U.tT y.m]) (J.bu M j)):=by
     unfold Hid;refine HG3.out.Im (vl':=⟨some ⟨g6,0,none⟩,(U.bS s j).length+1,cap6⟩) hu WM WI (by rw[HV2.out];exact hown6) ?_
     rcases hat6 with h|h
     ·exact .inl h.symm
     ·exact .inr zay
    have f6:w6.frozen? (g,u*8+6)=false:=(WI.frozen_far _ zaf hne6).trans ((WM.frozen (p:=(g,u*8+6)) zaf).trans (HG3.out.frozen _));clear hown6 WI hat6;refine hK.out _ _ hS6 (fun Pm=>?_);clear hK K;obtain⟨c6,-⟩:=hS6;refine ay (i:=10) (v:=.pointer (some ⟨g,u*8,none⟩)) rfl zab zab zab (fun _ _ _ h=>h) zac (Or.inl ⟨zae,fun w _=>zaj⟩) Pm ?_;refine ay (i:=11) (v:=.pointer (some ⟨g,u*8+6,none⟩)) rfl zab zab zab (fun _ _ _ h=>h) zac (Or.inl ⟨zae,fun w _=>zaj⟩) Pm ?_;refine kA zab ?_;refine zA 12 rfl fun K hK=>?_;go_simp;refine hK _ _ ?_;clear hK K;refine UP zab ?_ _;clear c6 f6 Pm HCT WM;have G4:=HG4.out;clear HG4;generalize w6.setCell (g,u*8+6) (.slice g6 ((U.bS s j).length+1) cap6)=W4 at G4⊢;have c7:W4.drew.cell? (g,u*8+7)=some (.slice mb M.length smc):=(G4.cell hu 7 zac).trans rfl;have hgm:g≠mb:=fun e=>by have:=G4.NG.2.2;rw[e]at this;exact this rfl
    have hmo4:W4.ownsRow w 207 5 (.slice mb (J.bu M j).length smc) (J.bu M j).length ((J.bu M j).flatMap J.aQ):=by
     have:=G4.aa;unfold U.Sl.v at this;rw[show M.length=(J.bu M j).length from HQL.out.symm]at this;exact this
    have hjq:j<(J.bu M j).length:=by rw[HQL.out];exact YV
    obtain⟨v1,m1⟩:∃v1,W4.cell? (mb,j*5+1)=some (.bool v1):=by
     refine⟨(J.bu M j)[j].m.after,?_⟩;rw[hmo4.cellAt _ zaa,U.kJ (f:=J.aQ) (n:=5) (fun _=>rfl) _ j 1 zac hjq];rfl
    obtain⟨v2,m2⟩:∃v2,W4.cell? (mb,j*5+2)=some (.int .u64 v2):=by
     refine⟨(J.bu M j)[j].m.delay,?_⟩;rw[hmo4.cellAt _ zaa,U.kJ (f:=J.aQ) (n:=5) (fun _=>rfl) _ j 2 zac hjq];rfl
    have fm1:W4.frozen? (mb,j*5+1)=false:=RI (aJ hmo4 (PK _)) _;have fm2:W4.frozen? (mb,j*5+2)=false:=RI (aJ hmo4 (PK _)) _;have HG5:Hid (cY w ((W4.setCell (mb,j*5+1) (.bool false)).setCell (mb,j*5+2) (.int .u64 0)).drew B g cap X u x ⟨some ⟨g5,0,none⟩,(U.dA s j).length+1,cap5⟩ ⟨some ⟨g6,0,none⟩,(U.bS s j).length+1,cap6⟩ ⟨some ⟨mb,0,none⟩,M.length,smc⟩ (U.dA s (j+1)) (U.bS s (j+1)) (J.bu M (j+1))):=by
     unfold Hid;have hQ:=HQL.out;have Vq:=cY.Mz (Q:=J.bu M j) (mb:=mb) (cm:=smc) (j:=j) (by rw[hQ];exact G4) hjq;rw[hQ]at Vq;have e1:U.dA s (j+1)=U.dA s j++[U.wB y.m]:=by rw[U.dA,HMJ.out];simp[HA.out]
     have e2:U.bS s (j+1)=U.bS s j++[U.tT y.m]:=by rw[U.bS,HMJ.out];simp[HA.out]
     have e3:J.bu M (j+1)=(J.bu M j).set j { (J.bu M j)[j] with m:={ (J.bu M j)[j].m with after:=false,delay:=0 } }:=by
      rw[J.pM M j YV,J.mM M j YV hjq,<- HY.out]
      congr 1
      unfold J.iX J.dq;rw[PC HA.out]
     rw[e1,e2,e3];exact Vq.aq (Pq _ _).drew
    clear hmo4 hjq G4 HG3 HG
    go_upto_region 8 with fail
    refine PJ (S:=(fun W=>W.cell? (g,u*8+7)=some (.slice mb M.length smc))) zab c7 (fun Pm=>?_);refine tH 0 (g,u*8) rfl Pm ?_;refine tH 1 (g,u*8) rfl Pm ?_;refine tH 2 (g,u*8+7) rfl Pm ?_;refine tH 3 (.slice mb M.length smc) rfl Pm ?_;refine tH 4 (.int .i64 j) rfl Pm ?_;refine tH 5 (g,u*8) rfl Pm ?_;refine tH 6 (g,u*8) rfl Pm ?_;refine tH 7 (g,u*8+7) rfl Pm ?_;refine tH 8 (.slice mb M.length smc) rfl Pm ?_;refine tH 9 (.int .i64 j) rfl Pm ?_;refine tH 10 (mb,j*5) rfl Pm ?_;refine tH 11 (mb,j*5+1) rfl Pm ?_;refine zH 12 rfl fun K hK=>?_;go_simp;refine hK.out _ _ (((ag W4 mb (j*5+1) (.bool false)).cell (p:=(g,u*8+7)) hgm).trans c7) (fun Pm=>?_);clear hK K;refine tH 13 (mb,j*5) rfl Pm ?_;refine tH 14 (mb,j*5+2) rfl Pm ?_;refine zH 15 rfl fun K hK=>?_;go_simp;refine hK.out _ _ (((ag (W4.setCell (mb,j*5+1) (.bool false)) mb (j*5+2) (.int .u64 0)).cell (p:=(g,u*8+7)) hgm).trans (((ag W4 mb (j*5+1) (.bool false)).cell (p:=(g,u*8+7)) hgm).trans c7)) (fun Pm=>?_);clear hK K;refine PX zab ?_ _;go_wp2
    go_roundg (M.length-(j+1))
    case measure=>omega
    case rel=>exact⟨j+1,_,_,rfl,zaa,zah,HG5.out⟩
  ·have hje:j=M.length:=zaa;subst hje;go_wp2;go_end0;refine⟨rfl,ve,vl,⟨sma,M.length,smc⟩,?_⟩;rw[J.Be]at G;rw[HXX.out]at G;exact G
theorem zG{c:Array Value}{fz:Nat×Nat}(h:au g w w')(hg:w.heap[g]?=some (.cells c e fz)):Touch e w w':=
 ⟨h.size,fun k hk hn=>h.block k hk (fun e0=>by subst e0;exact hn _ _ hg)⟩
theorem eF.fG(h:eF w x M)(T:Touch 134 w w'):eF w' x M:=
 ⟨h.dep0,h.dep,h.name,h.mv,h.mlen,ah h.aa T zac,fun y hy=>ah (h.ai y hy) T zac,h.actsG,ah h.enter T zac,h.enterG,ah h.leave T zac,h.leaveG⟩
theorem eF.aq(h:eF w x M)(hb:Below w w w'):eF w' x M:=h.fG (cG hb)
theorem vh{α:Type}{f:α->List Value}{a b:α}(h:f a=f b)(l:List α)(k:Nat):(l.set k a).flatMap f=(l.set k b).flatMap f:=by
 rw[List.flatMap_def,List.flatMap_def,RB,RB,h]
theorem Gn{u:Nat}(G:cY w w' B g cap Z u x ve vl vm (U.dA x.s M.length) (U.bS x.s M.length) (M.map J.iX))(Vw:J.nY x.s)(hm:M.map (·.m)=x.s.aa)(ha:∀y∈M,w'.ownsRow 0 275 1 y.v.v y.m.ai.length (y.m.ai.map bo)):
  eF w' { s:=J.fj x.s,vp:=x.vp,ve:=ve,vl:=vl,vm:=vm } (M.map J.iX):=by
 have Wk:x.s.aa.length=M.length:=by rw[<- hm,PE]
 have Vs:∀y∈M,y.m∈x.s.aa:=fun y hy=>by rw[<- hm];exact QT hy
 have hIn:=J.ER Vw M.length;have hOut:=J.Bk Vw M.length;have l1:=tu x.s M.length;have l2:=qH x.s M.length;have l3:=Vw.mlen;have l4:=Vw.elen;have l5:=Vw.llen;refine⟨Vw.dep0,Vw.dep,Vw.name,?_,za6,?_,?_,?_,?_,?_,?_,?_⟩
 ·show(M.map J.iX).map (·.m)=x.s.aa.map J.dq;rw[<- hm,QW,QW];rfl
 ·exact aJ G.aa (PK _)
 ·intro y hy;obtain⟨z,hz,rfl⟩:=P0.1 hy;have:=ha z hz;rw[show(J.iX z).m.ai=z.m.ai from J.pG z.m];exact this
 ·intro y hy;obtain⟨z,hz,rfl⟩:=P0.1 hy;obtain⟨h1,h2⟩:=Vw.aa z.m (Vs z hz);refine⟨J.Dq h1,?_⟩;rw[show(J.iX z).m.ai=z.m.ai from J.pG z.m];exact h2
 ·show w'.ownsRow 0 _ 1 ve.v (U.dA x.s x.s.aa.length).length ((U.dA x.s x.s.aa.length).map bo);rw[Wk];exact aJ G.enter (PK _)
 ·show J.iE (U.dA x.s x.s.aa.length);rw[Wk];exact⟨hIn.1,hIn.2,zaa⟩
 ·show w'.ownsRow 0 _ 1 vl.v (U.bS x.s x.s.aa.length).length ((U.bS x.s x.s.aa.length).map bo);rw[Wk];exact aJ G.leave (PK _)
 ·show J.iE (U.bS x.s x.s.aa.length);rw[Wk];exact⟨hOut.1,hOut.2,zaa⟩
structure mi(w wr:World)(sv:U.Sl)(X Z:List J.DS)(k:Nat):Prop where
 bel:Below w w wr
 len:Z.length=X.length
 row:wr.ownsRow w 134 8 sv.v Z.length (Z.flatMap J.aM)
 done:∀i (h:i<Z.length) (h':i<X.length),i<k->Z[i].s=J.fj X[i].s/\∃M,eF wr Z[i] M
 rest:∀i (h:i<Z.length) (h':i<X.length),k<=i->Z[i]=X[i]
theorem mi.step{k:Nat}(D:mi w wr ⟨some ⟨g,0,none⟩,Z.length,cap⟩ X Z k)(VB:k<X.length)(Vw:J.nY X[k].s)(hm:M.map (·.m)=X[k].s.aa)
  (ha:∀y∈M,w.ownsRow 0 275 1 y.v.v y.m.ai.length (y.m.ai.map bo)) (G:cY wr w' w g cap Z k X[k] ve vl vm (U.dA X[k].s M.length) (U.bS X[k].s M.length) (M.map J.iX)):
  mi w w' ⟨some ⟨g,0,none⟩,Z.length,cap⟩ X (Z.set k { s:=J.fj X[k].s,vp:=X[k].vp,ve:=ve,vl:=vl,vm:=vm }) (k+1):=by
 obtain⟨c,hc⟩:=b8 D.row g rfl;have hg:=(Qf D.row g rfl).1;have T:=zG G.al hc;have hb:Below w w w':=G.al.below D.bel hg D.bel.size;refine⟨hb,by rw[PO];exact D.len,?_,?_,?_⟩
 ·have e:=vh (f:=J.aM) (a:={ s:=J.fj X[k].s,vp:=X[k].vp,ve:=ve,vl:=vl,vm:=vm }) (b:={ X[k] with ve:=ve,vl:=vl,vm:=vm }) rfl Z k;rw[e,PO];exact G.states
 ·intro i h h' hi;rw[PO]at h;rw[QO];by_cases e:k=i
  ·subst e;rw[PC rfl];exact⟨rfl,_,Gn G Vw hm (fun y hy=>bz (ha y hy) hb)⟩
  ·rw[Pu e];obtain⟨h1,M',h2⟩:=D.done i h h' zaa;exact⟨h1,M',h2.fG T⟩
 ·intro i h h' hi;rw[PO]at h;rw[QO,Pu zaa];exact D.rest i h h' zaa
def Er(X:List J.DS)(w:World)(e:Ending)(w':World):Prop:=Below w w w'/\∃cb sv Z,e=.returned (.pointer (some ⟨cb,0,none⟩))/\w'.heap[cb]?=some (.cells #[.slice sv.a sv.n sv.c] 123 (0,0))/\mi w w' sv X Z X.length
theorem sQ(cb:Nat)(sv:U.Sl)(X:List J.DS)(w:World)(hc:w.heap[cb]?=some (.cells #[.slice sv.a sv.n sv.c] 123 (0,0)))(hC:jx w sv X)(Xl:X.length<=1000)(Vw:∀x∈X,J.nY x.s):
  () 40 #[cb] w (Er X w):=by
 obtain⟨sa,sn,sc⟩:=sv;have c0:w.cell? cb=some (.slice sa sn sc):=by rw[Pt w _ _ _ _ _ hc];rfl
 have HC:Hid _:=hC;have HOK:Hid _:=Vw;have HCl:Hid _:=CJ sa sn sc X w hC.states zaa;clear hC Vw hc;go_enter func40,ntmps40;go_wp2_with fail;refine Pw HCl.out ?_;rintro e w1 ⟨⟨ta,tn,tc⟩,rfl,U5,U3⟩;have hnX:tn=X.length:=JX (v:=⟨ta,tn,tc⟩) U5;subst hnX;have HD0:Hid (mi w w1 ⟨ta,X.length,tc⟩ X X 0):=⟨U3,rfl,U5,fun i _ _ h=>absurd h zaa,fun i _ _ _=>rfl⟩;clear U5 U3 HCl c0;dsimp only;go_wp2
 go_loopg[12] X.length (fun q i wr=>∃(k:Nat) (Z:List J.DS),q=X.length-k/\k<=X.length/\i=.int .i64 k/\mi w wr ⟨ta,X.length,tc⟩ X Z k)
 case atStart=>exact⟨0,X,rfl,PK _,rfl,HD0.out⟩
 case round=>
  obtain⟨k,Z,hq,hk,rfl,D⟩:=hrel;by_cases Vx:k<X.length
  ·have hZl:=D.len;obtain⟨g,cap,hv⟩:=U.dy D.row zaa;simp only[U.Sl.v,Value.slice.injEq]at hv;obtain⟨rfl,-,rfl⟩:=hv;have hkz:k<Z.length:=zaa;have hxk:Z[k]=X[k]:=D.rest k hkz Vx (Po _);have hD:mi w wr ⟨some ⟨g,0,none⟩,Z.length,tc⟩ X Z k:=by rw[hZl];exact D
   have Vs:X[k]∈X:=P7 Vx;obtain⟨M,YO,Ws,Wt⟩:=HC.out.aa X[k] Vs;have hOK:=HOK.out X[k] Vs;have hMl:M.length<=4096:=by have:=hOK.mlen;rw[<- YO,PE]at this;exact this
   have Ww:X.length<=tc:=by
    rcases D.row.2 with⟨h,_⟩|⟨g',cap',cur,h,_,_,hle,_⟩
    ·cases h
    ·simp[U.Sl.v]at h;rw[h.2.2];omega
   have XF:Hid _:=tK w.heap.size g tc k Z X[k] M wr hD.row hkz hxk (bz Ws D.bel) (bz (HC.out.enter X[k] Vs) D.bel) (bz (HC.out.leave X[k] Vs) D.bel) YO hMl hOK.elen hOK.llen (fun y hy=>hOK.event y.m (by rw[<- YO];exact QT hy));have HN:Hid (∀(w':World) ve vl vm,cY wr w' w g tc Z k X[k] ve vl vm (U.dA X[k].s M.length) (U.bS X[k].s M.length) (M.map J.iX)->∃Z',mi w w' ⟨some ⟨g,0,none⟩,X.length,tc⟩ X Z' (k+1)):=by
    intro w' ve vl vm G;have:=hD.step Vx hOK YO Wt G;rw[hZl]at this;exact⟨_,this⟩
   clear hOK YO Ws Wt hD hxk D Vs hkz hZl;go_wp2_with fail;refine Pw XF.out ?_;rintro e w2 ⟨rfl,ve,vl,vm,G⟩;obtain⟨Z',D'⟩:=HN.out w2 ve vl vm G;have HD':Hid _:=D';clear D' G;dsimp only;go_wp2
   go_roundg (X.length-(k+1))
   case measure=>omega
   case rel=>exact⟨k+1,Z',rfl,zaa,zah,HD'.out⟩
  ·have ZM:k=X.length:=zaa;subst ZM;have VP:Below wr wr (wr.alloc (.cells #[.slice ta X.length tc] 123)):=(Pq _ _).alloc (Po _) _;have HD:Hid _:=D;clear D;go_wp2;go_ret;have D:=HD.out;refine⟨D.bel.trans (VP.mono D.bel.size),wr.heap.size,⟨ta,X.length,tc⟩,Z,rfl,PG _ _,D.bel.trans (VP.mono D.bel.size),D.len,bz D.row VP,fun i h h' hi=>?_,D.rest⟩;obtain⟨h1,M,h2⟩:=D.done i h h' hi;exact⟨h1,M,h2.aq VP⟩
end
section
open Go.RowKit Go.Proofs Go.Shelf
structure qp(w:World):Prop where
 lib:xJ w
 s9:w.cell? ⟨0,0,none⟩=some (.iface 211 (.agg #[.pointer (some ⟨9,42,none⟩)]))
 t6:TabAt 5 Lib.deBruijn64tab w
 t5:TabAt 1 Lib.deBruijn32tab w
 k5:∃c t fz,w.heap[1]?=some (.cells c t fz)
 lw:Y.Lw w.heap.size
theorem qp.aq(h:qp w)(hb:Below w w w'):qp w':=
 ⟨h.lib.aq hb,(PN (hb.block _ (PW _ _ h.s9))).trans h.s9,Y.fY h.lw hb h.t6,Y.cC h.lw hb h.t5,by
  obtain⟨c,t,fz,e⟩:=h.k5;exact⟨c,t,fz,(hb.block _ h.lw.g5).trans e⟩,⟨PY h.lw.g hb.size,PY h.lw.g5 hb.size⟩⟩
namespace Y
def kT(a:U.Act):PA:=if a.how.toList == U.cd then .raise a.event else if a.how.toList == U.bO then .cancel a.id else if a.id.size=0 then .send a.event a.delay.toNat else .sendAs a.event a.delay.toNat a.id
theorem N9{a:U.Act}(hd:0<=a.delay):(kT a).v=bo a:=by
 have e:((a.delay.toNat:Nat):Int)=a.delay:=zaa;unfold kT bo;split
 ·rfl
 ·split
  ·rfl
  ·split
   ·show Value.iface _ (.agg #[a.event,.int .u64 ((a.delay.toNat:Nat):Int)])=_;rw[e];rfl
   ·show Value.iface _ (.agg #[a.event,.int .u64 ((a.delay.toNat:Nat):Int),a.id])=_;rw[e];rfl
theorem Ks{a:U.Act}(h:U.gq a):0<=a.delay:=by
 obtain⟨n,e,_⟩:=h.delay;omega
theorem EZ{a:U.Act}(h:U.gq a):(kT a).ok/\(kT a).sz:=by
 obtain⟨n,e,hn⟩:=h.delay;have he:=h.event;unfold kT;split
 ·exact⟨trivial,zbN⟩
 ·split
  ·exact⟨trivial,trivial⟩
  ·split
   ·exact⟨zcw,zbN⟩
   ·exact⟨zcw,zbN⟩
theorem Et{A:List U.Act}(h:w.ownsRow 0 275 1 v.v A.length (A.map bo))(hG:J.iE A):gu w w v (A.map kT):=by
 obtain⟨va,vn,vc⟩:=v;have hl:=hG.len;refine⟨?_,?_,fun k x hx=>?_,fun x hx=>?_,za6⟩
 ·rw[PE]
  rcases h.2 with⟨e,h0⟩|⟨g,cap,cur,e,_⟩
  ·simp[U.Sl.v]at e;rw[h0];exact e.2.1
  ·simp[U.Sl.v]at e;exact e.2.1
 ·rw[PE]
  rcases h.2 with⟨e,h0⟩|⟨g,cap,cur,e,_,_,hle,_⟩
  ·omega
  ·simp[U.Sl.v]at e;rw[e.2.2];exact hle
 ·rw[Pv]at hx;obtain⟨a,ha,rfl⟩:∃a,A[k]?=some a/\kT a=x:=by
   cases hq:A[k]? with
   |none=>rw[hq]at hx;cases hx
   |some a=>rw[hq]at hx;exact⟨a,rfl,by simpa using hx⟩
  have hk:=(Ps.1 ha).1
  rcases h.2 with⟨_,h0⟩|⟨g,cap,cur,e,_,hg,hle,_,_,h4⟩
  ·omega
  ·simp[U.Sl.v]at e;refine⟨g,e.1,(Pn.1 hg).1,?_⟩;rw[Pt w g k _ _ _ hg,N9 (Ks (hG.small a (PD ha)))];have h5:(cur.toList.take (A.length*1))[k]?=(A.map bo)[k]?:=by rw[h4]
   rw[Sz,PC zaa]at h5;rw[<- QJ,h5,Pv,ha];rfl
 ·obtain⟨a,ha,rfl⟩:=P0.1 hx;exact(EZ (hG.small a ha)).1
theorem PA.OY{x y:PA}(h:x.v=y.v):x=y:=by
 cases x<;>cases y<;>simp[PA.v]at h<;>(try obtain⟨rfl,h⟩:=h)<;>(try subst h)<;>(try rfl)
 ·rw[show(_:Nat)=_ from Int.ofNat.inj h]
 ·obtain⟨h1,rfl⟩:=h;rw[show(_:Nat)=_ from Int.ofNat.inj h1]
theorem gu.uniq{L':List PA}(h:gu W lo v L)(k:gu W lo v L'):L=L':=by
 have hl:L.length=L'.length:=by rw[<- h.n,<- k.n]
 apply RA
 intro i;by_cases hi:i<L.length
 ·obtain⟨x,hx⟩:∃x,L[i]?=some x:=⟨_,Pp hi⟩;obtain⟨y,hy⟩:∃y,L'[i]?=some y:=⟨_,Pp zaa⟩;obtain⟨a,e1,_,e2⟩:=h.cell i x hx;obtain⟨b,e3,_,e4⟩:=k.cell i y hy;rw[e1]at e3;cases e3
  rw[e2]at e4;rw[hx,hy,PA.OY (Qh e4)]
 ·rw[P6 zaa,P6 zaa]
open Classical in
noncomputable def o0(W:World)(lo:Nat)(v:U.Sl):List PA:=if h:∃L,gu W lo v L then h.choose else[]
theorem Lb(h:gu W lo v L):o0 W lo v=L:=by
 unfold o0;have he:∃L,gu W lo v L:=⟨L,h⟩;rw[dif_pos he];exact he.choose_spec.uniq h
def aL(x:J.DS):MS:=⟨J.aj x.s,x.s.name,x.s.depth,x.s.up,x.vp,x.ve,x.vl,x.vm⟩
def MF(y:J.PV):MV:=⟨y.m.event,y.m.after,y.m.delay,y.m.to,y.v⟩
theorem N3(D:mi w wr sv X Z X.length):∃MM:Nat->List J.PV,∀i,(∀z,Z[i]?=some z->eF wr z (MM i))/\(Z[i]?=none->MM i=[]):=by
 have h:∀i:Nat,∃M:List J.PV,(∀z,Z[i]?=some z->eF wr z M)/\(Z[i]?=none->M=[]):=fun i=>by
  cases hz:Z[i]? with
  |none=>exact⟨[],fun z e=>zaI,fun _=>rfl⟩
  |some z=>
   obtain⟨hi,rfl⟩:=Ps.1 hz;have XJ:i<X.length:=by have:=D.len;omega
   obtain⟨_,M,hM⟩:=D.done i hi XJ XJ;exact⟨M,fun z e=>(by cases e;exact hM),fun e=>zaI⟩
 exact Classical.axiomOfChoice h
def vOf(MM:Nat->List J.PV)(i:Nat):List MV:=(MM i).map MF
theorem pH(m:U.Move):(J.dq m).event=m.event/\(J.dq m).to=m.to:=by unfold J.dq;split<;>exact⟨rfl,rfl⟩
theorem N2{N:List U.Move}(h:M.map (·.m)=N.map J.dq){y:J.PV}(hy:y∈M):∃m∈N,y.m=J.dq m:=by
 have:y.m∈N.map J.dq:=by rw[<- h];exact QT hy
 obtain⟨m,hm,e⟩:=P0.1 this;exact⟨m,hm,e.symm⟩
theorem AL{X:List MS}{n:()}{d:Nat}:∀k,k<=X.length->b7 X k n=some d->d<k/\∃x,X[d]?=some x/\n=x.name
 |0,_,h=>by cases h
 |k+1,hk,h=>by
  obtain⟨x,hx⟩:∃x,X[k]?=some x:=⟨_,Pp zaa⟩;rw[b7,hx]at h;dsimp only at h;by_cases e:n=x.name
  ·rw[PC e]at h;have:=Qh h;subst this;exact⟨UI _,x,hx,e⟩
  ·rw[Pu e]at h;obtain⟨h1,h2⟩:=AL k zaa h;exact⟨zaa,h2⟩
theorem tt{X:List MS}{n:()}{i:Nat}{x:MS}(hx:X[i]?=some x)(hn:n=x.name):∀k,i<k->k<=X.length->∃d,b7 X k n=some d
 |0,h,_=>by omega
 |k+1,h,hk=>by
  obtain⟨y,hy⟩:∃y,X[k]?=some y:=⟨_,Pp zaa⟩;rw[b7,hy];dsimp only;by_cases e:n=y.name
  ·rw[PC e];exact⟨k,rfl⟩
  ·rw[Pu e];by_cases ek:i=k
   ·subst ek;rw[hx]at hy;cases hy
    exact absurd hn e
   ·exact tt hx hn k zaa zaa
theorem Ny{cb:Nat}(D:mi w wr sv X Z X.length)(XK:wr.heap[cb]?=some (.cells #[.slice sv.a sv.n sv.c] 123 (0,0)))(hZ:0<Z.length){MM:Nat->List J.PV}(hM:∀i,(∀z,Z[i]?=some z->eF wr z (MM i))/\(Z[i]?=none->MM i=[])):∃cg cc,ChM wr cb cg cc (Z.map aL) (vOf MM):=by
 obtain⟨sa,sn,sc⟩:=sv
 rcases D.row.2 with⟨_,h0⟩|⟨g,cap,cur,hv,_,hg,_⟩
 ·omega
 simp[U.Sl.v]at hv;obtain⟨rfl,rfl,rfl⟩:=hv;have U5:Row wr 134 8 J.aM (.slice g Z.length sc) Z:=aJ D.row (PK _);refine⟨g,sc,⟨by rw[PE];exact XK,⟨cur,(0,0),hg⟩,fun i x hx j v hj=>?_,fun i x hx=>?_⟩⟩
 ·rw[Pv]at hx;cases hz:Z[i]? with
  |none=>rw[hz]at hx;cases hx
  |some z=>
   rw[hz]at hx;obtain rfl:aL z=x:=by simpa using hx
   obtain⟨hi,rfl⟩:=Ps.1 hz;have hj':(J.aM Z[i])[j]?=some v:=hj;have hjl:j<8:=by have:=(Ps.1 hj').1;simpa[J.aM] using this
   exact(Row.cell (n:=8) (f:=J.aM) (fun _=>rfl) U5 hjl hi).trans hj'
 ·rw[Pv]at hx;cases hz:Z[i]? with
  |none=>rw[hz]at hx;cases hx
  |some z=>
   rw[hz]at hx;obtain rfl:aL z=x:=by simpa using hx
   have hw:=(hM i).1 z hz;obtain⟨s,vp,ve,vl,⟨ma,mn,mc⟩⟩:=z;have hmr:=hw.aa;have YL:(vOf MM i).length=(MM i).length:=by unfold vOf;rw[PE]
   rw[YL];show mn=(MM i).length/\_
   rcases hmr.2 with⟨e,h0⟩|⟨gm,cap,curm,e,_,hgm,hle,_⟩
   ·simp[U.Sl.v]at e;exact⟨zaa,.inl h0⟩
   ·simp[U.Sl.v]at e;obtain⟨rfl,rfl,rfl⟩:=e;refine⟨rfl,.inr ⟨gm,curm,(0,0),rfl,hle,hgm,fun j m hm a v hv=>?_⟩⟩;unfold vOf at hm;rw[Pv]at hm;cases hy:(MM i)[j]? with
    |none=>rw[hy]at hm;cases hm
    |some y=>
     rw[hy]at hm;obtain rfl:MF y=m:=by simpa using hm
     obtain⟨hjl,rfl⟩:=Ps.1 hy;have WQ:(J.aQ (MM i)[j])[a]?=some v:=hv;have ZC:a<5:=by have:=(Ps.1 WQ).1;simpa[J.aQ] using this
     have hmr':Row wr 207 5 J.aQ (.slice gm (MM i).length mc) (MM i):=hmr;exact(Row.cell (n:=5) (f:=J.aQ) (fun _=>rfl) hmr' ZC hjl).trans WQ
end Y
namespace Lw
theorem LY{x y:()}(h:x≠y):(x.toList == y.toList)=false:=by
 rw[Rx,ne_eq,P1,P1];intro e;apply h
 obtain⟨⟨x⟩⟩:=x;obtain⟨⟨y⟩⟩:=y;have e:x=y:=e;rw[e]
