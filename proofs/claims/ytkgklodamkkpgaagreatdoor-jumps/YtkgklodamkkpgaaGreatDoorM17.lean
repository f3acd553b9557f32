import Derived.Test.YtkgklodamkkpgaaGreatDoorM09
import Derived.Test.YtkgklodamkkpgaaGreatDoorM16
import Derived.Shelf.SlicesE.Clone
set_option maxRecDepth 100000
set_option maxHeartbeats 8000000
namespace Go.Proofs.YtkgklodamkkpgaaGreatDoor
variable {zp:Prop}
theorem zdz (h:zp:=by
 have h1:=hall e he hb;have h0:=(Sc.1 hr).1;rw [heq] at h1
 rcases O6 i listed.size with h' | h'
 ·simp [h'] at h0 h1;rw [h0] at h1;cases h1
 ·simp [Array.getElem?_eq_none h'] at h1):zp:=h
theorem zeh (h:zp:=by
 exact ⟨j,zaa,by rw [iD S x j zaa,M6 j1];exact j2,by rw [iD S x j zaa,M6 j1];exact j3⟩):zp:=h
theorem zem (h:zp:=by
 rintro e w' ⟨v',rfl,ho,_,hb⟩;obtain ⟨s,rfl⟩:=Im ho;exact ⟨s,rfl,ho,hb⟩):zp:=h
theorem zeY (h:zp:=by
 subst hji;exact hy.wpOp hi trivial ⟨fun h _=>hS h,H⟩):zp:=h
theorem ze0 (h:zp:=by
 subst e0;exact ⟨Ref.Sl.nil,rfl,N4 _ _ _ _,MY _ _⟩):zp:=h
theorem ze5 (h:zp:=by
 rw [Array.setIfInBounds_comm _ _ hji];exact h3.2.2):zp:=h
theorem zff (h:zp:=by
 have:=RH hj hji;rw [H.1] at this;cases this):zp:=h
theorem zaj (h:zp:=by go_simp;(try with_reducible rfl)):zp:=h
theorem zbl (h:zp:=by rw [h] at hr;cases hr):zp:=h
theorem zbJ (h:zp:=by show a.event.size<=1000000;omega):zp:=h
theorem zcq (h:zp:=by show a.delay.toNat<18446744073709551616;omega):zp:=h
open Tryz
variable {x:Pro.DS} {i n B g cap size fuel lo:Nat} {w w' wr W:World} {e:TypeId} {xs:List Value} {v ve vl vm sv:Ref.Sl} {listed:Array Bool} {a:Act} {oi:Oper} {rs:List Nat} {M:List Pro.PV} {Z X:List Pro.DS} {L:List Pg.PA}
section
open Go.RowKit
namespace Pro
abbrev sAt (S:List Ref.State) (k:Nat):Ref.State:=S.getD k Ref.st0
def il (x:Ref.State):Bool:=x.word.toList == Ref.bh
structure Shp (S:List Ref.State):Prop where
 len:S.length<=24
 wf:∀ i,i<S.length -> -1<=(sAt S i).up/\(sAt S i).up<i
 hup:∀ i,i<S.length->il (sAt S i)=true->0<=(sAt S i).up
 leaf:∀ i,i<S.length->0<=(sAt S i).up->(sAt S (sAt S i).up.toNat).word.toList≠Ref.b7/\il (sAt S (sAt S i).up.toNat)=false
 hst:∀ i,i<S.length->il (sAt S i)=true->(sAt S (sAt S i).up.toNat).word.toList≠Ref.aM->∃ j,j<S.length/\(sAt S j).up=(sAt S i).up/\il (sAt S j)=false
theorem Shp.nil:Shp []:=⟨Ni _,fun i h=>absurd h (Qs i),fun i h=>absurd h (Qs i),fun i h=>absurd h (Qs i),fun i h=>absurd h (Qs i)⟩
theorem Shp.congr {S S':List Ref.State} (h:Shp S) (hl:S'.length=S.length) (hw:∀ i,(sAt S' i).word=(sAt S i).word) (hu:∀ i,(sAt S' i).up=(sAt S i).up):Shp S':=by
 have hh:∀ i,il (sAt S' i)=il (sAt S i):=fun i=>by unfold il;rw [hw]
 refine ⟨by rw [hl];exact h.len,fun i hi => ?_,fun i hi => ?_,fun i hi => ?_,fun i hi => ?_⟩
 ·rw [hu];exact h.wf i zaa
 ·rw [hu,hh];exact h.hup i zaa
 ·rw [hu,hw,hh];exact h.leaf i zaa
 ·rw [hu,hw,hh];intro a b;obtain ⟨j,h1,h2,h3⟩:=h.hst i zaa a b;exact ⟨j,zaa,by rw [hu];exact h2,by rw [hh];exact h3⟩
theorem Aa (S:List Ref.State) (k:Nat) (f:Ref.State->Ref.State) (i:Nat):sAt (Ref.gq S k f) i=if k=i/\k<S.length then f (sAt S k) else sAt S i:=by
 unfold sAt Ref.gq;simp only [List.getD_eq_getElem?_getD];by_cases e:k=i
 ·subst e;by_cases hk:k<S.length
  ·rw [Nw hk,M6 ⟨rfl,hk⟩];rfl
  ·rw [M4 (fun x=>hk x.2),Ny (by rw [Nl];omega),Ny zaa]
 ·rw [NG e,M4 (fun x=>e x.1)]
theorem Shp.gq {S:List Ref.State} (h:Shp S) (k:Nat) (f:Ref.State->Ref.State) (hf:∀ x,(f x).word=x.word/\(f x).up=x.up):Shp (Ref.gq S k f):=by
 refine h.congr (by unfold Ref.gq;simp) (fun i => ?_) (fun i => ?_)
 ·rw [Aa];split
  ·rename_i e;rw [(hf _).1,e.1]
  ·rfl
 ·rw [Aa];split
  ·rename_i e;rw [(hf _).2,e.1]
  ·rfl
theorem iD (S:List Ref.State) (x:Ref.State) (i:Nat) (hi:i<S.length+1):sAt (S++[x]) i=if i<S.length then sAt S i else x:=by
 unfold sAt;rw [Nh,Nh];by_cases e:i<S.length
 ·rw [N7 e,M6 e]
 ·rw [Oe zaa,M4 e,show i-S.length=0 by omega];rfl
theorem lR {S:List Ref.State} {d:Int}:∀ n,-1<=Ref.gd S d n
 | 0=>by unfold Ref.gd;omega
 | n+1=>by
  have:=lR (S:=S) (d:=d) n;rw [Ref.gd]
  repeat' split
  all_goals omega
theorem Dx (S:List Ref.State) (d:Int) : -1<=Ref.dv S d:=by
 unfold Ref.dv;split
 ·exact lR _
 ·omega
theorem Shp.snoc {S:List Ref.State} (h:Shp S) {x:Ref.State} (hu : -1<=x.up) (hu2:x.up<S.length) (hf:Ref.fits (S.map Ref.emb) (Ref.emb x)=true):Shp (S++[x]):=by
 have hat:∀ u:Nat,u<S.length->(Ref.CC (S.map Ref.emb) (u:Int)).s=sAt S u:=fun u hul=>by
  unfold Ref.CC sAt;rw [PH,Nh,Nh,Nf,MU hul];rfl
 unfold Ref.fits at hf;split at hf
 ·cases hf
 rename_i h1;simp only [Bool.or_eq_true,decide_eq_true_eq,List.length_map,Bool.and_eq_true,not_or,not_and] at h1;obtain ⟨h24,_,hnh⟩:=h1;have hx:(Ref.emb x).s=x:=rfl;rw [hx] at hf hnh;have hl:=h.len;have hlen:(S++[x]).length=S.length+1:=zad;have hnew:(il x=true->0<=x.up)/\(0<=x.up->(sAt S x.up.toNat).word.toList≠Ref.b7/\il (sAt S x.up.toNat)=false)/\(il x=true->(sAt S x.up.toNat).word.toList≠Ref.aM->∃ j,j<S.length/\(sAt S j).up=x.up/\il (sAt S j)=false):=by
  have hpos:il x=true->0<=x.up:=fun hh=>by
   by_cases e:x.up<0
   ·exact absurd hh (hnh e)
   ·omega
  by_cases e:x.up<0
  ·exact ⟨hpos,fun e2=>zaa,fun hh=>by have:=hpos hh;omega⟩
  ·rw [M4 e] at hf;obtain ⟨u,hu'⟩:∃ u:Nat,x.up=u:=⟨x.up.toNat,zaa⟩;rw [hu',hat u zaa] at hf;split at hf
   ·cases hf
   rename_i h2;simp only [Bool.or_eq_true,not_or] at h2;have hlf:(sAt S x.up.toNat).word.toList≠Ref.b7/\il (sAt S x.up.toNat)=false:=by
    rw [hu',PH];refine ⟨fun e2=>h2.1 (by rw [e2];decide),?_⟩;rw [Bool.eq_false_iff];exact fun e2=>h2.2 e2
   refine ⟨hpos,fun _=>hlf,fun hh hp => ?_⟩;rw [hu',PH] at hp;split at hf
   ·rename_i h3;exact absurd za3 hp
   ·have hx2:(x.word.toList == Ref.bh)=true:=hh;rw [hx2,Bool.not_true,QK] at hf;have hnn:Ref.sB (S.map Ref.emb) (u:Int)=false:=by simpa using hf
    unfold Ref.sB at hnn;have:∃ y∈S,y.up=(u:Int):=by
     rw [QT] at hnn;obtain ⟨z,hz,hz2⟩:=hnn;obtain ⟨y,hy,rfl⟩:=NI.1 hz;refine ⟨y,hy,Oi fun e=>hz2 ?_⟩;show (!decide (y.up=(u:Int)))=true;rw [NM e];rfl
    obtain ⟨y,hy,hyu⟩:=this;obtain ⟨a,ha⟩:=Rb hy;have hal:=(MZ.1 ha).1;have hsa:sAt S a=y:=by unfold sAt;rw [Nh,ha];rfl
    cases hya:il y
    ·exact ⟨a,hal,by rw [hsa,hyu,hu'],by rw [hsa];exact hya⟩
    ·obtain ⟨j,j1,j2,j3⟩:=h.hst a hal (by rw [hsa];exact hya) (by rw [hsa,hyu,PH];exact hp);exact ⟨j,j1,by rw [j2,hsa,hyu,hu'],j3⟩
 have hlow:∀ u:Int,u<S.length->0<=u->sAt (S++[x]) u.toNat=sAt S u.toNat:=fun u a b=>by rw [iD S x _ zaa,M6 zaa]
 refine ⟨by rw [hlen];omega,fun i hi => ?_,fun i hi => ?_,fun i hi => ?_,fun i hi => ?_⟩
 ·rw [hlen] at hi;rw [iD S x i hi];split
  ·rename_i e;exact h.wf i e
  ·exact ⟨hu,zaa⟩
 ·rw [hlen] at hi;rw [iD S x i hi];split
  ·rename_i e;exact h.hup i e
  ·exact hnew.1
 ·rw [hlen] at hi;rw [iD S x i hi];split
  ·rename_i e;intro h0;rw [hlow _ (by have:=(h.wf i e).2;omega) h0];exact h.leaf i e h0
  ·intro h0;rw [hlow _ hu2 h0];exact hnew.2.1 h0
 ·rw [hlen] at hi;rw [iD S x i hi];split
  ·rename_i e;intro hh hp;have h0:=h.hup i e hh;rw [hlow _ (by have:=(h.wf i e).2;omega) h0] at hp;obtain ⟨j,j1,j2,j3⟩:=h.hst i e hh hp;exact zeh
  ·intro hh hp;have h0:=hnew.1 hh;rw [hlow _ hu2 h0] at hp;obtain ⟨j,j1,j2,j3⟩:=hnew.2.2 hh hp;exact zeh
theorem Shp.step {S S':List Ref.State} (h:Shp S) {x:Ref.jZ} {d:Int} (hs:Ref.bA S i x d=some S'):Shp S'/\(0<S.length->0<S'.length)/\(S=[]->0<S'.length):=by
 have hge:=Dx S d;unfold Ref.bA at hs;have hemp:S=[]->Ref.dv S d<0:=fun e=>by
  subst e;unfold Ref.dv;split
  ·show Ref.gd [] d 0<0;rw [Ref.gd];decide
  ·decide
 have htl:∀ k f,(Ref.gq S k f).length=S.length:=fun k f=>by unfold Ref.gq;simp
 repeat' split at hs
 all_goals first
  | (cases hs;done)
  | (cases hs
     rename_i hf;refine ⟨h.snoc hge ?_ hf,fun _=>zad,fun _=>zad⟩;show Ref.dv S d<S.length;by_cases e:Ref.dv S d<0
     ·omega
     ·have:=oV e;omega)
  | (cases hs
     exact ⟨h,fun e=>e,fun e=>absurd (hemp e) zal⟩)
  | (cases hs
     exact ⟨h.gq _ _ (fun _=>⟨rfl,rfl⟩),fun e=>by rw [htl];exact e,fun e=>absurd (hemp e) zal⟩)
theorem Ag {A:List (Ref.jZ×Int)}:∀ {i:Nat} {S:List Ref.State},i<=A.length->Ref.a8 A i=some S->Shp S/\(0<i->0<S.length)
 | 0,S,_,h=>by cases h;exact ⟨Shp.nil,fun e=>zaa⟩
 | i+1,S,hi,h=>by
  rw [Ref.a8] at h;split at h
  ·cases h
  rename_i S0 h0;obtain ⟨ih,ihl⟩:=Ag zaa h0;rw [MU zaa] at h;dsimp only at h;obtain ⟨a,b,c⟩:=ih.step h;refine ⟨a,fun _ => ?_⟩;cases hS:S0 with
  | nil=>exact c hS
  | cons y l=>exact b (by rw [hS];simp)
theorem JD {P:List ByteArray} {S:List Ref.State} (h:Itm P S n) (t:Bool):∀ x∈S.map Ref.emb,0<x.s.line/\(∀ m∈x.s.aj,0<m.line)/\((t&&Ref.cd x.s.enter)=true->0<x.s.has0)/\((t&&Ref.cd x.s.leave)=true->0<x.s.has1):=by
 have mineN:Ref.cd []=false:=rfl;exact zc1
theorem sF {S:List Ref.State}:∀ {k:Nat},Ref.dK S k=none->∀ i,i<k->(sAt S i).word.toList=Ref.aM->Ref.regions (S.map Ref.emb) i≠[]
 | 0,_,i,hi,_=>by omega
 | k+1,h,i,hi,hw=>by
  rw [Ref.dK] at h;split at h
  ·cases h
  rename_i h0;split at h
  ·cases h
  rename_i h1;by_cases e:i=k
  ·subst e;intro hr;apply h1
   have hw2:((S.getD i Ref.st0).word.toList == Ref.aM)=true:=by rw [show (S.getD i Ref.st0).word.toList=_ from hw];decide
   rw [hw2,hr];rfl
  ·exact sF h0 i zaa hw
structure nE (S:List Ref.State):Prop where
 shp:Shp S
 pos:0<S.length
 par:∀ i,i<S.length->(sAt S i).word.toList=Ref.aM->Ref.regions (S.map Ref.emb) i≠[]
 uniq:∀ i,i<S.length->¬ Ref.place (S.map Ref.emb) (sAt S i).name<i
 tos:∀ x∈S,∀ m∈x.aj,m.to.toList.isEmpty=false->0<=Ref.place (S.map Ref.emb) m.to
 low:∀ x∈S,pR x/\ia x
theorem Ci {s:ByteArray} {S:List Ref.State} (h:Ref.read s = .eX S):nE S:=by
 have hlow:=Ht h;unfold Ref.read at h;split at h
 ·cases h
 ·cases hsy:Ref.syn (Ref.cut s 10) with
  | some i=>rw [hsy] at h;cases h
  | none =>
   rw [hsy] at h;dsimp only at h;cases ht:Ref.a8 (Ref.aN (Ref.cut s 10) ((Ref.cut s 10).length-1)) ((Ref.cut s 10).length-1) with
   | none=>rw [ht] at h;cases h
   | some S' =>
    rw [ht] at h;dsimp only at h;have hI:=nV (pQ hsy) (MR _) ht;have hll:(Ref.aN (Ref.cut s 10) ((Ref.cut s 10).length-1)).length=(Ref.cut s 10).length-1:=by unfold Ref.aN;simp
    obtain ⟨hS1,hS2⟩:=Ag (by rw [hll];exact MR _) ht;have hn0:0<(Ref.cut s 10).length-1:=by
     unfold Ref.syn at hsy;split at hsy
     ·cases hsy
     ·split at hsy
      ·rename_i e;rw [NC] at e;exact PI e.1
      ·cases hsy
    split at h
    ·cases h
    rename_i hp;split at h
    ·cases h
    rename_i hn;cases h
    have hpn:Ref.dK S S.length=none:=by
     cases hq:Ref.dK S S.length with
     | none=>rfl
     | some l =>
      have:=pG hI (MR _) hq;rw [hq] at hp;exact absurd this hp
    have hlo:=sr (X:=S.map Ref.emb) (t:=Ref.vW (S.map Ref.emb)) (JD hI _) (S.map Ref.emb).length (MR _);have hz:∀ l,¬ ∃ q,∃ h:q<(S.map Ref.emb).length,q<(S.map Ref.emb).length/\StB (S.map Ref.emb) (Ref.vW (S.map Ref.emb)) q (S.map Ref.emb)[q].s l:=by
     rcases hlo with ⟨_,e⟩ | ⟨e,_⟩
     ·exact e
     ·exact absurd e hn
    have hst:∀ q (hq:q<S.length) l,¬ StB (S.map Ref.emb) (Ref.vW (S.map Ref.emb)) q S[q] l:=fun q hq l hb=>hz l ⟨q,by simpa using hq,by simpa using hq,by rw [List.getElem_map];exact hb⟩;refine ⟨hS1,hS2 hn0,fun i hi hw=>sF hpn i hi hw,fun i hi hlt => ?_,fun x hx m hm hne => ?_,hlow⟩
    ·have e:sAt S i=S[i]:=by unfold sAt;rw [Nh,MU hi];rfl
     rw [e] at hlt;exact hst i hi _ (.inl ⟨hlt,rfl⟩)
    ·obtain ⟨q,hq,rfl⟩:=Pp hx;by_cases e:0<=Ref.place (S.map Ref.emb) m.to
     ·exact e
     ·exfalso;refine hst q hq m.line (.inr (.inl ⟨m,hm,?_,rfl⟩));unfold Ref.kz;have h1:(m.to.toList == [])=false:=by
       cases hz:m.to.toList with
       | nil=>rw [hz] at hne;cases hne
       | cons=>rfl
      rw [h1,NZ (show Ref.place (S.map Ref.emb) m.to<0 by omega)];rfl
end Pro
end
section
open Go.RowKit Go.Proofs Go.Shelf
def BF:Go.Shelf.Ren:=⟨fun | 41=>106 | n=>n,fun | 22=>159 | 23=>250 | 4=>4 | n=>n,fun | n=>n⟩
theorem GJ:Go.Proofs.SlLaysE0.n41 prog BF where
 mixed:=zab
 f41:=⟨Tryz.f106.name,zac,Tryz.func106.trans (congrArg some zab)⟩
 t4:=underlying4
 a4:=Qz
 z4:=Qj
 v4:=PK
 t22:=underlying159
 a22:=Tryz.isAgg159
 z22:=Tryz.sizeOf159
 v22:=Tryz.zeroValue159
def BG:Go.Shelf.Ren:=⟨fun | 41=>107 | n=>n,fun | 22=>169 | 23=>239 | 4=>4 | n=>n,fun | n=>n⟩
theorem GK:Go.Proofs.SlLaysE0.n41 prog BG where
 mixed:=zab
 f41:=⟨Tryz.f107.name,zac,Tryz.func107.trans (congrArg some zab)⟩
 t4:=underlying4
 a4:=Qz
 z4:=Qj
 v4:=PK
 t22:=underlying169
 a22:=Tryz.isAgg169
 z22:=Tryz.sizeOf169
 v22:=Tryz.zeroValue169
def BH:Go.Shelf.Ren:=⟨fun | 41=>65 | n=>n,fun | 22=>150 | 23=>171 | 4=>4 | n=>n,fun | n=>n⟩
theorem GL:Go.Proofs.SlLaysE0.n41 prog BH where
 mixed:=zab
 f41:=⟨Tryz.f65.name,zac,Tryz.func65.trans (congrArg some zab)⟩
 t4:=underlying4
 a4:=Qz
 z4:=Qj
 v4:=PK
 t22:=underlying150
 a22:=Tryz.isAgg150
 z22:=Tryz.sizeOf150
 v22:=Tryz.zeroValue150
theorem Eh:(Tryz.prog.info? 239).map (fun i=>(i.zero,i.size,i.bytes))=some (some (.agg #[ByteArray.empty,false,.int .u64 0,ByteArray.empty,.slice none 0 0]),5,72):=zab
theorem Bv:(Tryz.prog.info? 171).map (fun i=>(i.zero,i.size,i.bytes))=some (some (.agg #[(0:Int),ByteArray.empty,(0:Int),(0:Int),.slice none 0 0,.slice none 0 0,.slice none 0 0,.slice none 0 0]),8,136):=zab
theorem xv {m:Nat} (h:w.ownsRow B e n (.slice g m cap) m xs):∀ j u,xs[j]?=some u->w.cell? ⟨g,0+j,none⟩=some u:=by
 intro j u hj;have hlt:j<m*n:=by rw [<- h.1];exact (MZ.1 hj).1
 rw [Pd,h.cellAt j hlt];exact hj
theorem FC (a:Ref.Act):(bg a).oneCell'=true:=by
 unfold bg vL
 repeat' split
 all_goals rfl
def AG (e:TypeId) (size n:Nat) (xs:List Value) (w:World) (en:Ending) (w':World):Prop:=∃ s:Ref.Sl,en = .returned (.slice s.a s.n s.c)/\w'.ownsRow w e size s.v n xs/\Below w w w'
theorem Im {v:Value} (h:w.ownsRow B e size v n xs):∃ s:Ref.Sl,v=s.v:=by
 obtain ⟨a,k,c,rfl⟩:=Ref.jS h;exact ⟨⟨a,k,c⟩,rfl⟩
theorem rA (a:Option Addr) (n c:Nat) (A:List Ref.Act) (w:World) (h:w.ownsRow 0 250 1 (.slice a n c) A.length (A.map bg)) (hl:A.length<=1000000) :
  () 106 #[.slice a n c] w (AG 250 1 A.length (A.map bg) w):=by
 rcases h.2 with ⟨h0,hn⟩ | ⟨g,cap,cur,h0,_⟩
 ·cases h0
  refine (AnyE.slices_Clone_nil GJ 0 0 w).mono ?_;rintro e w' ⟨rfl,rfl⟩;have e0:A=[]:=O9 hn;exact ze0
 ·obtain ⟨i0,hi,hz0,hz1,hz2⟩:=OB nh;rw [h0] at h ⊢;refine (AnyE.slices_Clone GJ i0 .nilIface 1 16 hi hz0 hz1 hz2 rfl zac (fun w=>zab) g 0 A.length cap (A.map bg) w h.1 zag zaa (xv h) ?_).mono ?_
  ·intro u hu;obtain ⟨x,_,rfl⟩:=NI.1 hu;exact FC x
  ·exact zem
theorem Bb (a:Option Addr) (n c:Nat) (M:List Pro.PV) (w:World) (h:w.ownsRow 0 239 5 (.slice a n c) M.length (M.flatMap Pro.bf)) (hl:M.length<=1000000) :
  () 107 #[.slice a n c] w (AG 239 5 M.length (M.flatMap Pro.bf) w):=by
 rcases h.2 with ⟨h0,hn⟩ | ⟨g,cap,cur,h0,_⟩
 ·cases h0
  refine (AnyE.slices_Clone_nil GK 0 0 w).mono ?_;rintro e w' ⟨rfl,rfl⟩;have e0:M=[]:=O9 hn;exact ze0
 ·obtain ⟨i0,hi,hz0,hz1,hz2⟩:=OB Eh;rw [h0] at h ⊢;refine (AnyE.slices_Clone GK i0 _ 5 72 hi hz0 hz1 hz2 rfl zac (fun w=>zab) g 0 M.length cap (M.flatMap Pro.bf) w h.1 zag zaa (xv h) ?_).mono ?_
  ·intro u hu;obtain ⟨x,_,hx⟩:=Pv.1 hu;simp only [Pro.bf,List.mem_cons,List.not_mem_nil,or_false] at hx
   rcases hx with rfl | rfl | rfl | rfl | rfl <;> rfl
  ·exact zem
theorem Bc (a:Option Addr) (n c:Nat) (X:List Pro.DS) (w:World) (h:w.ownsRow 0 171 8 (.slice a n c) X.length (X.flatMap Pro.aO)) (hl:X.length<=1000000) :
  () 65 #[.slice a n c] w (AG 171 8 X.length (X.flatMap Pro.aO) w):=by
 rcases h.2 with ⟨h0,hn⟩ | ⟨g,cap,cur,h0,_⟩
 ·cases h0
  refine (AnyE.slices_Clone_nil GL 0 0 w).mono ?_;rintro e w' ⟨rfl,rfl⟩;have e0:X=[]:=O9 hn;exact ze0
 ·obtain ⟨i0,hi,hz0,hz1,hz2⟩:=OB Bv;rw [h0] at h ⊢;refine (AnyE.slices_Clone GL i0 _ 8 136 hi hz0 hz1 hz2 rfl zac (fun w=>zab) g 0 X.length cap (X.flatMap Pro.aO) w h.1 zag zaa (xv h) ?_).mono ?_
  ·intro u hu;obtain ⟨x,_,hx⟩:=Pv.1 hu;simp only [Pro.aO,List.mem_cons,List.not_mem_nil,or_false] at hx
   rcases hx with rfl | rfl | rfl | rfl | rfl | rfl | rfl | rfl <;> rfl
  ·exact zem
end
section
open Go
section
variable {P:Program} {ops:Array Oper} {Q:Exit->Act->World->Prop} {md:Region.Mode} {S:World->Prop} {s:Nat}
def eV (P:Program) (md:Region.Mode) (ops:Array Oper) (Q:Exit->Act->World->Prop) (S:World->Prop) (s:Nat):Nat->Array Bool->Act->World->Prop
 | 0,listed,a,w=>Region.ready md ops listed=[]/\Q .normal a w
 | fuel+1,listed,a,w =>
  (Region.ready md ops listed=[]->Q .normal a w) /\
  ∀ i∈Region.ready md ops listed,wpOp P ops Q i (fun a' w'=>(listed.getD s true=false->i≠s->S w')/\eV P md ops Q S s fuel (listed.setIfInBounds i true) a' w') a w
theorem tE:∀ (fuel:Nat) (listed:Array Bool) (a:Act) (w:World),eV P md ops Q S s fuel listed a w->wpAny P md ops Q fuel listed a w
 | 0,_,_,_,h=>h
 | fuel+1,_,_,_,h=>⟨h.1,fun i hi=>R9 (fun a' w' h'=>tE fuel _ a' w' h'.2) (h.2 i hi)⟩
theorem jk (l:Array Bool) (s:Nat):(l.setIfInBounds s true).getD s true=true:=by
 simp only [Array.getD_eq_getD_getElem?,Array.getElem?_setIfInBounds];split
 ·split <;> simp
 ·rename_i h;exact absurd trivial h
theorem getD_set_true (l:Array Bool) (i s:Nat) (h:l.getD s true=true):(l.setIfInBounds i true).getD s true=true:=by
 by_cases e:i=s
 ·subst e;exact jk l i
 ·rw [QR true e];exact h
theorem wg:∀ (fuel:Nat) (listed:Array Bool) (a:Act) (w:World),listed.getD s true=true->wpAny P md ops Q fuel listed a w->eV P md ops Q S s fuel listed a w
 | 0,_,_,_,_,h=>h
 | fuel+1,listed,_,_,hs,h=>⟨h.1,fun i hi=>R9 (fun a' w' h'=>⟨fun hf=>absurd (hs.symm.trans hf) zac,wg fuel _ a' w' (getD_set_true _ _ _ hs) h'⟩) (h.2 i hi)⟩
theorem jw (hr:Region.ready md ops listed=[s]) (h:wpAny P md ops Q (fuel+1) listed a w):eV P md ops Q S s (fuel+1) listed a w :=
 ⟨h.1,fun i hi=>by
  have e:i=s:=by rw [hr] at hi;simpa using hi
  subst e;exact R9 (fun a' w' h'=>⟨fun _ hne=>absurd rfl hne,wg fuel _ a' w' (jk _ _) h'⟩) (h.2 i hi)⟩
theorem yf {i:Nat} {oi os:Oper} {v:Value} (hi:ops[i]?=some oi) (hsel:∀ (j:Nat) (o:Oper) cs b,ops[j]?=some o->o.op ≠ .select cs b)
  (hQ:∀ c a w,Q (.panic c) (a.put oi.dst v) w->Q (.panic c) a w) (hso:ops[s]?=some os) (hwait:∃ e∈os.after,Region.binds md e=true/\e.on=i) :
  ∀ (fuel:Nat) (listed:Array Bool) (a:Act) (w:World),
   (∀ j oj,ops[j]?=some oj->j≠i->listed.getD j true=false->(∀ e∈oj.after,Region.binds md e=true->e.on≠i)->oi.apart ops oj=true) ->
   i∈Region.ready md ops listed->listed.getD s true=false->YieldsIf P ops S oi v a->S w ->
   eV P md ops Q S s fuel (listed.setIfInBounds i true) (a.put oi.dst v) w->eV P md ops Q S s (fuel+1) listed a w:=by
 intro fuel
 induction fuel with
 | zero =>
  intro listed a w _ hr _ hy hS H;refine ⟨fun h=>zbl,fun j hj => ?_⟩;by_cases hji:j=i
  ·subst hji;exact hy.wpOp hi hS ⟨fun _ _=>hS,H⟩
  ·exact zff
 | succ fuel ih =>
  intro listed a w hfree hr hls hy hS H;refine ⟨fun h=>zbl,fun j hj => ?_⟩;by_cases hji:j=i
  ·subst hji;exact hy.wpOp hi hS ⟨fun _ _=>hS,H⟩
  ·have h1:=H.2 j (RH hj hji);obtain ⟨hjun,oj,hoj,hall⟩:=Sc.1 hj;have pend:∀ (o:Oper),(∀ e∈o.after,Region.binds md e=true->listed.getD e.on false=true)->∀ e∈o.after,Region.binds md e=true->e.on≠i:=fun o hall e he hb heq=>by
    exact zdz
   have hnot:=pend oj hall;have hjs:j≠s:=fun e=>by
    subst e;obtain ⟨x,hx,hb,hon⟩:=hwait;rw [hso] at hoj;cases hoj
    exact hnot x hx hb hon
   have his:i≠s:=fun e=>by
    subst e;obtain ⟨x,hx,hb,hon⟩:=hwait;obtain ⟨_,o',ho',hall'⟩:=Sc.1 hr;rw [hso] at ho';cases ho'
    exact pend os hall' x hx hb hon
   have h2:=wpOp_putIf hoj (hfree j oj hoj hji hjun hnot) (fun cs b=>hsel i oi cs b hi) (fun cs b=>hsel j oj cs b hoj) hQ hy h1;have hfree':∀ k ok,ops[k]?=some ok->k≠i->(listed.setIfInBounds j true).getD k true=false ->
     (∀ e∈ok.after,Region.binds md e=true->e.on≠i)->oi.apart ops ok=true:=fun k ok hk hki hun hno=>by
    refine hfree k ok hk hki ?_ hno;by_cases hjk:j=k
    ·subst hjk;exact hjun
    ·rw [QR true hjk] at hun;exact hun
   refine R9 (fun a' w' h3 => ?_) h2;have hSw:S w':=h3.2.1 (by rw [QR true his];exact hls) hjs;refine ⟨fun _ _=>hSw,ih (listed.setIfInBounds j true) a' w' hfree' (RH hr (Ne.symm hji)) (by rw [QR true hjs];exact hls) h3.1 hSw ?_⟩;exact ze5
theorem dG {os:Oper} {v:Value} (hi:ops[i]?=some oi)
  (hs:Region.noSelect ops=true) (hf:Region.free md ops listed i=true) (hr:(Region.ready md ops listed).contains i=true)
  (hQ:∀ c a w,Q (.panic c) (a.put oi.dst v) w->Q (.panic c) a w) (hso:ops[s]?=some os) (hwait:(os.after.any fun e=>Region.binds md e&&e.on == i)=true) (hls:listed.getD s true=false) (hy:YieldsIf P ops S oi v a) (hS:S w)
  (h:eV P md ops Q S s fuel (listed.setIfInBounds i true) (a.put oi.dst v) w):eV P md ops Q S s (fuel+1) listed a w :=
 yf hi (Region.noSelect_spec hs) hQ hso (by
  rw [Array.any_eq_true] at hwait;obtain ⟨k,hk,hb⟩:=hwait;rw [NC] at hb;exact ⟨_,Array.getElem_mem hk,hb.1,by simpa using hb.2⟩) fuel listed a w (Region.free_spec hi hf) (by simpa using hr) hls hy hS h
theorem um {i:Nat} {oi:Oper} {v:Value} (hi:ops[i]?=some oi) (hsel:∀ (j:Nat) (o:Oper) cs b,ops[j]?=some o->o.op ≠ .select cs b)
  (hQ:∀ c a w,Q (.panic c) (a.put oi.dst v) w->Q (.panic c) a w) (his:i≠s) :
  ∀ (fuel:Nat) (listed:Array Bool) (a:Act) (w:World),
   (∀ j oj,ops[j]?=some oj->j≠i->listed.getD j true=false->(∀ e∈oj.after,Region.binds md e=true->e.on≠i)->oi.apart ops oj=true) ->
   i∈Region.ready md ops listed->YieldsIf P ops (fun _=>True) oi v a->(listed.getD s true=false->S w) ->
   eV P md ops Q S s fuel (listed.setIfInBounds i true) (a.put oi.dst v) w->eV P md ops Q S s (fuel+1) listed a w:=by
 intro fuel
 induction fuel with
 | zero =>
  intro listed a w _ hr hy hS H;refine ⟨fun h=>zbl,fun j hj => ?_⟩;by_cases hji:j=i
  ·exact zeY
  ·exact zff
 | succ fuel ih =>
  intro listed a w hfree hr hy hS H;refine ⟨fun h=>zbl,fun j hj => ?_⟩;by_cases hji:j=i
  ·exact zeY
  ·have h1:=H.2 j (RH hj hji);obtain ⟨hjun,oj,hoj,hall⟩:=Sc.1 hj;have hnot:∀ e∈oj.after,Region.binds md e=true->e.on≠i:=fun e he hb heq=>by
    exact zdz
   have h2:=wpOp_putIf hoj (hfree j oj hoj hji hjun hnot) (fun cs b=>hsel i oi cs b hi) (fun cs b=>hsel j oj cs b hoj) hQ hy h1;have hfree':∀ k ok,ops[k]?=some ok->k≠i->(listed.setIfInBounds j true).getD k true=false ->
     (∀ e∈ok.after,Region.binds md e=true->e.on≠i)->oi.apart ops ok=true:=fun k ok hk hki hun hno=>by
    refine hfree k ok hk hki ?_ hno;by_cases hjk:j=k
    ·subst hjk;exact hjun
    ·rw [QR true hjk] at hun;exact hun
   refine R9 (fun a' w' h3 => ?_) h2;have hSw:listed.getD s true=false->j≠s->S w':=fun hl hjs=>h3.2.1 (by rw [QR true his];exact hl) hjs;refine ⟨hSw,ih (listed.setIfInBounds j true) a' w' hfree' (RH hr (Ne.symm hji)) h3.1 (fun hl => ?_) ?_⟩
   ·by_cases hjs:j=s
    ·subst hjs;rw [jk] at hl;cases hl
    ·exact hSw (by rw [QR true hjs] at hl;exact hl) hjs
   ·exact ze5
theorem ax {v:Value} (hi:ops[i]?=some oi)
  (hs:Region.noSelect ops=true) (hf:Region.free md ops listed i=true) (hr:(Region.ready md ops listed).contains i=true)
  (hQ:∀ c a w,Q (.panic c) (a.put oi.dst v) w->Q (.panic c) a w) (his:i≠s) (hy:YieldsIf P ops (fun _=>True) oi v a) (hS:S w)
  (h:eV P md ops Q S s fuel (listed.setIfInBounds i true) (a.put oi.dst v) w):eV P md ops Q S s (fuel+1) listed a w :=
 um hi (Region.noSelect_spec hs) hQ his fuel listed a w (Region.free_spec hi hf) (by simpa using hr) hy (fun _=>hS) h
def bB (P:Program) (md:Region.Mode) (ops:Array Oper) (Q:Exit->Act->World->Prop) (S:World->Prop) (s:Nat) (fuel:Nat) (listed:Array Bool) (a:Act) (w:World) (rs:List Nat):Prop :=
 ∀ i∈rs,wpOp P ops Q i (fun a' w'=>(listed.getD s true=false->i≠s->S w')/\eV P md ops Q S s fuel (listed.setIfInBounds i true) a' w') a w
theorem bB.nil:bB P md ops Q S s fuel listed a w []:=fun _ h=>zat
theorem bB.cons {o:Oper} (ho:ops[i]?=some o)
  (h:∀ K':Act->World->Prop,Shut (∀ a w,S w->(S w->eV P md ops Q S s fuel (listed.setIfInBounds i true) a w)->K' a w)->if Region.wanted o (yielded ops a.tmps)=true then Oper.wp P o a w K' Q else K' (a.put o.dst undef) w)
  (hs:bB P md ops Q S s fuel listed a w rs):bB P md ops Q S s fuel listed a w (i::rs):=fun j hj=>by
 rcases O5.1 hj with rfl | hj
 ·exact wpOp_step ho (fun K' hK=>h K' (fun a w hS hW=>hK a w ⟨fun _ _=>hS,hW hS⟩))
 ·exact hs j hj
theorem dY (hr:Region.ready md ops listed=rs) (hne:rs≠[])
  (h:bB P md ops Q S s fuel listed a w rs):eV P md ops Q S s (fuel+1) listed a w:=⟨fun h0=>absurd (hr ▸ h0) hne,hr ▸ h⟩
theorem lU (s:Nat) {id:Nat} (hm:P.follows .mixedOrders=true) (hS:S w.drew)
  (h:S w.drew->eV P .any ops Q S s ops.size (Array.replicate ops.size false) a w.drew):(Code.region id ops true).wp P Q a w :=
 OO hm (tE _ _ _ _ (h hS))
end
end
section
open Go.RowKit Go.Proofs
theorem mw:(Tryz.prog.info? 239).map (·.size)=some 5:=zab
theorem KK {base:Nat} (h:w.ownsRow base e size v.v n xs):v.n=n:=by
 rcases h.2 with ⟨h,h0⟩ | ⟨g,cap,cur,h,_⟩
 ·exact zfg
 ·exact zft
theorem Cp:(Tryz.prog.info? 253).map (·.size)=some 1:=zab
theorem rU (x:Ref.State):∀ j,(Ref.dZ x j).length<=x.enter.length+j
 | 0=>MR _
 | j+1=>by
  have:=rU x j;rw [Ref.dZ]
  repeat' split
  all_goals (try rw [Nj])
  all_goals (try simp only [List.length_cons,List.length_nil])
  all_goals omega
theorem pF (x:Ref.State):∀ j,(Ref.cD x j).length<=x.leave.length+j
 | 0=>MR _
 | j+1=>by
  have:=pF x j;rw [Ref.cD]
  repeat' split
  all_goals (try rw [Nj])
  all_goals (try simp only [List.length_cons,List.length_nil])
  all_goals omega
theorem IQ {m:Ref.Move} (h:m.event.size≠0):bg (Ref.uS m) = .iface 257 (.agg #[m.event,.int .u64 m.delay,m.event]):=by
 unfold bg Ref.uS vL;rw [show Ref.mH.toList=Ref.k8 from mu,M4 zac,M4 zac,M4 h]
theorem FD (m:Ref.Move):bg (Ref.sC m) = .iface 259 (.agg #[m.event]):=by
 unfold bg Ref.sC;rw [show Ref.gG.toList=Ref.eK from gP,M4 zac,M6 zac]
theorem sj (B g cap u:Nat) (X:List Pro.DS) (x:Pro.DS) (M:List Pro.PV) (w:World)
  (hs:w.ownsRow B 171 8 (.slice g X.length cap) X.length (X.flatMap Pro.aO)) (hu:u<X.length) (hx:X[u]=x)
  (hM:w.ownsRow 0 239 5 x.vm.v M.length (M.flatMap Pro.bf)) (hE:w.ownsRow 0 250 1 x.ve.v x.s.enter.length (x.s.enter.map bg)) (hL:w.ownsRow 0 250 1 x.vl.v x.s.leave.length (x.s.leave.map bg))
  (hm:M.map (·.m)=x.s.aj) (hMl:M.length<=4096) (hEl:x.s.enter.length<=4096) (hLl:x.s.leave.length<=4096) (hev:∀ y∈M,y.m.after=true->y.m.event.size≠0) :
  () 66 #[.pointer (some ⟨g,u*8,none⟩)] w fun e w'=>e = .returned (.tuple #[])/\∃ ve vl vm,cH w w' B g cap X u x ve vl vm (Ref.dZ x.s M.length) (Ref.cD x.s M.length) (M.map Pro.im):=by
 obtain ⟨s,⟨pa,pn,pc⟩,⟨ea,en,ec⟩,⟨la,ln,lc⟩,⟨ma,mn,mc⟩⟩:=x;obtain ⟨x,hxx⟩:∃ x:Pro.DS,x=⟨s,⟨pa,pn,pc⟩,⟨ea,en,ec⟩,⟨la,ln,lc⟩,⟨ma,mn,mc⟩⟩:=⟨_,rfl⟩;have cells:∀ (W:World),Below w w W->W.cell? ⟨g,u*8+5,none⟩=some (.slice ea en ec)/\W.cell? ⟨g,u*8+6,none⟩=some (.slice la ln lc)/\W.cell? ⟨g,u*8+7,none⟩=some (.slice ma mn mc):=by
  intro W hb;have hs':=bc hs hb;refine ⟨?_,?_,?_⟩ <;> (rw [hs'.cellAt _ zaa,Ref.jI (f:=Pro.aO) (n:=8) (fun _=>rfl) X u _ zac hu,hx];rfl)
 have froz:∀ (W:World) (j:Nat),Below w w W->W.frozen? ⟨g,j,none⟩=false:=fun W j hb=>OC (aD (bc hs hb) (Ni _)) _;have hEl':s.enter.length<=4096:=hEl;have hLl':s.leave.length<=4096:=hLl;have HS:Hid _:=hs;have HX:Hid _:=hx;have HXX:Hid _:=hxx;have HM:Hid _:=hM;have HE:Hid _:=hE;have HL:Hid _:=hL;have HC:Hid _:=cells;have HF:Hid _:=froz;have Hm:Hid _:=hm;have Hev:Hid _:=hev;have hgw:g<w.heap.size:=(ND hs g rfl).2;have hb0:Below w w w.drew:=(MY _ _).drew;have hcw:=cells w.drew hb0;clear hs hx hxx hM hE hL cells froz hm hev;go_enter func66,ntmps66
 go_upto_region 0 with fail
 refine lU (s:=20) (S:=(fun W=>W.cell? ⟨g,u*8+5,none⟩=some (.slice ea en ec)/\W.cell? ⟨g,u*8+6,none⟩=some (.slice la ln lc)/\W.cell? ⟨g,u*8+7,none⟩=some (.slice ma mn mc))) zab hcw (fun u0 => ?_);refine ax (i:=0) (v := .pointer (some ⟨g,u*8,none⟩)) rfl zab zab zab (fun _ _ _ h=>h) zac (Or.inl ⟨zaf,fun w _=>zaj⟩) u0 ?_;refine ax (i:=1) (v := .pointer (some ⟨g,u*8,none⟩)) rfl zab zab zab (fun _ _ _ h=>h) zac (Or.inl ⟨zaf,fun w _=>zaj⟩) u0 ?_;refine ax (i:=2) (v := .pointer (some ⟨g,u*8,none⟩)) rfl zab zab zab (fun _ _ _ h=>h) zac (Or.inl ⟨zaf,fun w _=>zaj⟩) u0 ?_;refine ax (i:=3) (v := .pointer (some ⟨g,u*8,none⟩)) rfl zab zab zab (fun _ _ _ h=>h) zac (Or.inl ⟨zaf,fun w _=>zaj⟩) u0 ?_;refine ax (i:=8) (v := .pointer (some ⟨g,u*8,none⟩)) rfl zab zab zab (fun _ _ _ h=>h) zac (Or.inl ⟨zaf,fun w _=>zaj⟩) u0 ?_;refine ax (i:=13) (v := .pointer (some ⟨g,u*8,none⟩)) rfl zab zab zab (fun _ _ _ h=>h) zac (Or.inl ⟨zaf,fun w _=>zaj⟩) u0 ?_;refine ax (i:=4) (v := .pointer (some ⟨g,u*8,none⟩)) rfl zab zab zab (fun _ _ _ h=>h) zac (Or.inl ⟨zaf,fun w _=>zaj⟩) u0 ?_;refine ax (i:=5) (v := .pointer (some ⟨g,u*8+5,none⟩)) rfl zab zab zab (fun _ _ _ h=>h) zac (Or.inl ⟨zaf,fun w _=>zaj⟩) u0 ?_;refine dG (i:=6) (v := .slice ea en ec) rfl zab zab zab (fun _ _ _ h=>h) rfl zab zab (Or.inl ⟨zaf,fun w hSw=>zai⟩) u0 ?_;refine ax (i:=9) (v := .pointer (some ⟨g,u*8,none⟩)) rfl zab zab zab (fun _ _ _ h=>h) zac (Or.inl ⟨zaf,fun w _=>zaj⟩) u0 ?_;refine ax (i:=10) (v := .pointer (some ⟨g,u*8+6,none⟩)) rfl zab zab zab (fun _ _ _ h=>h) zac (Or.inl ⟨zaf,fun w _=>zaj⟩) u0 ?_;refine dG (i:=11) (v := .slice la ln lc) rfl zab zab zab (fun _ _ _ h=>h) rfl zab zab (Or.inl ⟨zaf,fun w hSw=>zai⟩) u0 ?_;refine ax (i:=14) (v := .pointer (some ⟨g,u*8,none⟩)) rfl zab zab zab (fun _ _ _ h=>h) zac (Or.inl ⟨zaf,fun w _=>zaj⟩) u0 ?_;refine ax (i:=15) (v := .pointer (some ⟨g,u*8+7,none⟩)) rfl zab zab zab (fun _ _ _ h=>h) zac (Or.inl ⟨zaf,fun w _=>zaj⟩) u0 ?_;refine dG (i:=16) (v := .slice ma mn mc) rfl zab zab zab (fun _ _ _ h=>h) rfl zab zab (Or.inl ⟨zaf,fun w hSw=>zai⟩) u0 ?_;refine dY (rs:=[7]) zab zad ?_;refine bB.cons rfl (fun K hK => ?_) bB.nil;go_simp;refine M7 (rA ea en ec s.enter _ (bc HE.out hb0) zaa) ?_;rintro e w1 ⟨se,rfl,hE1,hb1⟩;have hb1':Below w w w1:=hb0.trans hb1;dsimp only;refine hK.out _ _ (HC.out _ hb1') (fun u0 => ?_);clear hK K;refine dY (rs:=[12]) zab zad ?_;refine bB.cons rfl (fun K hK => ?_) bB.nil;go_simp;refine M7 (rA la ln lc s.leave _ (bc HL.out hb1') zaa) ?_;rintro e w2 ⟨sl,rfl,hL2,hb2⟩;have hb2':Below w w w2:=hb1'.trans (hb2.mono hb1'.size);dsimp only;refine hK.out _ _ (HC.out _ hb2') (fun u0 => ?_);clear hK K;refine dY (rs:=[17]) zab zad ?_;refine bB.cons rfl (fun K hK => ?_) bB.nil;go_simp;refine M7 (Bb ma mn mc M _ (bc HM.out hb2') zaa) ?_;rintro e w3 ⟨⟨sma,smn,smc⟩,rfl,hM3,hb3⟩;have hb3':Below w w w3:=hb2'.trans (hb3.mono hb2'.size);dsimp only;refine hK.out _ _ (HC.out _ hb3') (fun u0 => ?_);clear hK K;refine ax (i:=18) (v := .pointer (some ⟨g,u*8,none⟩)) rfl zab zab zab (fun _ _ _ h=>h) zac (Or.inl ⟨zaf,fun w _=>zaj⟩) u0 ?_;refine ax (i:=19) (v := .pointer (some ⟨g,u*8+5,none⟩)) rfl zab zab zab (fun _ _ _ h=>h) zac (Or.inl ⟨zaf,fun w _=>zaj⟩) u0 ?_;refine jw zab ?_;have hap:apart se sl:=by
  unfold apart;cases e1:se.v.ownBlock with
  | none=>exact .inl rfl
  | some k =>
   refine .inr (fun e2 => ?_);have h1:=(ND hE1 k e1).2;have h2:=(ND hL2 k e2.symm).1;omega
 have sz1:=hb1'.size;have sz2:=hb2'.size;have hnM:smn=M.length:=KK (v:=⟨sma,smn,smc⟩) hM3;subst hnM;have G0:cH w (((w3.setCell ⟨g,u*8+5,none⟩ (.slice se.a se.n se.c)).setCell ⟨g,u*8+6,none⟩ (.slice sl.a sl.n sl.c)).setCell ⟨g,u*8+7,none⟩ (.slice sma M.length smc)) B g cap X u x se sl ⟨sma,M.length,smc⟩ s.enter s.leave M:=by
  rw [HXX.out];exact cH.begin HS.out hu HX.out hb3' (bc (bc (aD hE1 (MR _)) hb2) hb3) (bc (aD hL2 sz1) hb3) (aD hM3 sz2) hap
 obtain ⟨c5,c6,c7⟩:=HC.out _ hb3';have f5:=HF.out w3 (u*8+5) hb3';have f6:=HF.out w3 (u*8+6) hb3';have f7:=HF.out w3 (u*8+7) hb3';have HG:Hid _:=G0;clear G0 hap hE1 hL2 hM3 hb1 hb2 hb3 u0 hcw sz1 sz2;refine zA 20 rfl fun K hK => ?_;go_simp;refine hK _ _ ?_;clear hK K;refine RX (i:=21) (v := .pointer (some ⟨g,u*8,none⟩)) rfl zab zab zab (fun _ _ _ h=>h) (Or.inl ⟨zaf,fun w=>zaj⟩) ?_;refine RX (i:=22) (v := .pointer (some ⟨g,u*8+6,none⟩)) rfl zab zab zab (fun _ _ _ h=>h) (Or.inl ⟨zaf,fun w=>zaj⟩) ?_;refine zA 23 rfl fun K hK => ?_;go_simp;refine hK _ _ ?_;clear hK K;refine RX (i:=24) (v := .pointer (some ⟨g,u*8,none⟩)) rfl zab zab zab (fun _ _ _ h=>h) (Or.inl ⟨zaf,fun w=>zaj⟩) ?_;refine RX (i:=25) (v := .pointer (some ⟨g,u*8+7,none⟩)) rfl zab zab zab (fun _ _ _ h=>h) (Or.inl ⟨zaf,fun w=>zaj⟩) ?_;refine zA 26 rfl fun K hK => ?_;go_simp;refine hK _ _ ?_;clear hK K;refine Oq zab ?_ _;have G0:=HG.out;clear HG c5 c6 c7 f5 f6 f7 hb3' hb2' hb1' HC HF;generalize ((w3.setCell ⟨g,u*8+5,none⟩ (.slice se.a se.n se.c)).setCell ⟨g,u*8+6,none⟩ (.slice sl.a sl.n sl.c)).setCell ⟨g,u*8+7,none⟩ (.slice sma M.length smc)=W0 at G0 ⊢;have c7:W0.cell? ⟨g,u*8+7,none⟩=some (.slice sma M.length smc):=(G0.cell hu 7 zac).trans rfl;have HG0:Hid _:=G0;clear G0;go_wp2
 go_loopg [34] M.length (fun q i wr=>∃ (j:Nat) (ve vl:Ref.Sl),q=M.length-j/\j<=M.length/\i = .int .i64 j/\cH w wr B g cap X u x ve vl ⟨sma,M.length,smc⟩ (Ref.dZ s j) (Ref.cD s j) (Pro.ba M j))
 case atStart=>exact ⟨0,se,sl,rfl,Ni _,rfl,HG0.out⟩
 case round =>
  clear c7;obtain ⟨j,ve,vl,hq,hj,rfl,G⟩:=hrel;by_cases hjn:j<M.length
  ·have hQl:=Pro.lC M j hj;obtain ⟨mb,cm,hvm⟩:=Ref.eZ G.aj zaa;simp only [Ref.Sl.v,Value.slice.injEq] at hvm;obtain ⟨rfl,-,rfl⟩:=hvm;have hmo:wr.ownsRow 0 239 5 (.slice mb (Pro.ba M j).length smc) (Pro.ba M j).length ((Pro.ba M j).flatMap Pro.bf):=by
    have:=aD G.aj (Ni _);unfold Ref.Sl.v at this;rw [<- hQl] at this;exact this
   have hrng:=Row.range (f:=Pro.bf) (n:=5) (fun _=>rfl) hmo (by rw [hQl];exact hjn);rw [Pro.lB M j hjn] at hrng;have hcm:M.length<=smc:=by
    rcases hmo.2 with ⟨h,_⟩ | ⟨g',cap',cur,h,_,_,hle,_⟩
    ·cases h
    ·simp at h;rw [h.2];rw [hQl] at hle;exact hle
   have hmlt:mb<wr.heap.size:=(ND hmo mb rfl).2;obtain ⟨y,hy⟩:∃ y,y=M[j]:=⟨_,rfl⟩;have hym:y∈M:=by rw [hy];exact NS hjn
   have HMJ:Hid (s.aj[j]?=some y.m):=by
    unfold Hid;rw [show s.aj=M.map (·.m) from Hm.out.symm,Nf,MU hjn,<- hy];rfl
   rw [<- hy] at hrng;unfold Pro.bf at hrng;have HY:Hid _:=hy;have HQL:Hid _:=hQl;clear hQl;have HG:Hid _:=G;have hgl:=G.glt.2;clear hmo hy G;cases ha:y.m.after with
   | false =>
    have HA:Hid _:=ha;go_wp2_with (first
     | (refine Om rfl 239 (.tmp 37) rfl mb (j*5) rfl _ _ hrng underlying239 rfl mw ?_)
     | (refine aI rfl 239 (.tmp 3) (.tmp 38) rfl 239 _ _ rfl rfl mw rfl rfl ?_)
     | fail)
    have hbk:Below wr wr (wr.alloc (.cells #[y.m.event,false,.int .u64 y.m.delay,y.m.to,.slice y.v.a y.v.n y.v.c] 239)):=(MY _ _).alloc (MR _) _;have HG1:Hid (cH w (wr.alloc (.cells #[y.m.event,false,.int .u64 y.m.delay,y.m.to,.slice y.v.a y.v.n y.v.c] 239)) B g cap X u x ve vl ⟨some ⟨mb,0,none⟩,M.length,smc⟩ (Ref.dZ s (j+1)) (Ref.cD s (j+1)) (Pro.ba M (j+1))):=by
     unfold Hid;have e1:Ref.dZ s (j+1)=Ref.dZ s j:=by rw [Ref.dZ,HMJ.out];simp [HA.out]
     have e2:Ref.cD s (j+1)=Ref.cD s j:=by rw [Ref.cD,HMJ.out];simp [HA.out]
     rw [e1,e2,Pro.xu M j hjn (by rw [<- HY.out];exact HA.out)];exact HG.out.ao hbk
    go_roundg (M.length-(j+1))
    case measure=>omega
    case rel=>exact ⟨j+1,ve,vl,rfl,zaa,zah,HG1.out⟩
   | true =>
    have HA:Hid _:=ha;go_wp2_with (first
     | (refine Om rfl 239 (.tmp 37) rfl mb (j*5) rfl _ _ hrng underlying239 rfl mw ?_)
     | (refine aI rfl 239 (.tmp 3) (.tmp 38) rfl 239 _ _ rfl rfl mw rfl rfl ?_)
     | (refine aI rfl 253 (.tmp 4) (.tmp 44) rfl 253 _ _ rfl rfl Cp rfl rfl ?_)
     | fail)
    obtain ⟨i0,hi,hz0,hz1,hz2⟩:=OB nh;have hev0:y.m.event.size≠0:=Hev.out y hym ha;have HV1:Hid _:=IQ hev0;have HV2:Hid _:=FD y.m;have hil:=rU s j;have hol:=pF s j;clear hev0 hrng;obtain ⟨W2,hW2⟩:∃ z,z=(wr.alloc (.cells #[y.m.event,true,.int .u64 y.m.delay,y.m.to,.slice y.v.a y.v.n y.v.c] 239)).alloc (.cells #[y.m.event] 253):=⟨_,rfl⟩;have hm2:W2.heap[wr.heap.size]?=some (.cells #[y.m.event,true,.int .u64 y.m.delay,y.m.to,.slice y.v.a y.v.n y.v.c] 239 (0,0)):=by rw [hW2];exact eN _ _ _
    have ht2:W2.heap[wr.heap.size+1]?=some (.cells #[y.m.event] 253 (0,0)):=by rw [hW2];exact bR _ _ _
    have hb2:Below wr wr W2:=by rw [hW2];exact ((MY _ _).alloc (MR _) _).alloc zad _
    have hsz2:wr.heap.size+2<=W2.heap.size:=by rw [hW2];simp
    have hsz2b:W2.heap.size<=wr.heap.size+2:=by rw [hW2];simp
    have HCS:Hid (∀ W,Below W2 W2 W->W.cell? ⟨g,u*8+5,none⟩=some (.slice ve.a ve.n ve.c)/\W.cell? ⟨wr.heap.size+1,0,none⟩=some ↑y.m.event/\W.cell? wr=some ↑y.m.event/\W.cell? ⟨wr,2,none⟩=some (.int .u64 y.m.delay)):=by
     intro W hb;have h1:=(hb.block _ zaa).trans hm2;have h2:=(hb.block _ zaa).trans ht2;refine ⟨(((HG.out.ao hb2).ao hb).cell hu 5 zac).trans rfl,?_,?_,?_⟩
     ·rw [M0 W _ _ _ _ _ h2];rfl
     ·rw [M0 W _ _ _ _ _ h1];rfl
     ·rw [M0 W _ _ _ _ _ h1];rfl
    change Code.wp _ _ _ _ ((wr.alloc (.cells #[y.m.event,true,.int .u64 y.m.delay,y.m.to,.slice y.v.a y.v.n y.v.c] 239)).alloc (.cells #[y.m.event] 253));rw [<- hW2];clear hW2 ha;refine lU (s:=17) (S:=(fun W=>W.cell? ⟨g,u*8+5,none⟩=some (.slice ve.a ve.n ve.c)/\W.cell? ⟨wr.heap.size+1,0,none⟩=some ↑y.m.event/\W.cell? wr=some ↑y.m.event/\W.cell? ⟨wr,2,none⟩=some (.int .u64 y.m.delay))) zab (HCS.out _ (MY _ _).drew) (fun u0 => ?_);refine ax (i:=0) (v := .pointer (some ⟨g,u*8,none⟩)) rfl zab zab zab (fun _ _ _ h=>h) zac (Or.inl ⟨zaf,fun w _=>zaj⟩) u0 ?_;refine ax (i:=1) (v := .pointer (some ⟨g,u*8,none⟩)) rfl zab zab zab (fun _ _ _ h=>h) zac (Or.inl ⟨zaf,fun w _=>zaj⟩) u0 ?_;refine ax (i:=2) (v := .pointer (some ⟨g,u*8,none⟩)) rfl zab zab zab (fun _ _ _ h=>h) zac (Or.inl ⟨zaf,fun w _=>zaj⟩) u0 ?_;refine ax (i:=3) (v := .pointer (some ⟨g,u*8+5,none⟩)) rfl zab zab zab (fun _ _ _ h=>h) zac (Or.inl ⟨zaf,fun w _=>zaj⟩) u0 ?_;refine dG (i:=4) (v := .slice ve.a ve.n ve.c) rfl zab zab zab (fun _ _ _ h=>h) rfl zab zab (Or.inl ⟨zaf,fun w hSw=>zai⟩) u0 ?_;refine dG (i:=5) (v := .agg #[y.m.event]) rfl zab zab zab (fun _ _ _ h=>h) rfl zab zab (Or.inl ⟨zaf,fun w hSw=>zai⟩) u0 ?_;refine ax (i:=6) (v := .pointer (some ⟨wr,2,none⟩)) rfl zab zab zab (fun _ _ _ h=>h) zac (Or.inl ⟨zaf,fun w _=>zaj⟩) u0 ?_;refine dG (i:=7) (v := .int .u64 y.m.delay) rfl zab zab zab (fun _ _ _ h=>h) rfl zab zab (Or.inl ⟨zaf,fun w hSw=>zai⟩) u0 ?_;refine ax (i:=8) (v := .agg #[y.m.event,.int .u64 y.m.delay]) rfl zab zab zab (fun _ _ _ h=>h) zac (Or.inl ⟨zaf,fun w _=>zaj⟩) u0 ?_;refine ax (i:=9) (v := .pointer (some ⟨wr,0,none⟩)) rfl zab zab zab (fun _ _ _ h=>h) zac (Or.inl ⟨zaf,fun w _=>zaj⟩) u0 ?_;refine dG (i:=10) (v := .string y.m.event) rfl zab zab zab (fun _ _ _ h=>h) rfl zab zab (Or.inl ⟨zaf,fun w hSw=>zai⟩) u0 ?_;refine ax (i:=11) (v := .agg #[y.m.event,.int .u64 y.m.delay,y.m.event]) rfl zab zab zab (fun _ _ _ h=>h) zac (Or.inl ⟨zaf,fun w _=>zaj⟩) u0 ?_;refine ax (i:=12) (v := .iface 257 (.agg #[y.m.event,.int .u64 y.m.delay,y.m.event])) rfl zab zab zab (fun _ _ _ h=>h) zac (Or.inl ⟨zaf,fun w _=>zaj⟩) u0 ?_;refine dY (rs:=[13]) zab zad ?_;refine bB.cons rfl (fun K hK => ?_) bB.nil;go_simp;have hbc:Below W2 W2 ((W2.alloc (.cells #[.iface 257 (.agg #[y.m.event,.int .u64 y.m.delay,y.m.event])] 250)).drew):=((MY _ _).alloc (MR _) _).drew;refine hK.out _ _ (HCS.out _ hbc) (fun u0 => ?_);clear hK K;refine dY (rs:=[14]) zab zad ?_;refine bB.cons rfl (fun K hK => ?_) bB.nil;refine step_append_lies _ zaf _ _ _ zaf w.heap.size 250 i0 _ 1 16 underlying159 hi hz0 hz1 hz2 rfl zac (.slice ve.a ve.n ve.c) (Ref.dZ s j).length ((Ref.dZ s j).map bg) zaf ((O7 (HG.out.ao hb2).enter _).drew) ⟨W2,0,none⟩ 1 1 [.iface 257 (.agg #[y.m.event,.int .u64 y.m.delay,y.m.event])] zaf zaf (World.news_of_block (cs:=#[.iface 257 (.agg #[y.m.event,.int .u64 y.m.delay,y.m.event])]) (t:=250) (fr:=(0,0)) (Na W2 _)) zao zaa zag zaa (by have:=(HG.out.ao hb2).ai.size;simp;omega) (W2.heap.size+1) zad ?_;intro g5 cap5 w5 hown5 hgrow hat hlt5;have hgr:ak g w w5:=kH HG.out.ai (hb2.trans (hbc.mono hb2.size)) hgrow (fun k h=>(ND HG.out.enter k h).1);have hne:=(HG.out.Le).1;have hfar:∀ k,k=wr.heap.size\/k=wr.heap.size+1->some k≠ve.v.ownBlock:=fun k hk e=>by
     have:=(ND HG.out.enter k e.symm).2;omega
    have hS5:w5.cell? ⟨g,u*8+5,none⟩=some (.slice ve.a ve.n ve.c)/\w5.cell? ⟨wr.heap.size+1,0,none⟩=some ↑y.m.event/\w5.cell? wr=some ↑y.m.event/\w5.cell? ⟨wr,2,none⟩=some (.int .u64 y.m.delay) :=
     ⟨(hgrow.cell_far _ zae hne).trans u0.1,(hgrow.cell_far _ zae (hfar _ (.inr rfl))).trans u0.2.1,(hgrow.cell_far _ zae (hfar _ (.inl rfl))).trans u0.2.2.1,(hgrow.cell_far _ zae (hfar _ (.inl rfl))).trans u0.2.2.2⟩
    have ht5:w5.heap[wr.heap.size+1]?=some (.cells #[y.m.event] 253 (0,0)):=(hgrow.block _ zae (hfar _ (.inr rfl))).trans ((hbc.block _ zaa).trans ht2);have HG3:Hid (cH w (w5.setCell ⟨g,u*8+5,none⟩ (.slice g5 ((Ref.dZ s j).length+1) cap5)) B g cap X u x ⟨some ⟨g5,0,none⟩,(Ref.dZ s j).length+1,cap5⟩ vl ⟨some ⟨mb,0,none⟩,M.length,smc⟩ (Ref.dZ s j++[Ref.uS y.m]) (Ref.cD s j) (Pro.ba M j)):=by
     unfold Hid;refine HG.out.FE (ve':=⟨some ⟨g5,0,none⟩,(Ref.dZ s j).length+1,cap5⟩) hu (hb2.trans (hbc.mono hb2.size)) hgrow (by rw [HV1.out];exact hown5) ?_;exact zeS
    have f5:w5.frozen? ⟨g,u*8+5,none⟩=false:=(hgrow.frozen_far _ zae hne).trans ((((MY W2 W2).alloc (MR _) _).drew.frozen (p:=⟨g,u*8+5,none⟩) zae).trans ((HG.out.ao hb2).frozen _));have hsz5:=hgrow.size;clear hown5 hgrow hat hgr;refine hK.out _ _ hS5 (fun u0 => ?_);clear hK K;obtain ⟨c5,-,-,-⟩:=hS5;refine ax (i:=15) (v := .pointer (some ⟨g,u*8,none⟩)) rfl zab zab zab (fun _ _ _ h=>h) zac (Or.inl ⟨zaf,fun w _=>zaj⟩) u0 ?_;refine ax (i:=16) (v := .pointer (some ⟨g,u*8+5,none⟩)) rfl zab zab zab (fun _ _ _ h=>h) zac (Or.inl ⟨zaf,fun w _=>zaj⟩) u0 ?_;refine jw zab ?_;refine zA 17 rfl fun K hK => ?_;go_simp;refine hK _ _ ?_;clear hK K;refine Oq zab ?_ _;clear c5 f5 u0 HCS hbc;have hb5w:wr.heap.size+2<w5.heap.size:=by simp at hsz5;omega
    have ht3:(w5.setCell ⟨g,u*8+5,none⟩ (.slice g5 ((Ref.dZ s j).length+1) cap5)).heap[wr.heap.size+1]?=some (.cells #[y.m.event] 253 (0,0)):=by
     rw [(aa w5 g _ _).block _ zaa];exact ht5
    have hsz3:w5.heap.size<=(w5.setCell ⟨g,u*8+5,none⟩ (.slice g5 ((Ref.dZ s j).length+1) cap5)).heap.size:=by rw [(aa w5 g _ _).size];exact MR _
    have G3:=HG3.out;clear HG3;generalize w5.setCell ⟨g,u*8+5,none⟩ (.slice g5 ((Ref.dZ s j).length+1) cap5)=W3 at G3 ht3 hsz3 ⊢;have HG3:Hid _:=G3;clear G3;have HCT:Hid (∀ W,Below W3 W3 W->W.cell? ⟨g,u*8+6,none⟩=some (.slice vl.a vl.n vl.c)/\W.cell? ⟨wr.heap.size+1,0,none⟩=some ↑y.m.event):=by
     intro W hb;have h2:=(hb.block _ zaa).trans ht3;refine ⟨((HG3.out.ao hb).cell hu 6 zac).trans rfl,?_⟩;rw [M0 W _ _ _ _ _ h2];rfl
    go_upto_region 7 with fail
    refine lU (s:=12) (S:=(fun W=>W.cell? ⟨g,u*8+6,none⟩=some (.slice vl.a vl.n vl.c)/\W.cell? ⟨wr.heap.size+1,0,none⟩=some ↑y.m.event)) zab (HCT.out _ (MY _ _).drew) (fun u0 => ?_);refine ax (i:=0) (v := .pointer (some ⟨g,u*8,none⟩)) rfl zab zab zab (fun _ _ _ h=>h) zac (Or.inl ⟨zaf,fun w _=>zaj⟩) u0 ?_;refine ax (i:=1) (v := .pointer (some ⟨g,u*8,none⟩)) rfl zab zab zab (fun _ _ _ h=>h) zac (Or.inl ⟨zaf,fun w _=>zaj⟩) u0 ?_;refine ax (i:=2) (v := .pointer (some ⟨g,u*8,none⟩)) rfl zab zab zab (fun _ _ _ h=>h) zac (Or.inl ⟨zaf,fun w _=>zaj⟩) u0 ?_;refine ax (i:=3) (v := .pointer (some ⟨g,u*8+6,none⟩)) rfl zab zab zab (fun _ _ _ h=>h) zac (Or.inl ⟨zaf,fun w _=>zaj⟩) u0 ?_;refine dG (i:=4) (v := .slice vl.a vl.n vl.c) rfl zab zab zab (fun _ _ _ h=>h) rfl zab zab (Or.inl ⟨zaf,fun w hSw=>zai⟩) u0 ?_;refine dG (i:=5) (v := .agg #[y.m.event]) rfl zab zab zab (fun _ _ _ h=>h) rfl zab zab (Or.inl ⟨zaf,fun w hSw=>zai⟩) u0 ?_;refine ax (i:=6) (v := .agg #[y.m.event]) rfl zab zab zab (fun _ _ _ h=>h) zac (Or.inl ⟨zaf,fun w _=>zaj⟩) u0 ?_;refine ax (i:=7) (v := .iface 259 (.agg #[y.m.event])) rfl zab zab zab (fun _ _ _ h=>h) zac (Or.inl ⟨zaf,fun w _=>zaj⟩) u0 ?_;refine dY (rs:=[8]) zab zad ?_;refine bB.cons rfl (fun K hK => ?_) bB.nil;go_simp;have hbd:Below W3 W3 ((W3.alloc (.cells #[.iface 259 (.agg #[y.m.event])] 250)).drew):=((MY _ _).alloc (MR _) _).drew;refine hK.out _ _ (HCT.out _ hbd) (fun u0 => ?_);clear hK K;refine dY (rs:=[9]) zab zad ?_;refine bB.cons rfl (fun K hK => ?_) bB.nil;refine step_append_lies _ zaf _ _ _ zaf w.heap.size 250 i0 _ 1 16 underlying159 hi hz0 hz1 hz2 rfl zac (.slice vl.a vl.n vl.c) (Ref.cD s j).length ((Ref.cD s j).map bg) zaf ((O7 HG3.out.leave _).drew) ⟨W3,0,none⟩ 1 1 [.iface 259 (.agg #[y.m.event])] zaf zaf (World.news_of_block (cs:=#[.iface 259 (.agg #[y.m.event])]) (t:=250) (fr:=(0,0)) (Na W3 _)) zao zaa zag zaa (by have:=HG3.out.ai.size;simp;omega) (W3.heap.size+1) zad ?_;intro g6 cap6 w6 hown6 hgrow6 hat6 hlt6;have hne6:=(HG3.out.Le).2.1;have hgl3:=HG3.out.glt.2;have hfar6:some (wr.heap.size+1)≠vl.v.ownBlock:=fun e=>by
     have:=(ND HG.out.leave _ e.symm).2;omega
    have hS6:w6.cell? ⟨g,u*8+6,none⟩=some (.slice vl.a vl.n vl.c)/\w6.cell? ⟨wr.heap.size+1,0,none⟩=some ↑y.m.event :=
     ⟨(hgrow6.cell_far _ zae hne6).trans u0.1,(hgrow6.cell_far _ zae hfar6).trans u0.2⟩
    have HG4:Hid (cH w (w6.setCell ⟨g,u*8+6,none⟩ (.slice g6 ((Ref.cD s j).length+1) cap6)) B g cap X u x ⟨some ⟨g5,0,none⟩,(Ref.dZ s j).length+1,cap5⟩ ⟨some ⟨g6,0,none⟩,(Ref.cD s j).length+1,cap6⟩ ⟨some ⟨mb,0,none⟩,M.length,smc⟩ (Ref.dZ s j++[Ref.uS y.m]) (Ref.cD s j++[Ref.sC y.m]) (Pro.ba M j)):=by
     unfold Hid;refine HG3.out.FF (vl':=⟨some ⟨g6,0,none⟩,(Ref.cD s j).length+1,cap6⟩) hu hbd hgrow6 (by rw [HV2.out];exact hown6) ?_
     rcases hat6 with h | h
     ·exact .inl h.symm
     ·exact .inr zax
    have f6:w6.frozen? ⟨g,u*8+6,none⟩=false:=(hgrow6.frozen_far _ zae hne6).trans ((hbd.frozen (p:=⟨g,u*8+6,none⟩) zae).trans (HG3.out.frozen _));clear hown6 hgrow6 hat6;refine hK.out _ _ hS6 (fun u0 => ?_);clear hK K;obtain ⟨c6,-⟩:=hS6;refine ax (i:=10) (v := .pointer (some ⟨g,u*8,none⟩)) rfl zab zab zab (fun _ _ _ h=>h) zac (Or.inl ⟨zaf,fun w _=>zaj⟩) u0 ?_;refine ax (i:=11) (v := .pointer (some ⟨g,u*8+6,none⟩)) rfl zab zab zab (fun _ _ _ h=>h) zac (Or.inl ⟨zaf,fun w _=>zaj⟩) u0 ?_;refine jw zab ?_;refine zA 12 rfl fun K hK => ?_;go_simp;refine hK _ _ ?_;clear hK K;refine Oq zab ?_ _;clear c6 f6 u0 HCT hbd;have G4:=HG4.out;clear HG4;generalize w6.setCell ⟨g,u*8+6,none⟩ (.slice g6 ((Ref.cD s j).length+1) cap6)=W4 at G4 ⊢;have c7:W4.drew.cell? ⟨g,u*8+7,none⟩=some (.slice mb M.length smc):=(G4.cell hu 7 zac).trans rfl;have hgm:g≠mb:=fun e=>by have:=G4.Le.2.2;rw [e] at this;exact this rfl
    have hmo4:W4.ownsRow w 239 5 (.slice mb (Pro.ba M j).length smc) (Pro.ba M j).length ((Pro.ba M j).flatMap Pro.bf):=by
     have:=G4.aj;unfold Ref.Sl.v at this;rw [show M.length=(Pro.ba M j).length from HQL.out.symm] at this;exact this
    have hjq:j<(Pro.ba M j).length:=by rw [HQL.out];exact hjn
    obtain ⟨v1,m1⟩:∃ v1,W4.cell? ⟨mb,j*5+1,none⟩=some (.bool v1):=by
     refine ⟨(Pro.ba M j)[j].m.after,?_⟩;rw [hmo4.cellAt _ zaa,Ref.jI (f:=Pro.bf) (n:=5) (fun _=>rfl) _ j 1 zac hjq];rfl
    obtain ⟨v2,m2⟩:∃ v2,W4.cell? ⟨mb,j*5+2,none⟩=some (.int .u64 v2):=by
     refine ⟨(Pro.ba M j)[j].m.delay,?_⟩;rw [hmo4.cellAt _ zaa,Ref.jI (f:=Pro.bf) (n:=5) (fun _=>rfl) _ j 2 zac hjq];rfl
    have fm1:W4.frozen? ⟨mb,j*5+1,none⟩=false:=OC (aD hmo4 (Ni _)) _;have fm2:W4.frozen? ⟨mb,j*5+2,none⟩=false:=OC (aD hmo4 (Ni _)) _;have HG5:Hid (cH w ((W4.setCell ⟨mb,j*5+1,none⟩ (.bool false)).setCell ⟨mb,j*5+2,none⟩ (.int .u64 0)).drew B g cap X u x ⟨some ⟨g5,0,none⟩,(Ref.dZ s j).length+1,cap5⟩ ⟨some ⟨g6,0,none⟩,(Ref.cD s j).length+1,cap6⟩ ⟨some ⟨mb,0,none⟩,M.length,smc⟩ (Ref.dZ s (j+1)) (Ref.cD s (j+1)) (Pro.ba M (j+1))):=by
     unfold Hid;have hQ:=HQL.out;have hset:=cH.Kk (Q:=Pro.ba M j) (mb:=mb) (cm:=smc) (j:=j) (by rw [hQ];exact G4) hjq;rw [hQ] at hset;have e1:Ref.dZ s (j+1)=Ref.dZ s j++[Ref.uS y.m]:=by rw [Ref.dZ,HMJ.out];simp [HA.out]
     have e2:Ref.cD s (j+1)=Ref.cD s j++[Ref.sC y.m]:=by rw [Ref.cD,HMJ.out];simp [HA.out]
     have e3:Pro.ba M (j+1)=(Pro.ba M j).set j { (Pro.ba M j)[j] with m:={ (Pro.ba M j)[j].m with after:=false,delay:=0 } }:=by
      rw [Pro.od M j hjn,Pro.lB M j hjn hjq,<- HY.out]
      congr 1
      unfold Pro.im Pro.dM;rw [M6 HA.out]
     rw [e1,e2,e3];exact hset.ao (MY _ _).drew
    clear hmo4 hjq G4 HG3 HG
    go_upto_region 8 with fail
    refine No (S:=(fun W=>W.cell? ⟨g,u*8+7,none⟩=some (.slice mb M.length smc))) zab c7 (fun u0 => ?_);refine tH 0 (.pointer (some ⟨g,u*8,none⟩)) rfl u0 ?_;refine tH 1 (.pointer (some ⟨g,u*8,none⟩)) rfl u0 ?_;refine tH 2 (.pointer (some ⟨g,u*8+7,none⟩)) rfl u0 ?_;refine tH 3 (.slice mb M.length smc) rfl u0 ?_;refine tH 4 (.int .i64 j) rfl u0 ?_;refine tH 5 (.pointer (some ⟨g,u*8,none⟩)) rfl u0 ?_;refine tH 6 (.pointer (some ⟨g,u*8,none⟩)) rfl u0 ?_;refine tH 7 (.pointer (some ⟨g,u*8+7,none⟩)) rfl u0 ?_;refine tH 8 (.slice mb M.length smc) rfl u0 ?_;refine tH 9 (.int .i64 j) rfl u0 ?_;refine tH 10 (.pointer (some ⟨mb,j*5,none⟩)) rfl u0 ?_;refine tH 11 (.pointer (some ⟨mb,j*5+1,none⟩)) rfl u0 ?_;refine zH 12 rfl fun K hK => ?_;go_simp;refine hK.out _ _ (((aa W4 mb (j*5+1) (.bool false)).cell (p:=⟨g,u*8+7,none⟩) hgm).trans c7) (fun u0 => ?_);clear hK K;refine tH 13 (.pointer (some ⟨mb,j*5,none⟩)) rfl u0 ?_;refine tH 14 (.pointer (some ⟨mb,j*5+2,none⟩)) rfl u0 ?_;refine zH 15 rfl fun K hK => ?_;go_simp;refine hK.out _ _ (((aa (W4.setCell ⟨mb,j*5+1,none⟩ (.bool false)) mb (j*5+2) (.int .u64 0)).cell (p:=⟨g,u*8+7,none⟩) hgm).trans (((aa W4 mb (j*5+1) (.bool false)).cell (p:=⟨g,u*8+7,none⟩) hgm).trans c7)) (fun u0 => ?_);clear hK K;refine Nt zab ?_ _;go_wp2
    go_roundg (M.length-(j+1))
    case measure=>omega
    case rel=>exact ⟨j+1,_,_,rfl,zaa,zah,HG5.out⟩
  ·have hje:j=M.length:=zaa;subst hje;go_wp2;go_end0;refine ⟨rfl,ve,vl,⟨sma,M.length,smc⟩,?_⟩;rw [Pro.zM] at G;rw [HXX.out] at G;exact G
theorem xY {c:Array Value} {fz:Nat×Nat} (h:ak g w w') (hg:w.heap[g]?=some (.cells c e fz)):Touch e w w' :=
 ⟨h.size,fun k hk hn=>h.block k hk (fun e0=>by subst e0;exact hn _ _ hg)⟩
theorem fU.fh (h:fU w x M) (T:Touch 171 w w'):fU w' x M :=
 ⟨h.dep0,h.dep,h.name,h.mv,h.mlen,ag h.aj T zac,fun y hy=>ag (h.aw y hy) T zac,h.actsG,ag h.enter T zac,h.enterG,ag h.leave T zac,h.leaveG⟩
theorem fU.ao (h:fU w x M) (hb:Below w w w'):fU w' x M:=h.fh (cG hb)
theorem tQ {α:Type} {f:α->List Value} {a b:α} (h:f a=f b) (l:List α) (k:Nat):(l.set k a).flatMap f=(l.set k b).flatMap f:=by
 rw [List.flatMap_def,List.flatMap_def,O0,O0,h]
theorem Ez {u:Nat} (G:cH w w' B g cap Z u x ve vl vm (Ref.dZ x.s M.length) (Ref.cD x.s M.length) (M.map Pro.im)) (hok:Pro.pR x.s) (hm:M.map (·.m)=x.s.aj) (ha:∀ y∈M,w'.ownsRow 0 250 1 y.v.v y.m.aw.length (y.m.aw.map bg)) :
  fU w' { s:=Pro.sh x.s,vp:=x.vp,ve:=ve,vl:=vl,vm:=vm } (M.map Pro.im):=by
 have hml:x.s.aj.length=M.length:=by rw [<- hm,Ng]
 have hmem:∀ y∈M,y.m∈x.s.aj:=fun y hy=>by rw [<- hm];exact O8 hy
 have hIn:=Pro.C8 hok M.length;have hOut:=Pro.zR hok M.length;have l1:=rU x.s M.length;have l2:=pF x.s M.length;have l3:=hok.mlen;have l4:=hok.elen;have l5:=hok.llen;refine ⟨hok.dep0,hok.dep,hok.name,?_,zaT,?_,?_,?_,?_,?_,?_,?_⟩
 ·show (M.map Pro.im).map (·.m)=x.s.aj.map Pro.dM;rw [<- hm,PD,PD];rfl
 ·exact aD G.aj (Ni _)
 ·intro y hy;obtain ⟨z,hz,rfl⟩:=NI.1 hy;have:=ha z hz;rw [show (Pro.im z).m.aw=z.m.aw from Pro.n5 z.m];exact this
 ·intro y hy;obtain ⟨z,hz,rfl⟩:=NI.1 hy;obtain ⟨h1,h2⟩:=hok.aj z.m (hmem z hz);refine ⟨Pro.BS h1,?_⟩;rw [show (Pro.im z).m.aw=z.m.aw from Pro.n5 z.m];exact h2
 ·show w'.ownsRow 0 _ 1 ve.v (Ref.dZ x.s x.s.aj.length).length ((Ref.dZ x.s x.s.aj.length).map bg);rw [hml];exact aD G.enter (Ni _)
 ·show Pro.mE (Ref.dZ x.s x.s.aj.length);rw [hml];exact ⟨hIn.1,hIn.2,zaa⟩
 ·show w'.ownsRow 0 _ 1 vl.v (Ref.cD x.s x.s.aj.length).length ((Ref.cD x.s x.s.aj.length).map bg);rw [hml];exact aD G.leave (Ni _)
 ·show Pro.mE (Ref.cD x.s x.s.aj.length);rw [hml];exact ⟨hOut.1,hOut.2,zaa⟩
structure kS (w wr:World) (sv:Ref.Sl) (X Z:List Pro.DS) (k:Nat):Prop where
 bel:Below w w wr
 len:Z.length=X.length
 row:wr.ownsRow w 171 8 sv.v Z.length (Z.flatMap Pro.aO)
 done:∀ i (h:i<Z.length) (h':i<X.length),i<k->Z[i].s=Pro.sh X[i].s/\∃ M,fU wr Z[i] M
 rest:∀ i (h:i<Z.length) (h':i<X.length),k<=i->Z[i]=X[i]
theorem kS.step {k:Nat} (D:kS w wr ⟨some ⟨g,0,none⟩,Z.length,cap⟩ X Z k) (hk':k<X.length) (hok:Pro.pR X[k].s) (hm:M.map (·.m)=X[k].s.aj)
  (ha:∀ y∈M,w.ownsRow 0 250 1 y.v.v y.m.aw.length (y.m.aw.map bg)) (G:cH wr w' w g cap Z k X[k] ve vl vm (Ref.dZ X[k].s M.length) (Ref.cD X[k].s M.length) (M.map Pro.im)) :
  kS w w' ⟨some ⟨g,0,none⟩,Z.length,cap⟩ X (Z.set k { s:=Pro.sh X[k].s,vp:=X[k].vp,ve:=ve,vl:=vl,vm:=vm }) (k+1):=by
 obtain ⟨c,hc⟩:=bQ D.row g rfl;have hg:=(ND D.row g rfl).1;have T:=xY G.ai hc;have hb:Below w w w':=G.ai.below D.bel hg D.bel.size;refine ⟨hb,by rw [Nl];exact D.len,?_,?_,?_⟩
 ·have e:=tQ (f:=Pro.aO) (a:={ s:=Pro.sh X[k].s,vp:=X[k].vp,ve:=ve,vl:=vl,vm:=vm }) (b:={ X[k] with ve:=ve,vl:=vl,vm:=vm }) rfl Z k;rw [e,Nl];exact G.states
 ·intro i h h' hi;rw [Nl] at h;rw [Oh];by_cases e:k=i
  ·subst e;rw [M6 rfl];exact ⟨rfl,_,Ez G hok hm (fun y hy=>bc (ha y hy) hb)⟩
  ·rw [M4 e];obtain ⟨h1,M',h2⟩:=D.done i h h' zaa;exact ⟨h1,M',h2.fh T⟩
 ·intro i h h' hi;rw [Nl] at h;rw [Oh,M4 zaa];exact D.rest i h h' zaa
def IJ (X:List Pro.DS) (w:World) (e:Ending) (w':World):Prop:=Below w w w'/\∃ cb sv Z,e = .returned (.pointer (some ⟨cb,0,none⟩))/\w'.heap[cb]?=some (.cells #[.slice sv.a sv.n sv.c] 156 (0,0))/\kS w w' sv X Z X.length
theorem Be (cb:Nat) (sv:Ref.Sl) (X:List Pro.DS) (w:World) (hc:w.heap[cb]?=some (.cells #[.slice sv.a sv.n sv.c] 156 (0,0))) (hC:jy w sv X) (hXl:X.length<=1000) (hok:∀ x∈X,Pro.pR x.s) :
  () 40 #[cb] w (IJ X w):=by
 obtain ⟨sa,sn,sc⟩:=sv;have c0:w.cell? cb=some (.slice sa sn sc):=by rw [M0 w _ _ _ _ _ hc];rfl
 have HC:Hid _:=hC;have HOK:Hid _:=hok;have HCl:Hid _:=Bc sa sn sc X w hC.states zaa;clear hC hok hc;go_enter func40,ntmps40;go_wp2_with fail;refine M7 HCl.out ?_;rintro e w1 ⟨⟨ta,tn,tc⟩,rfl,hrow,hb1⟩;have hnX:tn=X.length:=KK (v:=⟨ta,tn,tc⟩) hrow;subst hnX;have HD0:Hid (kS w w1 ⟨ta,X.length,tc⟩ X X 0):=⟨hb1,rfl,hrow,fun i _ _ h=>absurd h zaa,fun i _ _ _=>rfl⟩;clear hrow hb1 HCl c0;dsimp only;go_wp2
 go_loopg [12] X.length (fun q i wr=>∃ (k:Nat) (Z:List Pro.DS),q=X.length-k/\k<=X.length/\i = .int .i64 k/\kS w wr ⟨ta,X.length,tc⟩ X Z k)
 case atStart=>exact ⟨0,X,rfl,Ni _,rfl,HD0.out⟩
 case round =>
  obtain ⟨k,Z,hq,hk,rfl,D⟩:=hrel;by_cases hkn:k<X.length
  ·have hZl:=D.len;obtain ⟨g,cap,hv⟩:=Ref.eZ D.row zaa;simp only [Ref.Sl.v,Value.slice.injEq] at hv;obtain ⟨rfl,-,rfl⟩:=hv;have hkz:k<Z.length:=zaa;have hxk:Z[k]=X[k]:=D.rest k hkz hkn (MR _);have hD:kS w wr ⟨some ⟨g,0,none⟩,Z.length,tc⟩ X Z k:=by rw [hZl];exact D
   have hmem:X[k]∈X:=NS hkn;obtain ⟨M,hM1,hM2,hM3⟩:=HC.out.aj X[k] hmem;have hOK:=HOK.out X[k] hmem;have hMl:M.length<=4096:=by have:=hOK.mlen;rw [<- hM1,Ng] at this;exact this
   have hcap:X.length<=tc:=by
    rcases D.row.2 with ⟨h,_⟩ | ⟨g',cap',cur,h,_,_,hle,_⟩
    ·cases h
    ·simp [Ref.Sl.v] at h;rw [h.2.2];omega
   have HCL:Hid _:=sj w.heap.size g tc k Z X[k] M wr hD.row hkz hxk (bc hM2 D.bel) (bc (HC.out.enter X[k] hmem) D.bel) (bc (HC.out.leave X[k] hmem) D.bel) hM1 hMl hOK.elen hOK.llen (fun y hy=>hOK.event y.m (by rw [<- hM1];exact O8 hy));have HN:Hid (∀ (w':World) ve vl vm,cH wr w' w g tc Z k X[k] ve vl vm (Ref.dZ X[k].s M.length) (Ref.cD X[k].s M.length) (M.map Pro.im)->∃ Z',kS w w' ⟨some ⟨g,0,none⟩,X.length,tc⟩ X Z' (k+1)):=by
    intro w' ve vl vm G;have:=hD.step hkn hOK hM1 hM3 G;rw [hZl] at this;exact ⟨_,this⟩
   clear hOK hM1 hM2 hM3 hD hxk D hmem hkz hZl;go_wp2_with fail;refine M7 HCL.out ?_;rintro e w2 ⟨rfl,ve,vl,vm,G⟩;obtain ⟨Z',D'⟩:=HN.out w2 ve vl vm G;have HD':Hid _:=D';clear D' G;dsimp only;go_wp2
   go_roundg (X.length-(k+1))
   case measure=>omega
   case rel=>exact ⟨k+1,Z',rfl,zaa,zah,HD'.out⟩
  ·have hke:k=X.length:=zaa;subst hke;have hbx:Below wr wr (wr.alloc (.cells #[.slice ta X.length tc] 156)):=(MY _ _).alloc (MR _) _;have HD:Hid _:=D;clear D;go_wp2;go_ret;have D:=HD.out;refine ⟨D.bel.trans (hbx.mono D.bel.size),wr.heap.size,⟨ta,X.length,tc⟩,Z,rfl,Na _ _,D.bel.trans (hbx.mono D.bel.size),D.len,bc D.row hbx,fun i h h' hi => ?_,D.rest⟩;obtain ⟨h1,M,h2⟩:=D.done i h h' hi;exact ⟨h1,M,h2.ao hbx⟩
end
section
open Go.RowKit Go.Proofs Go.Shelf
structure qn (w:World):Prop where
 lib:wj w
 tP:w.cell? ⟨0,0,none⟩=some (.iface 261 (.agg #[.pointer (some ⟨9,60,none⟩)]))
 t6:TabAt 5 Lib.deBruijn64tab w
 t5:TabAt 1 Lib.deBruijn32tab w
 k5:∃ c t fz,w.heap[1]?=some (.cells c t fz)
 lw:Pg.Lw w.heap.size
theorem qn.ao (h:qn w) (hb:Below w w w'):qn w' :=
 ⟨h.lib.ao hb,(Nk (hb.block _ (Np _ _ h.tP))).trans h.tP,Pg.fk h.lw hb h.t6,Pg.bU h.lw hb h.t5,by
  obtain ⟨c,t,fz,e⟩:=h.k5;exact ⟨c,t,fz,(hb.block _ h.lw.g5).trans e⟩,⟨Nq h.lw.g hb.size,Nq h.lw.g5 hb.size⟩⟩
namespace Pg
def oy (a:Ref.Act):PA:=if a.how.toList == Ref.eT then .raise a.event else if a.how.toList == Ref.eK then .cancel a.id else if a.id.size=0 then .send a.event a.delay.toNat else .sendAs a.event a.delay.toNat a.id
theorem LG {a:Ref.Act} (hd:0<=a.delay):(oy a).v=bg a:=by
 have e:((a.delay.toNat:Nat):Int)=a.delay:=zaa;unfold oy bg;split
 ·rfl
 ·split
  ·rfl
  ·split
   ·show Value.iface _ (.agg #[a.event,.int .u64 ((a.delay.toNat:Nat):Int)])=_;rw [e];rfl
   ·show Value.iface _ (.agg #[a.event,.int .u64 ((a.delay.toNat:Nat):Int),a.id])=_;rw [e];rfl
theorem Io {a:Ref.Act} (h:Ref.jx a):0<=a.delay:=by
 obtain ⟨n,e,_⟩:=h.delay;omega
theorem Dg {a:Ref.Act} (h:Ref.jx a):(oy a).ok/\(oy a).sz:=by
 obtain ⟨n,e,hn⟩:=h.delay;have he:=h.event;unfold oy;split
 ·exact ⟨trivial,zbJ⟩
 ·split
  ·exact ⟨trivial,trivial⟩
  ·split
   ·exact ⟨zcq,zbJ⟩
   ·exact ⟨zcq,zbJ⟩
theorem CM {A:List Ref.Act} (h:w.ownsRow 0 250 1 v.v A.length (A.map bg)) (hG:Pro.mE A):fA w w v (A.map oy):=by
 obtain ⟨va,vn,vc⟩:=v;have hl:=hG.len;refine ⟨?_,?_,fun k x hx => ?_,fun x hx => ?_,zaT⟩
 ·rw [Ng]
  rcases h.2 with ⟨e,h0⟩ | ⟨g,cap,cur,e,_⟩
  ·simp [Ref.Sl.v] at e;rw [h0];exact e.2.1
  ·simp [Ref.Sl.v] at e;exact e.2.1
 ·rw [Ng]
  rcases h.2 with ⟨e,h0⟩ | ⟨g,cap,cur,e,_,_,hle,_⟩
  ·omega
  ·simp [Ref.Sl.v] at e;rw [e.2.2];exact hle
 ·rw [Nf] at hx;obtain ⟨a,ha,rfl⟩:∃ a,A[k]?=some a/\oy a=x:=by
   cases hq:A[k]? with
   | none=>rw [hq] at hx;cases hx
   | some a=>rw [hq] at hx;exact ⟨a,rfl,zbt⟩
  have hk:=(MZ.1 ha).1
  rcases h.2 with ⟨_,h0⟩ | ⟨g,cap,cur,e,_,hg,hle,_,_,h4⟩
  ·omega
  ·simp [Ref.Sl.v] at e;refine ⟨g,e.1,(MQ.1 hg).1,?_⟩;rw [M0 w g k _ _ _ hg,LG (Io (hG.small a (Nc ha)))];have h5:(cur.toList.take (A.length*1))[k]?=(A.map bg)[k]?:=by rw [h4]
   rw [P1,M6 zaa] at h5;rw [<- Ok,h5,Nf,ha];rfl
 ·obtain ⟨a,ha,rfl⟩:=NI.1 hx;exact (Dg (hG.small a ha)).1
theorem PA.Ms {x y:PA} (h:x.v=y.v):x=y:=by
 cases x <;> cases y <;> simp [PA.v] at h <;> (try obtain ⟨rfl,h⟩:=h) <;> (try subst h) <;> (try rfl)
 ·rw [show (_:Nat)=_ from Int.ofNat.inj h]
 ·obtain ⟨h1,rfl⟩:=h;rw [show (_:Nat)=_ from Int.ofNat.inj h1]
theorem fA.uniq {L':List PA} (h:fA W lo v L) (k:fA W lo v L'):L=L':=by
 have hl:L.length=L'.length:=by rw [<- h.n,<- k.n]
 apply Pc
 intro i;by_cases hi:i<L.length
 ·obtain ⟨x,hx⟩:∃ x,L[i]?=some x:=⟨_,MU hi⟩;obtain ⟨y,hy⟩:∃ y,L'[i]?=some y:=⟨_,MU zaa⟩;obtain ⟨a,e1,_,e2⟩:=h.cell i x hx;obtain ⟨b,e3,_,e4⟩:=k.cell i y hy;rw [e1] at e3;cases e3
  rw [e2] at e4;rw [hx,hy,PA.Ms (NO e4)]
 ·rw [Ny zaa,Ny zaa]
open Classical in
noncomputable def nI (W:World) (lo:Nat) (v:Ref.Sl):List PA:=if h:∃ L,fA W lo v L then h.choose else []
theorem I6 (h:fA W lo v L):nI W lo v=L:=by
 unfold nI;have he:∃ L,fA W lo v L:=⟨L,h⟩;rw [dif_pos he];exact he.choose_spec.uniq h
def aJ (x:Pro.DS):MS:=⟨Pro.al x.s,x.s.name,x.s.depth,x.s.up,x.vp,x.ve,x.vl,x.vm⟩
def Kr (y:Pro.PV):MV:=⟨y.m.event,y.m.after,y.m.delay,y.m.to,y.v⟩
theorem Lz (D:kS w wr sv X Z X.length):∃ MM:Nat->List Pro.PV,∀ i,(∀ z,Z[i]?=some z->fU wr z (MM i))/\(Z[i]?=none->MM i=[]):=by
 have h:∀ i:Nat,∃ M:List Pro.PV,(∀ z,Z[i]?=some z->fU wr z M)/\(Z[i]?=none->M=[]):=fun i=>by
  cases hz:Z[i]? with
  | none=>exact ⟨[],fun z e=>(by cases e),fun _=>rfl⟩
  | some z =>
   obtain ⟨hi,rfl⟩:=MZ.1 hz;have hi':i<X.length:=by have:=D.len;omega
   obtain ⟨_,M,hM⟩:=D.done i hi hi' hi';exact ⟨M,fun z e=>(by cases e;exact hM),fun e=>(by cases e)⟩
 exact Classical.axiomOfChoice h
def vOf (MM:Nat->List Pro.PV) (i:Nat):List MV:=(MM i).map Kr
theorem xm (m:Ref.Move):(Pro.dM m).event=m.event/\(Pro.dM m).to=m.to:=by unfold Pro.dM;split <;> exact ⟨rfl,rfl⟩
theorem Ly {N:List Ref.Move} (h:M.map (·.m)=N.map Pro.dM) {y:Pro.PV} (hy:y∈M):∃ m∈N,y.m=Pro.dM m:=by
 have:y.m∈N.map Pro.dM:=by rw [<- h];exact O8 hy
 obtain ⟨m,hm,e⟩:=NI.1 this;exact ⟨m,hm,e.symm⟩
theorem zk {X:List MS} {n:ByteArray} {d:Nat}:∀ k,k<=X.length->bT X k n=some d->d<k/\∃ x,X[d]?=some x/\n=x.name
 | 0,_,h=>by cases h
 | k+1,hk,h=>by
  obtain ⟨x,hx⟩:∃ x,X[k]?=some x:=⟨_,MU zaa⟩;rw [bT,hx] at h;dsimp only at h;by_cases e:n=x.name
  ·rw [M6 e] at h;have:=NO h;subst this;exact ⟨RW _,x,hx,e⟩
  ·rw [M4 e] at h;obtain ⟨h1,h2⟩:=zk k zaa h;exact ⟨zaa,h2⟩
theorem rT {X:List MS} {n:ByteArray} {i:Nat} {x:MS} (hx:X[i]?=some x) (hn:n=x.name):∀ k,i<k->k<=X.length->∃ d,bT X k n=some d
 | 0,h,_=>by omega
 | k+1,h,hk=>by
  obtain ⟨y,hy⟩:∃ y,X[k]?=some y:=⟨_,MU zaa⟩;rw [bT,hy];dsimp only;by_cases e:n=y.name
  ·rw [M6 e];exact ⟨k,rfl⟩
  ·rw [M4 e];by_cases ek:i=k
   ·subst ek;rw [hx] at hy;cases hy
    exact absurd hn e
   ·exact rT hx hn k zaa zaa
theorem K6 {cb:Nat} (D:kS w wr sv X Z X.length) (hcb:wr.heap[cb]?=some (.cells #[.slice sv.a sv.n sv.c] 156 (0,0))) (hZ:0<Z.length) {MM:Nat->List Pro.PV} (hM:∀ i,(∀ z,Z[i]?=some z->fU wr z (MM i))/\(Z[i]?=none->MM i=[])):∃ cg cc,ChM wr cb cg cc (Z.map aJ) (vOf MM):=by
 obtain ⟨sa,sn,sc⟩:=sv
 rcases D.row.2 with ⟨_,h0⟩ | ⟨g,cap,cur,hv,_,hg,_⟩
 ·omega
 simp [Ref.Sl.v] at hv;obtain ⟨rfl,rfl,rfl⟩:=hv;have hrow:Row wr 171 8 Pro.aO (.slice g Z.length sc) Z:=aD D.row (Ni _);refine ⟨g,sc,⟨by rw [Ng];exact hcb,⟨cur,(0,0),hg⟩,fun i x hx j v hj => ?_,fun i x hx => ?_⟩⟩
 ·rw [Nf] at hx;cases hz:Z[i]? with
  | none=>rw [hz] at hx;cases hx
  | some z =>
   rw [hz] at hx;obtain rfl:aJ z=x:=zbt;obtain ⟨hi,rfl⟩:=MZ.1 hz;have hj':(Pro.aO Z[i])[j]?=some v:=hj;have hjl:j<8:=by have:=(MZ.1 hj').1;simpa [Pro.aO] using this
   exact (Row.cell (n:=8) (f:=Pro.aO) (fun _=>rfl) hrow hjl hi).trans hj'
 ·rw [Nf] at hx;cases hz:Z[i]? with
  | none=>rw [hz] at hx;cases hx
  | some z =>
   rw [hz] at hx;obtain rfl:aJ z=x:=zbt;have hw:=(hM i).1 z hz;obtain ⟨s,vp,ve,vl,⟨ma,mn,mc⟩⟩:=z;have hmr:=hw.aj;have hvl:(vOf MM i).length=(MM i).length:=by unfold vOf;rw [Ng]
   rw [hvl];show mn=(MM i).length/\_
   rcases hmr.2 with ⟨e,h0⟩ | ⟨gm,cap,curm,e,_,hgm,hle,_⟩
   ·simp [Ref.Sl.v] at e;exact ⟨zaa,.inl h0⟩
   ·simp [Ref.Sl.v] at e;obtain ⟨rfl,rfl,rfl⟩:=e;refine ⟨rfl,.inr ⟨gm,curm,(0,0),rfl,hle,hgm,fun j m hm a v hv => ?_⟩⟩;unfold vOf at hm;rw [Nf] at hm;cases hy:(MM i)[j]? with
    | none=>rw [hy] at hm;cases hm
    | some y =>
     rw [hy] at hm;obtain rfl:Kr y=m:=by simpa using hm
     obtain ⟨hjl,rfl⟩:=MZ.1 hy;have hv':(Pro.bf (MM i)[j])[a]?=some v:=hv;have hal:a<5:=by have:=(MZ.1 hv').1;simpa [Pro.bf] using this
     have hmr':Row wr 239 5 Pro.bf (.slice gm (MM i).length mc) (MM i):=hmr;exact (Row.cell (n:=5) (f:=Pro.bf) (fun _=>rfl) hmr' hal hjl).trans hv'
end Pg
namespace Lw
theorem JP {x y:ByteArray} (h:x≠y):(x.toList == y.toList)=false:=by
 rw [OY,ne_eq,NY,NY];intro e;apply h
 obtain ⟨⟨x⟩⟩:=x;obtain ⟨⟨y⟩⟩:=y;have e:x=y:=e;rw [e]
