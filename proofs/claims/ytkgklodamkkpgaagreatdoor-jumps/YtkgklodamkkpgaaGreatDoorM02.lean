import Derived.Test.YtkgklodamkkpgaaGreatDoorM01
import Derived.Deep.CutRange
set_option maxRecDepth 100000
set_option maxHeartbeats 8000000
namespace Go.Proofs.YtkgklodamkkpgaaGreatDoor
variable {zp:Prop}
theorem zfL (h:zp:=by
 rw [Pn] at this;exact this):zp:=h
theorem zdg (h:zp:=by
 go_enter func198,ntmps198;go_wp2_with (go_at_call 201;refine he.mono ?_;rintro e w9 ⟨rfl,hw9⟩;rw [hw9];clear hw9 w9);refine dU 9 zab zab ?_;simp only [List.take_succ_cons,List.take_zero,List.drop_succ_cons,List.drop_zero]
 repeat still_step
 refine Ov ?_;go_wp2;go_end0;exact ⟨rfl,rfl⟩):zp:=h
theorem zeo (h:zp:=by
 gi_wp2;refine OI (N5 rfl _ _ _) rfl ?_;exact ⟨⟨_,rfl⟩,.inr ⟨_,hJx3⟩⟩):zp:=h
theorem zeU (h:zp:=by
 go_enter func98,ntmps98;go_wp2;go_ret;exact ⟨rfl,rfl⟩):zp:=h
theorem zba (h:zp:=by first | exact hBd | exact hBd1 _):zp:=h
theorem zbz (h:zp:=by simp [Pg.PS.cells,Value.oneCell',Ref.Sl.v]):zp:=h
theorem zb4 (h:zp:=by first | exact hBd.trans hB9x | exact (hBd1 _).trans (hB9x.mono (by simp [World.drew]))):zp:=h
theorem zci (h:zp:=by first | exact hBd1 _ | exact hB9.alloc hB9.size _):zp:=h
open Tryz
variable {s i h pb b cap:Nat} {W W':World} {e:Bool} {ps:List Pg.PS} {p:Pg.PS} {P:Nat->Prop}
section
open Go.RowKit Go.Proofs Go.Shelf
attribute [local go_sem] NR
def xi:Go.Shelf.Ren:=⟨fun | 29=>258 | n=>n,fun | 22=>34 | 3=>3 | 4=>4 | 25=>365 | 54=>425 | 0=>0 | 5=>5 | n=>n,fun | 1=>5 | n=>n⟩
theorem GI:Go.Proofs.Lays7.n29 prog xi:={
 mixed:=zab
 f29:=Tryz.func258.trans (congrArg some zab)
 t0:=underlying0
 a0:=Tryz.isAgg0
 z0:=Tryz.sizeOf0
 v0:=Tryz.zeroValue0
 i0:=zab
 t3:=underlying3
 a3:=RK
 z3:=Rv
 v3:=QN
 i3:=zab
 t4:=underlying4
 a4:=Qz
 z4:=Qj
 v4:=PK
 i4:=zab
 t5:=underlying5
 a5:=Tryz.isAgg5
 z5:=Tryz.sizeOf5
 v5:=Ri
 i5:=zab
 t22:=underlying34
 a22:=Tryz.isAgg34
 z22:=Tryz.sizeOf34
 v22:=Tryz.zeroValue34
 i22:=zab
 t25:=underlying365
 a25:=isAgg365
 z25:=sizeOf365
 v25:=zeroValue365
 i25:=zab
 t54:=underlying425
 a54:=isAgg425
 z54:=sizeOf425
 g1:=by kernel_rfl }
theorem IA (s:Nat) (w:World) (hs:s<18446744073709551616) (hT:TabAt 5 Lib.deBruijn64tab w):() 258 #[.int .u64 s] w fun e w'=>e = .returned (.int .i64 (Lib.ctz 64 s))/\w'=w :=
 Any7.bits_TrailingZeros64 GI s hs w fun _=>hT
namespace Pg
def eE (s:Nat):List Nat:=(List.range 64).filter s.testBit
theorem fG:i∈eE s↔i<64/\s.testBit i=true:=by
 unfold eE;rw [OE,Od]
theorem Bi:eE 0=[]:=zaS
theorem BT (h0:s≠0) (hs:s<18446744073709551616):Lib.ctz 64 s<64/\s.testBit (Lib.ctz 64 s)=true/\(∀ j,j<Lib.ctz 64 s->s.testBit j=false)/\∀ j,(s&&&(s-1)).testBit j=(s.testBit j&&decide (j≠Lib.ctz 64 s)):=by
 obtain ⟨m,hm,hk⟩:=Lib.ctzFrom_spec 64 s (Nat.pos_of_ne_zero h0) hs;have he:Lib.ctz 64 s=Lib.ctzFrom 64 s:=by unfold Lib.ctz;rw [M4 h0]
 rw [he];generalize Lib.ctzFrom 64 s=k at hm hk;exact zcR
theorem yQ (h0:s≠0) (hs:s<18446744073709551616):eE s=Lib.ctz 64 s::eE (s&&&(s-1)):=by
 obtain ⟨a,b,c,d⟩:=BT h0 hs;exact kc b c d 64 a
abbrev Fq (s:Nat):Type:={ i:Nat // i∈eE s }
theorem KpM.tab {B:Nat->TypeId->Prop} (h:KpM B W W') (hg:∀ t,¬ B 5 t) (hT:TabAt 5 Lib.deBruijn64tab W):TabAt 5 Lib.deBruijn64tab W':=fun j hj=>h.cell (p:=⟨5,j,none⟩) (hT j hj) hg
theorem KW {t:Nat} (h0:t≠0) (ht:t<18446744073709551616):bits BinOp.and IntKind.u64 (t:Int) ((t:Int)-1)=((t&&&(t-1):Nat):Int):=by
 rw [show (t:Int)-1=((t-1:Nat):Int) by omega,bits_and_u64_nat t _ ht zaa]
end Pg
theorem Gn (n:Nat) (hn:1<=n) (l Bs mb o s:Nat) (hs:s<18446744073709551616) (Kp:World->World->Prop) (hKp:∀ W W',Kp W W'->TabAt 5 Lib.deBruijn64tab W->TabAt 5 Lib.deBruijn64tab W') (J Jx:List (Pg.Fq s)->World->Prop)
  (hY:∀ pre x W,J pre W->pre.length<64->YieldAt Fence.wide (n-1) prog l #[.int .i64 (x.1:Int)] W fun e W' =>
   (e = .returned true/\J (pre++[x]) W'/\Kp W W')\/(e = .returned false/\Jx (pre++[x]) W'))
  (W:World) (hBs:W.cell? Bs=some (.pointer (some ⟨mb,o,none⟩))) (hc:W.cell? ⟨mb,o+64,none⟩=some (.int .u64 s)) (hT:TabAt 5 Lib.deBruijn64tab W) (h0:J [] W) :
  CallsIn Fence.wide n prog 257 #[.func (.yield l) #[] #[],Bs] W fun e W'=>(∃ v,e = .returned v) /\
   ((∃ ys,ys.map (·.1)=Pg.eE s/\J ys W')\/(∃ pre,pre.map (·.1) <+: Pg.eE s/\Jx pre W')):=by
 refine Q6 func257 rfl trivial ?_ rfl;simp only [ntmps257,List.size_toArray,List.length_cons,List.length_nil,Nat.reduceAdd,Nat.reduceSub,Array.replicate_succ,Array.replicate_zero,List.push_toArray,List.append_toArray,List.nil_append,List.cons_append];gi_wp2
 gi_loopw [3] (fun i wr=>∃ (t:Nat) (pre:List (Pg.Fq s)),i = .int .u64 t/\t<18446744073709551616/\Pg.eE s=pre.map (·.1)++Pg.eE t/\J pre wr/\TabAt 5 Lib.deBruijn64tab wr)
  (fun i _=>(intOf i).toNat)
 case atStart=>exact ⟨s,[],rfl,hs,rfl,h0,hT⟩
 case round =>
  obtain ⟨t,pre,rfl,ht,he,hJs,hTr⟩:=hrel;clear hBs hc;by_cases hz:t=0
  ·subst hz;gi_wp2;go_end0;rw [Pg.Bi,OP] at he;exact ze4
  ·have hf:=Pg.yQ hz ht;have hm:Lib.ctz 64 t∈Pg.eE s:=by rw [he,hf];simp
   have hle:pre.length<64:=by
    have h1:(Pg.eE s).length<=64:=by
     have:=Ob s.testBit (List.range 64);exact zfL
    exact zfr
   obtain ⟨fn,tmps,assign,body,hy,hR⟩:=hY pre ⟨Lib.ctz 64 t,hm⟩ wr hJs hle;dsimp only at hy;have ha:=Pg.KW hz ht;have hz':((t:Int) == 0)=false:=zae;have hlt:=Pg.vQ hz;have htz:=IA t wr ht hTr;gi_wp2_with (refine ⟨trivial,?_⟩;gi_at_call 258;refine (Nz.2 htz).mono ?_;clear htz;rintro e w9 ⟨rfl,hw9⟩;rw [hw9];clear hw9 w9);have hE:Pg.eE s=(pre++[(⟨Lib.ctz 64 t,hm⟩:Pg.Fq s)]).map (·.1)++Pg.eE (t&&&(t-1)):=he.trans (by rw [hf,NW,OV];rfl);refine hR.mono ?_;rintro e W3 (⟨rfl,hJ3,hk3⟩ | ⟨rfl,hJx3⟩)
   ·gi_wp2
    go_roundw
    case rel=>exact ⟨t&&&(t-1),pre++[⟨Lib.ctz 64 t,hm⟩],rfl,zaa,hE,hJ3,hKp _ _ hk3 hTr⟩
    case measure=>simp only [intOf];omega
   ·exact zed
theorem rM (n:Nat) (hn:1<=n) (Bs mb o s:Nat) (hs:s<18446744073709551616) (Kp:World->World->Prop) (hKp:∀ W W',Kp W W'->TabAt 5 Lib.deBruijn64tab W->TabAt 5 Lib.deBruijn64tab W') (w:World) (hBs:Bs<w.heap.size) (hmb:mb<w.heap.size) (hg:5<w.heap.size) (hc:w.cell? Bs=some (.pointer (some ⟨mb,o,none⟩))) (hd:w.cell? ⟨mb,o+64,none⟩=some (.int .u64 s)) (hT:TabAt 5 Lib.deBruijn64tab w) :
  SeqStopsK Fence.wide n prog 257 #[Bs] (fun x:Pg.Fq s=>#[Value.int .i64 (x.1:Int)]) Kp (fun ys=>ys.map (·.1)=Pg.eE s) (fun pre=>pre.map (·.1) <+: Pg.eE s) 64 w:=fun l J Jx W hW _ _ hY h0 =>
 Gn n hn l Bs mb o s hs Kp hKp J Jx hY W ((hW.cell (p:=⟨Bs,0,none⟩) hBs).trans hc) ((hW.cell (p:=⟨mb,o+64,none⟩) hmb).trans hd) (fun j hj=>(hW.cell (p:=⟨5,j,none⟩) hg).trans (hT j hj)) h0
theorem mJ (mb o:Nat) (w:World):() 234 #[.pointer (some ⟨mb,o,none⟩)] w fun e w'=>e = .returned (.func (.func 257) #[] #[w])/\w'=w.alloc (.cells #[.pointer (some ⟨mb,o,none⟩)] 369):=by
 go_enter func234,ntmps234;exact zfp
attribute [local go_sem] NR
theorem Ej:(Tryz.prog.info? 278).map (fun i=>(i.zero,i.size,i.bytes))=some (some (.agg #[.int .u64 0,.string ⟨#[]⟩,.string ⟨#[]⟩,.pointer none]),4,48):=zab
theorem iC (w:World) (a b:Nat) (ha:∃ c,w.heap[a]?=some (.cells c 278 (0,0))) (hb:∃ c,w.heap[b]?=some (.cells c 278 (0,0))) :
  (binOp .eql 78 a b).run prog w = .ok (.bool (decide (a=b))) w:=by
 obtain ⟨i0,hi,hz0,hz1,hz2⟩:=OB Ej;obtain ⟨ca,ha⟩:=ha;obtain ⟨cb,hb⟩:=hb;have h:∀ d:Nat,(Op.equalIn (d+1) 78 a b).run prog w = .ok (decide (a=b)) w:=fun d=>by
  by_cases e:a=b
  ·subst e;simp [Op.equalIn,run_underlying underlying78,sizeOf,typeInfo,hi,run_sameAddr_same]
  ·simp [Op.equalIn,run_underlying underlying78,sizeOf,typeInfo,hi,hz1,e,run_sameAddr_other w (a:=⟨a,0,none⟩) (b:=⟨b,0,none⟩) (by intro x;injection x with x1;exact e x1) ha hb]
 simp only [binOp];simp [Op.equal,Op.maxDepth,h 9999]
namespace Pg
structure RdN (Bs:Nat) (L:List Nd) (i:Nat) (V:World):Prop where
 box:V.cell? Bs=some (aK L)
 nd:∀ x∈L,∃ c,V.heap[x.1]?=some (.cells c 278 (0,0))
 next:∀ x,L[i]?=some x->V.cell? ⟨x.1,3,none⟩=some (nxt L i)
 first:i=0->∀ z,L.getLast?=some z->V.cell? ⟨z.1,3,none⟩=some (nxt L (L.length-1))
def ndM (L:List Nd):Value->Nat
 | .pointer (some a)=>L.length-(L.map (·.1)).idxOf a.block
 | _=>0
theorem G8 {L:List Nd} (hnd:(L.map (·.1)).Nodup) {x:Nd} (h:L[i]?=some x):ndM L x.1=L.length-i:=by
 have hi:i<(L.map (·.1)).length:=by simp;exact (MZ.1 h).1
 have hx:(L.map (·.1))[i]=x.1:=by rw [Pf];rw [(MZ.1 h).2]
 show L.length-(L.map (·.1)).idxOf x.1=_;rw [<- hx,hnd.idxOf_getElem i hi]
end Pg
theorem vz (n:Nat) (hn:1<=n) (l Bs:Nat) (L:List Pg.Nd) (hnd:(L.map (·.1)).Nodup) (J Jx:List Pg.Nd->World->Prop) (hRd:∀ xs V,J xs V->Pg.RdN Bs L xs.length V)
  (hY:∀ i x V,L[i]?=some x->J (L.take i) V->YieldAt Fence.wide (n-1) prog l #[.pointer (some ⟨x.1,0,none⟩)] V fun e V'=>(e = .returned true/\J (L.take (i+1)) V')\/(e = .returned false/\Jx (L.take (i+1)) V'))
  (W:World) (h0:J [] W) :
  CallsIn Fence.wide n prog 200 #[.func (.yield l) #[] #[],Bs] W fun e W'=>(∃ v,e = .returned v)/\(J L W'\/∃ i,Jx (L.take i) W'):=by
 have hR0:=hRd [] W h0;have hb0:=hR0.box;have he:=lj W Bs 0 L hb0;refine Q6 func200 rfl trivial ?_ rfl;simp only [ntmps200,List.size_toArray,List.length_cons,List.length_nil,Nat.reduceAdd,Nat.reduceSub,Array.replicate_succ,Array.replicate_zero,List.push_toArray,List.append_toArray,List.nil_append,List.cons_append];cases hz:L.getLast? with
 | none =>
  have hl:L=[]:=Pq.1 hz;subst hl;simp only [List.isEmpty_nil] at he;clear hY;gi_wp2_with (refine ⟨trivial,?_⟩;gi_at_call 201;refine (Nz.2 he).mono ?_;clear he;rintro e w9 ⟨rfl,hw9⟩;rw [hw9];clear hw9 w9);refine OI (N5 rfl _ _ _) rfl ?_;exact ⟨⟨_,rfl⟩,.inl h0⟩
 | some z =>
  have hne:L≠[]:=fun e=>zaZ;have hlen:0<L.length:=OJ.2 hne;have hlz:L[L.length-1]?=some z:=zaA;obtain ⟨f,hf⟩:∃ f,L[0]?=some f:=⟨_,MU hlen⟩;have hez:L.isEmpty=false:=by cases L with | nil=>simp at hz | cons a l=>rfl
  rw [hez] at he;have hz3:=hR0.first rfl z hz;rw [Pg.iP hf] at hz3;have hrv:Pg.aK L = .pointer (some ⟨z.1,0,none⟩):=by unfold Pg.aK;rw [hz];rfl
  rw [hrv] at hb0;unfold Pg.ndP at hz3;obtain ⟨zb,zt⟩:=z;obtain ⟨fb,ft⟩:=f;dsimp only at hb0 hz3 hrv;clear hR0 hez hne;gi_wp2_with (refine ⟨trivial,?_⟩;gi_at_call 201;refine (Nz.2 he).mono ?_;clear he;rintro e w9 ⟨rfl,hw9⟩;rw [hw9];clear hw9 w9)
  gi_loopw [3] (fun v wr=>∃ (i:Nat) (x:Pg.Nd),L[i]?=some x/\v = .pointer (some ⟨x.1,0,none⟩)/\J (L.take i) wr) (fun v _=>Pg.ndM L v)
  case atStart=>exact ⟨0,(fb,ft),hf,rfl,h0⟩
  case round =>
   obtain ⟨i,x,hix,rfl,hJi⟩:=hrel;have hil:=(MZ.1 hix).1;have hRi:=hRd _ _ hJi;rw [Qm zaa] at hRi;have hx3:=hRi.next x hix;have hmi:=Pg.G8 hnd hix;obtain ⟨fn,tmps,assign,body,hy,hR⟩:=hY i x wr hix hJi;clear hRi hb0 hz3;by_cases hlast:i+1=L.length
   ·have hxz:x=(zb,zt):=by rw [show L.length-1=i by omega,hix] at hlz;exact NO hlz
    subst hxz;have hnx:Pg.nxt L i = .pointer (some ⟨fb,0,none⟩):=by rw [show i=L.length-1 by omega,Pg.iP hf];rfl
    rw [hnx] at hx3;dsimp only at hx3 hy;gi_wp2;refine hR.mono ?_;rintro e W3 (⟨rfl,hJ3⟩ | ⟨rfl,hJx3⟩)
    ·have hR3:=hRd _ _ hJ3;have hb3:=hR3.box;rw [hrv] at hb3;have hq3:=iC W3 zb zb (hR3.nd _ (Nc hlz)) (hR3.nd _ (Nc hlz));rw [NZ rfl] at hq3;clear hR3;gi_wp2;refine OI (N5 rfl _ _ _) rfl ?_;rw [hlast,N6] at hJ3;exact ⟨⟨_,rfl⟩,.inl hJ3⟩
    ·exact zeo
   ·obtain ⟨y,hy1⟩:∃ y,L[i+1]?=some y:=⟨_,MU zaa⟩;have hnx:Pg.nxt L i = .pointer (some ⟨y.1,0,none⟩):=by unfold Pg.nxt;rw [hy1];rfl
    rw [hnx] at hx3;have hxz:x.1≠zb:=fun e=>by
     have a1:(L.map (·.1))[i]?=some x.1:=by rw [Nf,hix];rfl
     have a2:(L.map (·.1))[L.length-1]?=some x.1:=by rw [Nf,hlz,e];rfl
     have:=(QW zae hnd).1 (a1.trans a2.symm);omega
    have hmy:=Pg.G8 hnd hy1
    (try dsimp only at hy)
    gi_wp2;refine hR.mono ?_;rintro e W3 (⟨rfl,hJ3⟩ | ⟨rfl,hJx3⟩)
    ·have hR3:=hRd _ _ hJ3;have hb3:=hR3.box;rw [hrv] at hb3;have hq3:=iC W3 x.1 zb (hR3.nd _ (Nc hix)) (hR3.nd _ (Nc hlz));rw [NM hxz] at hq3;clear hR3;gi_wp2
     go_roundw
     case rel=>exact ⟨i+1,y,hy1,rfl,hJ3⟩
     case measure=>rw [hmi,hmy];omega
    ·exact zeo
theorem dC {α:Type} {L:List α} {x:α} (h:L[i]?=some x):L.take i++[x]=L.take (i+1):=by
 rw [OH,h];rfl
theorem zP (n:Nat) (hn:1<=n) (Bs:Nat) (L:List Pg.Nd) (hnd:(L.map (·.1)).Nodup) (w:World) :
  Fv Fence.wide n prog 200 #[Bs] (fun x:Pg.Nd=>#[Value.pointer (some ⟨x.1,0,none⟩)]) (fun _ _=>True) (fun xs V=>Pg.RdN Bs L xs.length V) (fun xs x=>L[xs.length]?=some x/\xs=L.take xs.length) (fun xs=>xs=L) w:=fun l J W _ _ _ hRd hY h0=>by
 refine (vz n hn l Bs L hnd J (fun _ _=>False) hRd (fun i x V hx hJ => ?_) W h0).mono ?_
 ·have hi:=(MZ.1 hx).1;have hl:(L.take i).length=i:=Qm zaa;refine (hY (L.take i) x V hJ ⟨by rw [hl];exact hx,by rw [hl]⟩).mono ?_;rintro e V' ⟨rfl,h,_⟩;rw [dC hx] at h;exact .inl ⟨rfl,h⟩
 ·rintro e V' ⟨hv,h | ⟨i,h⟩⟩
  ·exact ⟨hv,L,rfl,h⟩
  ·exact h.elim
theorem p9 (n:Nat) (hn:1<=n) (Bs:Nat) (L:List Pg.Nd) (hnd:(L.map (·.1)).Nodup) (B:Nat->TypeId->Prop) (w:World) (hb:w.cell? Bs=some (Pg.aK L)) (hR:Pg.cA w L) (hB:∀ t,¬ B Bs t) (hBl:∀ x∈L,∀ t,¬ B x.1 t) :
  SeqStopsK Fence.wide n prog 200 #[Bs] (fun x:Pg.Nd=>#[Value.pointer (some ⟨x.1,0,none⟩)]) (KpM B) (fun xs=>xs=L) (fun _=>True) L.length w:=fun l J Jx W hW _ _ hY h0=>by
 have hW':KpM B w W:=KpM.below hW;refine (vz n hn l Bs L hnd (fun xs V=>J xs V/\KpM B W V) Jx (fun xs V hV => ?_) (fun i x V hx hJ => ?_) W ⟨h0,KpM.refl _ _⟩).mono ?_
 ·have hk:=hW'.tr hV.2;have hc:∀ (i:Nat) (x:Pg.Nd),L[i]?=some x->V.heap[x.1]?=some (.cells (Pg.et x.2 (Pg.nxt L i)) 278 (0,0)):=fun i x hx=>hk.2 _ _ _ _ (hR i x hx) (hBl x (Nc hx) _);refine ⟨hk.cell hb hB,fun x hx => ?_,fun x hx => ?_,fun h0 z hz => ?_⟩
  ·obtain ⟨i,hi⟩:=Nu.1 hx;exact ⟨_,hc i x hi⟩
  ·rw [M0 V _ _ _ _ _ (hc _ x hx)];rfl
  ·have hlz:L[L.length-1]?=some z:=zaA;rw [M0 V _ _ _ _ _ (hc _ z hlz)];rfl
 ·have hi:=(MZ.1 hx).1;have hl:(L.take i).length=i:=Qm zaa;refine (hY (L.take i) x V hJ.1 zaa).mono ?_;rw [dC hx];rintro e V' (⟨rfl,h,hk⟩ | h)
  ·exact .inl ⟨rfl,h,hJ.2.tr hk⟩
  ·exact .inr h
 ·rintro e V' ⟨hv,h | ⟨i,h⟩⟩
  ·exact ⟨hv,.inl ⟨L,rfl,h.1⟩⟩
  ·exact ⟨hv,.inr ⟨_,trivial,h⟩⟩
theorem mg (v:Value) (w:World) (hv:v = .pointer none\/∃ b,v = .pointer (some ⟨b,0,none⟩)):() 160 #[.agg #[v]] w fun e w'=>e = .returned (.func (.func 200) #[] #[w])/\w'=w.alloc (.cells #[v] 80):=by
 rcases hv with rfl | ⟨b,rfl⟩
 all_goals
  go_enter func160,ntmps160;go_wp2;go_ret;exact ⟨rfl,rfl⟩
def zD:Go.Shelf.Ren:=⟨fun | 129=>196 | n=>n,fun | 53=>34 | 3=>3 | 4=>4 | 46=>365 | 5=>5 | 9=>9 | n=>n,fun | n=>n⟩
theorem JK:Go.Proofs.Lays.n129 prog zD:={
 mixed:=zab
 f129:=Tryz.func196.trans (congrArg some zab)
 t3:=underlying3
 a3:=RK
 z3:=Rv
 v3:=QN
 t4:=underlying4
 a4:=Qz
 z4:=Qj
 v4:=PK
 t5:=underlying5
 a5:=Tryz.isAgg5
 z5:=Tryz.sizeOf5
 v5:=Ri
 t9:=underlying9
 a9:=Tryz.isAgg9
 z9:=Tryz.sizeOf9
 v9:=Tryz.zeroValue9
 t46:=underlying365
 a46:=isAgg365
 z46:=sizeOf365
 v46:=zeroValue365
 t53:=underlying34
 a53:=Tryz.isAgg34
 z53:=Tryz.sizeOf34
 v53:=Tryz.zeroValue34 }
theorem Eu (x:Nat) (w:World) (h:x<18446744073709551616):() 196 #[.int .u64 x] w fun e w'=>e = .returned (.int .i64 (Lib.bitLen x))/\w'=w:=by
 have:=Any.bits_Len64 JK (x:Int) w zaa zaa;rw [PH] at this;exact this
namespace Pg
def iq (h s:Nat) (e:Bool):Nat:=if e then h&&&(18446744073709551615-2 ^ s) else h|||2 ^ s
theorem oU (h:i<64):2 ^ i<18446744073709551616:=Nq (P8 zac h) zac
theorem Fh (hi:i<64):(2:Int) ^ i % 18446744073709551616=((2 ^ i:Nat):Int):=by
 rw [jg];exact Int.emod_eq_of_lt (Int.natCast_nonneg _) (by have:=oU hi;omega)
theorem n7 (hh:h<18446744073709551616) (hs:s<64):iq h s e<18446744073709551616:=by
 unfold iq;have:=oU hs;split
 ·exact NT OQ hh
 ·exact NV (n:=64) hh this
theorem l9 (hs:s<64) (j:Nat) (hj:j<64):(iq h s e).testBit j=if j=s then !e else h.testBit j:=by
 unfold iq;have:=oU hs;cases e
 ·rw [M4 zac,R5,Qa];by_cases e:j=s
  ·simp [e]
  ·simp [e,Ne.symm e]
 ·rw [M6 rfl,Qr,show 18446744073709551615-2 ^ s=2 ^ 64-(2 ^ s+1) by omega,Rj this,Qa];by_cases e:j=s
  ·simp [e]
  ·simp [e,Ne.symm e,hj]
end Pg
theorem so (w:World) (mb o:Nat) (s:Nat) (l:List Pg.Nd) (h:Nat) (hs:s<64) (hh:h<18446744073709551616) (hc:w.cell? ⟨mb,o+s,none⟩=some (Pg.aK l)) (hd:w.cell? ⟨mb,o+64,none⟩=some (.int .u64 h)) (hfz:w.frozen? ⟨mb,o+64,none⟩=false) :
  () 198 #[.pointer (some ⟨mb,o,none⟩),(s:Int)] w fun e w'=>e = .returned (.tuple #[])/\w'=w.drew.setCell ⟨mb,o+64,none⟩ (.int .u64 (Pg.iq h s l.isEmpty)):=by
 have he:=lj w mb (o+s) l hc;have h2:=Pg.oU hs;have h2m:=Pg.Fh hs;have hsm:¬ ((s:Int)<0):=zaa;have hsn:(s:Int).toNat=s:=PH s;have hwr:IntKind.u64.wrap ((2:Int) ^ s)=((2 ^ s:Nat):Int):=by rw [Qd];exact h2m
 have hor:bits BinOp.or IntKind.u64 (h:Int) (IntKind.u64.wrap ((2:Int) ^ s))=((h|||2 ^ s:Nat):Int):=by rw [hwr];exact u64_or_nat h (2 ^ s) hh h2
 have hand:bits BinOp.andNot IntKind.u64 (h:Int) (IntKind.u64.wrap ((2:Int) ^ s))=((h&&&(18446744073709551615-2 ^ s):Nat):Int):=by rw [hwr];exact u64_andNot_nat h (2 ^ s) hh h2
 have hdd:w.drew.cell? ⟨mb,o+64,none⟩=some (.int .u64 h):=hd;have hfd:w.drew.frozen? ⟨mb,o+64,none⟩=false:=hfz;clear hwr h2m h2;cases hl:l.isEmpty
 ·rw [hl] at he;unfold Pg.iq;rw [M4 zac];generalize h|||2 ^ s=hn at *;exact zdg
 ·rw [hl] at he;unfold Pg.iq;rw [M6 rfl];generalize h&&&(18446744073709551615-2 ^ s)=hn at *;exact zdg
namespace Pg
def aL (now t:Nat):Nat:=min ((Lib.bitLen ((t ^^^ now)|||1)-1) / 6) 6
def fK (now t:Nat):Nat:=t / 2 ^ (aL now t*6) % 64
end Pg
theorem vB (x:Nat):x|||1≠0:=fun h=>by
 have:(x|||1).testBit 0=true:=by rw [R5];simp
 rw [h] at this;simp at this
theorem oO (w:World) (mb o now t:Nat) (hnow:now<18446744073709551616) (ht:t<18446744073709551616) (hc:w.cell? ⟨mb,o,none⟩=some (.int .u64 now)) :
  () 157 #[.pointer (some ⟨mb,o,none⟩),.int .u64 t] w fun e w'=>e = .returned (.tuple #[.int .i64 ((Pg.aL now t:Nat):Int),.int .i64 ((Pg.fK now t:Nat):Int)])/\Below w w w':=by
 have hx:=u64_xor_nat t now ht hnow;have hxl:t ^^^ now<18446744073709551616:=by
  have:=Nat.xor_lt_two_pow (n:=64) (x:=t) (y:=now) zaa zaa;omega
 have hor:=u64_or_nat (t ^^^ now) 1 hxl zaa;have horl:(t ^^^ now)|||1<18446744073709551616:=by
  have:=NV (n:=64) (x:=t ^^^ now) (y:=1) zaa zaa;omega
 obtain ⟨d,hd⟩:∃ d,(t ^^^ now)|||1=d:=⟨_,rfl⟩;rw [hd] at hor horl;have hlen:=Eu d w horl;have hbl:1<=Lib.bitLen d/\Lib.bitLen d<=64:=by
  have hd0:d≠0:=by rw [<- hd];exact vB _
  refine ⟨?_,Lib.bitLen_le d 64 zac zaa⟩;have:=(Q9 64 d zaa hd0).1;exact this
 unfold Pg.fK Pg.aL;rw [hd];obtain ⟨L,hL⟩:∃ L,Lib.bitLen d=L+1:=⟨Lib.bitLen d-1,zaa⟩;rw [hL] at hlen hbl ⊢;rw [RB];have hL1:((L+1:Nat):Int)-1=(L:Int):=zaa;have hLl:L<64:=zaa;clear hd hL hbl;obtain ⟨K,hK⟩:∃ K,min (L / 6) 6=K:=⟨_,rfl⟩;rw [hK];have hK6:K<=6:=zaa;have hmin:∀ V:World,(Builtin.min_ #[3,3] 3 #[.int .i64 ((L:Int) / 6),(6:Int)]).run prog V = .ok (.int .i64 (K:Int)) V:=fun V=>by
  have:(if (6:Int)<(L:Int) / 6 then (6:Int) else (L:Int) / 6)=(K:Int):=by split <;> omega
  rw [<- this];rfl
 have hw6:IntKind.i64.wrap ((K:Int)*6)=((K*6:Nat):Int):=by rw [IntKind.wrap_i64];omega
 have hsm:¬ (((K*6:Nat):Int)<0):=zaa;have hv:wrap64 (((t:Int) / 2 ^ (K*6)).tmod 64)=((t / 2 ^ (K*6) % 64:Nat):Int):=by
  rw [jg,<- Int.natCast_ediv];generalize t / 2 ^ (K*6)=q;rw [Int.tmod_eq_emod_of_nonneg zaa];unfold wrap64;omega
 have hor:bits BinOp.or IntKind.u64 ((t ^^^ now:Nat):Int) 1=(d:Int):=hor;generalize t ^^^ now=tx at *;go_enter func157,ntmps157
 go_upto_region 2 with (go_at_call 196;refine hlen.mono ?_;rintro e w9 ⟨rfl,hw9⟩;rw [hw9];clear hw9 w9)
 clear hx hor horl hlen hc
 go_upto_region 3 with fail
 go_quiet (fail)
 go_wp2;go_ret2;refine ⟨?_,Pa (MY _ _) _⟩;show Ending.returned (Value.tuple #[.int .i64 (K:Int),.int .i64 (wrap64 (((t:Int) / 2 ^ (K*6)).tmod 64))])=_;rw [hv]
theorem rP (k:Int) (w:World):() 98 #[(k:Int)] w fun e w'=>e = .returned (.bool (decide (k=3)||decide (k=4)))/\w'=w:=by
 by_cases h3:k=3
 ·subst h3;exact zeU
 ·by_cases h4:k=4
  ·subst h4;exact zeU
  ·go_enter func98,ntmps98;go_wp2;go_ret;exact ⟨by simp [h3,h4],rfl⟩
theorem Mo.cells {P:Nat->Prop} {a b:World} (h:Mo P a b) (g:Nat):∀ (o:Nat) (vs:List Value),P g->Mo P a (b.setCells g o vs):=by
 intro o vs
 induction vs generalizing o b with
 | nil=>intro _;exact h
 | cons v vs ih=>intro hp;exact ih (h.set ⟨g,o,none⟩ v hp) (o+1) hp
namespace Pg
structure MS where
 kind:Int
 name:ByteArray
 depth:Int
 owner:Int
 vp:Ref.Sl
 ve:Ref.Sl
 vl:Ref.Sl
 vm:Ref.Sl
def MS.arr (x:MS):Array Value:=#[(x.kind:Int),x.name,(x.depth:Int),(x.owner:Int),.slice x.vp.a x.vp.n x.vp.c,.slice x.ve.a x.ve.n x.ve.c,.slice x.vl.a x.vl.n x.vl.c,.slice x.vm.a x.vm.n x.vm.c]
def qG:ByteArray:=⟨#[100,111,110,101,46]⟩
def EC (x:MS) (ar:Nat):PS:={ kind:=x.kind,name:=x.name,done:=qG++x.name,owner:=x.owner,parts:=0,inside:=0,around:=ar,wth:=0,enter:=x.ve,leave:=x.vl }
def isH (k:Int):Bool:=decide (k=3)||decide (k=4)
def mC (ps:List PS) (i:Nat) (x:MS):List PS:=if x.owner == -1 then ps.set i (EC x 0) else
 match ps[x.owner.toNat]? with
 | none=>ps
 | some q=>(if isH x.kind then ps else ps.set x.owner.toNat { q with parts:=q.parts|||2 ^ i }).set i (EC x (q.around|||2 ^ x.owner.toNat))
def qY (fin i:Nat) (x:MS):Nat:=if x.kind == 2 then fin|||2 ^ i else fin
def di (W:World) (pb b n cap:Nat) (hv:Value) (fin:Nat) (mv:Value):Prop:=W.heap[pb]?=some (.cells #[.slice b n cap,hv,.int .u32 fin,mv] 166 (0,0))
theorem bu.setRow (h:bu W pb b cap ps) (hi:i<ps.length) (p':PS):bu (W.setCells b (i*10) p'.cells) pb b cap (ps.set i p') where
 row:=by
  rw [QJ b _ _ _ _ (fun e=>absurd e h.ne),Nl];exact h.row
 at':=fun i' q hq k' v' hv=>by
  rw [World.frozen?_setCells];have hl:∀ r:PS,r.cells.length=10:=fun r=>rfl;have hk':k'<10:=by have:=(MZ.1 hv).1;rwa [hl] at this
  obtain ⟨p,hp⟩:∃ p,ps[i]?=some p:=⟨_,MU hi⟩;have hat:∀ j,j<p'.cells.length->∃ v,W.cell? ⟨b,i*10+j,none⟩=some v/\W.frozen? ⟨b,i*10+j,none⟩=false:=fun j hj=>⟨_,h.at' i p hp j _ (MU (by rw [hl] at hj ⊢;exact hj))⟩;by_cases e:i'=i
  ·subst e;rw [Nw hi] at hq;cases hq
   have hkl:k'<p'.cells.length:=by rw [hl];exact hk'
   have:=World.cell?_setCells_in b p'.cells (i'*10) W (fun j hj=>by obtain ⟨v,hv,_⟩:=hat j hj;rw [hv];rfl) k' hkl;obtain ⟨_,_,hfz⟩:=hat k' hkl;refine ⟨?_,hfz⟩;rw [this,<- hv,MU hkl]
  ·rw [NG (fun x=>e x.symm)] at hq;have:=h.at' i' q hq k' v' hv;refine ⟨(QJ b _ _ _ _ (fun _ _ => ?_)).trans this.1,this.2⟩;rw [hl];show i'*10+k'<i*10\/_<=i'*10+k';omega
 len:=by rw [Nl];exact h.len
 ne:=h.ne
theorem bu.Ml (h:bu W pb b cap ps) (k:Nat) (v:Value) (hk:k≠0):bu (W.setCell ⟨pb,k,none⟩ v) pb b cap ps where
 row:=(az zbD).trans h.row
 at':=fun i p hi j u hu=>by
  have:=h.at' i p hi j u hu;rw [Pr];exact ⟨(az (by intro x;injection x with x1 x2;exact h.ne x1)).trans this.1,this.2⟩
 len:=h.len
 ne:=h.ne
theorem FG (ps:List PS) (i:Nat) (x:MS):(mC ps i x).length=ps.length:=by
 unfold mC;split
 ·simp
 ·split
  ·rfl
  ·split <;> simp
theorem bu.MN {p':PS} {k:Nat} {v:Value} (h:p'.cells=p.cells.set k v) (hk:k<10):∀ j,p'.cells[j]?=if j=k then some v else p.cells[j]?:=fun j=>by
 rw [h,Pb];by_cases e:k=j
 ·subst e;rw [M6 rfl,M6 rfl,M6 (by simpa [PS.cells] using hk)]
 ·rw [M4 e,M4 (fun x=>e x.symm)]
end Pg
theorem dX:(Tryz.prog.info? 161).map (·.size)=some 10:=zab
theorem wB (w:World) (pb b cap:Nat) (ps:List Pg.PS) (i:Nat) (x:Pg.MS) (hv mv:Value) (fin:Nat) (hB:Pg.di w pb b ps.length cap hv fin mv) (hP:Pg.bu w pb b cap ps) (hsm:Pg.Sms ps) (hfl:fin<4294967296) (hil:i<ps.length) (hnm:x.name.size<=1000000) (how:x.owner = -1\/∃ o:Nat,x.owner=o/\o<i) (hb:b<w.heap.size) :
  () 61 #[pb,(i:Int),.agg x.arr] w fun e w'=>e = .returned (.tuple #[])/\Pg.di w' pb b ps.length cap hv (Pg.qY fin i x) mv/\Pg.bu w' pb b cap (Pg.mC ps i x)/\Mo (fun k=>k=b\/k=pb) w w':=by
 have hpb:pb<w.heap.size:=(MQ.1 hB).1;have hlen:=hP.len;have hne:=hP.ne;have hi32:i<32:=zaa;obtain ⟨t,ht⟩:∃ t,2 ^ i=t:=⟨_,rfl⟩;have htl:t<4294967296:=by rw [<- ht];exact tw hi32
 have hone:∀ V:World,() 93 #[(i:Int)] V fun e w'=>e = .returned (.int .u32 t)/\w'=V:=fun V=>by rw [<- ht];exact iz i V hi32
 obtain ⟨kind,name,depth,owner,vp,ve,vl,vm⟩:=x;have hhist:=rP kind;obtain ⟨fn,hfn⟩:∃ fn,Pg.qY fin i ⟨kind,name,depth,owner,vp,ve,vl,vm⟩=fn:=⟨_,rfl⟩;obtain ⟨pz,hpz⟩:∃ pz,Pg.mC ps i ⟨kind,name,depth,owner,vp,ve,vl,vm⟩=pz:=⟨_,rfl⟩;obtain ⟨mk,hmk⟩:∃ mk,Pg.EC ⟨kind,name,depth,owner,vp,ve,vl,vm⟩=mk:=⟨_,rfl⟩;have HF:Hid (fn=if kind == 2 then fin|||t else fin):=by rw [<- hfn,<- ht];rfl
 have HZ:Hid (Pg.mC ps i ⟨kind,name,depth,owner,vp,ve,vl,vm⟩=pz):=hpz;rw [hfn,hpz];clear hfn hpz;dsimp only at how hnm;have HOW:Hid (owner = -1\/∃ o:Nat,owner=o/\o<i):=how;have hB1:=((MY w w).alloc (MR _) (.cells #[(kind:Int),name,(depth:Int),(owner:Int),.slice vp.a vp.n vp.c,.slice ve.a ve.n ve.c,.slice vl.a vl.n vl.c,.slice vm.a vm.n vm.c] 171)).alloc zad (.cells #[(kind:Int),name,.string (⟨#[100,111,110,101,46]⟩++name),(owner:Int),.int .u32 0,.int .u32 0,.int .u32 0,.int .u32 0,.slice ve.a ve.n ve.c,.slice vl.a vl.n vl.c] 161);have s5:=eN w (.cells #[(kind:Int),name,(depth:Int),(owner:Int),.slice vp.a vp.n vp.c,.slice ve.a ve.n ve.c,.slice vl.a vl.n vl.c,.slice vm.a vm.n vm.c] 171) (.cells #[(kind:Int),name,.string (⟨#[100,111,110,101,46]⟩++name),(owner:Int),.int .u32 0,.int .u32 0,.int .u32 0,.int .u32 0,.slice ve.a ve.n ve.c,.slice vl.a vl.n vl.c] 161);have s6:=bR w (.cells #[(kind:Int),name,(depth:Int),(owner:Int),.slice vp.a vp.n vp.c,.slice ve.a ve.n ve.c,.slice vl.a vl.n vl.c,.slice vm.a vm.n vm.c] 171) (.cells #[(kind:Int),name,.string (⟨#[100,111,110,101,46]⟩++name),(owner:Int),.int .u32 0,.int .u32 0,.int .u32 0,.int .u32 0,.slice ve.a ve.n ve.c,.slice vl.a vl.n vl.c] 161);unfold Pg.MS.arr;dsimp only;clear how;go_enter func61,ntmps61
 go_upto_if 24 with (first
  | (refine aI rfl 161 (.tmp 6) (.tmp 21) rfl 161 _ _ rfl rfl dX rfl rfl ?_)
  | fail)
 obtain ⟨V0,hV⟩:∃ V,(w.alloc (.cells #[(kind:Int),name,(depth:Int),(owner:Int),.slice vp.a vp.n vp.c,.slice ve.a ve.n ve.c,.slice vl.a vl.n vl.c,.slice vm.a vm.n vm.c] 171)).alloc (.cells #[(kind:Int),name,.string (⟨#[100,111,110,101,46]⟩++name),(owner:Int),.int .u32 0,.int .u32 0,.int .u32 0,.int .u32 0,.slice ve.a ve.n ve.c,.slice vl.a vl.n vl.c] 161)=V:=⟨_,rfl⟩;rw [hV] at hB1 s5 s6 ⊢;clear hV;have s6:V0.heap[w.heap.size+1]?=some (.cells (mk 0).cells.toArray 161 (0,0)):=by rw [<- hmk];exact s6
 have hk5:V0.cell? w=some ↑(kind:Int):=by rw [M0 V0 _ _ _ _ _ s5];rfl
 have hP0:=hP.below hB1 hpb hb;have hPB0:Pg.di V0 pb b ps.length cap hv fin mv:=(hB1.block pb hpb).trans hB
 go_cut [] from 8 (fun V=>(∃ (ps1:List Pg.PS) (ar:Nat),Hid (pz=ps1.set i (mk ar))/\Pg.bu V pb b cap ps1/\ps1.length=ps.length/\V.heap[w.heap.size+1]?=some (.cells (mk ar).cells.toArray 161 (0,0)))/\Pg.di V pb b ps.length cap hv fin mv/\Mo (fun k=>k=b\/k=pb) w V/\V.cell? w=some ↑(kind:Int))
 case first =>
  rcases HOW.out with ho | ⟨o,ho,hoi⟩
  ·have hon:(owner != -1)=false:=by rw [ho];rfl
   have HZ:Hid (pz=ps.set i (mk 0)):=by unfold Hid;rw [<- HZ.out,<- hmk,ho];rfl
   clear ho;go_wp2_with fail;go_meet
   case rel=>exact ⟨⟨ps,0,HZ,hP0,rfl,s6⟩,hPB0,ay hB1,hk5⟩
  ·have hol:o<ps.length:=zaa;have ho32:o<32:=zaa;obtain ⟨q,hq⟩:∃ q,ps[o]?=some q:=⟨_,MU hol⟩;obtain ⟨tq,hto⟩:∃ t,2 ^ o=t:=⟨_,rfl⟩;have htol:tq<4294967296:=by rw [<- hto];exact tw ho32
   have honeo:∀ V:World,() 93 #[(o:Int)] V fun e w'=>e = .returned (.int .u32 tq)/\w'=V:=fun V=>by rw [<- hto];exact iz o V ho32
   have hon:(owner != -1)=true:=by rw [ho];simp
   obtain ⟨hb0,hh⟩:∃ hb0,(decide (kind=3)||decide (kind=4))=hb0:=⟨_,rfl⟩;have HSP:Hid (pz=(if hb0 then ps else ps.set o { q with parts:=q.parts|||t }).set i (mk (q.around|||tq))):=by
    unfold Hid;rw [<- HZ.out,ho];unfold Pg.mC Pg.isH;rw [<- hmk,ho,<- hh,<- hto,<- ht];simp only [Int.toNat_natCast,hq];rw [M4 zad]
   have hs3:V0.cell? ⟨w,3,none⟩=some ↑(o:Int):=by rw [M0 V0 _ _ _ _ _ s5,ho];rfl
   have s6n:(V0.setCell ⟨w.heap.size+1,6,none⟩ (.int .u32 ((q.around|||tq:Nat):Int))).heap[w.heap.size+1]?=some (.cells (mk (q.around|||tq)).cells.toArray 161 (0,0)):=by
    rw [<- hmk] at s6 ⊢;exact Nn V0 (w.heap.size+1) 6 _ _ (.int .u32 ((q.around|||tq:Nat):Int)) s6
   have hr0:=hP0.row;have hq6:=(hP0.ps hq).c6;have s66:V0.cell? ⟨w.heap.size+1,6,none⟩=some (.int .u32 0):=by rw [M0 V0 _ _ _ _ _ s6,<- hmk];rfl
   have f66:V0.frozen? ⟨w.heap.size+1,6,none⟩=false:=by simp [World.frozen?,s6]
   rw [hh] at hhist;clear ho HOW HZ hmk hh hto;go_wp2_with fail;refine No (S:=(fun V=>V.cell? pb=some (.slice b ps.length cap)/\V.cell? ⟨w,3,none⟩=some ↑(o:Int))) zab ⟨hr0,hs3⟩ (fun u0 => ?_);refine tH 0 pb rfl u0 ?_;refine tH 1 pb rfl u0 ?_;refine tH 2 pb rfl u0 ?_;refine tH 3 (.slice b ps.length cap) rfl u0 ?_;refine tH 4 (.pointer (some ⟨w,3,none⟩)) rfl u0 ?_;refine tH 5 (.int .i64 o) rfl u0 ?_;refine tH 6 (.pointer (some ⟨b,o*10,none⟩)) rfl u0 ?_;refine tH 7 (.pointer (some ⟨b,o*10,none⟩)) rfl u0 ?_;refine Nt zab ?_ _;clear u0 hr0;have hs3:V0.drew.cell? ⟨w,3,none⟩=_:=hs3;have hq6:V0.drew.cell? ⟨b,o*10+6,none⟩=_:=hq6;have s66:V0.drew.cell? ⟨w.heap.size+1,6,none⟩=_:=s66;have f66:V0.drew.frozen? ⟨w.heap.size+1,6,none⟩=_:=f66;have hk5:(V0.drew.setCell ⟨w.heap.size+1,6,none⟩ (.int .u32 ((q.around|||tq:Nat):Int))).drew.cell? w=_:=(az (w:=V0) zak).trans hk5;have hB2:Below w w (V0.drew.setCell ⟨w.heap.size+1,6,none⟩ (.int .u32 ((q.around|||tq:Nat):Int))).drew:=(hB1.drew.setCell (p:=⟨w.heap.size+1,6,none⟩) zad _).drew;have s6n:(V0.drew.setCell ⟨w.heap.size+1,6,none⟩ (.int .u32 ((q.around|||tq:Nat):Int))).drew.heap[w.heap.size+1]?=_:=s6n;have o1:=Pu _ _ (hsm o q hq).ha htol;clear s6 s5 hP0 hPB0 hB1;obtain ⟨V0,hV⟩:∃ V,V0.drew=V:=⟨_,rfl⟩;rw [hV] at hs3 hq6 s66 f66 hk5 hB2 s6n ⊢;clear hV;go_wp2_with fail;refine No (S:=(fun V=>V.cell? ⟨b,o*10+6,none⟩=some (.int .u32 q.around)/\V.cell? ⟨w,3,none⟩=some ↑(o:Int))) zab ⟨hq6,hs3⟩ (fun u0 => ?_);refine tH 0 (.pointer (some ⟨b,o*10,none⟩)) rfl u0 ?_;refine tH 1 (.pointer (some ⟨b,o*10,none⟩)) rfl u0 ?_;refine tH 2 (.pointer (some ⟨b,o*10+6,none⟩)) rfl u0 ?_;refine tH 3 (.int .u32 q.around) rfl u0 ?_;refine tH 4 (.pointer (some ⟨w,3,none⟩)) rfl u0 ?_;refine tH 5 (.int .i64 o) rfl u0 ?_;refine zH 6 rfl fun K hK => ?_;go_simp;refine (honeo _).mono ?_;rintro e w9 ⟨rfl,rfl⟩;refine hK.out _ _ u0 (fun u0 => ?_);clear hK K;refine tH 7 (.int .u32 ((q.around|||tq:Nat):Int)) rfl u0 ?_;refine tH 8 (.pointer (some ⟨w.heap.size+1,6,none⟩)) rfl u0 ?_;refine zH 9 rfl fun K hK => ?_;go_simp;refine hK.out _ _ (by
    have e:∀ (a:Addr),a≠⟨w.heap.size+1,6,none⟩->∀ v,(V0.setCell ⟨w.heap.size+1,6,none⟩ v).drew.cell? a=V0.drew.cell? a:=fun a ha v=>az (fun h=>ha h.symm)
    (try dsimp only at u0);(try dsimp only)
    rw [e _ zak,e _ zak];exact u0) (fun u0 => ?_)
   clear hK K u0;refine Nt zab ?_ _;obtain ⟨V1,hV⟩:∃ V,(V0.setCell ⟨w.heap.size+1,6,none⟩ (.int .u32 ((q.around|||tq:Nat):Int))).drew=V:=⟨_,rfl⟩;rw [hV] at hk5 hB2 s6n ⊢;clear hV hs3 hq6 s66 f66 o1 honeo;have hP1:=hP.below hB2 hpb hb;have hPB1:Pg.di V1 pb b ps.length cap hv fin mv:=(hB2.block pb hpb).trans hB;cases hb0
   ·go_wp2_with (go_at_call 98;refine (hhist _).mono ?_;rintro e w9 ⟨rfl,hw9⟩;rw [hw9];clear hw9 w9);have kq:=hP1.at' o q hq 4 _ rfl;have kqc:=kq.1;have kqf:=kq.2;have o2:=Pu _ _ (hsm o q hq).hp htl;have hP2:=hP1.set hq 4 (.int .u32 ((q.parts|||t:Nat):Int)) { q with parts:=q.parts|||t } zac (Pg.bu.MN rfl zac);have hP2:Pg.bu (V1.setCell ⟨b,o*10+4,none⟩ (.int .u32 ((q.parts|||t:Nat):Int))).drew pb b cap (ps.set o { q with parts:=q.parts|||t }):=⟨hP2.row,hP2.at',hP2.len,hP2.ne⟩;have hM:Mo (fun k=>k=b\/k=pb) w (V1.setCell ⟨b,o*10+4,none⟩ (.int .u32 ((q.parts|||t:Nat):Int))).drew:=ja ((ay hB2).set ⟨b,o*10+4,none⟩ _ (.inl rfl));have s6:(V1.setCell ⟨b,o*10+4,none⟩ (.int .u32 ((q.parts|||t:Nat):Int))).drew.heap[w.heap.size+1]?=_:=(NF V1 ⟨b,o*10+4,none⟩ _ _ zae).trans s6n;have hk5:(V1.setCell ⟨b,o*10+4,none⟩ (.int .u32 ((q.parts|||t:Nat):Int))).drew.cell? w=_:=(az zak).trans hk5;have hPB:Pg.di (V1.setCell ⟨b,o*10+4,none⟩ (.int .u32 ((q.parts|||t:Nat):Int))).drew pb b ps.length cap hv fin mv:=(NF V1 ⟨b,o*10+4,none⟩ _ _ hne).trans hPB1;refine No (S:=(fun _=>True)) zab trivial (fun u0 => ?_);refine tH 0 (.pointer (some ⟨b,o*10,none⟩)) rfl u0 ?_;refine tH 1 (.pointer (some ⟨b,o*10,none⟩)) rfl u0 ?_;refine tH 2 (.pointer (some ⟨b,o*10+4,none⟩)) rfl u0 ?_;refine tH 4 (.int .i64 i) rfl u0 ?_;refine yH [3,5] ?_;refine NJ rfl (fun K hK => ?rg3) (NJ rfl (fun K hK => ?rg4) Ou)
    case' rg3 =>
     go_simp;refine hK.out _ _ u0 (fun u0 => ?_);clear hK K;refine zH 5 rfl fun K hK => ?_;go_simp;refine (hone _).mono ?_;rintro e w9 ⟨rfl,rfl⟩;refine hK.out _ _ u0 (fun u0 => ?_);clear hK K;refine tH 6 (.int .u32 ((q.parts|||t:Nat):Int)) rfl u0 ?_;refine tH 7 (.pointer (some ⟨b,o*10,none⟩)) rfl u0 ?_;refine tH 8 (.pointer (some ⟨b,o*10+4,none⟩)) rfl u0 ?_;refine zH 9 rfl fun K hK => ?_;go_simp;refine hK.out _ _ (by
      exact trivial) (fun u0 => ?_)
     clear hK K u0;refine Nt zab ?_ _
    case' rg4 =>
     go_simp;refine (hone _).mono ?_;rintro e w9 ⟨rfl,rfl⟩;refine hK.out _ _ u0 (fun u0 => ?_);clear hK K;refine zH 3 rfl fun K hK => ?_;go_simp;refine hK.out _ _ u0 (fun u0 => ?_);clear hK K;refine tH 6 (.int .u32 ((q.parts|||t:Nat):Int)) rfl u0 ?_;refine tH 7 (.pointer (some ⟨b,o*10,none⟩)) rfl u0 ?_;refine tH 8 (.pointer (some ⟨b,o*10+4,none⟩)) rfl u0 ?_;refine zH 9 rfl fun K hK => ?_;go_simp;refine hK.out _ _ (by
      exact trivial) (fun u0 => ?_)
     clear hK K u0;refine Nt zab ?_ _
    all_goals
     go_wp2_with fail;go_meet
     case rel=>exact ⟨⟨_,_,HSP,hP2,zad,s6⟩,hPB,hM,hk5⟩
   ·go_wp2_with (go_at_call 98;refine (hhist _).mono ?_;rintro e w9 ⟨rfl,hw9⟩;rw [hw9];clear hw9 w9);go_meet
    case rel=>exact ⟨⟨_,_,HSP,hP1,rfl,s6n⟩,hPB1,ay hB2,hk5⟩
 case rest =>
  obtain ⟨⟨ps1,ar,HS,hPW,hl1,s6⟩,hPB,hM,hk5⟩:=hcut;obtain ⟨pn,hpn⟩:∃ pn,mk ar=pn:=⟨_,rfl⟩;rw [hpn] at HS s6;clear hpn hmk hB1 s5 HOW HZ hhist hB hP hP0 hPB0;have hf2c:wc.cell? ⟨pb,2,none⟩=some (.int .u32 fin):=by rw [M0 wc _ _ _ _ _ hPB];rfl
  have hf2f:wc.frozen? ⟨pb,2,none⟩=false:=by simp [World.frozen?,show wc.heap[pb]?=_ from hPB]
  go_upto_if 56 with fail
  go_cut [] from 8 (fun V=>Pg.bu V pb b cap ps1/\V.heap[w.heap.size+1]?=some (.cells pn.cells.toArray 161 (0,0))/\Pg.di V pb b ps.length cap hv fn mv/\Mo (fun k=>k=b\/k=pb) w V)
  case first =>
   obtain ⟨k2,hk2⟩:∃ k2,(kind == 2)=k2:=⟨_,rfl⟩;cases k2
   ·have hPB:Pg.di wc pb b ps.length cap hv fn mv:=by have:=HF.out;rw [M4 (by rw [hk2];decide)] at this;rw [this];exact hPB
    go_wp2_with fail;go_meet
    case rel=>exact ⟨hPW,s6,hPB,hM⟩
   ·have HF:Hid (fn=fin|||t):=by have:=HF.out;rw [M6 hk2] at this;exact this
    have o3:=Pu _ _ hfl htl;have hPB:=Nn wc pb 2 _ _ (.int .u32 ((fin|||t:Nat):Int)) hPB;have hPB:Pg.di (wc.setCell ⟨pb,2,none⟩ (.int .u32 ((fin|||t:Nat):Int))).drew pb b ps.length cap hv fn mv:=by rw [HF.out];exact hPB
    have hPW:=hPW.Ml 2 (.int .u32 ((fin|||t:Nat):Int)) zac;have hPW:Pg.bu (wc.setCell ⟨pb,2,none⟩ (.int .u32 ((fin|||t:Nat):Int))).drew pb b cap ps1:=⟨hPW.row,hPW.at',hPW.len,hPW.ne⟩;have hM:Mo (fun k=>k=b\/k=pb) w (wc.setCell ⟨pb,2,none⟩ (.int .u32 ((fin|||t:Nat):Int))).drew:=ja (hM.set ⟨pb,2,none⟩ _ (.inr rfl));have s6:(wc.setCell ⟨pb,2,none⟩ (.int .u32 ((fin|||t:Nat):Int))).drew.heap[w.heap.size+1]?=_:=(NF wc ⟨pb,2,none⟩ _ _ zae).trans s6;go_wp2_with fail;refine No (S:=(fun _=>True)) zab trivial (fun u0 => ?_);refine tH 0 pb rfl u0 ?_;refine tH 1 pb rfl u0 ?_;refine tH 2 (.pointer (some ⟨pb,2,none⟩)) rfl u0 ?_;refine tH 4 (.int .i64 i) rfl u0 ?_;refine yH [3,5] ?_;refine NJ rfl (fun K hK => ?rg9) (NJ rfl (fun K hK => ?rg10) Ou)
    case' rg9 =>
     go_simp;refine hK.out _ _ u0 (fun u0 => ?_);clear hK K;refine zH 5 rfl fun K hK => ?_;go_simp;refine (hone _).mono ?_;rintro e w9 ⟨rfl,rfl⟩;refine hK.out _ _ u0 (fun u0 => ?_);clear hK K;refine tH 6 (.int .u32 ((fin|||t:Nat):Int)) rfl u0 ?_;refine tH 7 pb rfl u0 ?_;refine tH 8 (.pointer (some ⟨pb,2,none⟩)) rfl u0 ?_;refine zH 9 rfl fun K hK => ?_;go_simp;refine hK.out _ _ (by
      exact trivial) (fun u0 => ?_)
     clear hK K u0;refine Nt zab ?_ _
    case' rg10 =>
     go_simp;refine (hone _).mono ?_;rintro e w9 ⟨rfl,rfl⟩;refine hK.out _ _ u0 (fun u0 => ?_);clear hK K;refine zH 3 rfl fun K hK => ?_;go_simp;refine hK.out _ _ u0 (fun u0 => ?_);clear hK K;refine tH 6 (.int .u32 ((fin|||t:Nat):Int)) rfl u0 ?_;refine tH 7 pb rfl u0 ?_;refine tH 8 (.pointer (some ⟨pb,2,none⟩)) rfl u0 ?_;refine zH 9 rfl fun K hK => ?_;go_simp;refine hK.out _ _ (by
      exact trivial) (fun u0 => ?_)
     clear hK K u0;refine Nt zab ?_ _
    all_goals
     go_wp2_with fail;go_meet
     case rel=>exact ⟨hPW,s6,hPB,hM⟩
  case rest =>
   clear hPW s6 hPB hM hk5 hf2c hf2f HF;obtain ⟨hPW,s6,hPB,hM⟩:=hcut;have hr9:=hPW.row;rw [hl1] at hr9;have hil1:i<ps1.length:=zaa;have hrg:wc.drew.rangeAt (w.heap.size+1) 0 pn.cells:=by
    have:=kC (w:=wc) s6;simpa using this
   obtain ⟨p1,hp1⟩:∃ p,ps1[i]?=some p:=⟨_,MU hil1⟩;have hth:wc.drew.there b (i*10) pn.cells.toArray.size:=fun j hj=>by
    have hj:j<10:=by simpa [Pg.PS.cells] using hj
    have:=hPW.at' i p1 hp1 j _ (MU (by simpa [Pg.PS.cells] using hj));exact ⟨by rw [show wc.drew.cell? ⟨b,i*10+j,none⟩=_ from this.1];rfl,this.2⟩
   have hsz9:(Tryz.prog.info? 161).map (·.size)=some pn.cells.toArray.size:=dX;have hone9:pn.cells.toArray.all (·.oneCell')=true:=zbz;have hlen9:pn.cells.length=10:=rfl;have hrun:(storeCells ⟨b,i*10,none⟩ pn.cells).run prog wc.drew = .ok () (wc.drew.setCells b (i*10) pn.cells) :=
    run_storeCells_cells (P:=prog) b (i*10) pn.cells 0 wc.drew (fun j hj=>(hth j (by simpa using hj)).1) (fun j hj=>(hth j (by simpa using hj)).2) (fun v hv=>P6.1 hone9 v (by simpa using hv))
   have hP9:=(show Pg.bu wc.drew pb b cap ps1 from ⟨hPW.row,hPW.at',hPW.len,hPW.ne⟩).setRow hil1 pn;rw [<- HS.out] at hP9;have hM9:Mo (fun k=>k=b\/k=pb) w (wc.drew.setCells b (i*10) pn.cells):=(ja hM).cells b (i*10) pn.cells (.inl rfl);have hB9:Pg.di (wc.drew.setCells b (i*10) pn.cells) pb b ps.length cap hv fn mv:=((Mo.refl (· = b) wc.drew).cells b (i*10) pn.cells rfl |>.block pb (by show pb<wc.heap.size;have:=hM.size;omega) hne).trans hPB;go_wp2_with fail;refine No (S:=(fun V=>V.cell? pb=some (.slice b ps.length cap)/\V.rangeAt (w.heap.size+1) 0 pn.cells)) zab ⟨hr9,hrg⟩ (fun u0 => ?_);refine tH 0 pb rfl u0 ?_;refine tH 1 pb rfl u0 ?_;refine tH 2 pb rfl u0 ?_;refine tH 3 (.slice b ps.length cap) rfl u0 ?_;refine tH 4 (.int .i64 i) rfl u0 ?_;refine RI (i:=5) (v:=(.agg pn.cells.toArray)) rfl zab zab zab (fun _ _ _ h=>h) (yieldsIf_load_mid rfl 161 (.tmp 6) rfl (w.heap.size+1) 0 rfl pn.cells _ (fun w hSw=>hSw.2) underlying161 rfl dX) u0 ?_;refine tH 6 (.pointer (some ⟨b,i*10,none⟩)) rfl u0 ?_;refine zH 7 rfl fun K hK => ?_;go_simp;refine hK.out _ _ (by
    refine ⟨(QJ b pn.cells (i*10) wc.drew _ (fun e=>absurd e hne)).trans u0.1,World.rangeAt_setCells_apart u0.2 b (i*10) pn.cells (.inl zaa)⟩) (fun u0 => ?_)
   clear hK K u0;refine Nt zab ?_ _;go_wp2;go_end0;exact ⟨rfl,hB9,hP9,hM9⟩
theorem xd (w:World) (c s pt:Nat) (hs:s<4294967296) (hp:pt<4294967296) (hc:w.cell? ⟨c,4,none⟩=some (.int .u32 pt)) :
  () 99 #[.int .u32 s,c] w fun e w'=>e = .returned (.int .u32 ((s&&&pt:Nat):Int))/\w'=w:=by
 have ha:=Qg _ _ hs hp;go_enter func99,ntmps99;go_wp2;go_ret;exact ⟨rfl,rfl⟩
theorem zE (w:World) (c all:Nat) (kv:Value) (hc:w.cell? c=some (.int .u32 all)) :
  () 156 #[kv,c] w fun e w'=>e = .returned (.int .u32 all)/\w'=w:=by
 go_enter func156,ntmps156;go_wp2;go_ret;exact ⟨rfl,rfl⟩
theorem pk (w:World) (kv:Value):() 103 #[kv] w fun e w'=>e = .returned (.int .u32 0)/\w'=w:=by
 go_enter func103,ntmps103;exact zfp
theorem Pg.Gv (ps:List Pg.PS) (h:s<4294967296):Pg.inn ps s<4294967296:=Pg.wW ps _ _ h
theorem wZ (w:World) (pb b cap:Nat) (ps:List Pg.PS) (c d s ins:Nat) (hs:s<4294967296) (hi:ins<4294967296) (hin:∀ i,i∈Pg.els s->i<ps.length) (hP:Pg.bZ w pb b cap ps) (hpb:pb<w.heap.size) (hb:b<w.heap.size)
  (hg:1<w.heap.size) (hT:TabAt 1 Lib.deBruijn32tab w) (hd:Boxed w d 73 pb) (hcl:c<w.heap.size) (hc:w.cell? ⟨c,5,none⟩=some (.int .u32 ins)) :
  () 100 #[.int .u32 s,d,c] w fun e w'=>e = .returned (.int .u32 ((Pg.inn ps s&&&ins:Nat):Int))/\Below w w w':=by
 have hBd:=(MY w w).drew;have hinn:=mK w.drew pb b cap ps s hs hin (hP.below hBd hpb hb) hpb hb hg hT;have hrl:=Pg.Gv ps hs;obtain ⟨r,hr⟩:∃ r,Pg.inn ps s=r:=⟨_,rfl⟩;rw [hr] at hinn hrl ⊢;have ha:=Qg _ _ hrl hi;clear hr;go_enter func100,ntmps100;go_wp2;refine No (S:=(fun V=>V.cell? d=some ↑pb/\V.cell? ⟨c,5,none⟩=some (.int .u32 ins))) zab ⟨hd.cell,hc⟩ (fun u0 => ?_);refine tH 0 pb rfl u0 ?_;refine tH 1 (.int .u32 s) rfl u0 ?_;refine tH 3 (.pointer (some ⟨c,5,none⟩)) rfl u0 ?_;refine tH 4 (.int .u32 ins) rfl u0 ?_;refine zH 2 rfl fun K hK => ?_;go_simp;refine hinn.mono ?_;rintro e w9 ⟨rfl,hB9⟩;refine hK.out _ _ ⟨(hB9.cell (p:=⟨d,0,none⟩) hd.lt).trans u0.1,(hB9.cell (p:=⟨c,5,none⟩) hcl).trans u0.2⟩ (fun u0 => ?_);clear hK K;refine tH 5 (.int .u32 ((r&&&ins:Nat):Int)) rfl u0 ?_;refine tH 6 (.int .u32 ((r&&&ins:Nat):Int)) rfl u0 ?_;refine Nt zab ?_ _;go_wp2;go_ret;exact ⟨rfl,hBd.trans hB9⟩
namespace Pg
inductive En where
 | nil
 | all (a:Nat)
 | hist (path dest:Nat)
def tJ (W:World) (pb b:Nat):En->Value->Prop
 | .nil,v=>v = .func (.func 103) #[] #[]
 | .all a,v=>∃ c,v = .func (.func 156) #[] #[.pointer (some ⟨c,0,none⟩)]/\Boxed W c 75 (.int .u32 a)
 | .hist p t,v=>∃ c3 c7 c6 c5,v = .func (.func 153) #[] #[.pointer (some ⟨c3,0,none⟩),.pointer (some ⟨c7,0,none⟩),.pointer (some ⟨c6,0,none⟩),.pointer (some ⟨c5,0,none⟩)]/\Boxed W c3 73 (.pointer (some ⟨pb,0,none⟩))/\Boxed W c7 75 (.int .u32 p)/\Boxed W c6 231 (.pointer (some ⟨b,t*10,none⟩))/\Boxed W c5 3 (.int .i64 t)
def ue (ps:List PS) (i:Nat):Nat:=match ps[i]? with | some p=>p.owner.toNat | none=>0
def enters (ps:List PS) (kept:Nat->Nat):En->Nat
 | .nil=>0
 | .all a=>a
 | .hist p t=>complete ps (p|||dO ps (ue ps t) (kept t))
theorem tJ.ao {W W':World} {pb b:Nat} {e:En} {v:Value} (h:tJ W pb b e v) (hk:∀ (B:Nat) (t:TypeId) (u:Value),(t=75\/t=73\/t=231\/t=3)->Boxed W B t u->Boxed W' B t u):tJ W' pb b e v:=by
 cases e with
 | nil=>exact h
 | all a=>obtain ⟨c,h1,h2⟩:=h;exact ⟨c,h1,hk _ _ _ zad h2⟩
 | hist p t=>obtain ⟨c3,c7,c6,c5,h1,h2,h3,h4,h5⟩:=h;exact ⟨c3,c7,c6,c5,h1,hk _ _ _ zad h2,hk _ _ _ zad h3,hk _ _ _ zad h4,hk _ _ _ zad h5⟩
end Pg
theorem xj (w:World) (pb b cap:Nat) (ps:List Pg.PS) (c3 c7 c6 c5 path to_ ow kb ko k:Nat) (pt po:Pg.PS) (hpt:ps[to_]?=some pt) (hpo:ps[ow]?=some po) (hown:pt.owner=ow) (hpa:path<4294967296) (hkl:k<4294967296) (hin:∀ i,i∈Pg.els k->i<ps.length) (hin2:∀ i,i∈Pg.els (path|||Pg.dO ps ow k)->i<ps.length) (hpts:∀ (i:Nat) (p:Pg.PS),ps[i]?=some p->∀ j∈Pg.els p.parts,j<ps.length) (hP:Pg.bZ w pb b cap ps) (hpb:pb<w.heap.size) (hb0:b<w.heap.size)
  (hg:1<w.heap.size) (hT:TabAt 1 Lib.deBruijn32tab w) (h3:Boxed w c3 73 pb) (h7:Boxed w c7 75 (.int .u32 path)) (h6:Boxed w c6 231 (.pointer (some ⟨b,to_*10,none⟩))) (h5:Boxed w c5 3 (.int .i64 to_)) (hkb:kb<w.heap.size) (hk:w.cell? ⟨kb,ko+to_,none⟩=some (.int .u32 k)) :
  () 153 #[.pointer (some ⟨kb,ko,none⟩),c3,c7,c6,c5] w fun e w'=>e = .returned (.int .u32 (Pg.complete ps (path|||Pg.dO ps ow k)))/\Below w w w':=by
 have htl:to_<ps.length:=(MZ.1 hpt).1;have hlen:=hP.len;have h24:¬ (24:Int)<=(to_:Int):=zaa;have hot:w.cell? ⟨b,to_*10+3,none⟩=some ↑(ow:Int):=by rw [<- hown];exact (hP.at' to_ pt hpt).c3
 have hrl:=Pg.EX hP.sm ow k;have hrec:∀ V,Below w w V->() 155 #[pb,(ow:Int),.int .u32 k] V fun e w'=>e = .returned (.int .u32 (Pg.dO ps ow k))/\Below V.heap.size V w':=fun V hV=>by
  have:=hV.size;exact Cj V pb b cap ps ow po hpo k hkl hin (hP.below hV hpb hb0) zaa zaa zaa (Pg.KpT.of hV hg hT)
 have hcom:∀ V,Below w w V->() 154 #[pb,.int .u32 ((path|||Pg.dO ps ow k:Nat):Int)] V fun e w'=>e = .returned (.int .u32 (Pg.complete ps (path|||Pg.dO ps ow k)))/\Below V.heap.size V w':=fun V hV=>by
  have:=hV.size;exact nN V pb b cap ps _ (Pg.qb hpa hrl) hin2 hpts (hP.below hV hpb hb0) zaa zaa zaa (Pg.KpT.of hV hg hT)
 obtain ⟨z,hz⟩:∃ z,Pg.complete ps (path|||Pg.dO ps ow k)=z:=⟨_,rfl⟩;obtain ⟨r,hr⟩:∃ r,Pg.dO ps ow k=r:=⟨_,rfl⟩;rw [hr] at hz;rw [hr] at hrl hrec hcom ⊢;rw [hz] at hcom ⊢;have ho:=Pu _ _ hpa hrl;clear hr hz;go_enter func153,ntmps153;go_wp2;refine No (S:=(fun V=>V.cell? c3=some ↑pb/\V.cell? c7=some (.int .u32 path)/\V.cell? c6=some (.pointer (some ⟨b,to_*10,none⟩))/\V.cell? c5=some ↑(to_:Int)/\V.cell? ⟨b,to_*10+3,none⟩=some ↑(ow:Int)/\V.cell? ⟨kb,ko+to_,none⟩=some (.int .u32 k))) zab ⟨h3.cell,h7.cell,h6.cell,h5.cell,hot,hk⟩ (fun u0 => ?_);refine tH 0 pb rfl u0 ?_;refine tH 1 (.int .u32 path) rfl u0 ?_;refine tH 2 pb rfl u0 ?_;refine tH 3 (.pointer (some ⟨b,to_*10,none⟩)) rfl u0 ?_;refine tH 4 (.pointer (some ⟨b,to_*10,none⟩)) rfl u0 ?_;refine tH 5 (.pointer (some ⟨b,to_*10+3,none⟩)) rfl u0 ?_;refine tH 6 (.int .i64 ow) rfl u0 ?_;refine tH 7 (.pointer (some ⟨kb,ko,none⟩)) rfl u0 ?_;refine tH 8 (.int .i64 to_) rfl u0 ?_;refine tH 9 (.pointer (some ⟨kb,ko,none⟩)) rfl u0 ?_;refine tH 10 (.pointer (some ⟨kb,ko+to_,none⟩)) rfl u0 ?_;refine tH 11 (.int .u32 k) rfl u0 ?_;refine zH 12 rfl fun K hK => ?_;go_simp;refine (hrec w.drew (MY _ w).drew).mono ?_;rintro e w9 ⟨rfl,hB9⟩;refine hK.out _ _ ((fun hb=>⟨(hb.cell (p:=⟨c3,0,none⟩) h3.lt).trans u0.1,(hb.cell (p:=⟨c7,0,none⟩) h7.lt).trans u0.2.1,(hb.cell (p:=⟨c6,0,none⟩) h6.lt).trans u0.2.2.1,(hb.cell (p:=⟨c5,0,none⟩) h5.lt).trans u0.2.2.2.1,(hb.cell (p:=⟨b,to_*10+3,none⟩) hb0).trans u0.2.2.2.2.1,(hb.cell (p:=⟨kb,ko+to_,none⟩) hkb).trans u0.2.2.2.2.2⟩) hB9) (fun u0 => ?_);clear hK K;refine tH 13 (.int .u32 ((path|||r:Nat):Int)) rfl u0 ?_;refine zH 14 rfl fun K hK => ?_;go_simp;have hB8:Below w w w9:=(MY _ w).drew.trans hB9;have hl9:∀ x,x<w.heap.size->x<w9.heap.size:=fun x hx=>Nq hx hB8.size;refine (hcom w9 hB8).mono ?_;rintro e w8 ⟨rfl,hB10⟩;refine hK.out _ _ ((fun hb=>⟨(hb.cell (p:=⟨c3,0,none⟩) h3.lt).trans u0.1,(hb.cell (p:=⟨c7,0,none⟩) h7.lt).trans u0.2.1,(hb.cell (p:=⟨c6,0,none⟩) h6.lt).trans u0.2.2.1,(hb.cell (p:=⟨c5,0,none⟩) h5.lt).trans u0.2.2.2.1,(hb.cell (p:=⟨b,to_*10+3,none⟩) hb0).trans u0.2.2.2.2.1,(hb.cell (p:=⟨kb,ko+to_,none⟩) hkb).trans u0.2.2.2.2.2⟩) (hB10.mono hB8.size)) (fun u0 => ?_);clear hK K;refine tH 15 (.int .u32 z) rfl u0 ?_;refine Nt zab ?_ _;go_wp2;go_ret;exact ⟨rfl,hB8.trans (hB10.mono hB8.size)⟩
theorem oJ {P:Program} {w:World} {a:Addr} {u:Value} (hc:w.cell? a=some u) (hf:w.frozen? a=false) (f:Fn) (x y:Array Value):(store a (.func f x y)).run P w = .ok () (w.setCell a (.func f x y)):=by
 rw [RV P w _ _ _ rfl];simp [hc,hf]
namespace Pg
def ie (ps:List PS) (own dest:Nat):En:=match ps[dest]? with
 | none => .nil
 | some p=>if isH p.kind then .hist (p.around&&&dom ps own dest) dest else .all (complete ps ((p.around&&&dom ps own dest)|||p.wth))
theorem Jz (h:Sms ps) (i:Nat):jn ps i<4294967296:=by
 unfold jn;split
 ·rename_i p hp;exact (h i p hp).hi
 ·decide
theorem La (h:Sms ps) (hl:ps.length<=24) (i j:Nat):dom ps i j<4294967296:=by
 unfold dom;split
 ·exact Jz h _
 ·have:2 ^ ps.length<=2 ^ 24:=OM zac hl;omega
theorem tK.mo (h:tK W b i p) (hm:Mo P W W') (hb:b<W.heap.size) (hn:¬ P b):tK W' b i p where
 c0:=(hm.cell (p:=⟨b,_,none⟩) hb hn).trans h.c0
 c1:=(hm.cell (p:=⟨b,_,none⟩) hb hn).trans h.c1
 c2:=(hm.cell (p:=⟨b,_,none⟩) hb hn).trans h.c2
 c3:=(hm.cell (p:=⟨b,_,none⟩) hb hn).trans h.c3
 c4:=(hm.cell (p:=⟨b,_,none⟩) hb hn).trans h.c4
 c5:=(hm.cell (p:=⟨b,_,none⟩) hb hn).trans h.c5
 c6:=(hm.cell (p:=⟨b,_,none⟩) hb hn).trans h.c6
 c7:=(hm.cell (p:=⟨b,_,none⟩) hb hn).trans h.c7
 c8:=(hm.cell (p:=⟨b,_,none⟩) hb hn).trans h.c8
 c9:=(hm.cell (p:=⟨b,_,none⟩) hb hn).trans h.c9
theorem bZ.mo (h:bZ W pb b cap ps) (hm:Mo P W W') (h1:pb<W.heap.size) (h2:b<W.heap.size) (n1:¬ P pb) (n2:¬ P b):bZ W' pb b cap ps where
 row:=(hm.cell (p:=⟨pb,0,none⟩) h1 n1).trans h.row
 at':=fun i p hi=>(h.at' i p hi).mo hm h2 n2
 sm:=h.sm
 len:=h.len
end Pg
theorem GN (w:World) (pb b cap:Nat) (ps:List Pg.PS) (own dest mvb:Nat) (p pd:Pg.PS) (lv:Nat) (av fv:Value) (hpo:ps[own]?=some p) (hpd:ps[dest]?=some pd) (hin:∀ i,i∈Pg.els (p.around&&&pd.around)->i<ps.length) (hin2:∀ i,i∈Pg.els ((pd.around&&&Pg.dom ps own dest)|||pd.wth)->i<ps.length) (hpts:∀ (i:Nat) (p:Pg.PS),ps[i]?=some p->∀ j∈Pg.els p.parts,j<ps.length)
  (hP:Pg.bZ w pb b cap ps) (hpb:pb<w.heap.size) (hb:b<w.heap.size) (n1:pb≠mvb) (n2:b≠mvb) (hg:1<w.heap.size) (hgm:1≠mvb) (hT:TabAt 1 Lib.deBruijn32tab w)
  (hmv:w.heap[mvb]?=some (.cells #[(own:Int),.int .u32 lv,av,fv] 245 (0,0))) :
  () 104 #[pb,mvb,(dest:Int)] w fun e w'=>e = .returned (.tuple #[])/\Mo (· = mvb) w w'/\∃ fv',w'.heap[mvb]?=some (.cells #[(own:Int),.int .u32 (Pg.dom ps own dest),av,fv'] 245 (0,0))/\Pg.tJ w' pb b (Pg.ie ps own dest) fv':=by
 have hmvl0:mvb<w.heap.size:=(MQ.1 hmv).1;have hdl:dest<ps.length:=(MZ.1 hpd).1;have hlen:=hP.len;have hdml:=Pg.La hP.sm hlen own dest;have hdom:∀ V,Below w w V->() 152 #[pb,(own:Int),(dest:Int)] V fun e w'=>e = .returned (.int .u32 (Pg.dom ps own dest))/\Below V.heap.size V w':=fun V hV=>by
  have:=hV.size;exact Nz.1 (D5 3 zaa V pb b cap ps own dest p pd hpo hpd hin (hP.below hV hpb hb) zaa zaa)
 have hcom:∀ V,Mo (· = mvb) w V->() 154 #[pb,.int .u32 (((pd.around&&&Pg.dom ps own dest)|||pd.wth:Nat):Int)] V fun e w'=>e = .returned (.int .u32 (Pg.complete ps ((pd.around&&&Pg.dom ps own dest)|||pd.wth)))/\Below V.heap.size V w':=fun V hV=>by
  have:=hV.size;exact nN V pb b cap ps _ (Pg.qb (Pg.j6 (hP.sm dest pd hpd).ha) (hP.sm dest pd hpd).hw) hin2 hpts (hP.mo hV hpb hb n1 n2) zaa zaa zaa (hV.kpT hg hgm hT)
 have hle:Pg.ie ps own dest=if Pg.isH pd.kind then .hist (pd.around&&&Pg.dom ps own dest) dest else .all (Pg.complete ps ((pd.around&&&Pg.dom ps own dest)|||pd.wth)):=by unfold Pg.ie;rw [hpd]
 obtain ⟨en,hen⟩:∃ en,Pg.ie ps own dest=en:=⟨_,rfl⟩;rw [hen] at hle ⊢;obtain ⟨dm,hdm⟩:∃ dm,Pg.dom ps own dest=dm:=⟨_,rfl⟩;rw [hdm] at hdml hdom hcom hle ⊢;have HLE:Hid _:=hle;have hhist:=rP pd.kind;have a1:=Qg _ _ (hP.sm dest pd hpd).ha hdml;have a2:=Pu _ _ (Pg.j6 (b:=dm) (hP.sm dest pd hpd).ha) (hP.sm dest pd hpd).hw;clear hle hen hdm hin hin2;go_enter func104,ntmps104;go_wp2_with fail;have c3:=(NA w 73 pb).alloc (.cells #[(dest:Int)] 3);have c5:=NA (w.alloc (.cells #[pb] 73)) 3 (.int .i64 dest);simp only [World.size_alloc] at c5;have hB1:=((MY w w).alloc (MR _) (.cells #[pb] 73)).alloc zad (.cells #[(dest:Int)] 3);obtain ⟨W1,hW1⟩:∃ W,(w.alloc (.cells #[pb] 73)).alloc (.cells #[(dest:Int)] 3)=W:=⟨_,rfl⟩;rw [hW1] at c3 c5 hB1 ⊢;clear hW1;have hmv1:=(hB1.block mvb hmvl0).trans hmv;have hmvl:mvb<W1.heap.size:=(MQ.1 hmv1).1;have hm0:W1.cell? mvb=some ↑(own:Int):=by rw [M0 W1 _ _ _ _ _ hmv1];rfl
 have hm1:W1.drew.cell? ⟨mvb,1,none⟩=some (.int .u32 lv):=by show W1.cell? _=_;rw [M0 W1 _ _ _ _ _ hmv1];rfl
 have hf1:W1.drew.frozen? ⟨mvb,1,none⟩=false:=by show W1.frozen? _=_;simp [World.frozen?,hmv1]
 have hdom:∀ V,Below W1 W1 V->_:=fun V hV=>hdom V (hB1.trans (hV.mono hB1.size));refine No (S:=(fun V=>V.cell? w=some ↑pb/\V.cell? ⟨w.heap.size+1,0,none⟩=some ↑(dest:Int)/\V.cell? mvb=some ↑(own:Int))) zab ⟨c3.cell,c5.cell,hm0⟩ (fun u0 => ?_);refine tH 0 mvb rfl u0 ?_;refine tH 1 pb rfl u0 ?_;refine tH 2 mvb rfl u0 ?_;refine tH 3 mvb rfl u0 ?_;refine tH 4 mvb rfl u0 ?_;refine tH 5 (.int .i64 own) rfl u0 ?_;refine tH 6 (.int .i64 dest) rfl u0 ?_;refine zH 7 rfl fun K hK => ?_;go_simp;refine (hdom _ (MY _ W1).drew).mono ?_;rintro e w9 ⟨rfl,hB9⟩;refine hK.out _ _ ⟨((hB9).cell (p:=⟨w,0,none⟩) c3.lt).trans u0.1,((hB9).cell (p:=⟨w.heap.size+1,0,none⟩) c5.lt).trans u0.2.1,((hB9).cell (p:=⟨mvb,0,none⟩) hmvl).trans u0.2.2⟩ (fun u0 => ?_);clear hK K;have hm1:w9.cell? ⟨mvb,1,none⟩=_:=(hB9.cell (p:=⟨mvb,1,none⟩) hmvl).trans hm1;have hf1:w9.frozen? ⟨mvb,1,none⟩=_:=(hB9.frozen (p:=⟨mvb,1,none⟩) hmvl).trans hf1;refine tH 8 mvb rfl u0 ?_;refine tH 9 (.pointer (some ⟨mvb,1,none⟩)) rfl u0 ?_;refine zH 10 rfl fun K hK => ?_;go_simp;refine hK.out _ _ (by
  have e:∀ (a:Addr),a≠⟨mvb,1,none⟩->∀ v,(w9.setCell ⟨mvb,1,none⟩ v).cell? a=w9.cell? a:=fun a ha v=>az (fun h=>ha h.symm)
  (try dsimp only at u0);(try dsimp only)
  rw [e _ zak,e _ zak,e _ zak];exact u0) (fun u0 => ?_)
 clear hK K u0;refine Nt zab ?_ _;have hB9:Below W1 W1 w9:=(MY _ W1).drew.trans hB9;have hBw9:Below w w w9:=hB1.trans (hB9.mono hB1.size);have hM2:Mo (· = mvb) w (w9.setCell ⟨mvb,1,none⟩ (.int .u32 dm)):=(ay hBw9).set ⟨mvb,1,none⟩ _ rfl;have hmv2:=Nn w9 mvb 1 _ _ (.int .u32 dm) ((hB9.block mvb hmvl).trans hmv1);have hmv2:(w9.setCell ⟨mvb,1,none⟩ (.int .u32 dm)).heap[mvb]?=some (.cells #[(own:Int),.int .u32 dm,av,fv] 245 (0,0)):=hmv2;have c3:=bm (aB c3 hB9 c3.lt) (p:=⟨mvb,1,none⟩) zae (.int .u32 dm);have c5:=bm (aB c5 hB9 c5.lt) (p:=⟨mvb,1,none⟩) zae (.int .u32 dm);obtain ⟨W2,hW2⟩:∃ W,w9.setCell ⟨mvb,1,none⟩ (.int .u32 dm)=W:=⟨_,rfl⟩;rw [hW2] at hM2 hmv2 c3 c5 ⊢;clear hW2 u0 hm0 hm1 hf1 hBw9 hB9 hB1 hmv1 hdom hmvl;have hP2:=hP.mo hM2 hpb hb n1 n2;have hs2:=hM2.size;go_wp2_with fail;have hkS:∀ v:Value,(fun V=>V.cell? w=some ↑pb/\V.cell? pb=some (.slice b ps.length cap)/\V.cell? ⟨w.heap.size+1,0,none⟩=some ↑(dest:Int)) ((W2.alloc (.cells #[v] 231)).drew):=fun v=>by
  have hBa:Below W2 W2 (W2.alloc (.cells #[v] 231)).drew:=((MY _ W2).alloc (MR _) _).drew;exact ⟨(hBa.cell (p:=⟨w,0,none⟩) c3.lt).trans c3.cell,(hBa.cell (p:=⟨pb,0,none⟩) (show pb<W2.heap.size by omega)).trans hP2.row,(hBa.cell (p:=⟨w.heap.size+1,0,none⟩) c5.lt).trans c5.cell⟩
 refine No (S:=(fun V=>V.cell? w=some ↑pb/\V.cell? pb=some (.slice b ps.length cap)/\V.cell? ⟨w.heap.size+1,0,none⟩=some ↑(dest:Int))) zab ⟨c3.cell,hP2.row,c5.cell⟩ (fun u0 => ?_);refine tH 0 pb rfl u0 ?_;refine tH 1 pb rfl u0 ?_;refine tH 2 pb rfl u0 ?_;refine tH 3 (.slice b ps.length cap) rfl u0 ?_;refine tH 4 (.int .i64 dest) rfl u0 ?_;refine tH 5 (.pointer (some ⟨b,dest*10,none⟩)) rfl u0 ?_;refine zH 6 rfl fun K hK => ?_;go_simp;refine hK.out _ _ (hkS _) (fun u0 => ?_);clear hK K;refine zH 7 rfl fun K hK => ?_;go_simp;refine hK.out _ _ (hkS _) (fun u0 => ?_);clear hK K u0;refine Nt zab ?_ _;have c6:Boxed (W2.alloc (.cells #[.pointer (some ⟨b,dest*10,none⟩)] 231)).drew W2.heap.size 231 (.pointer (some ⟨b,dest*10,none⟩)):=NA W2 231 (.pointer (some ⟨b,dest*10,none⟩));have hB3:Below W2 W2 (W2.alloc (.cells #[.pointer (some ⟨b,dest*10,none⟩)] 231)).drew:=((MY _ W2).alloc (MR _) _).drew;have c3:=aB c3 hB3 c3.lt;have c5:=aB c5 hB3 c5.lt;have hM3:Mo (· = mvb) w (W2.alloc (.cells #[.pointer (some ⟨b,dest*10,none⟩)] 231)).drew:=hM2.trans (ay hB3);have hmv3:=(hB3.block mvb zaa).trans hmv2;obtain ⟨B6,hB6⟩:∃ B,W2.heap.size=B:=⟨_,rfl⟩;obtain ⟨W3,hW3⟩:∃ W,(W2.alloc (.cells #[.pointer (some ⟨b,dest*10,none⟩)] 231)).drew=W:=⟨_,rfl⟩;rw [hW3] at c3 c5 c6 hM3 hmv3 ⊢;rw [hB6] at c6 ⊢;have hB6w:w.heap.size<=B6:=zaa;clear hW3 hB6 hB3 hkS hP2 hmv2 hM2 hs2;have hP3:=hP.mo hM3 hpb hb n1 n2;have hs3:=hM3.size;have hm3:W3.cell? ⟨mvb,1,none⟩=some (.int .u32 dm):=by rw [M0 W3 _ _ _ _ _ hmv3];rfl
 go_wp2_with fail;have hkS:∀ v:Value,(fun V=>V.cell? B6=some (.pointer (some ⟨b,dest*10,none⟩))/\V.cell? ⟨b,dest*10+6,none⟩=some (.int .u32 pd.around)/\V.cell? ⟨mvb,1,none⟩=some (.int .u32 dm)) ((W3.alloc (.cells #[v] 75)).drew):=fun v=>by
  have hBa:Below W3 W3 (W3.alloc (.cells #[v] 75)).drew:=((MY _ W3).alloc (MR _) _).drew;exact ⟨(hBa.cell (p:=⟨B6,0,none⟩) c6.lt).trans c6.cell,(hBa.cell (p:=⟨b,dest*10+6,none⟩) (show b<W3.heap.size by omega)).trans (hP3.at' dest pd hpd).c6,(hBa.cell (p:=⟨mvb,1,none⟩) (show mvb<W3.heap.size by omega)).trans hm3⟩
 refine No (S:=(fun V=>V.cell? B6=some (.pointer (some ⟨b,dest*10,none⟩))/\V.cell? ⟨b,dest*10+6,none⟩=some (.int .u32 pd.around)/\V.cell? ⟨mvb,1,none⟩=some (.int .u32 dm))) zab ⟨c6.cell,(hP3.at' dest pd hpd).c6,hm3⟩ (fun u0 => ?_);refine tH 0 (.pointer (some ⟨b,dest*10,none⟩)) rfl u0 ?_;refine tH 1 (.pointer (some ⟨b,dest*10,none⟩)) rfl u0 ?_;refine tH 2 (.pointer (some ⟨b,dest*10+6,none⟩)) rfl u0 ?_;refine tH 3 (.int .u32 pd.around) rfl u0 ?_;refine tH 4 mvb rfl u0 ?_;refine tH 5 mvb rfl u0 ?_;refine tH 6 (.pointer (some ⟨mvb,1,none⟩)) rfl u0 ?_;refine tH 7 (.int .u32 dm) rfl u0 ?_;refine tH 8 (.int .u32 ((pd.around&&&dm:Nat):Int)) rfl u0 ?_;refine zH 9 rfl fun K hK => ?_;go_simp;refine hK.out _ _ (hkS _) (fun u0 => ?_);clear hK K;refine zH 10 rfl fun K hK => ?_;go_simp;refine hK.out _ _ (hkS _) (fun u0 => ?_);clear hK K u0;refine Nt zab ?_ _;obtain ⟨pa,hpa⟩:∃ pa,pd.around&&&dm=pa:=⟨_,rfl⟩;rw [hpa] at a1 a2 hcom HLE ⊢;have hpal:pa<4294967296:=by rw [<- hpa];exact Pg.j6 (hP.sm dest pd hpd).ha
 clear hpa;have c7:Boxed (W3.alloc (.cells #[.int .u32 pa] 75)).drew W3.heap.size 75 (.int .u32 pa):=NA W3 75 (.int .u32 pa);have hB4:Below W3 W3 (W3.alloc (.cells #[.int .u32 pa] 75)).drew:=((MY _ W3).alloc (MR _) _).drew;have c3:=aB c3 hB4 c3.lt;have c5:=aB c5 hB4 c5.lt;have c6:=aB c6 hB4 c6.lt;have hM4:Mo (· = mvb) w (W3.alloc (.cells #[.int .u32 pa] 75)).drew:=hM3.trans (ay hB4);have hmv4:=(hB4.block mvb zaa).trans hmv3;obtain ⟨B7,hB7⟩:∃ B,W3.heap.size=B:=⟨_,rfl⟩;obtain ⟨W4,hW4⟩:∃ W,(W3.alloc (.cells #[.int .u32 pa] 75)).drew=W:=⟨_,rfl⟩;rw [hW4] at c3 c5 c6 c7 hM4 hmv4 ⊢;rw [hB7] at c7 ⊢;have hB7w:w.heap.size<=B7:=zaa;clear hW4 hB7 hB4 hkS hP3 hmv3 hM3 hs3 hm3;have hP4:=hP.mo hM4 hpb hb n1 n2;have hs4:=hM4.size;have d6:=c6.cell;have d0:=(hP4.at' dest pd hpd).c0;have e3:W4.cell? ⟨mvb,3,none⟩=some fv:=by rw [M0 W4 _ _ _ _ _ hmv4];rfl
 have f3:W4.frozen? ⟨mvb,3,none⟩=false:=by simp [World.frozen?,hmv4]
 obtain ⟨hb0,hh⟩:∃ hb0,(decide (pd.kind=3)||decide (pd.kind=4))=hb0:=⟨_,rfl⟩;have HLE:Hid (en=if hb0 then .hist pa dest else .all (Pg.complete ps (pa|||pd.wth))):=by have:=HLE.out;unfold Pg.isH at this;rw [hh] at this;exact this
 rw [hh] at hhist;clear hh;cases hb0
 ·have HLE:Hid (en = .all (Pg.complete ps (pa|||pd.wth))):=HLE.out;obtain ⟨z,hz⟩:∃ z,Pg.complete ps (pa|||pd.wth)=z:=⟨_,rfl⟩;rw [hz] at HLE hcom;clear hz;have hcomA:∀ V,Below W4 W4 V->_:=fun V hV=>hcom V (hM4.trans (ay hV));have hBd:=(MY W4 W4).drew;have hBd1:∀ v:Value,Below W4 W4 (W4.alloc (.cells #[v] 75)).drew:=fun v=>((MY _ W4).alloc (MR _) _).drew
  go_upto_region 6 with (go_at_call 98;refine (hhist _).mono ?_;rintro e w9 ⟨rfl,hw9⟩;rw [hw9];clear hw9 w9)
  go_cut [8] from 9 (fun s8 V=>∃ B8,s8 = .pointer (some ⟨B8,0,none⟩)/\Boxed V B8 75 (.int .u32 z)/\Below W4 W4 V)
  case first =>
   have hkB:∀ V:World,Below W4 W4 V->(fun V=>V.cell? w=some ↑pb/\V.cell? B7=some (.int .u32 pa)/\V.cell? B6=some (.pointer (some ⟨b,dest*10,none⟩))/\V.cell? ⟨b,dest*10+7,none⟩=some (.int .u32 pd.wth)) V:=fun V hBa=>⟨(hBa.cell (p:=⟨w,0,none⟩) c3.lt).trans c3.cell,(hBa.cell (p:=⟨B7,0,none⟩) c7.lt).trans c7.cell,(hBa.cell (p:=⟨B6,0,none⟩) c6.lt).trans c6.cell,(hBa.cell (p:=⟨b,dest*10+7,none⟩) (show b<W4.heap.size by omega)).trans (hP4.at' dest pd hpd).c7⟩;refine No (S:=(fun V=>V.cell? w=some ↑pb/\V.cell? B7=some (.int .u32 pa)/\V.cell? B6=some (.pointer (some ⟨b,dest*10,none⟩))/\V.cell? ⟨b,dest*10+7,none⟩=some (.int .u32 pd.wth))) zab ⟨c3.cell,c7.cell,c6.cell,(hP4.at' dest pd hpd).c7⟩ (fun u0 => ?_);refine tH 0 pb rfl u0 ?_;refine tH 1 (.int .u32 pa) rfl u0 ?_;refine tH 2 (.pointer (some ⟨b,dest*10,none⟩)) rfl u0 ?_;refine tH 3 (.pointer (some ⟨b,dest*10,none⟩)) rfl u0 ?_;refine tH 4 (.pointer (some ⟨b,dest*10+7,none⟩)) rfl u0 ?_;refine tH 5 (.int .u32 pd.wth) rfl u0 ?_;refine tH 6 (.int .u32 ((pa|||pd.wth:Nat):Int)) rfl u0 ?_;refine yH [7,8] ?_;refine NJ rfl (fun K hK => ?rg7) (NJ rfl (fun K hK => ?rg8) Ou)
   case' rg7 =>
    go_simp;refine (hcomA _ zba).mono ?_;rintro e w9 ⟨rfl,hB9x⟩;have hB9:Below W4 W4 w9:=zb4;refine hK.out _ _ (hkB w9 hB9) (fun u0 => ?_);clear hK K;refine zH 8 rfl fun K hK => ?_;go_simp;refine hK.out _ _ (hkB _ zci) (fun u0 => ?_);clear hK K;refine zH 9 rfl fun K hK => ?_;go_simp;refine hK.out _ _ (hkB _ (hB9.alloc hB9.size _)) (fun u0 => ?_);clear hK K u0;refine Nt zab ?_ _
   case' rg8 =>
    go_simp;refine hK.out _ _ (hkB _ zci) (fun u0 => ?_);clear hK K;refine zH 7 rfl fun K hK => ?_;go_simp;refine (hcomA _ zba).mono ?_;rintro e w9 ⟨rfl,hB9x⟩;have hB9:Below W4 W4 w9:=zb4;refine hK.out _ _ (hkB w9 hB9) (fun u0 => ?_);clear hK K;refine zH 9 rfl fun K hK => ?_;have hb8:=aB (show Boxed (W4.alloc (.cells #[.int .u32 0] 75)).drew W4.heap.size 75 (.int .u32 0) from NA W4 _ _) hB9x (by show W4.heap.size<(W4.alloc _).heap.size;simp);have g8:=hb8.cell;have g9:=hb8.frozen;go_simp;refine hK.out _ _ (hkB _ (hB9.setCell (p:=⟨W4,0,none⟩) (MR _) _)) (fun u0 => ?_);clear hK K u0;refine Nt zab ?_ _
   all_goals
    go_wp2_with fail;go_meet
   case rel=>exact ⟨_,rfl,hb8.set _,hB9.setCell (p:=⟨W4,0,none⟩) (MR _) _⟩
   case rel=>exact ⟨_,rfl,NA _ _ _,hB9.alloc hB9.size _⟩
  case rest =>
   obtain ⟨B8,rfl,c8,hB5⟩:=hcut;have hmv5:=(hB5.block mvb zaa).trans hmv4;have hM5:=hM4.trans (ay hB5);have e3:wc.cell? ⟨mvb,3,none⟩=some fv:=by rw [M0 wc _ _ _ _ _ hmv5];rfl
   have f3:wc.frozen? ⟨mvb,3,none⟩=false:=by simp [World.frozen?,hmv5]
   have hst:=oJ (P:=prog) e3 f3;have h8:B8≠mvb:=by
    intro h;subst h;rw [show wc.heap[B8]?=_ from c8] at hmv5;simp at hmv5
   go_wp2_with fail;go_end0;refine ⟨rfl,hM5.set ⟨mvb,3,none⟩ _ rfl,_,Nn wc mvb 3 _ _ _ hmv5,?_⟩;rw [HLE.out];exact ⟨B8,rfl,bm c8 (p:=⟨mvb,3,none⟩) h8 _⟩
 ·have HLE:Hid (en = .hist pa dest):=HLE.out;have hst:=oJ (P:=prog) e3 f3;go_wp2_with (go_at_call 98;refine (hhist _).mono ?_;rintro e w9 ⟨rfl,hw9⟩;rw [hw9];clear hw9 w9);refine OI (N5 rfl _ _ _) rfl ?_;refine ⟨rfl,hM4.set ⟨mvb,3,none⟩ _ rfl,_,Nn W4 mvb 3 _ _ _ hmv4,?_⟩;rw [HLE.out];exact ⟨_,_,_,_,rfl,bm c3 (p:=⟨mvb,3,none⟩) zae _,bm c7 (p:=⟨mvb,3,none⟩) zae _,bm c6 (p:=⟨mvb,3,none⟩) zae _,bm c5 (p:=⟨mvb,3,none⟩) zae _⟩
