import Derived.Test.YtpkhcncoildcnaaGreatDoorM01
import Derived.Deep.CutRange
set_option maxRecDepth 100000
set_option maxHeartbeats 8000000
namespace Go.Proofs.YtpkhcncoildcnaaGreatDoor
variable {zp:Prop}
theorem zf1(h:zp:=by
 rw[QV]at this;exact this):zp:=h
theorem zdm(h:zp:=by
 go_enter func163,ntmps163;go_wp2_with(go_at_call 166;refine he.mono ?_;rintro e w9 ⟨rfl,Pg⟩;rw[Pg];clear Pg w9);refine fa 9 zab zab ?_;simp only[List.take_succ_cons,List.take_zero,List.drop_succ_cons,List.drop_zero]
 repeat still_step
 refine P8 ?_;go_wp2;go_end0;exact⟨rfl,rfl⟩):zp:=h
theorem zex(h:zp:=by
 gi_wp2;refine Qb (Pu rfl _ _ _) rfl ?_;exact⟨⟨_,rfl⟩,.inr ⟨_,YN⟩⟩):zp:=h
theorem zeY(h:zp:=by
 go_enter func104,ntmps104;go_wp2;go_ret;exact⟨rfl,rfl⟩):zp:=h
theorem zaD(h:zp:=by rw[ho];rfl):zp:=h
theorem zbd(h:zp:=by first|exact UB|exact YS _):zp:=h
theorem zbD(h:zp:=by simp[Y.PS.cells,Value.oneCell',U.Sl.v]):zp:=h
theorem zca(h:zp:=by first|exact UB.trans hB9x|exact(YS _).trans (hB9x.mono (by simp[World.drew]))):zp:=h
theorem zco(h:zp:=by first|exact YS _|exact UK.alloc UK.size _):zp:=h
open Tryz
variable {s i h pb b cap:Nat}{W W':World}{e:Bool}{ps:List Y.PS}{p:Y.PS}{P:Nat->Prop}
section
open Go.RowKit Go.Proofs Go.Shelf
attribute [local go_sem] Pp
def yd:Go.Shelf.Ren:=⟨fun|29=>237|n=>n,fun|22=>35|3=>3|4=>4|25=>378|54=>415|0=>0|5=>5|n=>n,fun|1=>3|n=>n⟩
theorem Iu:Go.Proofs.Lays7.n29 prog yd:={
 mixed:=zab
 f29:=Tryz.func237.trans (congrArg some zab)
 t0:=underlying0
 a0:=Tryz.isAgg0
 z0:=Tryz.sizeOf0
 v0:=Tryz.zeroValue0
 i0:=zab
 t3:=underlying3
 a3:=Tl
 z3:=S6
 v3:=Ss
 i3:=zab
 t4:=underlying4
 a4:=Sa
 z4:=RP
 v4:=Q9
 i4:=zab
 t5:=underlying5
 a5:=Tryz.isAgg5
 z5:=Tryz.sizeOf5
 v5:=SY
 i5:=zab
 t22:=underlying35
 a22:=Tryz.isAgg35
 z22:=Tryz.sizeOf35
 v22:=Tryz.zeroValue35
 i22:=zab
 t25:=underlying378
 a25:=isAgg378
 z25:=sizeOf378
 v25:=zeroValue378
 i25:=zab
 t54:=underlying415
 a54:=isAgg415
 z54:=sizeOf415
 g1:=by kernel_rfl }
theorem JC(s:Nat)(w:World)(hs:s<18446744073709551616)(hT:TabAt 3 Lib.deBruijn64tab w):() 237 #[.int .u64 s] w fun e w'=>e=.returned (.int .i64 (Lib.ctz 64 s))/\w'=w:=
 Any7.bits_TrailingZeros64 Iu s hs w fun _=>hT
namespace Y
def eX(s:Nat):List Nat:=(List.range 64).filter s.testBit
theorem fZ:i∈eX s↔i<64/\s.testBit i=true:=by
 unfold eX;rw[P3,PD]
theorem Ce:eX 0=[]:=zaU
theorem CJ(h0:s≠0)(hs:s<18446744073709551616):Lib.ctz 64 s<64/\s.testBit (Lib.ctz 64 s)=true/\(∀j,j<Lib.ctz 64 s->s.testBit j=false)/\∀j,(s&&&(s-1)).testBit j=(s.testBit j&&decide (j≠Lib.ctz 64 s)):=by
 obtain⟨m,hm,hk⟩:=Lib.ctzFrom_spec 64 s (Nat.pos_of_ne_zero h0) hs;have he:Lib.ctz 64 s=Lib.ctzFrom 64 s:=by unfold Lib.ctz;rw[OB h0]
 rw[he];generalize Lib.ctzFrom 64 s=k at hm hk;exact zcT
theorem zP(h0:s≠0)(hs:s<18446744073709551616):eX s=Lib.ctz 64 s::eX (s&&&(s-1)):=by
 obtain⟨a,b,c,d⟩:=CJ h0 hs;exact kL b c d 64 a
abbrev Gt(s:Nat):Type:={ i:Nat // i∈eX s }
theorem KpM.tab{B:Nat->TypeId->Prop}(h:KpM B W W')(hg:∀t,¬B 3 t)(hT:TabAt 3 Lib.deBruijn64tab W):TabAt 3 Lib.deBruijn64tab W':=fun j hj=>h.cell (p:=⟨3,j,none⟩) (hT j hj) hg
theorem Mq{t:Nat}(h0:t≠0)(ht:t<18446744073709551616):bits BinOp.and IntKind.u64 (t:Int) ((t:Int)-1)=((t&&&(t-1):Nat):Int):=by
 rw[show(t:Int)-1=((t-1:Nat):Int) by omega,bits_and_u64_nat t _ ht zaa]
end Y
theorem Hy(n:Nat)(hn:1<=n)(l Bs mb o s:Nat)(hs:s<18446744073709551616)(Kp:World->World->Prop)(hKp:∀W W',Kp W W'->TabAt 3 Lib.deBruijn64tab W->TabAt 3 Lib.deBruijn64tab W')(J Jx:List (Y.Gt s)->World->Prop)
  (hY:∀pre x W,J pre W->pre.length<64->YieldAt Fence.wide (n-1) prog l #[.int .i64 (x.1:Int)] W fun e W'=>
   (e=.returned true/\J (pre++[x]) W'/\Kp W W')\/(e=.returned false/\Jx (pre++[x]) W'))
  (W:World) (Wb:W.cell? Bs=some ↑(mb,o)) (hc:W.cell? (mb,o+64)=some (.int .u64 s)) (hT:TabAt 3 Lib.deBruijn64tab W) (h0:J [] W):
  CallsIn Fence.wide n prog 236 #[.func (.yield l) #[] #[],Bs] W fun e W'=>(∃v,e=.returned v) /\
   ((∃ys,ys.map (·.1)=Y.eX s/\J ys W')\/(∃pre,pre.map (·.1) <+: Y.eX s/\Jx pre W')):=by
 refine SL func236 rfl trivial ?_ rfl;simp only[ntmps236,List.size_toArray,List.length_cons,List.length_nil,Nat.reduceAdd,Nat.reduceSub,Array.replicate_succ,Array.replicate_zero,List.push_toArray,List.append_toArray,List.nil_append,List.cons_append];gi_wp2
 gi_loopw[3] (fun i wr=>∃(t:Nat) (pre:List (Y.Gt s)),i=.int .u64 t/\t<18446744073709551616/\Y.eX s=pre.map (·.1)++Y.eX t/\J pre wr/\TabAt 3 Lib.deBruijn64tab wr)
  (fun i _=>(intOf i).toNat)
 case atStart=>exact⟨s,[],rfl,hs,rfl,h0,hT⟩
 case round=>
  obtain⟨t,pre,rfl,ht,he,hJs,hTr⟩:=hrel;clear Wb hc;by_cases hz:t=0
  ·subst hz;gi_wp2;go_end0;rw[Y.Ce,Ra]at he;exact zfg
  ·have hf:=Y.zP hz ht;have hm:Lib.ctz 64 t∈Y.eX s:=by rw[he,hf];simp
   have hle:pre.length<64:=by
    have h1:(Y.eX s).length<=64:=by
     have:=PB s.testBit (List.range 64);exact zf1
    exact zfH
   obtain⟨fn,tmps,assign,body,hy,hR⟩:=hY pre ⟨Lib.ctz 64 t,hm⟩ wr hJs hle;dsimp only at hy;have ha:=Y.Mq hz ht;have hz':((t:Int) == 0)=false:=zae;have TX:=Y.wL hz;have htz:=JC t wr ht hTr;gi_wp2_with(refine⟨trivial,?_⟩;gi_at_call 237;refine(O3.2 htz).mono ?_;clear htz;rintro e w9 ⟨rfl,Pg⟩;rw[Pg];clear Pg w9);have hE:Y.eX s=(pre++[(⟨Lib.ctz 64 t,hm⟩:Y.Gt s)]).map (·.1)++Y.eX (t&&&(t-1)):=he.trans (by rw[hf,Pk,Qn];rfl);refine hR.mono ?_;rintro e W3 (⟨rfl,Yl,hk3⟩|⟨rfl,YN⟩)
   ·gi_wp2
    go_roundw
    case rel=>exact⟨t&&&(t-1),pre++[⟨Lib.ctz 64 t,hm⟩],rfl,zaa,hE,Yl,hKp _ _ hk3 hTr⟩
    case measure=>simp only[intOf];omega
   ·exact zen
theorem sI(n:Nat)(hn:1<=n)(Bs mb o s:Nat)(hs:s<18446744073709551616)(Kp:World->World->Prop)(hKp:∀W W',Kp W W'->TabAt 3 Lib.deBruijn64tab W->TabAt 3 Lib.deBruijn64tab W')(w:World)(Wb:Bs<w.heap.size)(hmb:mb<w.heap.size)(hg:3<w.heap.size)(hc:w.cell? Bs=some ↑(mb,o))(hd:w.cell? (mb,o+64)=some (.int .u64 s))(hT:TabAt 3 Lib.deBruijn64tab w):
  SeqStopsK Fence.wide n prog 236 #[Bs] (fun x:Y.Gt s=>#[Value.int .i64 (x.1:Int)]) Kp (fun ys=>ys.map (·.1)=Y.eX s) (fun pre=>pre.map (·.1) <+: Y.eX s) 64 w:=fun l J Jx W hW _ _ hY h0=>
 Hy n hn l Bs mb o s hs Kp hKp J Jx hY W ((hW.cell (p:=Bs) Wb).trans hc) ((hW.cell (p:=(mb,o+64)) hmb).trans hd) (fun j hj=>(hW.cell (p:=⟨3,j,none⟩) hg).trans (hT j hj)) h0
theorem nx(mb o:Nat)(w:World):() 206 #[(mb,o)] w fun e w'=>e=.returned (.func (.func 236) #[] #[w])/\w'=w.alloc (.cells #[(mb,o)] 331):=by
 go_enter func206,ntmps206;exact zfG
attribute [local go_sem] Pp
theorem Fl:(Tryz.prog.info? 215).map (fun i=>(i.zero,i.size,i.bytes))=some (some (.agg #[.int .u64 0,.string ⟨#[]⟩,.string ⟨#[]⟩,.pointer none]),4,48):=zab
theorem iU(w:World)(a b:Nat)(ha:∃c,w.heap[a]?=some (.cells c 215 (0,0)))(hb:∃c,w.heap[b]?=some (.cells c 215 (0,0))):
  (binOp .eql 110 a b).run prog w=.ok (.bool (decide (a=b))) w:=by
 obtain⟨i0,hi,Ue,Ub,Uf⟩:=PZ Fl;obtain⟨ca,ha⟩:=ha;obtain⟨cb,hb⟩:=hb;have h:∀d:Nat,(Op.equalIn (d+1) 110 a b).run prog w=.ok (decide (a=b)) w:=fun d=>by
  by_cases e:a=b
  ·subst e;simp[Op.equalIn,run_underlying underlying110,sizeOf,typeInfo,hi,run_sameAddr_same]
  ·simp[Op.equalIn,run_underlying underlying110,sizeOf,typeInfo,hi,Ub,e,run_sameAddr_other w (a:=⟨a,0,none⟩) (b:=⟨b,0,none⟩) (by intro x;injection x with x1;exact e x1) ha hb]
 simp only[binOp];simp[Op.equal,Op.maxDepth,h 9999]
namespace Y
structure RdN(Bs:Nat)(L:List Nd)(i:Nat)(V:World):Prop where
 box:V.cell? Bs=some (aM L)
 nd:∀x∈L,∃c,V.heap[x.1]?=some (.cells c 215 (0,0))
 next:∀x,L[i]?=some x->V.cell? ⟨x.1,3,none⟩=some (nxt L i)
 first:i=0->∀z,L.getLast?=some z->V.cell? ⟨z.1,3,none⟩=some (nxt L (L.length-1))
def ndM(L:List Nd):Value->Nat
 |.pointer (some a)=>L.length-(L.map (·.1)).idxOf a.block
 |_=>0
theorem IL{L:List Nd}(Ua:(L.map (·.1)).Nodup){x:Nd}(h:L[i]?=some x):ndM L x.1=L.length-i:=by
 have hi:i<(L.map (·.1)).length:=by simp;exact(Oz.1 h).1
 have hx:(L.map (·.1))[i]=x.1:=by rw[QO];rw[(Oz.1 h).2]
 show L.length-(L.map (·.1)).idxOf x.1=_;rw[<- hx,Ua.idxOf_getElem i hi]
end Y
theorem wj(n:Nat)(hn:1<=n)(l Bs:Nat)(L:List Y.Nd)(Ua:(L.map (·.1)).Nodup)(J Jx:List Y.Nd->World->Prop)(Xm:∀xs V,J xs V->Y.RdN Bs L xs.length V)
  (hY:∀i x V,L[i]?=some x->J (L.take i) V->YieldAt Fence.wide (n-1) prog l #[.pointer (some ⟨x.1,0,none⟩)] V fun e V'=>(e=.returned true/\J (L.take (i+1)) V')\/(e=.returned false/\Jx (L.take (i+1)) V'))
  (W:World) (h0:J [] W):
  CallsIn Fence.wide n prog 165 #[.func (.yield l) #[] #[],Bs] W fun e W'=>(∃v,e=.returned v)/\(J L W'\/∃i,Jx (L.take i) W'):=by
 have V7:=Xm [] W h0;have VF:=V7.box;have he:=lV W Bs 0 L VF;refine SL func165 rfl trivial ?_ rfl;simp only[ntmps165,List.size_toArray,List.length_cons,List.length_nil,Nat.reduceAdd,Nat.reduceSub,Array.replicate_succ,Array.replicate_zero,List.push_toArray,List.append_toArray,List.nil_append,List.cons_append];cases hz:L.getLast? with
 |none=>
  have hl:L=[]:=QY.1 hz;subst hl;simp only[List.isEmpty_nil]at he;clear hY;gi_wp2_with(refine⟨trivial,?_⟩;gi_at_call 166;refine(O3.2 he).mono ?_;clear he;rintro e w9 ⟨rfl,Pg⟩;rw[Pg];clear Pg w9);refine Qb (Pu rfl _ _ _) rfl ?_;exact⟨⟨_,rfl⟩,.inl h0⟩
 |some z=>
  have TU:L≠[]:=fun e=>za0;have hlen:0<L.length:=Qc.2 TU;have VE:L[L.length-1]?=some z:=zaA;obtain⟨f,hf⟩:∃f,L[0]?=some f:=⟨_,Ou hlen⟩;have hez:L.isEmpty=false:=by cases L with|nil=>simp at hz|cons a l=>rfl
  rw[hez]at he;have hz3:=V7.first rfl z hz;rw[Y.jf hf]at hz3;have US:Y.aM L=.pointer (some ⟨z.1,0,none⟩):=by unfold Y.aM;rw[hz];rfl
  rw[US]at VF;unfold Y.ndP at hz3;obtain⟨zb,zt⟩:=z;obtain⟨fb,ft⟩:=f;dsimp only at VF hz3 US;clear V7 hez TU;gi_wp2_with(refine⟨trivial,?_⟩;gi_at_call 166;refine(O3.2 he).mono ?_;clear he;rintro e w9 ⟨rfl,Pg⟩;rw[Pg];clear Pg w9)
  gi_loopw[3] (fun v wr=>∃(i:Nat) (x:Y.Nd),L[i]?=some x/\v=.pointer (some ⟨x.1,0,none⟩)/\J (L.take i) wr) (fun v _=>Y.ndM L v)
  case atStart=>exact⟨0,(fb,ft),hf,rfl,h0⟩
  case round=>
   obtain⟨i,x,VR,rfl,hJi⟩:=hrel;have Vm:=(Oz.1 VR).1;have hRi:=Xm _ _ hJi;rw[RS zaa]at hRi;have hx3:=hRi.next x VR;have hmi:=Y.IL Ua VR;obtain⟨fn,tmps,assign,body,hy,hR⟩:=hY i x wr VR hJi;clear hRi VF hz3;by_cases hlast:i+1=L.length
   ·have hxz:x=(zb,zt):=by rw[show L.length-1=i by omega,VR]at VE;exact Pd VE
    subst hxz;have Yr:Y.nxt L i=.pointer (some ⟨fb,0,none⟩):=by rw[show i=L.length-1 by omega,Y.jf hf];rfl
    rw[Yr]at hx3;dsimp only at hx3 hy;gi_wp2;refine hR.mono ?_;rintro e W3 (⟨rfl,Yl⟩|⟨rfl,YN⟩)
    ·have Xn:=Xm _ _ Yl;have Ug:=Xn.box;rw[US]at Ug;have hq3:=iU W3 zb zb (Xn.nd _ (OG VE)) (Xn.nd _ (OG VE));rw[Pe rfl]at hq3;clear Xn;gi_wp2;refine Qb (Pu rfl _ _ _) rfl ?_;rw[hlast,Pw]at Yl;exact⟨⟨_,rfl⟩,.inl Yl⟩
    ·exact zex
   ·obtain⟨y,hy1⟩:∃y,L[i+1]?=some y:=⟨_,Ou zaa⟩;have Yr:Y.nxt L i=.pointer (some ⟨y.1,0,none⟩):=by unfold Y.nxt;rw[hy1];rfl
    rw[Yr]at hx3;have hxz:x.1≠zb:=fun e=>by
     have a1:(L.map (·.1))[i]?=some x.1:=by rw[OF,VR];rfl
     have a2:(L.map (·.1))[L.length-1]?=some x.1:=by rw[OF,VE,e];rfl
     have:=(SB zae Ua).1 (a1.trans a2.symm);omega
    have hmy:=Y.IL Ua hy1
    (try dsimp only at hy)
    gi_wp2;refine hR.mono ?_;rintro e W3 (⟨rfl,Yl⟩|⟨rfl,YN⟩)
    ·have Xn:=Xm _ _ Yl;have Ug:=Xn.box;rw[US]at Ug;have hq3:=iU W3 x.1 zb (Xn.nd _ (OG VR)) (Xn.nd _ (OG VE));rw[Pc hxz]at hq3;clear Xn;gi_wp2
     go_roundw
     case rel=>exact⟨i+1,y,hy1,rfl,Yl⟩
     case measure=>rw[hmi,hmy];omega
    ·exact zex
theorem dO{α:Type}{L:List α}{x:α}(h:L[i]?=some x):L.take i++[x]=L.take (i+1):=by
 rw[PQ,h];rfl
theorem AF(n:Nat)(hn:1<=n)(Bs:Nat)(L:List Y.Nd)(Ua:(L.map (·.1)).Nodup)(w:World):
  Gx Fence.wide n prog 165 #[Bs] (fun x:Y.Nd=>#[Value.pointer (some ⟨x.1,0,none⟩)]) (fun _ _=>True) (fun xs V=>Y.RdN Bs L xs.length V) (fun xs x=>L[xs.length]?=some x/\xs=L.take xs.length) (fun xs=>xs=L) w:=fun l J W _ _ _ Xm hY h0=>by
 refine(wj n hn l Bs L Ua J (fun _ _=>False) Xm (fun i x V hx hJ=>?_) W h0).mono ?_
 ·have hi:=(Oz.1 hx).1;have hl:(L.take i).length=i:=RS zaa;refine(hY (L.take i) x V hJ ⟨by rw[hl];exact hx,by rw[hl]⟩).mono ?_;rintro e V' ⟨rfl,h,_⟩;rw[dO hx]at h;exact .inl ⟨rfl,h⟩
 ·rintro e V' ⟨hv,h|⟨i,h⟩⟩
  ·exact⟨hv,L,rfl,h⟩
  ·exact h.elim
theorem qL(n:Nat)(hn:1<=n)(Bs:Nat)(L:List Y.Nd)(Ua:(L.map (·.1)).Nodup)(B:Nat->TypeId->Prop)(w:World)(hb:w.cell? Bs=some (Y.aM L))(hR:Y.cH w L)(hB:∀t,¬B Bs t)(hBl:∀x∈L,∀t,¬B x.1 t):
  SeqStopsK Fence.wide n prog 165 #[Bs] (fun x:Y.Nd=>#[Value.pointer (some ⟨x.1,0,none⟩)]) (KpM B) (fun xs=>xs=L) (fun _=>True) L.length w:=fun l J Jx W hW _ _ hY h0=>by
 have hW':KpM B w W:=KpM.below hW;refine(wj n hn l Bs L Ua (fun xs V=>J xs V/\KpM B W V) Jx (fun xs V hV=>?_) (fun i x V hx hJ=>?_) W ⟨h0,KpM.refl _ _⟩).mono ?_
 ·have hk:=hW'.tr hV.2;have hc:∀(i:Nat) (x:Y.Nd),L[i]?=some x->V.heap[x.1]?=some (.cells (Y.eN x.2 (Y.nxt L i)) 215 (0,0)):=fun i x hx=>hk.2 _ _ _ _ (hR i x hx) (hBl x (OG hx) _);refine⟨hk.cell hb hB,fun x hx=>?_,fun x hx=>?_,fun h0 z hz=>?_⟩
  ·obtain⟨i,hi⟩:=O5.1 hx;exact⟨_,hc i x hi⟩
  ·rw[OA V _ _ _ _ _ (hc _ x hx)];rfl
  ·have VE:L[L.length-1]?=some z:=zaA;rw[OA V _ _ _ _ _ (hc _ z VE)];rfl
 ·have hi:=(Oz.1 hx).1;have hl:(L.take i).length=i:=RS zaa;refine(hY (L.take i) x V hJ.1 zaa).mono ?_;rw[dO hx];rintro e V' (⟨rfl,h,hk⟩|h)
  ·exact .inl ⟨rfl,h,hJ.2.tr hk⟩
  ·exact .inr h
 ·rintro e V' ⟨hv,h|⟨i,h⟩⟩
  ·exact⟨hv,.inl ⟨L,rfl,h.1⟩⟩
  ·exact⟨hv,.inr ⟨_,trivial,h⟩⟩
theorem mS(v:Value)(w:World)(hv:v=.pointer none\/∃b,v=.pointer (some ⟨b,0,none⟩)):() 117 #[.agg #[v]] w fun e w'=>e=.returned (.func (.func 165) #[] #[w])/\w'=w.alloc (.cells #[v] 112):=by
 rcases hv with rfl|⟨b,rfl⟩
 all_goals
  go_enter func117,ntmps117;go_wp2;go_ret;exact⟨rfl,rfl⟩
def As:Go.Shelf.Ren:=⟨fun|129=>161|n=>n,fun|53=>35|3=>3|4=>4|46=>378|5=>5|9=>9|n=>n,fun|n=>n⟩
theorem KS:Go.Proofs.Lays.n129 prog As:={
 mixed:=zab
 f129:=Tryz.func161.trans (congrArg some zab)
 t3:=underlying3
 a3:=Tl
 z3:=S6
 v3:=Ss
 t4:=underlying4
 a4:=Sa
 z4:=RP
 v4:=Q9
 t5:=underlying5
 a5:=Tryz.isAgg5
 z5:=Tryz.sizeOf5
 v5:=SY
 t9:=underlying9
 a9:=Tryz.isAgg9
 z9:=Tryz.sizeOf9
 v9:=Tryz.zeroValue9
 t46:=underlying378
 a46:=isAgg378
 z46:=sizeOf378
 v46:=zeroValue378
 t53:=underlying35
 a53:=Tryz.isAgg35
 z53:=Tryz.sizeOf35
 v53:=Tryz.zeroValue35 }
theorem Fy(x:Nat)(w:World)(h:x<18446744073709551616):() 161 #[.int .u64 x] w fun e w'=>e=.returned (.int .i64 (Lib.bitLen x))/\w'=w:=by
 have:=Any.bits_Len64 KS (x:Int) w zaa zaa;rw[QJ]at this;exact this
namespace Y
def iJ(h s:Nat)(e:Bool):Nat:=if e then h&&&(18446744073709551615-2 ^ s) else h|||2 ^ s
theorem pJ(h:i<64):2 ^ i<18446744073709551616:=OS (QM zac h) zac
theorem Gj(hi:i<64):(2:Int) ^ i % 18446744073709551616=((2 ^ i:Nat):Int):=by
 rw[jH];exact Int.emod_eq_of_lt (Tc _) (by have:=pJ hi;omega)
theorem oQ(hh:h<18446744073709551616)(hs:s<64):iJ h s e<18446744073709551616:=by
 unfold iJ;have:=pJ hs;split
 ·exact Pm Qi hh
 ·exact Po (n:=64) hh this
theorem mQ(hs:s<64)(j:Nat)(hj:j<64):(iJ h s e).testBit j=if j=s then !e else h.testBit j:=by
 unfold iJ;have:=pJ hs;cases e
 ·rw[OB zac,Rs,QG];by_cases e:j=s
  ·simp[e]
  ·simp[e,Ne.symm e]
 ·rw[OD rfl,Ry,show 18446744073709551615-2 ^ s=2 ^ 64-(2 ^ s+1) by omega,R5 this,QG];by_cases e:j=s
  ·simp[e]
  ·simp[e,Ne.symm e,hj]
end Y
theorem tg(w:World)(mb o:Nat)(s:Nat)(l:List Y.Nd)(h:Nat)(hs:s<64)(hh:h<18446744073709551616)(hc:w.cell? (mb,o+s)=some (Y.aM l))(hd:w.cell? (mb,o+64)=some (.int .u64 h))(Vp:w.frozen? (mb,o+64)=false):
  () 163 #[(mb,o),(s:Int)] w fun e w'=>e=.returned (.tuple #[])/\w'=w.drew.setCell (mb,o+64) (.int .u64 (Y.iJ h s l.isEmpty)):=by
 have he:=lV w mb (o+s) l hc;have h2:=Y.pJ hs;have h2m:=Y.Gj hs;have WB:¬((s:Int)<0):=zaa;have U6:(s:Int).toNat=s:=QJ s;have Zo:IntKind.u64.wrap ((2:Int) ^ s)=((2 ^ s:Nat):Int):=by rw[RH];exact h2m
 have Ys:bits BinOp.or IntKind.u64 (h:Int) (IntKind.u64.wrap ((2:Int) ^ s))=((h|||2 ^ s:Nat):Int):=by rw[Zo];exact u64_or_nat h (2 ^ s) hh h2
 have hand:bits BinOp.andNot IntKind.u64 (h:Int) (IntKind.u64.wrap ((2:Int) ^ s))=((h&&&(18446744073709551615-2 ^ s):Nat):Int):=by rw[Zo];exact u64_andNot_nat h (2 ^ s) hh h2
 have hdd:w.drew.cell? (mb,o+64)=some (.int .u64 h):=hd;have hfd:w.drew.frozen? (mb,o+64)=false:=Vp;clear Zo h2m h2;cases hl:l.isEmpty
 ·rw[hl]at he;unfold Y.iJ;rw[OB zac];generalize h|||2 ^ s=hn at *;exact zdm
 ·rw[hl]at he;unfold Y.iJ;rw[OD rfl];generalize h&&&(18446744073709551615-2 ^ s)=hn at *;exact zdm
namespace Y
def aN(now t:Nat):Nat:=min ((Lib.bitLen ((t ^^^ now)|||1)-1) / 6) 6
def gh(now t:Nat):Nat:=t / 2 ^ (aN now t*6) % 64
end Y
theorem wo(x:Nat):x|||1≠0:=fun h=>by
 have:(x|||1).testBit 0=true:=by rw[Rs];simp
 rw[h]at this;simp at this
theorem pE(w:World)(mb o now t:Nat)(Uc:now<18446744073709551616)(ht:t<18446744073709551616)(hc:w.cell? (mb,o)=some (.int .u64 now)):
  () 114 #[(mb,o),.int .u64 t] w fun e w'=>e=.returned (.tuple #[.int .i64 ((Y.aN now t:Nat):Int),.int .i64 ((Y.gh now t:Nat):Int)])/\Below w w w':=by
 have hx:=u64_xor_nat t now ht Uc;have VI:t ^^^ now<18446744073709551616:=by
  have:=Nat.xor_lt_two_pow (n:=64) (x:=t) (y:=now) zaa zaa;omega
 have Ys:=u64_or_nat (t ^^^ now) 1 VI zaa;have YT:(t ^^^ now)|||1<18446744073709551616:=by
  have:=Po (n:=64) (x:=t ^^^ now) (y:=1) zaa zaa;omega
 obtain⟨d,hd⟩:∃d,(t ^^^ now)|||1=d:=⟨_,rfl⟩;rw[hd]at Ys YT;have hlen:=Fy d w YT;have UE:1<=Lib.bitLen d/\Lib.bitLen d<=64:=by
  have hd0:d≠0:=by rw[<- hd];exact wo _
  refine⟨?_,Lib.bitLen_le d 64 zac zaa⟩;have:=(SO 64 d zaa hd0).1;exact this
 unfold Y.gh Y.aN;rw[hd];obtain⟨L,hL⟩:∃L,Lib.bitLen d=L+1:=⟨Lib.bitLen d-1,zaa⟩;rw[hL]at hlen UE⊢;rw[Tb];have hL1:((L+1:Nat):Int)-1=(L:Int):=zaa;have Yt:L<64:=zaa;clear hd hL UE;obtain⟨K,hK⟩:∃K,min (L / 6) 6=K:=⟨_,rfl⟩;rw[hK];have hK6:K<=6:=zaa;have hmin:∀V:World,(Builtin.min_ #[3,3] 3 #[.int .i64 ((L:Int) / 6),(6:Int)]).run prog V=.ok (.int .i64 (K:Int)) V:=fun V=>by
  have:(if(6:Int)<(L:Int) / 6 then(6:Int) else(L:Int) / 6)=(K:Int):=by split<;>omega
  rw[<- this];rfl
 have hw6:IntKind.i64.wrap ((K:Int)*6)=((K*6:Nat):Int):=by rw[IntKind.wrap_i64];omega
 have WB:¬(((K*6:Nat):Int)<0):=zaa;have hv:wrap64 (((t:Int) / 2 ^ (K*6)).tmod 64)=((t / 2 ^ (K*6) % 64:Nat):Int):=by
  rw[jH,<- Int.natCast_ediv];generalize t / 2 ^ (K*6)=q;rw[Int.tmod_eq_emod_of_nonneg zaa];unfold wrap64;omega
 have Ys:bits BinOp.or IntKind.u64 ((t ^^^ now:Nat):Int) 1=(d:Int):=Ys;generalize t ^^^ now=tx at *;go_enter func114,ntmps114
 go_upto_region 2 with(go_at_call 161;refine hlen.mono ?_;rintro e w9 ⟨rfl,Pg⟩;rw[Pg];clear Pg w9)
 clear hx Ys YT hlen hc
 go_upto_region 3 with fail
 go_quiet(fail)
 go_wp2;go_ret2;refine⟨?_,QK (Oy _ _) _⟩;show Ending.returned (Value.tuple #[.int .i64 (K:Int),.int .i64 (wrap64 (((t:Int) / 2 ^ (K*6)).tmod 64))])=_;rw[hv]
theorem sK(k:Int)(w:World):() 104 #[(k:Int)] w fun e w'=>e=.returned (.bool (decide (k=3)||decide (k=4)))/\w'=w:=by
 by_cases h3:k=3
 ·subst h3;exact zeY
 ·by_cases h4:k=4
  ·subst h4;exact zeY
  ·go_enter func104,ntmps104;go_wp2;go_ret;exact⟨by simp[h3,h4],rfl⟩
theorem Mo.cells{P:Nat->Prop}{a b:World}(h:Mo P a b)(g:Nat):∀(o:Nat) (vs:List Value),P g->Mo P a (b.setCells g o vs):=by
 intro o vs
 induction vs generalizing o b with
 |nil=>intro _;exact h
 |cons v vs ih=>intro hp;exact ih (h.set ⟨g,o,none⟩ v hp) (o+1) hp
namespace Y
structure MS where
 kind:Int
 name:()
 depth:Int
 owner:Int
 vp:U.Sl
 ve:U.Sl
 vl:U.Sl
 vm:U.Sl
def MS.arr(x:MS):Array Value:=#[(x.kind:Int),x.name,(x.depth:Int),(x.owner:Int),.slice x.vp.a x.vp.n x.vp.c,.slice x.ve.a x.ve.n x.ve.c,.slice x.vl.a x.vl.n x.vl.c,.slice x.vm.a x.vm.n x.vm.c]
def rE:():=⟨#[100,111,110,101,46]⟩
def l7(x:MS)(ar:Nat):PS:={ kind:=x.kind,name:=x.name,done:=rE++x.name,owner:=x.owner,parts:=0,inside:=0,around:=ar,wth:=0,enter:=x.ve,leave:=x.vl }
def isH(k:Int):Bool:=decide (k=3)||decide (k=4)
def jI(ps:List PS)(i:Nat)(x:MS):List PS:=if x.owner == -1 then ps.set i (l7 x 0) else
 match ps[x.owner.toNat]? with
 |none=>ps
 |some q=>(if isH x.kind then ps else ps.set x.owner.toNat { q with parts:=q.parts|||2 ^ i }).set i (l7 x (q.around|||2 ^ x.owner.toNat))
def rX(fin i:Nat)(x:MS):Nat:=if x.kind == 2 then fin|||2 ^ i else fin
def dz(W:World)(pb b n cap:Nat)(hv:Value)(fin:Nat)(mv:Value):Prop:=W.heap[pb]?=some (.cells #[.slice b n cap,hv,.int .u32 fin,mv] 185 (0,0))
theorem bC.setRow(h:bC W pb b cap ps)(hi:i<ps.length)(p':PS):bC (W.setCells b (i*10) p'.cells) pb b cap (ps.set i p') where
 row:=by
  rw[Sq b _ _ _ _ (fun e=>absurd e h.ne),ON];exact h.row
 at':=fun i' q hq k' v' hv=>by
  rw[World.frozen?_setCells];have hl:∀r:PS,r.cells.length=10:=fun r=>rfl;have UD:k'<10:=by have:=(Oz.1 hv).1;rwa [hl]at this
  obtain⟨p,hp⟩:∃p,ps[i]?=some p:=⟨_,Ou hi⟩;have Uy:∀j,j<p'.cells.length->∃v,W.cell? ⟨b,i*10+j,none⟩=some v/\W.frozen? ⟨b,i*10+j,none⟩=false:=fun j hj=>⟨_,h.at' i p hp j _ (Ou (by rw[hl]at hj⊢;exact hj))⟩;by_cases e:i'=i
  ·subst e;rw[OR hi]at hq;cases hq
   have Vf:k'<p'.cells.length:=by rw[hl];exact UD
   have:=World.cell?_setCells_in b p'.cells (i'*10) W (fun j hj=>by obtain⟨v,hv,_⟩:=Uy j hj;rw[hv];rfl) k' Vf;obtain⟨_,_,Vp⟩:=Uy k' Vf;refine⟨?_,Vp⟩;rw[this,<- hv,Ou Vf]
  ·rw[OU (fun x=>e x.symm)]at hq;have:=h.at' i' q hq k' v' hv;refine⟨(Sq b _ _ _ _ (fun _ _=>?_)).trans this.1,this.2⟩;rw[hl];show i'*10+k'<i*10\/_<=i'*10+k';omega
 len:=by rw[ON];exact h.len
 ne:=h.ne
theorem bC.NU(h:bC W pb b cap ps)(k:Nat)(v:Value)(hk:k≠0):bC (W.setCell (pb,k) v) pb b cap ps where
 row:=(ay zbH).trans h.row
 at':=fun i p hi j u hu=>by
  have:=h.at' i p hi j u hu;rw[QZ];exact⟨(ay (by intro x;injection x with x1 x2;exact h.ne x1)).trans this.1,this.2⟩
 len:=h.len
 ne:=h.ne
theorem GK(ps:List PS)(i:Nat)(x:MS):(jI ps i x).length=ps.length:=by
 unfold jI;split
 ·simp
 ·split
  ·rfl
  ·split<;>simp
theorem bC.On{p':PS}{k:Nat}{v:Value}(h:p'.cells=p.cells.set k v)(hk:k<10):∀j,p'.cells[j]?=if j=k then some v else p.cells[j]?:=fun j=>by
 rw[h,Qv];by_cases e:k=j
 ·subst e;rw[OD rfl,OD rfl,OD (by simpa[PS.cells] using hk)]
 ·rw[OB e,OB (fun x=>e x.symm)]
end Y
theorem eA:(Tryz.prog.info? 180).map (·.size)=some 10:=zab
theorem xv(w:World)(pb b cap:Nat)(ps:List Y.PS)(i:Nat)(x:Y.MS)(hv mv:Value)(fin:Nat)(hB:Y.dz w pb b ps.length cap hv fin mv)(hP:Y.bC w pb b cap ps)(WB:Y.Sms ps)(hfl:fin<4294967296)(Vm:i<ps.length)(Uq:x.name.size<=1000000)(how:x.owner=-1\/∃o:Nat,x.owner=o/\o<i)(hb:b<w.heap.size):
  () 65 #[pb,(i:Int),.agg x.arr] w fun e w'=>e=.returned (.tuple #[])/\Y.dz w' pb b ps.length cap hv (Y.rX fin i x) mv/\Y.bC w' pb b cap (Y.jI ps i x)/\Mo (fun k=>k=b\/k=pb) w w':=by
 have T8:pb<w.heap.size:=(Ov.1 hB).1;have hlen:=hP.len;have TU:=hP.ne;have Wf:i<32:=zaa;obtain⟨t,ht⟩:∃t,2 ^ i=t:=⟨_,rfl⟩;have Vo:t<4294967296:=by rw[<- ht];exact uu Wf
 have U1:∀V:World,() 99 #[(i:Int)] V fun e w'=>e=.returned (.int .u32 t)/\w'=V:=fun V=>by rw[<- ht];exact iR i V Wf
 obtain⟨kind,name,depth,owner,vp,ve,vl,vm⟩:=x;have UW:=sK kind;obtain⟨fn,YP⟩:∃fn,Y.rX fin i ⟨kind,name,depth,owner,vp,ve,vl,vm⟩=fn:=⟨_,rfl⟩;obtain⟨pz,hpz⟩:∃pz,Y.jI ps i ⟨kind,name,depth,owner,vp,ve,vl,vm⟩=pz:=⟨_,rfl⟩;obtain⟨mk,Wu⟩:∃mk,Y.l7 ⟨kind,name,depth,owner,vp,ve,vl,vm⟩=mk:=⟨_,rfl⟩;have HF:Hid (fn=if kind == 2 then fin|||t else fin):=by rw[<- YP,<- ht];rfl
 have HZ:Hid (Y.jI ps i ⟨kind,name,depth,owner,vp,ve,vl,vm⟩=pz):=hpz;rw[YP,hpz];clear YP hpz;dsimp only at how Uq;have HOW:Hid (owner=-1\/∃o:Nat,owner=o/\o<i):=how;have T5:=((Oy w w).alloc (Ow _) (.cells #[(kind:Int),name,(depth:Int),(owner:Int),.slice vp.a vp.n vp.c,.slice ve.a ve.n ve.c,.slice vl.a vl.n vl.c,.slice vm.a vm.n vm.c] 188)).alloc zad (.cells #[(kind:Int),name,.string (⟨#[100,111,110,101,46]⟩++name),(owner:Int),.int .u32 0,.int .u32 0,.int .u32 0,.int .u32 0,.slice ve.a ve.n ve.c,.slice vl.a vl.n vl.c] 180);have s5:=fk w (.cells #[(kind:Int),name,(depth:Int),(owner:Int),.slice vp.a vp.n vp.c,.slice ve.a ve.n ve.c,.slice vl.a vl.n vl.c,.slice vm.a vm.n vm.c] 188) (.cells #[(kind:Int),name,.string (⟨#[100,111,110,101,46]⟩++name),(owner:Int),.int .u32 0,.int .u32 0,.int .u32 0,.int .u32 0,.slice ve.a ve.n ve.c,.slice vl.a vl.n vl.c] 180);have s6:=bU w (.cells #[(kind:Int),name,(depth:Int),(owner:Int),.slice vp.a vp.n vp.c,.slice ve.a ve.n ve.c,.slice vl.a vl.n vl.c,.slice vm.a vm.n vm.c] 188) (.cells #[(kind:Int),name,.string (⟨#[100,111,110,101,46]⟩++name),(owner:Int),.int .u32 0,.int .u32 0,.int .u32 0,.int .u32 0,.slice ve.a ve.n ve.c,.slice vl.a vl.n vl.c] 180);unfold Y.MS.arr;dsimp only;clear how;go_enter func65,ntmps65
 go_upto_if 24 with(first
  |(refine aJ rfl 180 (.tmp 6) (.tmp 21) rfl 180 _ _ rfl rfl eA rfl rfl ?_)
  |fail)
 obtain⟨V0,hV⟩:∃V,(w.alloc (.cells #[(kind:Int),name,(depth:Int),(owner:Int),.slice vp.a vp.n vp.c,.slice ve.a ve.n ve.c,.slice vl.a vl.n vl.c,.slice vm.a vm.n vm.c] 188)).alloc (.cells #[(kind:Int),name,.string (⟨#[100,111,110,101,46]⟩++name),(owner:Int),.int .u32 0,.int .u32 0,.int .u32 0,.int .u32 0,.slice ve.a ve.n ve.c,.slice vl.a vl.n vl.c] 180)=V:=⟨_,rfl⟩;rw[hV]at T5 s5 s6⊢;clear hV;have s6:V0.heap[w.heap.size+1]?=some (.cells (mk 0).cells.toArray 180 (0,0)):=by rw[<- Wu];exact s6
 have VG:V0.cell? w=some ↑(kind:Int):=by rw[OA V0 _ _ _ _ _ s5];rfl
 have Xl:=hP.below T5 T8 hb;have hPB0:Y.dz V0 pb b ps.length cap hv fin mv:=(T5.block pb T8).trans hB
 go_cut[] from 8 (fun V=>(∃(ps1:List Y.PS) (ar:Nat),Hid (pz=ps1.set i (mk ar))/\Y.bC V pb b cap ps1/\ps1.length=ps.length/\V.heap[w.heap.size+1]?=some (.cells (mk ar).cells.toArray 180 (0,0)))/\Y.dz V pb b ps.length cap hv fin mv/\Mo (fun k=>k=b\/k=pb) w V/\V.cell? w=some ↑(kind:Int))
 case first=>
  rcases HOW.out with ho|⟨o,ho,hoi⟩
  ·have VC:(owner != -1)=false:=zaD;have HZ:Hid (pz=ps.set i (mk 0)):=by unfold Hid;rw[<- HZ.out,<- Wu,ho];rfl
   clear ho;go_wp2_with fail;go_meet
   case rel=>exact⟨⟨ps,0,HZ,Xl,rfl,s6⟩,hPB0,az T5,VG⟩
  ·have Xx:o<ps.length:=zaa;have ho32:o<32:=zaa;obtain⟨q,hq⟩:∃q,ps[o]?=some q:=⟨_,Ou Xx⟩;obtain⟨tq,Wo⟩:∃t,2 ^ o=t:=⟨_,rfl⟩;have htol:tq<4294967296:=by rw[<- Wo];exact uu ho32
   have honeo:∀V:World,() 99 #[(o:Int)] V fun e w'=>e=.returned (.int .u32 tq)/\w'=V:=fun V=>by rw[<- Wo];exact iR o V ho32
   have VC:(owner != -1)=true:=by rw[ho];simp
   obtain⟨VF,hh⟩:∃VF,(decide (kind=3)||decide (kind=4))=VF:=⟨_,rfl⟩;have HSP:Hid (pz=(if VF then ps else ps.set o { q with parts:=q.parts|||t }).set i (mk (q.around|||tq))):=by
    unfold Hid;rw[<- HZ.out,ho];unfold Y.jI Y.isH;rw[<- Wu,ho,<- hh,<- Wo,<- ht];simp only[Int.toNat_natCast,hq];rw[OB zad]
   have Wv:V0.cell? (w,3)=some ↑(o:Int):=by rw[OA V0 _ _ _ _ _ s5,ho];rfl
   have s6n:(V0.setCell (w.heap.size+1,6) (.int .u32 ((q.around|||tq:Nat):Int))).heap[w.heap.size+1]?=some (.cells (mk (q.around|||tq)).cells.toArray 180 (0,0)):=by
    rw[<- Wu]at s6⊢;exact OP V0 (w.heap.size+1) 6 _ _ (.int .u32 ((q.around|||tq:Nat):Int)) s6
   have YQ:=Xl.row;have hq6:=(Xl.ps hq).c6;have s66:V0.cell? (w.heap.size+1,6)=some (.int .u32 0):=by rw[OA V0 _ _ _ _ _ s6,<- Wu];rfl
   have f66:V0.frozen? (w.heap.size+1,6)=false:=by simp[World.frozen?,s6]
   rw[hh]at UW;clear ho HOW HZ Wu hh Wo;go_wp2_with fail;refine OQ (S:=(fun V=>V.cell? pb=some (.slice b ps.length cap)/\V.cell? ⟨w,3,none⟩=some ↑(o:Int))) zab ⟨YQ,Wv⟩ (fun u0=>?_);refine tH 0 pb rfl u0 ?_;refine tH 1 pb rfl u0 ?_;refine tH 2 pb rfl u0 ?_;refine tH 3 (.slice b ps.length cap) rfl u0 ?_;refine tH 4 (w,3) rfl u0 ?_;refine tH 5 (.int .i64 o) rfl u0 ?_;refine tH 6 (b,o*10) rfl u0 ?_;refine tH 7 (b,o*10) rfl u0 ?_;refine OY zab ?_ _;clear u0 YQ;have Wv:V0.drew.cell? (w,3)=_:=Wv;have hq6:V0.drew.cell? (b,o*10+6)=_:=hq6;have s66:V0.drew.cell? (w.heap.size+1,6)=_:=s66;have f66:V0.drew.frozen? (w.heap.size+1,6)=_:=f66;have VG:(V0.drew.setCell (w.heap.size+1,6) (.int .u32 ((q.around|||tq:Nat):Int))).drew.cell? w=_:=(ay (w:=V0) zak).trans VG;have UU:Below w w (V0.drew.setCell (w.heap.size+1,6) (.int .u32 ((q.around|||tq:Nat):Int))).drew:=(T5.drew.setCell (p:=⟨w.heap.size+1,6,none⟩) zad _).drew;have s6n:(V0.drew.setCell (w.heap.size+1,6) (.int .u32 ((q.around|||tq:Nat):Int))).drew.heap[w.heap.size+1]?=_:=s6n;have o1:=Q2 _ _ (WB o q hq).ha htol;clear s6 s5 Xl hPB0 T5;obtain⟨V0,hV⟩:∃V,V0.drew=V:=⟨_,rfl⟩;rw[hV]at Wv hq6 s66 f66 VG UU s6n⊢;clear hV;go_wp2_with fail;refine OQ (S:=(fun V=>V.cell? (b,o*10+6)=some (.int .u32 q.around)/\V.cell? ⟨w,3,none⟩=some ↑(o:Int))) zab ⟨hq6,Wv⟩ (fun u0=>?_);refine tH 0 (b,o*10) rfl u0 ?_;refine tH 1 (b,o*10) rfl u0 ?_;refine tH 2 (b,o*10+6) rfl u0 ?_;refine tH 3 (.int .u32 q.around) rfl u0 ?_;refine tH 4 (w,3) rfl u0 ?_;refine tH 5 (.int .i64 o) rfl u0 ?_;refine zH 6 rfl fun K hK=>?_;go_simp;refine(honeo _).mono ?_;rintro e w9 ⟨rfl,rfl⟩;refine hK.out _ _ u0 (fun u0=>?_);clear hK K;refine tH 7 (.int .u32 ((q.around|||tq:Nat):Int)) rfl u0 ?_;refine tH 8 (w.heap.size+1,6) rfl u0 ?_;refine zH 9 rfl fun K hK=>?_;go_simp;refine hK.out _ _ (by
    have e:∀(a:Addr),a≠⟨w.heap.size+1,6,none⟩->∀v,(V0.setCell (w.heap.size+1,6) v).drew.cell? a=V0.drew.cell? a:=fun a ha v=>ay (fun h=>ha h.symm)
    (try dsimp only at u0);(try dsimp only)
    rw[e _ zak,e _ zak];exact u0) (fun u0=>?_)
   clear hK K u0;refine OY zab ?_ _;obtain⟨V1,hV⟩:∃V,(V0.setCell (w.heap.size+1,6) (.int .u32 ((q.around|||tq:Nat):Int))).drew=V:=⟨_,rfl⟩;rw[hV]at VG UU s6n⊢;clear hV Wv hq6 s66 f66 o1 honeo;have VW:=hP.below UU T8 hb;have XV:Y.dz V1 pb b ps.length cap hv fin mv:=(UU.block pb T8).trans hB;cases VF
   ·go_wp2_with(go_at_call 104;refine(UW _).mono ?_;rintro e w9 ⟨rfl,Pg⟩;rw[Pg];clear Pg w9);have kq:=VW.at' o q hq 4 _ rfl;have kqc:=kq.1;have kqf:=kq.2;have o2:=Q2 _ _ (WB o q hq).hp Vo;have VO:=VW.set hq 4 (.int .u32 ((q.parts|||t:Nat):Int)) { q with parts:=q.parts|||t } zac (Y.bC.On rfl zac);have VO:Y.bC (V1.setCell (b,o*10+4) (.int .u32 ((q.parts|||t:Nat):Int))).drew pb b cap (ps.set o { q with parts:=q.parts|||t }):=⟨VO.row,VO.at',VO.len,VO.ne⟩;have hM:Mo (fun k=>k=b\/k=pb) w (V1.setCell (b,o*10+4) (.int .u32 ((q.parts|||t:Nat):Int))).drew:=jB ((az UU).set ⟨b,o*10+4,none⟩ _ (.inl rfl));have s6:(V1.setCell (b,o*10+4) (.int .u32 ((q.parts|||t:Nat):Int))).drew.heap[w.heap.size+1]?=_:=(O9 V1 ⟨b,o*10+4,none⟩ _ _ zae).trans s6n;have VG:(V1.setCell (b,o*10+4) (.int .u32 ((q.parts|||t:Nat):Int))).drew.cell? w=_:=(ay zak).trans VG;have UT:Y.dz (V1.setCell (b,o*10+4) (.int .u32 ((q.parts|||t:Nat):Int))).drew pb b ps.length cap hv fin mv:=(O9 V1 ⟨b,o*10+4,none⟩ _ _ TU).trans XV;refine OQ (S:=(fun _=>True)) zab trivial (fun u0=>?_);refine tH 0 (b,o*10) rfl u0 ?_;refine tH 1 (b,o*10) rfl u0 ?_;refine tH 2 (b,o*10+4) rfl u0 ?_;refine tH 4 (.int .i64 i) rfl u0 ?_;refine yH [3,5] ?_;refine Pb rfl (fun K hK=>?rg3) (Pb rfl (fun K hK=>?rg4) P1)
    case' rg3=>
     go_simp;refine hK.out _ _ u0 (fun u0=>?_);clear hK K;refine zH 5 rfl fun K hK=>?_;go_simp;refine(U1 _).mono ?_;rintro e w9 ⟨rfl,rfl⟩;refine hK.out _ _ u0 (fun u0=>?_);clear hK K;refine tH 6 (.int .u32 ((q.parts|||t:Nat):Int)) rfl u0 ?_;refine tH 7 (b,o*10) rfl u0 ?_;refine tH 8 (b,o*10+4) rfl u0 ?_;refine zH 9 rfl fun K hK=>?_;go_simp;refine hK.out _ _ (by
      exact trivial) (fun u0=>?_)
     clear hK K u0;refine OY zab ?_ _
    case' rg4=>
     go_simp;refine(U1 _).mono ?_;rintro e w9 ⟨rfl,rfl⟩;refine hK.out _ _ u0 (fun u0=>?_);clear hK K;refine zH 3 rfl fun K hK=>?_;go_simp;refine hK.out _ _ u0 (fun u0=>?_);clear hK K;refine tH 6 (.int .u32 ((q.parts|||t:Nat):Int)) rfl u0 ?_;refine tH 7 (b,o*10) rfl u0 ?_;refine tH 8 (b,o*10+4) rfl u0 ?_;refine zH 9 rfl fun K hK=>?_;go_simp;refine hK.out _ _ (by
      exact trivial) (fun u0=>?_)
     clear hK K u0;refine OY zab ?_ _
    all_goals
     go_wp2_with fail;go_meet
     case rel=>exact⟨⟨_,_,HSP,VO,zad,s6⟩,UT,hM,VG⟩
   ·go_wp2_with(go_at_call 104;refine(UW _).mono ?_;rintro e w9 ⟨rfl,Pg⟩;rw[Pg];clear Pg w9);go_meet
    case rel=>exact⟨⟨_,_,HSP,VW,rfl,s6n⟩,XV,az UU,VG⟩
 case rest=>
  obtain⟨⟨ps1,ar,HS,Uk,hl1,s6⟩,UT,hM,VG⟩:=hcut;obtain⟨pn,hpn⟩:∃pn,mk ar=pn:=⟨_,rfl⟩;rw[hpn]at HS s6;clear hpn Wu T5 s5 HOW HZ UW hB hP Xl hPB0;have hf2c:wc.cell? (pb,2)=some (.int .u32 fin):=by rw[OA wc _ _ _ _ _ UT];rfl
  have hf2f:wc.frozen? (pb,2)=false:=by simp[World.frozen?,show wc.heap[pb]?=_ from UT]
  go_upto_if 56 with fail
  go_cut[] from 8 (fun V=>Y.bC V pb b cap ps1/\V.heap[w.heap.size+1]?=some (.cells pn.cells.toArray 180 (0,0))/\Y.dz V pb b ps.length cap hv fn mv/\Mo (fun k=>k=b\/k=pb) w V)
  case first=>
   obtain⟨k2,VN⟩:∃k2,(kind == 2)=k2:=⟨_,rfl⟩;cases k2
   ·have UT:Y.dz wc pb b ps.length cap hv fn mv:=by have:=HF.out;rw[OB (by rw[VN];decide)]at this;rw[this];exact UT
    go_wp2_with fail;go_meet
    case rel=>exact⟨Uk,s6,UT,hM⟩
   ·have HF:Hid (fn=fin|||t):=by have:=HF.out;rw[OD VN]at this;exact this
    have o3:=Q2 _ _ hfl Vo;have UT:=OP wc pb 2 _ _ (.int .u32 ((fin|||t:Nat):Int)) UT;have UT:Y.dz (wc.setCell (pb,2) (.int .u32 ((fin|||t:Nat):Int))).drew pb b ps.length cap hv fn mv:=by rw[HF.out];exact UT
    have Uk:=Uk.NU 2 (.int .u32 ((fin|||t:Nat):Int)) zac;have Uk:Y.bC (wc.setCell (pb,2) (.int .u32 ((fin|||t:Nat):Int))).drew pb b cap ps1:=⟨Uk.row,Uk.at',Uk.len,Uk.ne⟩;have hM:Mo (fun k=>k=b\/k=pb) w (wc.setCell (pb,2) (.int .u32 ((fin|||t:Nat):Int))).drew:=jB (hM.set ⟨pb,2,none⟩ _ (.inr rfl));have s6:(wc.setCell (pb,2) (.int .u32 ((fin|||t:Nat):Int))).drew.heap[w.heap.size+1]?=_:=(O9 wc ⟨pb,2,none⟩ _ _ zae).trans s6;go_wp2_with fail;refine OQ (S:=(fun _=>True)) zab trivial (fun u0=>?_);refine tH 0 pb rfl u0 ?_;refine tH 1 pb rfl u0 ?_;refine tH 2 (pb,2) rfl u0 ?_;refine tH 4 (.int .i64 i) rfl u0 ?_;refine yH [3,5] ?_;refine Pb rfl (fun K hK=>?rg9) (Pb rfl (fun K hK=>?rg10) P1)
    case' rg9=>
     go_simp;refine hK.out _ _ u0 (fun u0=>?_);clear hK K;refine zH 5 rfl fun K hK=>?_;go_simp;refine(U1 _).mono ?_;rintro e w9 ⟨rfl,rfl⟩;refine hK.out _ _ u0 (fun u0=>?_);clear hK K;refine tH 6 (.int .u32 ((fin|||t:Nat):Int)) rfl u0 ?_;refine tH 7 pb rfl u0 ?_;refine tH 8 (pb,2) rfl u0 ?_;refine zH 9 rfl fun K hK=>?_;go_simp;refine hK.out _ _ (by
      exact trivial) (fun u0=>?_)
     clear hK K u0;refine OY zab ?_ _
    case' rg10=>
     go_simp;refine(U1 _).mono ?_;rintro e w9 ⟨rfl,rfl⟩;refine hK.out _ _ u0 (fun u0=>?_);clear hK K;refine zH 3 rfl fun K hK=>?_;go_simp;refine hK.out _ _ u0 (fun u0=>?_);clear hK K;refine tH 6 (.int .u32 ((fin|||t:Nat):Int)) rfl u0 ?_;refine tH 7 pb rfl u0 ?_;refine tH 8 (pb,2) rfl u0 ?_;refine zH 9 rfl fun K hK=>?_;go_simp;refine hK.out _ _ (by
      exact trivial) (fun u0=>?_)
     clear hK K u0;refine OY zab ?_ _
    all_goals
     go_wp2_with fail;go_meet
     case rel=>exact⟨Uk,s6,UT,hM⟩
  case rest=>
   clear Uk s6 UT hM VG hf2c hf2f HF;obtain⟨Uk,s6,UT,hM⟩:=hcut;have hr9:=Uk.row;rw[hl1]at hr9;have hil1:i<ps1.length:=zaa;have Xo:wc.drew.rangeAt (w.heap.size+1) 0 pn.cells:=by
    have:=kZ (w:=wc) s6;simpa using this
   obtain⟨p1,hp1⟩:∃p,ps1[i]?=some p:=⟨_,Ou hil1⟩;have hth:wc.drew.there b (i*10) pn.cells.toArray.size:=fun j hj=>by
    have hj:j<10:=by simpa[Y.PS.cells] using hj
    have:=Uk.at' i p1 hp1 j _ (Ou (by simpa[Y.PS.cells] using hj));exact⟨by rw[show wc.drew.cell? (b,i*10+j)=_ from this.1];rfl,this.2⟩
   have hsz9:(Tryz.prog.info? 180).map (·.size)=some pn.cells.toArray.size:=eA;have ZD:pn.cells.toArray.all (·.oneCell')=true:=zbD;have hlen9:pn.cells.length=10:=rfl;have Vj:(storeCells ⟨b,i*10,none⟩ pn.cells).run prog wc.drew=.ok () (wc.drew.setCells b (i*10) pn.cells):=
    run_storeCells_cells (P:=prog) b (i*10) pn.cells 0 wc.drew (fun j hj=>(hth j (by simpa using hj)).1) (fun j hj=>(hth j (by simpa using hj)).2) (fun v hv=>Rz.1 ZD v (by simpa using hv))
   have hP9:=(show Y.bC wc.drew pb b cap ps1 from⟨Uk.row,Uk.at',Uk.len,Uk.ne⟩).setRow hil1 pn;rw[<- HS.out]at hP9;have U7:Mo (fun k=>k=b\/k=pb) w (wc.drew.setCells b (i*10) pn.cells):=(jB hM).cells b (i*10) pn.cells (.inl rfl);have UK:Y.dz (wc.drew.setCells b (i*10) pn.cells) pb b ps.length cap hv fn mv:=((Mo.refl (·=b) wc.drew).cells b (i*10) pn.cells rfl |>.block pb (by show pb<wc.heap.size;have:=hM.size;omega) TU).trans UT;go_wp2_with fail;refine OQ (S:=(fun V=>V.cell? pb=some (.slice b ps.length cap)/\V.rangeAt (w.heap.size+1) 0 pn.cells)) zab ⟨hr9,Xo⟩ (fun u0=>?_);refine tH 0 pb rfl u0 ?_;refine tH 1 pb rfl u0 ?_;refine tH 2 pb rfl u0 ?_;refine tH 3 (.slice b ps.length cap) rfl u0 ?_;refine tH 4 (.int .i64 i) rfl u0 ?_;refine Tj (i:=5) (v:=(.agg pn.cells.toArray)) rfl zab zab zab (fun _ _ _ h=>h) (yieldsIf_load_mid rfl 180 (.tmp 6) rfl (w.heap.size+1) 0 rfl pn.cells _ (fun w UL=>UL.2) underlying180 rfl eA) u0 ?_;refine tH 6 (b,i*10) rfl u0 ?_;refine zH 7 rfl fun K hK=>?_;go_simp;refine hK.out _ _ (by
    refine⟨(Sq b pn.cells (i*10) wc.drew _ (fun e=>absurd e TU)).trans u0.1,World.rangeAt_setCells_apart u0.2 b (i*10) pn.cells (.inl zaa)⟩) (fun u0=>?_)
   clear hK K u0;refine OY zab ?_ _;go_wp2;go_end0;exact⟨rfl,UK,hP9,U7⟩
theorem xY(w:World)(c s pt:Nat)(hs:s<4294967296)(hp:pt<4294967296)(hc:w.cell? (c,4)=some (.int .u32 pt)):
  () 105 #[.int .u32 s,c] w fun e w'=>e=.returned (.int .u32 ((s&&&pt:Nat):Int))/\w'=w:=by
 have ha:=RM _ _ hs hp;go_enter func105,ntmps105;go_wp2;go_ret;exact⟨rfl,rfl⟩
theorem At(w:World)(c all:Nat)(kv:Value)(hc:w.cell? c=some (.int .u32 all)):
  () 160 #[kv,c] w fun e w'=>e=.returned (.int .u32 all)/\w'=w:=by
 go_enter func160,ntmps160;go_wp2;go_ret;exact⟨rfl,rfl⟩
theorem pZ(w:World)(kv:Value):() 109 #[kv] w fun e w'=>e=.returned (.int .u32 0)/\w'=w:=by
 go_enter func109,ntmps109;exact zfG
theorem Y.Ig(ps:List Y.PS)(h:s<4294967296):Y.inn ps s<4294967296:=Y.xR ps _ _ h
theorem xX(w:World)(pb b cap:Nat)(ps:List Y.PS)(c d s ins:Nat)(hs:s<4294967296)(hi:ins<4294967296)(Ux:∀i,i∈Y.els s->i<ps.length)(hP:Y.cd w pb b cap ps)(T8:pb<w.heap.size)(hb:b<w.heap.size)
  (hg:1<w.heap.size) (hT:TabAt 1 Lib.deBruijn32tab w) (hd:Boxed w d 103 pb) (Um:c<w.heap.size) (hc:w.cell? (c,5)=some (.int .u32 ins)):
  () 106 #[.int .u32 s,d,c] w fun e w'=>e=.returned (.int .u32 ((Y.inn ps s&&&ins:Nat):Int))/\Below w w w':=by
 have UB:=(Oy w w).drew;have Xz:=ny w.drew pb b cap ps s hs Ux (hP.below UB T8 hb) T8 hb hg hT;have V6:=Y.Ig ps hs;obtain⟨r,hr⟩:∃r,Y.inn ps s=r:=⟨_,rfl⟩;rw[hr]at Xz V6⊢;have ha:=RM _ _ V6 hi;clear hr;go_enter func106,ntmps106;go_wp2;refine OQ (S:=(fun V=>V.cell? d=some ↑pb/\V.cell? ⟨c,5,none⟩=some (.int .u32 ins))) zab ⟨hd.cell,hc⟩ (fun u0=>?_);refine tH 0 pb rfl u0 ?_;refine tH 1 (.int .u32 s) rfl u0 ?_;refine tH 3 (c,5) rfl u0 ?_;refine tH 4 (.int .u32 ins) rfl u0 ?_;refine zH 2 rfl fun K hK=>?_;go_simp;refine Xz.mono ?_;rintro e w9 ⟨rfl,UK⟩;refine hK.out _ _ ⟨(UK.cell (p:=d) hd.lt).trans u0.1,(UK.cell (p:=⟨c,5,none⟩) Um).trans u0.2⟩ (fun u0=>?_);clear hK K;refine tH 5 (.int .u32 ((r&&&ins:Nat):Int)) rfl u0 ?_;refine tH 6 (.int .u32 ((r&&&ins:Nat):Int)) rfl u0 ?_;refine OY zab ?_ _;go_wp2;go_ret;exact⟨rfl,UB.trans UK⟩
namespace Y
inductive En where
 |nil
 |all (a:Nat)
 |hist (path dest:Nat)
def uB(W:World)(pb b:Nat):En->Value->Prop
 |.nil,v=>v=.func (.func 109) #[] #[]
 |.all a,v=>∃c,v=.func (.func 160) #[] #[.pointer (some ⟨c,0,none⟩)]/\Boxed W c 107 (.int .u32 a)
 |.hist p t,v=>∃c3 c7 c6 c5,v=.func (.func 157) #[] #[.pointer (some ⟨c3,0,none⟩),.pointer (some ⟨c7,0,none⟩),.pointer (some ⟨c6,0,none⟩),.pointer (some ⟨c5,0,none⟩)]/\Boxed W c3 103 (.pointer (some ⟨pb,0,none⟩))/\Boxed W c7 107 (.int .u32 p)/\Boxed W c6 252 (.pointer (some ⟨b,t*10,none⟩))/\Boxed W c5 3 (.int .i64 t)
def rh(ps:List PS)(i:Nat):Nat:=match ps[i]? with|some p=>p.owner.toNat|none=>0
def enters(ps:List PS)(kept:Nat->Nat):En->Nat
 |.nil=>0
 |.all a=>a
 |.hist p t=>complete ps (p|||dE ps (rh ps t) (kept t))
theorem uB.aq{W W':World}{pb b:Nat}{e:En}{v:Value}(h:uB W pb b e v)(hk:∀(B:Nat) (t:TypeId) (u:Value),(t=107\/t=103\/t=252\/t=3)->Boxed W B t u->Boxed W' B t u):uB W' pb b e v:=by
 cases e with
 |nil=>exact h
 |all a=>obtain⟨c,h1,h2⟩:=h;exact⟨c,h1,hk _ _ _ zad h2⟩
 |hist p t=>obtain⟨c3,c7,c6,c5,h1,h2,h3,h4,h5⟩:=h;exact⟨c3,c7,c6,c5,h1,hk _ _ _ zad h2,hk _ _ _ zad h3,hk _ _ _ zad h4,hk _ _ _ zad h5⟩
end Y
theorem yf(w:World)(pb b cap:Nat)(ps:List Y.PS)(c3 c7 c6 c5 path to_ ow kb ko k:Nat)(pt po:Y.PS)(We:ps[to_]?=some pt)(Vr:ps[ow]?=some po)(TN:pt.owner=ow)(YU:path<4294967296)(Vf:k<4294967296)(Ux:∀i,i∈Y.els k->i<ps.length)(XW:∀i,i∈Y.els (path|||Y.dE ps ow k)->i<ps.length)(ZE:∀(i:Nat) (p:Y.PS),ps[i]?=some p->∀j∈Y.els p.parts,j<ps.length)(hP:Y.cd w pb b cap ps)(T8:pb<w.heap.size)(VF:b<w.heap.size)
  (hg:1<w.heap.size) (hT:TabAt 1 Lib.deBruijn32tab w) (h3:Boxed w c3 103 pb) (h7:Boxed w c7 107 (.int .u32 path)) (h6:Boxed w c6 252 (b,to_*10)) (h5:Boxed w c5 3 (.int .i64 to_)) (Vq:kb<w.heap.size) (hk:w.cell? (kb,ko+to_)=some (.int .u32 k)):
  () 157 #[(kb,ko),c3,c7,c6,c5] w fun e w'=>e=.returned (.int .u32 (Y.complete ps (path|||Y.dE ps ow k)))/\Below w w w':=by
 have Vo:to_<ps.length:=(Oz.1 We).1;have hlen:=hP.len;have WT:¬(24:Int)<=(to_:Int):=zaa;have hot:w.cell? (b,to_*10+3)=some ↑(ow:Int):=by rw[<- TN];exact(hP.at' to_ pt We).c3
 have V6:=Y.FZ hP.sm ow k;have hrec:∀V,Below w w V->() 159 #[pb,(ow:Int),.int .u32 k] V fun e w'=>e=.returned (.int .u32 (Y.dE ps ow k))/\Below V.heap.size V w':=fun V hV=>by
  have:=hV.size;exact C4 V pb b cap ps ow po Vr k Vf Ux (hP.below hV T8 VF) zaa zaa zaa (Y.KpT.of hV hg hT)
 have XA:∀V,Below w w V->() 158 #[pb,.int .u32 ((path|||Y.dE ps ow k:Nat):Int)] V fun e w'=>e=.returned (.int .u32 (Y.complete ps (path|||Y.dE ps ow k)))/\Below V.heap.size V w':=fun V hV=>by
  have:=hV.size;exact oy V pb b cap ps _ (Y.qM YU V6) XW ZE (hP.below hV T8 VF) zaa zaa zaa (Y.KpT.of hV hg hT)
 obtain⟨z,hz⟩:∃z,Y.complete ps (path|||Y.dE ps ow k)=z:=⟨_,rfl⟩;obtain⟨r,hr⟩:∃r,Y.dE ps ow k=r:=⟨_,rfl⟩;rw[hr]at hz;rw[hr]at V6 hrec XA⊢;rw[hz]at XA⊢;have ho:=Q2 _ _ YU V6;clear hr hz;go_enter func157,ntmps157;go_wp2;refine OQ (S:=(fun V=>V.cell? c3=some ↑pb/\V.cell? c7=some (.int .u32 path)/\V.cell? c6=some ↑(b,to_*10)/\V.cell? c5=some ↑(to_:Int)/\V.cell? (b,to_*10+3)=some ↑(ow:Int)/\V.cell? (kb,ko+to_)=some (.int .u32 k))) zab ⟨h3.cell,h7.cell,h6.cell,h5.cell,hot,hk⟩ (fun u0=>?_);refine tH 0 pb rfl u0 ?_;refine tH 1 (.int .u32 path) rfl u0 ?_;refine tH 2 pb rfl u0 ?_;refine tH 3 (b,to_*10) rfl u0 ?_;refine tH 4 (b,to_*10) rfl u0 ?_;refine tH 5 (b,to_*10+3) rfl u0 ?_;refine tH 6 (.int .i64 ow) rfl u0 ?_;refine tH 7 (kb,ko) rfl u0 ?_;refine tH 8 (.int .i64 to_) rfl u0 ?_;refine tH 9 (kb,ko) rfl u0 ?_;refine tH 10 (kb,ko+to_) rfl u0 ?_;refine tH 11 (.int .u32 k) rfl u0 ?_;refine zH 12 rfl fun K hK=>?_;go_simp;refine(hrec w.drew (Oy _ w).drew).mono ?_;rintro e w9 ⟨rfl,UK⟩;refine hK.out _ _ ((fun hb=>⟨(hb.cell (p:=c3) h3.lt).trans u0.1,(hb.cell (p:=c7) h7.lt).trans u0.2.1,(hb.cell (p:=c6) h6.lt).trans u0.2.2.1,(hb.cell (p:=c5) h5.lt).trans u0.2.2.2.1,(hb.cell (p:=(b,to_*10+3)) VF).trans u0.2.2.2.2.1,(hb.cell (p:=(kb,ko+to_)) Vq).trans u0.2.2.2.2.2⟩) UK) (fun u0=>?_);clear hK K;refine tH 13 (.int .u32 ((path|||r:Nat):Int)) rfl u0 ?_;refine zH 14 rfl fun K hK=>?_;go_simp;have hB8:Below w w w9:=(Oy _ w).drew.trans UK;have hl9:∀x,x<w.heap.size->x<w9.heap.size:=fun x hx=>OS hx hB8.size;refine(XA w9 hB8).mono ?_;rintro e w8 ⟨rfl,hB10⟩;refine hK.out _ _ ((fun hb=>⟨(hb.cell (p:=c3) h3.lt).trans u0.1,(hb.cell (p:=c7) h7.lt).trans u0.2.1,(hb.cell (p:=c6) h6.lt).trans u0.2.2.1,(hb.cell (p:=c5) h5.lt).trans u0.2.2.2.1,(hb.cell (p:=(b,to_*10+3)) VF).trans u0.2.2.2.2.1,(hb.cell (p:=(kb,ko+to_)) Vq).trans u0.2.2.2.2.2⟩) (hB10.mono hB8.size)) (fun u0=>?_);clear hK K;refine tH 15 (.int .u32 z) rfl u0 ?_;refine OY zab ?_ _;go_wp2;go_ret;exact⟨rfl,hB8.trans (hB10.mono hB8.size)⟩
theorem pA{P:Program}{w:World}{a:Addr}{u:Value}(hc:w.cell? a=some u)(hf:w.frozen? a=false)(f:Fn)(x y:Array Value):(store a (.func f x y)).run P w=.ok () (w.setCell a (.func f x y)):=by
 rw[Tz P w _ _ _ rfl];simp[hc,hf]
namespace Y
def fD(ps:List PS)(own dest:Nat):En:=match ps[dest]? with
 |none=>.nil
 |some p=>if isH p.kind then .hist (p.around&&&dom ps own dest) dest else .all (complete ps ((p.around&&&dom ps own dest)|||p.wth))
theorem KG(h:Sms ps)(i:Nat):fm ps i<4294967296:=by
 unfold fm;split
 ·rename_i p hp;exact(h i p hp).hi
 ·decide
theorem ME(h:Sms ps)(hl:ps.length<=24)(i j:Nat):dom ps i j<4294967296:=by
 unfold dom;split
 ·exact KG h _
 ·have:2 ^ ps.length<=2 ^ 24:=PX zac hl;omega
theorem uD.mo(h:uD W b i p)(hm:Mo P W W')(hb:b<W.heap.size)(hn:¬P b):uD W' b i p where
 c0:=(hm.cell (p:=⟨b,_,none⟩) hb hn).trans h.c0
 c1:=(hm.cell (p:=⟨b,_,none⟩) hb hn).trans h.c1
 c2:=(hm.cell (p:=⟨b,_,none⟩) hb hn).trans h.c2
 c3:=(hm.cell (p:=⟨b,_,none⟩) hb hn).trans h.c3
 c4:=(hm.cell (p:=⟨b,_,none⟩) hb hn).trans h.c4
 c5:=(hm.cell (p:=⟨b,_,none⟩) hb hn).trans h.c5
 c6:=(hm.cell (p:=⟨b,_,none⟩) hb hn).trans h.c6
 c7:=(hm.cell (p:=⟨b,_,none⟩) hb hn).trans h.c7
 c8:=(hm.cell (p:=⟨b,_,none⟩) hb hn).trans h.c8
 c9:=(hm.cell (p:=⟨b,_,none⟩) hb hn).trans h.c9
theorem cd.mo(h:cd W pb b cap ps)(hm:Mo P W W')(h1:pb<W.heap.size)(h2:b<W.heap.size)(n1:¬P pb)(n2:¬P b):cd W' pb b cap ps where
 row:=(hm.cell (p:=pb) h1 n1).trans h.row
 at':=fun i p hi=>(h.at' i p hi).mo hm h2 n2
 sm:=h.sm
 len:=h.len
end Y
theorem IA(w:World)(pb b cap:Nat)(ps:List Y.PS)(own dest mvb:Nat)(p pd:Y.PS)(lv:Nat)(av fv:Value)(Vr:ps[own]?=some p)(Xp:ps[dest]?=some pd)(Ux:∀i,i∈Y.els (p.around&&&pd.around)->i<ps.length)(XW:∀i,i∈Y.els ((pd.around&&&Y.dom ps own dest)|||pd.wth)->i<ps.length)(ZE:∀(i:Nat) (p:Y.PS),ps[i]?=some p->∀j∈Y.els p.parts,j<ps.length)
  (hP:Y.cd w pb b cap ps) (T8:pb<w.heap.size) (hb:b<w.heap.size) (n1:pb≠mvb) (n2:b≠mvb) (hg:1<w.heap.size) (hgm:1≠mvb) (hT:TabAt 1 Lib.deBruijn32tab w)
  (hmv:w.heap[mvb]?=some (.cells #[(own:Int),.int .u32 lv,av,fv] 266 (0,0))):
  () 110 #[pb,mvb,(dest:Int)] w fun e w'=>e=.returned (.tuple #[])/\Mo (·=mvb) w w'/\∃fv',w'.heap[mvb]?=some (.cells #[(own:Int),.int .u32 (Y.dom ps own dest),av,fv'] 266 (0,0))/\Y.uB w' pb b (Y.fD ps own dest) fv':=by
 have hmvl0:mvb<w.heap.size:=(Ov.1 hmv).1;have UH:dest<ps.length:=(Oz.1 Xp).1;have hlen:=hP.len;have hdml:=Y.ME hP.sm hlen own dest;have ZF:∀V,Below w w V->() 156 #[pb,(own:Int),(dest:Int)] V fun e w'=>e=.returned (.int .u32 (Y.dom ps own dest))/\Below V.heap.size V w':=fun V hV=>by
  have:=hV.size;exact O3.1 (E6 3 zaa V pb b cap ps own dest p pd Vr Xp Ux (hP.below hV T8 hb) zaa zaa)
 have XA:∀V,Mo (·=mvb) w V->() 158 #[pb,.int .u32 (((pd.around&&&Y.dom ps own dest)|||pd.wth:Nat):Int)] V fun e w'=>e=.returned (.int .u32 (Y.complete ps ((pd.around&&&Y.dom ps own dest)|||pd.wth)))/\Below V.heap.size V w':=fun V hV=>by
  have:=hV.size;exact oy V pb b cap ps _ (Y.qM (Y.kF (hP.sm dest pd Xp).ha) (hP.sm dest pd Xp).hw) XW ZE (hP.mo hV T8 hb n1 n2) zaa zaa zaa (hV.kpT hg hgm hT)
 have hle:Y.fD ps own dest=if Y.isH pd.kind then .hist (pd.around&&&Y.dom ps own dest) dest else .all (Y.complete ps ((pd.around&&&Y.dom ps own dest)|||pd.wth)):=by unfold Y.fD;rw[Xp]
 obtain⟨en,hen⟩:∃en,Y.fD ps own dest=en:=⟨_,rfl⟩;rw[hen]at hle⊢;obtain⟨dm,hdm⟩:∃dm,Y.dom ps own dest=dm:=⟨_,rfl⟩;rw[hdm]at hdml ZF XA hle⊢;have YV:Hid _:=hle;have UW:=sK pd.kind;have a1:=RM _ _ (hP.sm dest pd Xp).ha hdml;have a2:=Q2 _ _ (Y.kF (b:=dm) (hP.sm dest pd Xp).ha) (hP.sm dest pd Xp).hw;clear hle hen hdm Ux XW;go_enter func110,ntmps110;go_wp2_with fail;have c3:=(O4 w 103 pb).alloc (.cells #[(dest:Int)] 3);have c5:=O4 (w.alloc (.cells #[pb] 103)) 3 (.int .i64 dest);simp only[World.size_alloc]at c5;have T5:=((Oy w w).alloc (Ow _) (.cells #[pb] 103)).alloc zad (.cells #[(dest:Int)] 3);obtain⟨W1,Uj⟩:∃W,(w.alloc (.cells #[pb] 103)).alloc (.cells #[(dest:Int)] 3)=W:=⟨_,rfl⟩;rw[Uj]at c3 c5 T5⊢;clear Uj;have YW:=(T5.block mvb hmvl0).trans hmv;have ZG:mvb<W1.heap.size:=(Ov.1 YW).1;have Zp:W1.cell? mvb=some ↑(own:Int):=by rw[OA W1 _ _ _ _ _ YW];rfl
 have hm1:W1.drew.cell? (mvb,1)=some (.int .u32 lv):=by show W1.cell? _=_;rw[OA W1 _ _ _ _ _ YW];rfl
 have hf1:W1.drew.frozen? (mvb,1)=false:=by show W1.frozen? _=_;simp[World.frozen?,YW]
 have ZF:∀V,Below W1 W1 V->_:=fun V hV=>ZF V (T5.trans (hV.mono T5.size));refine OQ (S:=(fun V=>V.cell? w=some ↑pb/\V.cell? ↑(w.heap.size+1)=some ↑(dest:Int)/\V.cell? mvb=some ↑(own:Int))) zab ⟨c3.cell,c5.cell,Zp⟩ (fun u0=>?_);refine tH 0 mvb rfl u0 ?_;refine tH 1 pb rfl u0 ?_;refine tH 2 mvb rfl u0 ?_;refine tH 3 mvb rfl u0 ?_;refine tH 4 mvb rfl u0 ?_;refine tH 5 (.int .i64 own) rfl u0 ?_;refine tH 6 (.int .i64 dest) rfl u0 ?_;refine zH 7 rfl fun K hK=>?_;go_simp;refine(ZF _ (Oy _ W1).drew).mono ?_;rintro e w9 ⟨rfl,UK⟩;refine hK.out _ _ ⟨((UK).cell (p:=w) c3.lt).trans u0.1,((UK).cell (p:=↑(w.heap.size+1)) c5.lt).trans u0.2.1,((UK).cell (p:=mvb) ZG).trans u0.2.2⟩ (fun u0=>?_);clear hK K;have hm1:w9.cell? (mvb,1)=_:=(UK.cell (p:=⟨mvb,1,none⟩) ZG).trans hm1;have hf1:w9.frozen? (mvb,1)=_:=(UK.frozen (p:=⟨mvb,1,none⟩) ZG).trans hf1;refine tH 8 mvb rfl u0 ?_;refine tH 9 (mvb,1) rfl u0 ?_;refine zH 10 rfl fun K hK=>?_;go_simp;refine hK.out _ _ (by
  have e:∀(a:Addr),a≠⟨mvb,1,none⟩->∀v,(w9.setCell (mvb,1) v).cell? a=w9.cell? a:=fun a ha v=>ay (fun h=>ha h.symm)
  (try dsimp only at u0);(try dsimp only)
  rw[e _ zak,e _ zak,e _ zak];exact u0) (fun u0=>?_)
 clear hK K u0;refine OY zab ?_ _;have UK:Below W1 W1 w9:=(Oy _ W1).drew.trans UK;have hBw9:Below w w w9:=T5.trans (UK.mono T5.size);have Vh:Mo (·=mvb) w (w9.setCell (mvb,1) (.int .u32 dm)):=(az hBw9).set ⟨mvb,1,none⟩ _ rfl;have ZH:=OP w9 mvb 1 _ _ (.int .u32 dm) ((UK.block mvb ZG).trans YW);have ZH:(w9.setCell (mvb,1) (.int .u32 dm)).heap[mvb]?=some (.cells #[(own:Int),.int .u32 dm,av,fv] 266 (0,0)):=ZH;have c3:=bs (aB c3 UK c3.lt) (p:=⟨mvb,1,none⟩) zae (.int .u32 dm);have c5:=bs (aB c5 UK c5.lt) (p:=⟨mvb,1,none⟩) zae (.int .u32 dm);obtain⟨W2,WR⟩:∃W,w9.setCell (mvb,1) (.int .u32 dm)=W:=⟨_,rfl⟩;rw[WR]at Vh ZH c3 c5⊢;clear WR u0 Zp hm1 hf1 hBw9 UK T5 YW ZF ZG;have VO:=hP.mo Vh T8 hb n1 n2;have hs2:=Vh.size;go_wp2_with fail;have hkS:∀v:Value,(fun V=>V.cell? w=some ↑pb/\V.cell? pb=some (.slice b ps.length cap)/\V.cell? ↑(w.heap.size+1)=some ↑(dest:Int)) ((W2.alloc (.cells #[v] 252)).drew):=fun v=>by
  have UA:Below W2 W2 (W2.alloc (.cells #[v] 252)).drew:=((Oy _ W2).alloc (Ow _) _).drew;exact⟨(UA.cell (p:=w) c3.lt).trans c3.cell,(UA.cell (p:=pb) (show pb<W2.heap.size by omega)).trans VO.row,(UA.cell (p:=↑(w.heap.size+1)) c5.lt).trans c5.cell⟩
 refine OQ (S:=(fun V=>V.cell? w=some ↑pb/\V.cell? pb=some (.slice b ps.length cap)/\V.cell? ↑(w.heap.size+1)=some ↑(dest:Int))) zab ⟨c3.cell,VO.row,c5.cell⟩ (fun u0=>?_);refine tH 0 pb rfl u0 ?_;refine tH 1 pb rfl u0 ?_;refine tH 2 pb rfl u0 ?_;refine tH 3 (.slice b ps.length cap) rfl u0 ?_;refine tH 4 (.int .i64 dest) rfl u0 ?_;refine tH 5 (b,dest*10) rfl u0 ?_;refine zH 6 rfl fun K hK=>?_;go_simp;refine hK.out _ _ (hkS _) (fun u0=>?_);clear hK K;refine zH 7 rfl fun K hK=>?_;go_simp;refine hK.out _ _ (hkS _) (fun u0=>?_);clear hK K u0;refine OY zab ?_ _;have c6:Boxed (W2.alloc (.cells #[(b,dest*10)] 252)).drew W2.heap.size 252 (b,dest*10):=O4 W2 252 (b,dest*10);have VP:Below W2 W2 (W2.alloc (.cells #[(b,dest*10)] 252)).drew:=((Oy _ W2).alloc (Ow _) _).drew;have c3:=aB c3 VP c3.lt;have c5:=aB c5 VP c5.lt;have Vi:Mo (·=mvb) w (W2.alloc (.cells #[(b,dest*10)] 252)).drew:=Vh.trans (az VP);have hmv3:=(VP.block mvb zaa).trans ZH;obtain⟨B6,Xq⟩:∃B,W2.heap.size=B:=⟨_,rfl⟩;obtain⟨W3,YR⟩:∃W,(W2.alloc (.cells #[(b,dest*10)] 252)).drew=W:=⟨_,rfl⟩;rw[YR]at c3 c5 c6 Vi hmv3⊢;rw[Xq]at c6⊢;have hB6w:w.heap.size<=B6:=zaa;clear YR Xq VP hkS VO ZH Vh hs2;have hP3:=hP.mo Vi T8 hb n1 n2;have Wv:=Vi.size;have hm3:W3.cell? (mvb,1)=some (.int .u32 dm):=by rw[OA W3 _ _ _ _ _ hmv3];rfl
 go_wp2_with fail;have hkS:∀v:Value,(fun V=>V.cell? B6=some ↑(b,dest*10)/\V.cell? (b,dest*10+6)=some (.int .u32 pd.around)/\V.cell? ⟨mvb,1,none⟩=some (.int .u32 dm)) ((W3.alloc (.cells #[v] 107)).drew):=fun v=>by
  have UA:Below W3 W3 (W3.alloc (.cells #[v] 107)).drew:=((Oy _ W3).alloc (Ow _) _).drew;exact⟨(UA.cell (p:=B6) c6.lt).trans c6.cell,(UA.cell (p:=(b,dest*10+6)) (show b<W3.heap.size by omega)).trans (hP3.at' dest pd Xp).c6,(UA.cell (p:=⟨mvb,1,none⟩) (show mvb<W3.heap.size by omega)).trans hm3⟩
 refine OQ (S:=(fun V=>V.cell? B6=some ↑(b,dest*10)/\V.cell? (b,dest*10+6)=some (.int .u32 pd.around)/\V.cell? ⟨mvb,1,none⟩=some (.int .u32 dm))) zab ⟨c6.cell,(hP3.at' dest pd Xp).c6,hm3⟩ (fun u0=>?_);refine tH 0 (b,dest*10) rfl u0 ?_;refine tH 1 (b,dest*10) rfl u0 ?_;refine tH 2 (b,dest*10+6) rfl u0 ?_;refine tH 3 (.int .u32 pd.around) rfl u0 ?_;refine tH 4 mvb rfl u0 ?_;refine tH 5 mvb rfl u0 ?_;refine tH 6 (mvb,1) rfl u0 ?_;refine tH 7 (.int .u32 dm) rfl u0 ?_;refine tH 8 (.int .u32 ((pd.around&&&dm:Nat):Int)) rfl u0 ?_;refine zH 9 rfl fun K hK=>?_;go_simp;refine hK.out _ _ (hkS _) (fun u0=>?_);clear hK K;refine zH 10 rfl fun K hK=>?_;go_simp;refine hK.out _ _ (hkS _) (fun u0=>?_);clear hK K u0;refine OY zab ?_ _;obtain⟨pa,YU⟩:∃pa,pd.around&&&dm=pa:=⟨_,rfl⟩;rw[YU]at a1 a2 XA YV⊢;have hpal:pa<4294967296:=by rw[<- YU];exact Y.kF (hP.sm dest pd Xp).ha
 clear YU;have c7:Boxed (W3.alloc (.cells #[.int .u32 pa] 107)).drew W3.heap.size 107 (.int .u32 pa):=O4 W3 107 (.int .u32 pa);have hB4:Below W3 W3 (W3.alloc (.cells #[.int .u32 pa] 107)).drew:=((Oy _ W3).alloc (Ow _) _).drew;have c3:=aB c3 hB4 c3.lt;have c5:=aB c5 hB4 c5.lt;have c6:=aB c6 hB4 c6.lt;have XX:Mo (·=mvb) w (W3.alloc (.cells #[.int .u32 pa] 107)).drew:=Vi.trans (az hB4);have ZI:=(hB4.block mvb zaa).trans hmv3;obtain⟨B7,hB7⟩:∃B,W3.heap.size=B:=⟨_,rfl⟩;obtain⟨W4,hW4⟩:∃W,(W3.alloc (.cells #[.int .u32 pa] 107)).drew=W:=⟨_,rfl⟩;rw[hW4]at c3 c5 c6 c7 XX ZI⊢;rw[hB7]at c7⊢;have hB7w:w.heap.size<=B7:=zaa;clear hW4 hB7 hB4 hkS hP3 hmv3 Vi Wv hm3;have V4:=hP.mo XX T8 hb n1 n2;have hs4:=XX.size;have d6:=c6.cell;have d0:=(V4.at' dest pd Xp).c0;have e3:W4.cell? (mvb,3)=some fv:=by rw[OA W4 _ _ _ _ _ ZI];rfl
 have f3:W4.frozen? (mvb,3)=false:=by simp[World.frozen?,ZI]
 obtain⟨VF,hh⟩:∃VF,(decide (pd.kind=3)||decide (pd.kind=4))=VF:=⟨_,rfl⟩;have YV:Hid (en=if VF then .hist pa dest else .all (Y.complete ps (pa|||pd.wth))):=by have:=YV.out;unfold Y.isH at this;rw[hh]at this;exact this
 rw[hh]at UW;clear hh;cases VF
 ·have YV:Hid (en=.all (Y.complete ps (pa|||pd.wth))):=YV.out;obtain⟨z,hz⟩:∃z,Y.complete ps (pa|||pd.wth)=z:=⟨_,rfl⟩;rw[hz]at YV XA;clear hz;have hcomA:∀V,Below W4 W4 V->_:=fun V hV=>XA V (XX.trans (az hV));have UB:=(Oy W4 W4).drew;have YS:∀v:Value,Below W4 W4 (W4.alloc (.cells #[v] 107)).drew:=fun v=>((Oy _ W4).alloc (Ow _) _).drew
  go_upto_region 6 with(go_at_call 104;refine(UW _).mono ?_;rintro e w9 ⟨rfl,Pg⟩;rw[Pg];clear Pg w9)
  go_cut[8] from 9 (fun s8 V=>∃B8,s8=.pointer (some ⟨B8,0,none⟩)/\Boxed V B8 107 (.int .u32 z)/\Below W4 W4 V)
  case first=>
   have UF:∀V:World,Below W4 W4 V->(fun V=>V.cell? w=some ↑pb/\V.cell? B7=some (.int .u32 pa)/\V.cell? B6=some ↑(b,dest*10)/\V.cell? (b,dest*10+7)=some (.int .u32 pd.wth)) V:=fun V UA=>⟨(UA.cell (p:=w) c3.lt).trans c3.cell,(UA.cell (p:=B7) c7.lt).trans c7.cell,(UA.cell (p:=B6) c6.lt).trans c6.cell,(UA.cell (p:=(b,dest*10+7)) (show b<W4.heap.size by omega)).trans (V4.at' dest pd Xp).c7⟩;refine OQ (S:=(fun V=>V.cell? w=some ↑pb/\V.cell? B7=some (.int .u32 pa)/\V.cell? B6=some ↑(b,dest*10)/\V.cell? (b,dest*10+7)=some (.int .u32 pd.wth))) zab ⟨c3.cell,c7.cell,c6.cell,(V4.at' dest pd Xp).c7⟩ (fun u0=>?_);refine tH 0 pb rfl u0 ?_;refine tH 1 (.int .u32 pa) rfl u0 ?_;refine tH 2 (b,dest*10) rfl u0 ?_;refine tH 3 (b,dest*10) rfl u0 ?_;refine tH 4 (b,dest*10+7) rfl u0 ?_;refine tH 5 (.int .u32 pd.wth) rfl u0 ?_;refine tH 6 (.int .u32 ((pa|||pd.wth:Nat):Int)) rfl u0 ?_;refine yH [7,8] ?_;refine Pb rfl (fun K hK=>?rg7) (Pb rfl (fun K hK=>?rg8) P1)
   case' rg7=>
    go_simp;refine(hcomA _ zbd).mono ?_;rintro e w9 ⟨rfl,hB9x⟩;have UK:Below W4 W4 w9:=zca;refine hK.out _ _ (UF w9 UK) (fun u0=>?_);clear hK K;refine zH 8 rfl fun K hK=>?_;go_simp;refine hK.out _ _ (UF _ zco) (fun u0=>?_);clear hK K;refine zH 9 rfl fun K hK=>?_;go_simp;refine hK.out _ _ (UF _ (UK.alloc UK.size _)) (fun u0=>?_);clear hK K u0;refine OY zab ?_ _
   case' rg8=>
    go_simp;refine hK.out _ _ (UF _ zco) (fun u0=>?_);clear hK K;refine zH 7 rfl fun K hK=>?_;go_simp;refine(hcomA _ zbd).mono ?_;rintro e w9 ⟨rfl,hB9x⟩;have UK:Below W4 W4 w9:=zca;refine hK.out _ _ (UF w9 UK) (fun u0=>?_);clear hK K;refine zH 9 rfl fun K hK=>?_;have hb8:=aB (show Boxed (W4.alloc (.cells #[.int .u32 0] 107)).drew W4.heap.size 107 (.int .u32 0) from O4 W4 _ _) hB9x (by show W4.heap.size<(W4.alloc _).heap.size;simp);have g8:=hb8.cell;have g9:=hb8.frozen;go_simp;refine hK.out _ _ (UF _ (UK.setCell (p:=W4) (Ow _) _)) (fun u0=>?_);clear hK K u0;refine OY zab ?_ _
   all_goals
    go_wp2_with fail;go_meet
   case rel=>exact⟨_,rfl,hb8.set _,UK.setCell (p:=W4) (Ow _) _⟩
   case rel=>exact⟨_,rfl,O4 _ _ _,UK.alloc UK.size _⟩
  case rest=>
   obtain⟨B8,rfl,c8,Vz⟩:=hcut;have ZJ:=(Vz.block mvb zaa).trans ZI;have hM5:=XX.trans (az Vz);have e3:wc.cell? (mvb,3)=some fv:=by rw[OA wc _ _ _ _ _ ZJ];rfl
   have f3:wc.frozen? (mvb,3)=false:=by simp[World.frozen?,ZJ]
   have hst:=pA (P:=prog) e3 f3;have h8:B8≠mvb:=by
    intro h;subst h;rw[show wc.heap[B8]?=_ from c8]at ZJ;simp at ZJ
   go_wp2_with fail;go_end0;refine⟨rfl,hM5.set ⟨mvb,3,none⟩ _ rfl,_,OP wc mvb 3 _ _ _ ZJ,?_⟩;rw[YV.out];exact⟨B8,rfl,bs c8 (p:=⟨mvb,3,none⟩) h8 _⟩
 ·have YV:Hid (en=.hist pa dest):=YV.out;have hst:=pA (P:=prog) e3 f3;go_wp2_with(go_at_call 104;refine(UW _).mono ?_;rintro e w9 ⟨rfl,Pg⟩;rw[Pg];clear Pg w9);refine Qb (Pu rfl _ _ _) rfl ?_;refine⟨rfl,XX.set ⟨mvb,3,none⟩ _ rfl,_,OP W4 mvb 3 _ _ _ ZI,?_⟩;rw[YV.out];exact⟨_,_,_,_,rfl,bs c3 (p:=⟨mvb,3,none⟩) zae _,bs c7 (p:=⟨mvb,3,none⟩) zae _,bs c6 (p:=⟨mvb,3,none⟩) zae _,bs c5 (p:=⟨mvb,3,none⟩) zae _⟩
