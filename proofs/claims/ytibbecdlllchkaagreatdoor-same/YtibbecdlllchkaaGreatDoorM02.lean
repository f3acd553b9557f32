import Derived.Test.YtibbecdlllchkaaGreatDoorM01
import Derived.Deep.CutRange
set_option maxRecDepth 100000
set_option maxHeartbeats 8000000
namespace Go.Proofs.YtibbecdlllchkaaGreatDoor
variable {zp:Prop}
theorem zfG(h:zp:=by
 rw[RZ]at this;exact this):zp:=h
theorem zc1(h:zp:=by
 go_enter func226,ntmps226;go_wp2_with(go_at_call 229;refine he.mono ?_;rintro e w9 ⟨rfl,U1⟩;rw[U1];clear U1 w9);refine eD 9 zab zab ?_;simp only[List.take_succ_cons,List.take_zero,List.drop_succ_cons,List.drop_zero]
 repeat still_step
 refine QY ?_;go_wp2;go_end0;exact⟨rfl,rfl⟩):zp:=h
theorem zea(h:zp:=by
 gi_wp2;refine Q5 (QD rfl _ _ _) rfl ?_;exact⟨⟨_,rfl⟩,.inr ⟨_,hJx3⟩⟩):zp:=h
theorem zeK(h:zp:=by
 go_enter func106,ntmps106;go_wp2;go_ret;exact⟨rfl,rfl⟩):zp:=h
theorem zbd(h:zp:=by first|exact VL|exact hBd1 _):zp:=h
theorem zbD(h:zp:=by simp[Y.PS.cells,Value.oneCell',U.Sl.v]):zp:=h
theorem zb9(h:zp:=by first|exact VL.trans hB9x|exact(hBd1 _).trans (hB9x.mono (by simp[World.drew]))):zp:=h
theorem zco(h:zp:=by first|exact hBd1 _|exact VQ.alloc VQ.size _):zp:=h
open Tryz
variable {s i h pb b cap:Nat}{W W':World}{e:Bool}{ps:List Y.PS}{p:Y.PS}{P:Nat->Prop}
section
open Go.RowKit Go.Proofs Go.Shelf
attribute [local go_sem] Qu
def yJ:Go.Shelf.Ren:=⟨fun|29=>277|n=>n,fun|22=>48|3=>3|4=>4|25=>358|54=>439|0=>0|5=>5|n=>n,fun|1=>5|n=>n⟩
theorem Jv:Go.Proofs.Lays7.n29 prog yJ:={
 mixed:=zab
 f29:=Tryz.func277.trans (congrArg some zab)
 t0:=underlying0
 a0:=Tryz.isAgg0
 z0:=Tryz.sizeOf0
 v0:=T7
 i0:=zab
 t3:=underlying3
 a3:=Ux
 z3:=Uk
 v3:=Tx
 i3:=zab
 t4:=underlying4
 a4:=SU
 z4:=SI
 v4:=R5
 i4:=zab
 t5:=underlying5
 a5:=TV
 z5:=TG
 v5:=S7
 i5:=zab
 t22:=underlying48
 a22:=Tryz.isAgg48
 z22:=Tryz.sizeOf48
 v22:=Tryz.zeroValue48
 i22:=zab
 t25:=underlying358
 a25:=isAgg358
 z25:=sizeOf358
 v25:=zeroValue358
 i25:=zab
 t54:=underlying439
 a54:=isAgg439
 z54:=sizeOf439
 g1:=by kernel_rfl }
theorem KB(s:Nat)(w:World)(hs:s<18446744073709551616)(hT:TabAt 5 Lib.deBruijn64tab w):() 277 #[.int .u64 s] w fun e w'=>e=.returned (.int .i64 (Lib.ctz 64 s))/\w'=w:=
 Any7.bits_TrailingZeros64 Jv s hs w fun _=>hT
namespace Y
def fh(s:Nat):List Nat:=(List.range 64).filter s.testBit
theorem gB:i∈fh s↔i<64/\s.testBit i=true:=by
 unfold fh;rw[Q2,QF]
theorem CP:fh 0=[]:=zbx
theorem Dr(h0:s≠0)(hs:s<18446744073709551616):Lib.ctz 64 s<64/\s.testBit (Lib.ctz 64 s)=true/\(∀j,j<Lib.ctz 64 s->s.testBit j=false)/\∀j,(s&&&(s-1)).testBit j=(s.testBit j&&decide (j≠Lib.ctz 64 s)):=by
 obtain⟨m,hm,hk⟩:=Lib.ctzFrom_spec 64 s (Nat.pos_of_ne_zero h0) hs;have he:Lib.ctz 64 s=Lib.ctzFrom 64 s:=by unfold Lib.ctz;rw[Pu h0]
 rw[he];generalize Lib.ctzFrom 64 s=k at hm hk;exact zcI
theorem Ar(h0:s≠0)(hs:s<18446744073709551616):fh s=Lib.ctz 64 s::fh (s&&&(s-1)):=by
 obtain⟨a,b,c,d⟩:=Dr h0 hs;exact ly b c d 64 a
abbrev Hu(s:Nat):Type:={ i:Nat // i∈fh s }
theorem KpM.tab{B:Nat->TypeId->Prop}(h:KpM B W W')(hg:∀t,¬B 5 t)(hT:TabAt 5 Lib.deBruijn64tab W):TabAt 5 Lib.deBruijn64tab W':=fun j hj=>h.cell (p:=⟨5,j,none⟩) (hT j hj) hg
theorem Nq{t:Nat}(h0:t≠0)(ht:t<18446744073709551616):bits BinOp.and IntKind.u64 (t:Int) ((t:Int)-1)=((t&&&(t-1):Nat):Int):=by
 rw[show(t:Int)-1=((t-1:Nat):Int) by omega,bits_and_u64_nat t _ ht zaa]
end Y
theorem Jc(n:Nat)(hn:1<=n)(l Bs mb o s:Nat)(hs:s<18446744073709551616)(Kp:World->World->Prop)(hKp:∀W W',Kp W W'->TabAt 5 Lib.deBruijn64tab W->TabAt 5 Lib.deBruijn64tab W')(J Jx:List (Y.Hu s)->World->Prop)
  (hY:∀pre x W,J pre W->pre.length<64->YieldAt Fence.wide (n-1) prog l #[.int .i64 (x.1:Int)] W fun e W'=>
   (e=.returned true/\J (pre++[x]) W'/\Kp W W')\/(e=.returned false/\Jx (pre++[x]) W'))
  (W:World) (Xy:W.cell? Bs=some ↑(mb,o)) (hc:W.cell? (mb,o+64)=some (.int .u64 s)) (hT:TabAt 5 Lib.deBruijn64tab W) (h0:J [] W):
  CallsIn Fence.wide n prog 276 #[.func (.yield l) #[] #[],Bs] W fun e W'=>(∃v,e=.returned v) /\
   ((∃ys,ys.map (·.1)=Y.fh s/\J ys W')\/(∃pre,pre.map (·.1) <+: Y.fh s/\Jx pre W')):=by
 refine TR func276 rfl trivial ?_ rfl;simp only[ntmps276,List.size_toArray,List.length_cons,List.length_nil,Nat.reduceAdd,Nat.reduceSub,Array.replicate_succ,Array.replicate_zero,List.push_toArray,List.append_toArray,List.nil_append,List.cons_append];gi_wp2
 gi_loopw[3] (fun i wr=>∃(t:Nat) (pre:List (Y.Hu s)),i=.int .u64 t/\t<18446744073709551616/\Y.fh s=pre.map (·.1)++Y.fh t/\J pre wr/\TabAt 5 Lib.deBruijn64tab wr)
  (fun i _=>(intOf i).toNat)
 case atStart=>exact⟨s,[],rfl,hs,rfl,h0,hT⟩
 case round=>
  obtain⟨t,pre,rfl,ht,he,hJs,hTr⟩:=hrel;clear Xy hc;by_cases hz:t=0
  ·subst hz;gi_wp2;go_end0;rw[Y.CP,Rb]at he;exact ze5
  ·have hf:=Y.Ar hz ht;have hm:Lib.ctz 64 t∈Y.fh s:=by rw[he,hf];simp
   have hle:pre.length<64:=by
    have h1:(Y.fh s).length<=64:=by
     have:=QI s.testBit (List.range 64);exact zfG
    exact zfs
   obtain⟨fn,tmps,assign,body,hy,hR⟩:=hY pre ⟨Lib.ctz 64 t,hm⟩ wr hJs hle;dsimp only at hy;have ha:=Y.Nq hz ht;have hz':((t:Int) == 0)=false:=zaf;have Vd:=Y.xt hz;have htz:=KB t wr ht hTr;gi_wp2_with(refine⟨trivial,?_⟩;gi_at_call 277;refine(P8.2 htz).mono ?_;clear htz;rintro e w9 ⟨rfl,U1⟩;rw[U1];clear U1 w9);have hE:Y.fh s=(pre++[(⟨Lib.ctz 64 t,hm⟩:Y.Hu s)]).map (·.1)++Y.fh (t&&&(t-1)):=he.trans (by rw[hf,Qj,Qd];rfl);refine hR.mono ?_;rintro e W3 (⟨rfl,ZW,ZX⟩|⟨rfl,hJx3⟩)
   ·gi_wp2
    go_roundw
    case rel=>exact⟨t&&&(t-1),pre++[⟨Lib.ctz 64 t,hm⟩],rfl,zaa,hE,ZW,hKp _ _ ZX hTr⟩
    case measure=>simp only[intOf];omega
   ·exact zdY
theorem th(n:Nat)(hn:1<=n)(Bs mb o s:Nat)(hs:s<18446744073709551616)(Kp:World->World->Prop)(hKp:∀W W',Kp W W'->TabAt 5 Lib.deBruijn64tab W->TabAt 5 Lib.deBruijn64tab W')(w:World)(Xy:Bs<w.heap.size)(hmb:mb<w.heap.size)(hg:5<w.heap.size)(hc:w.cell? Bs=some ↑(mb,o))(hd:w.cell? (mb,o+64)=some (.int .u64 s))(hT:TabAt 5 Lib.deBruijn64tab w):
  SeqStopsK Fence.wide n prog 276 #[Bs] (fun x:Y.Hu s=>#[Value.int .i64 (x.1:Int)]) Kp (fun ys=>ys.map (·.1)=Y.fh s) (fun pre=>pre.map (·.1) <+: Y.fh s) 64 w:=fun l J Jx W hW _ _ hY h0=>
 Jc n hn l Bs mb o s hs Kp hKp J Jx hY W ((hW.cell (p:=Bs) Xy).trans hc) ((hW.cell (p:=(mb,o+64)) hmb).trans hd) (fun j hj=>(hW.cell (p:=⟨5,j,none⟩) hg).trans (hT j hj)) h0
theorem n9(mb o:Nat)(w:World):() 260 #[(mb,o)] w fun e w'=>e=.returned (.func (.func 276) #[] #[w])/\w'=w.alloc (.cells #[(mb,o)] 392):=by
 go_enter func260,ntmps260;exact zfr
attribute [local go_sem] Qu
theorem F7:(Tryz.prog.info? 302).map (fun i=>(i.zero,i.size,i.bytes))=some (some (.agg #[.int .u64 0,.string ⟨#[]⟩,.string ⟨#[]⟩,.pointer none]),4,48):=zab
theorem ji(w:World)(a b:Nat)(ha:∃c,w.heap[a]?=some (.cells c 302 (0,0)))(hb:∃c,w.heap[b]?=some (.cells c 302 (0,0))):
  (binOp .eql 170 a b).run prog w=.ok (.bool (decide (a=b))) w:=by
 obtain⟨i0,hi,Vv,Vk,Vl⟩:=QV F7;obtain⟨ca,ha⟩:=ha;obtain⟨cb,hb⟩:=hb;have h:∀d:Nat,(Op.equalIn (d+1) 170 a b).run prog w=.ok (decide (a=b)) w:=fun d=>by
  by_cases e:a=b
  ·subst e;simp[Op.equalIn,run_underlying underlying170,sizeOf,typeInfo,hi,run_sameAddr_same]
  ·simp[Op.equalIn,run_underlying underlying170,sizeOf,typeInfo,hi,Vk,e,run_sameAddr_other w (a:=⟨a,0,none⟩) (b:=⟨b,0,none⟩) (by intro x;injection x with x1;exact e x1) ha hb]
 simp only[binOp];simp[Op.equal,Op.maxDepth,h 9999]
namespace Y
structure RdN(Bs:Nat)(L:List Nd)(i:Nat)(V:World):Prop where
 box:V.cell? Bs=some (aN L)
 nd:∀x∈L,∃c,V.heap[x.1]?=some (.cells c 302 (0,0))
 next:∀x,L[i]?=some x->V.cell? ⟨x.1,3,none⟩=some (nxt L i)
 first:i=0->∀z,L.getLast?=some z->V.cell? ⟨z.1,3,none⟩=some (nxt L (L.length-1))
def ndM(L:List Nd):Value->Nat
 |.pointer (some a)=>L.length-(L.map (·.1)).idxOf a.block
 |_=>0
theorem JN{L:List Nd}(Vi:(L.map (·.1)).Nodup){x:Nd}(h:L[i]?=some x):ndM L x.1=L.length-i:=by
 have hi:i<(L.map (·.1)).length:=by simp;exact(Ps.1 h).1
 have hx:(L.map (·.1))[i]=x.1:=by rw[RU];rw[(Ps.1 h).2]
 show L.length-(L.map (·.1)).idxOf x.1=_;rw[<- hx,Vi.idxOf_getElem i hi]
end Y
theorem wQ(n:Nat)(hn:1<=n)(l Bs:Nat)(L:List Y.Nd)(Vi:(L.map (·.1)).Nodup)(J Jx:List Y.Nd->World->Prop)(Zl:∀xs V,J xs V->Y.RdN Bs L xs.length V)
  (hY:∀i x V,L[i]?=some x->J (L.take i) V->YieldAt Fence.wide (n-1) prog l #[.pointer (some ⟨x.1,0,none⟩)] V fun e V'=>(e=.returned true/\J (L.take (i+1)) V')\/(e=.returned false/\Jx (L.take (i+1)) V'))
  (W:World) (h0:J [] W):
  CallsIn Fence.wide n prog 228 #[.func (.yield l) #[] #[],Bs] W fun e W'=>(∃v,e=.returned v)/\(J L W'\/∃i,Jx (L.take i) W'):=by
 have Xw:=Zl [] W h0;have Xc:=Xw.box;have he:=mE W Bs 0 L Xc;refine TR func228 rfl trivial ?_ rfl;simp only[ntmps228,List.size_toArray,List.length_cons,List.length_nil,Nat.reduceAdd,Nat.reduceSub,Array.replicate_succ,Array.replicate_zero,List.push_toArray,List.append_toArray,List.nil_append,List.cons_append];cases hz:L.getLast? with
 |none=>
  have hl:L=[]:=R7.1 hz;subst hl;simp only[List.isEmpty_nil]at he;clear hY;gi_wp2_with(refine⟨trivial,?_⟩;gi_at_call 229;refine(P8.2 he).mono ?_;clear he;rintro e w9 ⟨rfl,U1⟩;rw[U1];clear U1 w9);refine Q5 (QD rfl _ _ _) rfl ?_;exact⟨⟨_,rfl⟩,.inl h0⟩
 |some z=>
  have U9:L≠[]:=fun e=>zaZ;have hlen:0<L.length:=Ry.2 U9;have Xa:L[L.length-1]?=some z:=zaA;obtain⟨f,hf⟩:∃f,L[0]?=some f:=⟨_,Pp hlen⟩;have hez:L.isEmpty=false:=by cases L with|nil=>simp at hz|cons a l=>rfl
  rw[hez]at he;have hz3:=Xw.first rfl z hz;rw[Y.jG hf]at hz3;have VY:Y.aN L=.pointer (some ⟨z.1,0,none⟩):=by unfold Y.aN;rw[hz];rfl
  rw[VY]at Xc;unfold Y.ndP at hz3;obtain⟨zb,zt⟩:=z;obtain⟨fb,ft⟩:=f;dsimp only at Xc hz3 VY;clear Xw hez U9;gi_wp2_with(refine⟨trivial,?_⟩;gi_at_call 229;refine(P8.2 he).mono ?_;clear he;rintro e w9 ⟨rfl,U1⟩;rw[U1];clear U1 w9)
  gi_loopw[3] (fun v wr=>∃(i:Nat) (x:Y.Nd),L[i]?=some x/\v=.pointer (some ⟨x.1,0,none⟩)/\J (L.take i) wr) (fun v _=>Y.ndM L v)
  case atStart=>exact⟨0,(fb,ft),hf,rfl,h0⟩
  case round=>
   obtain⟨i,x,Xk,rfl,hJi⟩:=hrel;have WU:=(Ps.1 Xk).1;have hRi:=Zl _ _ hJi;rw[S2 zaa]at hRi;have hx3:=hRi.next x Xk;have hmi:=Y.JN Vi Xk;obtain⟨fn,tmps,assign,body,hy,hR⟩:=hY i x wr Xk hJi;clear hRi Xc hz3;by_cases hlast:i+1=L.length
   ·have hxz:x=(zb,zt):=by rw[show L.length-1=i by omega,Xk]at Xa;exact Qh Xa
    subst hxz;have hnx:Y.nxt L i=.pointer (some ⟨fb,0,none⟩):=by rw[show i=L.length-1 by omega,Y.jG hf];rfl
    rw[hnx]at hx3;dsimp only at hx3 hy;gi_wp2;refine hR.mono ?_;rintro e W3 (⟨rfl,ZW⟩|⟨rfl,hJx3⟩)
    ·have YC:=Zl _ _ ZW;have VA:=YC.box;rw[VY]at VA;have hq3:=ji W3 zb zb (YC.nd _ (PD Xa)) (YC.nd _ (PD Xa));rw[Qp rfl]at hq3;clear YC;gi_wp2;refine Q5 (QD rfl _ _ _) rfl ?_;rw[hlast,Qy]at ZW;exact⟨⟨_,rfl⟩,.inl ZW⟩
    ·exact zea
   ·obtain⟨y,hy1⟩:∃y,L[i+1]?=some y:=⟨_,Pp zaa⟩;have hnx:Y.nxt L i=.pointer (some ⟨y.1,0,none⟩):=by unfold Y.nxt;rw[hy1];rfl
    rw[hnx]at hx3;have hxz:x.1≠zb:=fun e=>by
     have a1:(L.map (·.1))[i]?=some x.1:=by rw[Pv,Xk];rfl
     have a2:(L.map (·.1))[L.length-1]?=some x.1:=by rw[Pv,Xa,e];rfl
     have:=(TI zaf Vi).1 (a1.trans a2.symm);omega
    have hmy:=Y.JN Vi hy1
    (try dsimp only at hy)
    gi_wp2;refine hR.mono ?_;rintro e W3 (⟨rfl,ZW⟩|⟨rfl,hJx3⟩)
    ·have YC:=Zl _ _ ZW;have VA:=YC.box;rw[VY]at VA;have hq3:=ji W3 x.1 zb (YC.nd _ (PD Xk)) (YC.nd _ (PD Xa));rw[Ql hxz]at hq3;clear YC;gi_wp2
     go_roundw
     case rel=>exact⟨i+1,y,hy1,rfl,ZW⟩
     case measure=>rw[hmi,hmy];omega
    ·exact zea
theorem dM{α:Type}{L:List α}{x:α}(h:L[i]?=some x):L.take i++[x]=L.take (i+1):=by
 rw[QE,h];rfl
theorem Bg(n:Nat)(hn:1<=n)(Bs:Nat)(L:List Y.Nd)(Vi:(L.map (·.1)).Nodup)(w:World):
  Hz Fence.wide n prog 228 #[Bs] (fun x:Y.Nd=>#[Value.pointer (some ⟨x.1,0,none⟩)]) (fun _ _=>True) (fun xs V=>Y.RdN Bs L xs.length V) (fun xs x=>L[xs.length]?=some x/\xs=L.take xs.length) (fun xs=>xs=L) w:=fun l J W _ _ _ Zl hY h0=>by
 refine(wQ n hn l Bs L Vi J (fun _ _=>False) Zl (fun i x V hx hJ=>?_) W h0).mono ?_
 ·have hi:=(Ps.1 hx).1;have hl:(L.take i).length=i:=S2 zaa;refine(hY (L.take i) x V hJ ⟨by rw[hl];exact hx,by rw[hl]⟩).mono ?_;rintro e V' ⟨rfl,h,_⟩;rw[dM hx]at h;exact .inl ⟨rfl,h⟩
 ·rintro e V' ⟨hv,h|⟨i,h⟩⟩
  ·exact⟨hv,L,rfl,h⟩
  ·exact h.elim
theorem re(n:Nat)(hn:1<=n)(Bs:Nat)(L:List Y.Nd)(Vi:(L.map (·.1)).Nodup)(B:Nat->TypeId->Prop)(w:World)(hb:w.cell? Bs=some (Y.aN L))(hR:Y.cV w L)(hB:∀t,¬B Bs t)(hBl:∀x∈L,∀t,¬B x.1 t):
  SeqStopsK Fence.wide n prog 228 #[Bs] (fun x:Y.Nd=>#[Value.pointer (some ⟨x.1,0,none⟩)]) (KpM B) (fun xs=>xs=L) (fun _=>True) L.length w:=fun l J Jx W hW _ _ hY h0=>by
 have hW':KpM B w W:=KpM.below hW;refine(wQ n hn l Bs L Vi (fun xs V=>J xs V/\KpM B W V) Jx (fun xs V hV=>?_) (fun i x V hx hJ=>?_) W ⟨h0,KpM.refl _ _⟩).mono ?_
 ·have hk:=hW'.tr hV.2;have hc:∀(i:Nat) (x:Y.Nd),L[i]?=some x->V.heap[x.1]?=some (.cells (Y.eU x.2 (Y.nxt L i)) 302 (0,0)):=fun i x hx=>hk.2 _ _ _ _ (hR i x hx) (hBl x (PD hx) _);refine⟨hk.cell hb hB,fun x hx=>?_,fun x hx=>?_,fun h0 z hz=>?_⟩
  ·obtain⟨i,hi⟩:=P5.1 hx;exact⟨_,hc i x hi⟩
  ·rw[Pt V _ _ _ _ _ (hc _ x hx)];rfl
  ·have Xa:L[L.length-1]?=some z:=zaA;rw[Pt V _ _ _ _ _ (hc _ z Xa)];rfl
 ·have hi:=(Ps.1 hx).1;have hl:(L.take i).length=i:=S2 zaa;refine(hY (L.take i) x V hJ.1 zaa).mono ?_;rw[dM hx];rintro e V' (⟨rfl,h,hk⟩|h)
  ·exact .inl ⟨rfl,h,hJ.2.tr hk⟩
  ·exact .inr h
 ·rintro e V' ⟨hv,h|⟨i,h⟩⟩
  ·exact⟨hv,.inl ⟨L,rfl,h.1⟩⟩
  ·exact⟨hv,.inr ⟨_,trivial,h⟩⟩
theorem nH(v:Value)(w:World)(hv:v=.pointer none\/∃b,v=.pointer (some ⟨b,0,none⟩)):() 188 #[.agg #[v]] w fun e w'=>e=.returned (.func (.func 228) #[] #[w])/\w'=w.alloc (.cells #[v] 172):=by
 rcases hv with rfl|⟨b,rfl⟩
 all_goals
  go_enter func188,ntmps188;go_wp2;go_ret;exact⟨rfl,rfl⟩
def A6:Go.Shelf.Ren:=⟨fun|129=>224|n=>n,fun|53=>48|3=>3|4=>4|46=>358|5=>5|9=>9|n=>n,fun|n=>n⟩
theorem LQ:Go.Proofs.Lays.n129 prog A6:={
 mixed:=zab
 f129:=Tryz.func224.trans (congrArg some zab)
 t3:=underlying3
 a3:=Ux
 z3:=Uk
 v3:=Tx
 t4:=underlying4
 a4:=SU
 z4:=SI
 v4:=R5
 t5:=underlying5
 a5:=TV
 z5:=TG
 v5:=S7
 t9:=underlying9
 a9:=Tryz.isAgg9
 z9:=Tryz.sizeOf9
 v9:=Tryz.zeroValue9
 t46:=underlying358
 a46:=isAgg358
 z46:=sizeOf358
 v46:=zeroValue358
 t53:=underlying48
 a53:=Tryz.isAgg48
 z53:=Tryz.sizeOf48
 v53:=Tryz.zeroValue48 }
theorem Gh(x:Nat)(w:World)(h:x<18446744073709551616):() 224 #[.int .u64 x] w fun e w'=>e=.returned (.int .i64 (Lib.bitLen x))/\w'=w:=by
 have:=Any.bits_Len64 LQ (x:Int) w zaa zaa;rw[QR]at this;exact this
namespace Y
def iY(h s:Nat)(e:Bool):Nat:=if e then h&&&(18446744073709551615-2 ^ s) else h|||2 ^ s
theorem qj(h:i<64):2 ^ i<18446744073709551616:=PY (SJ zac h) zac
theorem Hk(hi:i<64):(2:Int) ^ i % 18446744073709551616=((2 ^ i:Nat):Int):=by
 rw[j8];exact Int.emod_eq_of_lt (Int.natCast_nonneg _) (by have:=qj hi;omega)
theorem pJ(hh:h<18446744073709551616)(hs:s<64):iY h s e<18446744073709551616:=by
 unfold iY;have:=qj hs;split
 ·exact Qq Rh hh
 ·exact Qt (n:=64) hh this
theorem nE(hs:s<64)(j:Nat)(hj:j<64):(iY h s e).testBit j=if j=s then !e else h.testBit j:=by
 unfold iY;have:=qj hs;cases e
 ·rw[Pu zac,US,SM];by_cases e:j=s
  ·simp[e]
  ·simp[e,Ne.symm e]
 ·rw[PC rfl,S8,show 18446744073709551615-2 ^ s=2 ^ 64-(2 ^ s+1) by omega,T8 this,SM];by_cases e:j=s
  ·simp[e]
  ·simp[e,Ne.symm e,hj]
end Y
theorem tL(w:World)(mb o:Nat)(s:Nat)(l:List Y.Nd)(h:Nat)(hs:s<64)(hh:h<18446744073709551616)(hc:w.cell? (mb,o+s)=some (Y.aN l))(hd:w.cell? (mb,o+64)=some (.int .u64 h))(Xj:w.frozen? (mb,o+64)=false):
  () 226 #[(mb,o),(s:Int)] w fun e w'=>e=.returned (.tuple #[])/\w'=w.drew.setCell (mb,o+64) (.int .u64 (Y.iY h s l.isEmpty)):=by
 have he:=mE w mb (o+s) l hc;have h2:=Y.qj hs;have h2m:=Y.Hk hs;have Xz:¬((s:Int)<0):=zaa;have Wh:(s:Int).toNat=s:=QR s;have Xd:IntKind.u64.wrap ((2:Int) ^ s)=((2 ^ s:Nat):Int):=by rw[SQ];exact h2m
 have Z1:bits BinOp.or IntKind.u64 (h:Int) (IntKind.u64.wrap ((2:Int) ^ s))=((h|||2 ^ s:Nat):Int):=by rw[Xd];exact u64_or_nat h (2 ^ s) hh h2
 have hand:bits BinOp.andNot IntKind.u64 (h:Int) (IntKind.u64.wrap ((2:Int) ^ s))=((h&&&(18446744073709551615-2 ^ s):Nat):Int):=by rw[Xd];exact u64_andNot_nat h (2 ^ s) hh h2
 have hdd:w.drew.cell? (mb,o+64)=some (.int .u64 h):=hd;have hfd:w.drew.frozen? (mb,o+64)=false:=Xj;clear Xd h2m h2;cases hl:l.isEmpty
 ·rw[hl]at he;unfold Y.iY;rw[Pu zac];generalize h|||2 ^ s=hn at *;exact zc1
 ·rw[hl]at he;unfold Y.iY;rw[PC rfl];generalize h&&&(18446744073709551615-2 ^ s)=hn at *;exact zc1
namespace Y
def aP(now t:Nat):Nat:=min ((Lib.bitLen ((t ^^^ now)|||1)-1) / 6) 6
def gF(now t:Nat):Nat:=t / 2 ^ (aP now t*6) % 64
end Y
theorem wS(x:Nat):x|||1≠0:=fun h=>by
 have:(x|||1).testBit 0=true:=by rw[US];simp
 rw[h]at this;simp at this
theorem qb(w:World)(mb o now t:Nat)(Vr:now<18446744073709551616)(ht:t<18446744073709551616)(hc:w.cell? (mb,o)=some (.int .u64 now)):
  () 185 #[(mb,o),.int .u64 t] w fun e w'=>e=.returned (.tuple #[.int .i64 ((Y.aP now t:Nat):Int),.int .i64 ((Y.gF now t:Nat):Int)])/\Below w w w':=by
 have hx:=u64_xor_nat t now ht Vr;have Xo:t ^^^ now<18446744073709551616:=by
  have:=Nat.xor_lt_two_pow (n:=64) (x:=t) (y:=now) zaa zaa;omega
 have Z1:=u64_or_nat (t ^^^ now) 1 Xo zaa;have horl:(t ^^^ now)|||1<18446744073709551616:=by
  have:=Qt (n:=64) (x:=t ^^^ now) (y:=1) zaa zaa;omega
 obtain⟨d,hd⟩:∃d,(t ^^^ now)|||1=d:=⟨_,rfl⟩;rw[hd]at Z1 horl;have hlen:=Gh d w horl;have VM:1<=Lib.bitLen d/\Lib.bitLen d<=64:=by
  have hd0:d≠0:=by rw[<- hd];exact wS _
  refine⟨?_,Lib.bitLen_le d 64 zac zaa⟩;have:=(TW 64 d zaa hd0).1;exact this
 unfold Y.gF Y.aP;rw[hd];obtain⟨L,hL⟩:∃L,Lib.bitLen d=L+1:=⟨Lib.bitLen d-1,zaa⟩;rw[hL]at hlen VM⊢;rw[Un];have hL1:((L+1:Nat):Int)-1=(L:Int):=zaa;have Z2:L<64:=zaa;clear hd hL VM;obtain⟨K,hK⟩:∃K,min (L / 6) 6=K:=⟨_,rfl⟩;rw[hK];have hK6:K<=6:=zaa;have hmin:∀V:World,(Builtin.min_ #[3,3] 3 #[.int .i64 ((L:Int) / 6),(6:Int)]).run prog V=.ok (.int .i64 (K:Int)) V:=fun V=>by
  have:(if(6:Int)<(L:Int) / 6 then(6:Int) else(L:Int) / 6)=(K:Int):=by split<;>omega
  rw[<- this];rfl
 have hw6:IntKind.i64.wrap ((K:Int)*6)=((K*6:Nat):Int):=by rw[IntKind.wrap_i64];omega
 have Xz:¬(((K*6:Nat):Int)<0):=zaa;have hv:wrap64 (((t:Int) / 2 ^ (K*6)).tmod 64)=((t / 2 ^ (K*6) % 64:Nat):Int):=by
  rw[j8,<- Int.natCast_ediv];generalize t / 2 ^ (K*6)=q;rw[Int.tmod_eq_emod_of_nonneg zaa];unfold wrap64;omega
 have Z1:bits BinOp.or IntKind.u64 ((t ^^^ now:Nat):Int) 1=(d:Int):=Z1;generalize t ^^^ now=tx at *;go_enter func185,ntmps185
 go_upto_region 2 with(go_at_call 224;refine hlen.mono ?_;rintro e w9 ⟨rfl,U1⟩;rw[U1];clear U1 w9)
 clear hx Z1 horl hlen hc
 go_upto_region 3 with fail
 go_quiet(fail)
 go_wp2;go_ret2;refine⟨?_,RM (Pq _ _) _⟩;show Ending.returned (Value.tuple #[.int .i64 (K:Int),.int .i64 (wrap64 (((t:Int) / 2 ^ (K*6)).tmod 64))])=_;rw[hv]
theorem tj(k:Int)(w:World):() 106 #[(k:Int)] w fun e w'=>e=.returned (.bool (decide (k=3)||decide (k=4)))/\w'=w:=by
 by_cases h3:k=3
 ·subst h3;exact zeK
 ·by_cases h4:k=4
  ·subst h4;exact zeK
  ·go_enter func106,ntmps106;go_wp2;go_ret;exact⟨by simp[h3,h4],rfl⟩
theorem Mo.cells{P:Nat->Prop}{a b:World}(h:Mo P a b)(g:Nat):∀(o:Nat) (vs:List Value),P g->Mo P a (b.setCells g o vs):=by
 intro o vs
 induction vs generalizing o b with
 |nil=>intro _;exact h
 |cons v vs ih=>intro hp;exact ih (h.set ⟨g,o,none⟩ v hp) (o+1) hp
namespace Y
structure MS where
 kind:Int
 name:()
 depth:Int
 owner:Int
 vp:U.Sl
 ve:U.Sl
 vl:U.Sl
 vm:U.Sl
def MS.arr(x:MS):Array Value:=#[(x.kind:Int),x.name,(x.depth:Int),(x.owner:Int),.slice x.vp.a x.vp.n x.vp.c,.slice x.ve.a x.ve.n x.ve.c,.slice x.vl.a x.vl.n x.vl.c,.slice x.vm.a x.vm.n x.vm.c]
def rR:():=⟨#[100,111,110,101,46]⟩
def Gt(x:MS)(ar:Nat):PS:={ kind:=x.kind,name:=x.name,done:=rR++x.name,owner:=x.owner,parts:=0,inside:=0,around:=ar,wth:=0,enter:=x.ve,leave:=x.vl }
def isH(k:Int):Bool:=decide (k=3)||decide (k=4)
def nW(ps:List PS)(i:Nat)(x:MS):List PS:=if x.owner == -1 then ps.set i (Gt x 0) else
 match ps[x.owner.toNat]? with
 |none=>ps
 |some q=>(if isH x.kind then ps else ps.set x.owner.toNat { q with parts:=q.parts|||2 ^ i }).set i (Gt x (q.around|||2 ^ x.owner.toNat))
def sA(fin i:Nat)(x:MS):Nat:=if x.kind == 2 then fin|||2 ^ i else fin
def dB(W:World)(pb b n cap:Nat)(hv:Value)(fin:Nat)(mv:Value):Prop:=W.heap[pb]?=some (.cells #[.slice b n cap,hv,.int .u32 fin,mv] 188 (0,0))
theorem bH.setRow(h:bH W pb b cap ps)(hi:i<ps.length)(p':PS):bH (W.setCells b (i*10) p'.cells) pb b cap (ps.set i p') where
 row:=by
  rw[Tv b _ _ _ _ (fun e=>absurd e h.ne),PO];exact h.row
 at':=fun i' q hq k' v' hv=>by
  rw[World.frozen?_setCells];have hl:∀r:PS,r.cells.length=10:=fun r=>rfl;have VB:k'<10:=by have:=(Ps.1 hv).1;rwa [hl]at this
  obtain⟨p,hp⟩:∃p,ps[i]?=some p:=⟨_,Pp hi⟩;have VJ:∀j,j<p'.cells.length->∃v,W.cell? ⟨b,i*10+j,none⟩=some v/\W.frozen? ⟨b,i*10+j,none⟩=false:=fun j hj=>⟨_,h.at' i p hp j _ (Pp (by rw[hl]at hj⊢;exact hj))⟩;by_cases e:i'=i
  ·subst e;rw[P4 hi]at hq;cases hq
   have WN:k'<p'.cells.length:=by rw[hl];exact VB
   have:=World.cell?_setCells_in b p'.cells (i'*10) W (fun j hj=>by obtain⟨v,hv,_⟩:=VJ j hj;rw[hv];rfl) k' WN;obtain⟨_,_,Xj⟩:=VJ k' WN;refine⟨?_,Xj⟩;rw[this,<- hv,Pp WN]
  ·rw[Qb (fun x=>e x.symm)]at hq;have:=h.at' i' q hq k' v' hv;refine⟨(Tv b _ _ _ _ (fun _ _=>?_)).trans this.1,this.2⟩;rw[hl];show i'*10+k'<i*10\/_<=i'*10+k';omega
 len:=by rw[PO];exact h.len
 ne:=h.ne
theorem bH.OR(h:bH W pb b cap ps)(k:Nat)(v:Value)(hk:k≠0):bH (W.setCell (pb,k) v) pb b cap ps where
 row:=(aA zbH).trans h.row
 at':=fun i p hi j u hu=>by
  have:=h.at' i p hi j u hu;rw[R8];exact⟨(aA (by intro x;injection x with x1 x2;exact h.ne x1)).trans this.1,this.2⟩
 len:=h.len
 ne:=h.ne
theorem Io(ps:List PS)(i:Nat)(x:MS):(nW ps i x).length=ps.length:=by
 unfold nW;split
 ·simp
 ·split
  ·rfl
  ·split<;>simp
theorem bH.Pk{p':PS}{k:Nat}{v:Value}(h:p'.cells=p.cells.set k v)(hk:k<10):∀j,p'.cells[j]?=if j=k then some v else p.cells[j]?:=fun j=>by
 rw[h,RN];by_cases e:k=j
 ·subst e;rw[PC rfl,PC rfl,PC (by simpa[PS.cells] using hk)]
 ·rw[Pu e,Pu (fun x=>e x.symm)]
end Y
theorem eG:(Tryz.prog.info? 183).map (·.size)=some 10:=zab
theorem xU(w:World)(pb b cap:Nat)(ps:List Y.PS)(i:Nat)(x:Y.MS)(hv mv:Value)(fin:Nat)(hB:Y.dB w pb b ps.length cap hv fin mv)(hP:Y.bH w pb b cap ps)(Xz:Y.Sms ps)(hfl:fin<4294967296)(WU:i<ps.length)(VD:x.name.size<=1000000)(how:x.owner=-1\/∃o:Nat,x.owner=o/\o<i)(hb:b<w.heap.size):
  () 67 #[pb,(i:Int),.agg x.arr] w fun e w'=>e=.returned (.tuple #[])/\Y.dB w' pb b ps.length cap hv (Y.sA fin i x) mv/\Y.bH w' pb b cap (Y.nW ps i x)/\Mo (fun k=>k=b\/k=pb) w w':=by
 have Vo:pb<w.heap.size:=(Pn.1 hB).1;have hlen:=hP.len;have U9:=hP.ne;have XB:i<32:=zaa;obtain⟨t,ht⟩:∃t,2 ^ i=t:=⟨_,rfl⟩;have Wz:t<4294967296:=by rw[<- ht];exact uP XB
 have Wc:∀V:World,() 101 #[(i:Int)] V fun e w'=>e=.returned (.int .u32 t)/\w'=V:=fun V=>by rw[<- ht];exact jf i V XB
 obtain⟨kind,name,depth,owner,vp,ve,vl,vm⟩:=x;have V7:=tj kind;obtain⟨fn,YA⟩:∃fn,Y.sA fin i ⟨kind,name,depth,owner,vp,ve,vl,vm⟩=fn:=⟨_,rfl⟩;obtain⟨pz,hpz⟩:∃pz,Y.nW ps i ⟨kind,name,depth,owner,vp,ve,vl,vm⟩=pz:=⟨_,rfl⟩;obtain⟨mk,Zc⟩:∃mk,Y.Gt ⟨kind,name,depth,owner,vp,ve,vl,vm⟩=mk:=⟨_,rfl⟩;have HF:Hid (fn=if kind == 2 then fin|||t else fin):=by rw[<- YA,<- ht];rfl
 have HZ:Hid (Y.nW ps i ⟨kind,name,depth,owner,vp,ve,vl,vm⟩=pz):=hpz;rw[YA,hpz];clear YA hpz;dsimp only at how VD;have HOW:Hid (owner=-1\/∃o:Nat,owner=o/\o<i):=how;have Vh:=((Pq w w).alloc (Po _) (.cells #[(kind:Int),name,(depth:Int),(owner:Int),.slice vp.a vp.n vp.c,.slice ve.a ve.n ve.c,.slice vl.a vl.n vl.c,.slice vm.a vm.n vm.c] 134)).alloc zad (.cells #[(kind:Int),name,.string (⟨#[100,111,110,101,46]⟩++name),(owner:Int),.int .u32 0,.int .u32 0,.int .u32 0,.int .u32 0,.slice ve.a ve.n ve.c,.slice vl.a vl.n vl.c] 183);have s5:=fx w (.cells #[(kind:Int),name,(depth:Int),(owner:Int),.slice vp.a vp.n vp.c,.slice ve.a ve.n ve.c,.slice vl.a vl.n vl.c,.slice vm.a vm.n vm.c] 134) (.cells #[(kind:Int),name,.string (⟨#[100,111,110,101,46]⟩++name),(owner:Int),.int .u32 0,.int .u32 0,.int .u32 0,.int .u32 0,.slice ve.a ve.n ve.c,.slice vl.a vl.n vl.c] 183);have s6:=cA w (.cells #[(kind:Int),name,(depth:Int),(owner:Int),.slice vp.a vp.n vp.c,.slice ve.a ve.n ve.c,.slice vl.a vl.n vl.c,.slice vm.a vm.n vm.c] 134) (.cells #[(kind:Int),name,.string (⟨#[100,111,110,101,46]⟩++name),(owner:Int),.int .u32 0,.int .u32 0,.int .u32 0,.int .u32 0,.slice ve.a ve.n ve.c,.slice vl.a vl.n vl.c] 183);unfold Y.MS.arr;dsimp only;clear how;go_enter func67,ntmps67
 go_upto_if 24 with(first
  |(refine aB rfl 183 (.tmp 6) (.tmp 21) rfl 183 _ _ rfl rfl eG rfl rfl ?_)
  |fail)
 obtain⟨V0,hV⟩:∃V,(w.alloc (.cells #[(kind:Int),name,(depth:Int),(owner:Int),.slice vp.a vp.n vp.c,.slice ve.a ve.n ve.c,.slice vl.a vl.n vl.c,.slice vm.a vm.n vm.c] 134)).alloc (.cells #[(kind:Int),name,.string (⟨#[100,111,110,101,46]⟩++name),(owner:Int),.int .u32 0,.int .u32 0,.int .u32 0,.int .u32 0,.slice ve.a ve.n ve.c,.slice vl.a vl.n vl.c] 183)=V:=⟨_,rfl⟩;rw[hV]at Vh s5 s6⊢;clear hV;have s6:V0.heap[w.heap.size+1]?=some (.cells (mk 0).cells.toArray 183 (0,0)):=by rw[<- Zc];exact s6
 have VN:V0.cell? w=some ↑(kind:Int):=by rw[Pt V0 _ _ _ _ _ s5];rfl
 have Yz:=hP.below Vh Vo hb;have hPB0:Y.dB V0 pb b ps.length cap hv fin mv:=(Vh.block pb Vo).trans hB
 go_cut[] from 8 (fun V=>(∃(ps1:List Y.PS) (ar:Nat),Hid (pz=ps1.set i (mk ar))/\Y.bH V pb b cap ps1/\ps1.length=ps.length/\V.heap[w.heap.size+1]?=some (.cells (mk ar).cells.toArray 183 (0,0)))/\Y.dB V pb b ps.length cap hv fin mv/\Mo (fun k=>k=b\/k=pb) w V/\V.cell? w=some ↑(kind:Int))
 case first=>
  rcases HOW.out with ho|⟨o,ho,hoi⟩
  ·have hon:(owner != -1)=false:=by rw[ho];rfl
   have HZ:Hid (pz=ps.set i (mk 0)):=by unfold Hid;rw[<- HZ.out,<- Zc,ho];rfl
   clear ho;go_wp2_with fail;go_meet
   case rel=>exact⟨⟨ps,0,HZ,Yz,rfl,s6⟩,hPB0,az Vh,VN⟩
  ·have YR:o<ps.length:=zaa;have ho32:o<32:=zaa;obtain⟨q,hq⟩:∃q,ps[o]?=some q:=⟨_,Pp YR⟩;obtain⟨tq,YD⟩:∃t,2 ^ o=t:=⟨_,rfl⟩;have htol:tq<4294967296:=by rw[<- YD];exact uP ho32
   have honeo:∀V:World,() 101 #[(o:Int)] V fun e w'=>e=.returned (.int .u32 tq)/\w'=V:=fun V=>by rw[<- YD];exact jf o V ho32
   have hon:(owner != -1)=true:=by rw[ho];simp
   obtain⟨Xc,hh⟩:∃Xc,(decide (kind=3)||decide (kind=4))=Xc:=⟨_,rfl⟩;have HSP:Hid (pz=(if Xc then ps else ps.set o { q with parts:=q.parts|||t }).set i (mk (q.around|||tq))):=by
    unfold Hid;rw[<- HZ.out,ho];unfold Y.nW Y.isH;rw[<- Zc,ho,<- hh,<- YD,<- ht];simp only[Int.toNat_natCast,hq];rw[Pu zad]
   have Xx:V0.cell? (w,3)=some ↑(o:Int):=by rw[Pt V0 _ _ _ _ _ s5,ho];rfl
   have s6n:(V0.setCell (w.heap.size+1,6) (.int .u32 ((q.around|||tq:Nat):Int))).heap[w.heap.size+1]?=some (.cells (mk (q.around|||tq)).cells.toArray 183 (0,0)):=by
    rw[<- Zc]at s6⊢;exact PR V0 (w.heap.size+1) 6 _ _ (.int .u32 ((q.around|||tq:Nat):Int)) s6
   have hr0:=Yz.row;have hq6:=(Yz.ps hq).c6;have s66:V0.cell? (w.heap.size+1,6)=some (.int .u32 0):=by rw[Pt V0 _ _ _ _ _ s6,<- Zc];rfl
   have f66:V0.frozen? (w.heap.size+1,6)=false:=by simp[World.frozen?,s6]
   rw[hh]at V7;clear ho HOW HZ Zc hh YD;go_wp2_with fail;refine PJ (S:=(fun V=>V.cell? pb=some (.slice b ps.length cap)/\V.cell? ⟨w,3,none⟩=some ↑(o:Int))) zab ⟨hr0,Xx⟩ (fun Pm=>?_);refine tH 0 pb rfl Pm ?_;refine tH 1 pb rfl Pm ?_;refine tH 2 pb rfl Pm ?_;refine tH 3 (.slice b ps.length cap) rfl Pm ?_;refine tH 4 (w,3) rfl Pm ?_;refine tH 5 (.int .i64 o) rfl Pm ?_;refine tH 6 (b,o*10) rfl Pm ?_;refine tH 7 (b,o*10) rfl Pm ?_;refine PX zab ?_ _;clear Pm hr0;have Xx:V0.drew.cell? (w,3)=_:=Xx;have hq6:V0.drew.cell? (b,o*10+6)=_:=hq6;have s66:V0.drew.cell? (w.heap.size+1,6)=_:=s66;have f66:V0.drew.frozen? (w.heap.size+1,6)=_:=f66;have VN:(V0.drew.setCell (w.heap.size+1,6) (.int .u32 ((q.around|||tq:Nat):Int))).drew.cell? w=_:=(aA (w:=V0) zak).trans VN;have V6:Below w w (V0.drew.setCell (w.heap.size+1,6) (.int .u32 ((q.around|||tq:Nat):Int))).drew:=(Vh.drew.setCell (p:=⟨w.heap.size+1,6,none⟩) zad _).drew;have s6n:(V0.drew.setCell (w.heap.size+1,6) (.int .u32 ((q.around|||tq:Nat):Int))).drew.heap[w.heap.size+1]?=_:=s6n;have o1:=Se _ _ (Xz o q hq).ha htol;clear s6 s5 Yz hPB0 Vh;obtain⟨V0,hV⟩:∃V,V0.drew=V:=⟨_,rfl⟩;rw[hV]at Xx hq6 s66 f66 VN V6 s6n⊢;clear hV;go_wp2_with fail;refine PJ (S:=(fun V=>V.cell? (b,o*10+6)=some (.int .u32 q.around)/\V.cell? ⟨w,3,none⟩=some ↑(o:Int))) zab ⟨hq6,Xx⟩ (fun Pm=>?_);refine tH 0 (b,o*10) rfl Pm ?_;refine tH 1 (b,o*10) rfl Pm ?_;refine tH 2 (b,o*10+6) rfl Pm ?_;refine tH 3 (.int .u32 q.around) rfl Pm ?_;refine tH 4 (w,3) rfl Pm ?_;refine tH 5 (.int .i64 o) rfl Pm ?_;refine zH 6 rfl fun K hK=>?_;go_simp;refine(honeo _).mono ?_;rintro e w9 ⟨rfl,rfl⟩;refine hK.out _ _ Pm (fun Pm=>?_);clear hK K;refine tH 7 (.int .u32 ((q.around|||tq:Nat):Int)) rfl Pm ?_;refine tH 8 (w.heap.size+1,6) rfl Pm ?_;refine zH 9 rfl fun K hK=>?_;go_simp;refine hK.out _ _ (by
    have e:∀(a:Addr),a≠⟨w.heap.size+1,6,none⟩->∀v,(V0.setCell (w.heap.size+1,6) v).drew.cell? a=V0.drew.cell? a:=fun a ha v=>aA (fun h=>ha h.symm)
    (try dsimp only at Pm);(try dsimp only)
    rw[e _ zak,e _ zak];exact Pm) (fun Pm=>?_)
   clear hK K Pm;refine PX zab ?_ _;obtain⟨V1,hV⟩:∃V,(V0.setCell (w.heap.size+1,6) (.int .u32 ((q.around|||tq:Nat):Int))).drew=V:=⟨_,rfl⟩;rw[hV]at VN V6 s6n⊢;clear hV Xx hq6 s66 f66 o1 honeo;have Xp:=hP.below V6 Vo hb;have Zm:Y.dB V1 pb b ps.length cap hv fin mv:=(V6.block pb Vo).trans hB;cases Xc
   ·go_wp2_with(go_at_call 106;refine(V7 _).mono ?_;rintro e w9 ⟨rfl,U1⟩;rw[U1];clear U1 w9);have kq:=Xp.at' o q hq 4 _ rfl;have kqc:=kq.1;have kqf:=kq.2;have o2:=Se _ _ (Xz o q hq).hp Wz;have Xh:=Xp.set hq 4 (.int .u32 ((q.parts|||t:Nat):Int)) { q with parts:=q.parts|||t } zac (Y.bH.Pk rfl zac);have Xh:Y.bH (V1.setCell (b,o*10+4) (.int .u32 ((q.parts|||t:Nat):Int))).drew pb b cap (ps.set o { q with parts:=q.parts|||t }):=⟨Xh.row,Xh.at',Xh.len,Xh.ne⟩;have hM:Mo (fun k=>k=b\/k=pb) w (V1.setCell (b,o*10+4) (.int .u32 ((q.parts|||t:Nat):Int))).drew:=jY ((az V6).set ⟨b,o*10+4,none⟩ _ (.inl rfl));have s6:(V1.setCell (b,o*10+4) (.int .u32 ((q.parts|||t:Nat):Int))).drew.heap[w.heap.size+1]?=_:=(Qg V1 ⟨b,o*10+4,none⟩ _ _ zaf).trans s6n;have VN:(V1.setCell (b,o*10+4) (.int .u32 ((q.parts|||t:Nat):Int))).drew.cell? w=_:=(aA zak).trans VN;have V3:Y.dB (V1.setCell (b,o*10+4) (.int .u32 ((q.parts|||t:Nat):Int))).drew pb b ps.length cap hv fin mv:=(Qg V1 ⟨b,o*10+4,none⟩ _ _ U9).trans Zm;refine PJ (S:=(fun _=>True)) zab trivial (fun Pm=>?_);refine tH 0 (b,o*10) rfl Pm ?_;refine tH 1 (b,o*10) rfl Pm ?_;refine tH 2 (b,o*10+4) rfl Pm ?_;refine tH 4 (.int .i64 i) rfl Pm ?_;refine yH [3,5] ?_;refine Qk rfl (fun K hK=>?rg3) (Qk rfl (fun K hK=>?rg4) QX)
    case' rg3=>
     go_simp;refine hK.out _ _ Pm (fun Pm=>?_);clear hK K;refine zH 5 rfl fun K hK=>?_;go_simp;refine(Wc _).mono ?_;rintro e w9 ⟨rfl,rfl⟩;refine hK.out _ _ Pm (fun Pm=>?_);clear hK K;refine tH 6 (.int .u32 ((q.parts|||t:Nat):Int)) rfl Pm ?_;refine tH 7 (b,o*10) rfl Pm ?_;refine tH 8 (b,o*10+4) rfl Pm ?_;refine zH 9 rfl fun K hK=>?_;go_simp;refine hK.out _ _ (by
      exact trivial) (fun Pm=>?_)
     clear hK K Pm;refine PX zab ?_ _
    case' rg4=>
     go_simp;refine(Wc _).mono ?_;rintro e w9 ⟨rfl,rfl⟩;refine hK.out _ _ Pm (fun Pm=>?_);clear hK K;refine zH 3 rfl fun K hK=>?_;go_simp;refine hK.out _ _ Pm (fun Pm=>?_);clear hK K;refine tH 6 (.int .u32 ((q.parts|||t:Nat):Int)) rfl Pm ?_;refine tH 7 (b,o*10) rfl Pm ?_;refine tH 8 (b,o*10+4) rfl Pm ?_;refine zH 9 rfl fun K hK=>?_;go_simp;refine hK.out _ _ (by
      exact trivial) (fun Pm=>?_)
     clear hK K Pm;refine PX zab ?_ _
    all_goals
     go_wp2_with fail;go_meet
     case rel=>exact⟨⟨_,_,HSP,Xh,zad,s6⟩,V3,hM,VN⟩
   ·go_wp2_with(go_at_call 106;refine(V7 _).mono ?_;rintro e w9 ⟨rfl,U1⟩;rw[U1];clear U1 w9);go_meet
    case rel=>exact⟨⟨_,_,HSP,Xp,rfl,s6n⟩,Zm,az V6,VN⟩
 case rest=>
  obtain⟨⟨ps1,ar,HS,Vz,hl1,s6⟩,V3,hM,VN⟩:=hcut;obtain⟨pn,hpn⟩:∃pn,mk ar=pn:=⟨_,rfl⟩;rw[hpn]at HS s6;clear hpn Zc Vh s5 HOW HZ V7 hB hP Yz hPB0;have hf2c:wc.cell? (pb,2)=some (.int .u32 fin):=by rw[Pt wc _ _ _ _ _ V3];rfl
  have hf2f:wc.frozen? (pb,2)=false:=by simp[World.frozen?,show wc.heap[pb]?=_ from V3]
  go_upto_if 56 with fail
  go_cut[] from 8 (fun V=>Y.bH V pb b cap ps1/\V.heap[w.heap.size+1]?=some (.cells pn.cells.toArray 183 (0,0))/\Y.dB V pb b ps.length cap hv fn mv/\Mo (fun k=>k=b\/k=pb) w V)
  case first=>
   obtain⟨k2,Wy⟩:∃k2,(kind == 2)=k2:=⟨_,rfl⟩;cases k2
   ·have V3:Y.dB wc pb b ps.length cap hv fn mv:=by have:=HF.out;rw[Pu (by rw[Wy];decide)]at this;rw[this];exact V3
    go_wp2_with fail;go_meet
    case rel=>exact⟨Vz,s6,V3,hM⟩
   ·have HF:Hid (fn=fin|||t):=by have:=HF.out;rw[PC Wy]at this;exact this
    have o3:=Se _ _ hfl Wz;have V3:=PR wc pb 2 _ _ (.int .u32 ((fin|||t:Nat):Int)) V3;have V3:Y.dB (wc.setCell (pb,2) (.int .u32 ((fin|||t:Nat):Int))).drew pb b ps.length cap hv fn mv:=by rw[HF.out];exact V3
    have Vz:=Vz.OR 2 (.int .u32 ((fin|||t:Nat):Int)) zac;have Vz:Y.bH (wc.setCell (pb,2) (.int .u32 ((fin|||t:Nat):Int))).drew pb b cap ps1:=⟨Vz.row,Vz.at',Vz.len,Vz.ne⟩;have hM:Mo (fun k=>k=b\/k=pb) w (wc.setCell (pb,2) (.int .u32 ((fin|||t:Nat):Int))).drew:=jY (hM.set ⟨pb,2,none⟩ _ (.inr rfl));have s6:(wc.setCell (pb,2) (.int .u32 ((fin|||t:Nat):Int))).drew.heap[w.heap.size+1]?=_:=(Qg wc ⟨pb,2,none⟩ _ _ zaf).trans s6;go_wp2_with fail;refine PJ (S:=(fun _=>True)) zab trivial (fun Pm=>?_);refine tH 0 pb rfl Pm ?_;refine tH 1 pb rfl Pm ?_;refine tH 2 (pb,2) rfl Pm ?_;refine tH 4 (.int .i64 i) rfl Pm ?_;refine yH [3,5] ?_;refine Qk rfl (fun K hK=>?rg9) (Qk rfl (fun K hK=>?rg10) QX)
    case' rg9=>
     go_simp;refine hK.out _ _ Pm (fun Pm=>?_);clear hK K;refine zH 5 rfl fun K hK=>?_;go_simp;refine(Wc _).mono ?_;rintro e w9 ⟨rfl,rfl⟩;refine hK.out _ _ Pm (fun Pm=>?_);clear hK K;refine tH 6 (.int .u32 ((fin|||t:Nat):Int)) rfl Pm ?_;refine tH 7 pb rfl Pm ?_;refine tH 8 (pb,2) rfl Pm ?_;refine zH 9 rfl fun K hK=>?_;go_simp;refine hK.out _ _ (by
      exact trivial) (fun Pm=>?_)
     clear hK K Pm;refine PX zab ?_ _
    case' rg10=>
     go_simp;refine(Wc _).mono ?_;rintro e w9 ⟨rfl,rfl⟩;refine hK.out _ _ Pm (fun Pm=>?_);clear hK K;refine zH 3 rfl fun K hK=>?_;go_simp;refine hK.out _ _ Pm (fun Pm=>?_);clear hK K;refine tH 6 (.int .u32 ((fin|||t:Nat):Int)) rfl Pm ?_;refine tH 7 pb rfl Pm ?_;refine tH 8 (pb,2) rfl Pm ?_;refine zH 9 rfl fun K hK=>?_;go_simp;refine hK.out _ _ (by
      exact trivial) (fun Pm=>?_)
     clear hK K Pm;refine PX zab ?_ _
    all_goals
     go_wp2_with fail;go_meet
     case rel=>exact⟨Vz,s6,V3,hM⟩
  case rest=>
   clear Vz s6 V3 hM VN hf2c hf2f HF;obtain⟨Vz,s6,V3,hM⟩:=hcut;have hr9:=Vz.row;rw[hl1]at hr9;have hil1:i<ps1.length:=zaa;have YE:wc.drew.rangeAt (w.heap.size+1) 0 pn.cells:=by
    have:=lQ (w:=wc) s6;simpa using this
   obtain⟨p1,hp1⟩:∃p,ps1[i]?=some p:=⟨_,Pp hil1⟩;have hth:wc.drew.there b (i*10) pn.cells.toArray.size:=fun j hj=>by
    have hj:j<10:=by simpa[Y.PS.cells] using hj
    have:=Vz.at' i p1 hp1 j _ (Pp (by simpa[Y.PS.cells] using hj));exact⟨by rw[show wc.drew.cell? (b,i*10+j)=_ from this.1];rfl,this.2⟩
   have hsz9:(Tryz.prog.info? 183).map (·.size)=some pn.cells.toArray.size:=eG;have hone9:pn.cells.toArray.all (·.oneCell')=true:=zbD;have hlen9:pn.cells.length=10:=rfl;have Wu:(storeCells ⟨b,i*10,none⟩ pn.cells).run prog wc.drew=.ok () (wc.drew.setCells b (i*10) pn.cells):=
    run_storeCells_cells (P:=prog) b (i*10) pn.cells 0 wc.drew (fun j hj=>(hth j (by simpa using hj)).1) (fun j hj=>(hth j (by simpa using hj)).2) (fun v hv=>SF.1 hone9 v (by simpa using hv))
   have hP9:=(show Y.bH wc.drew pb b cap ps1 from⟨Vz.row,Vz.at',Vz.len,Vz.ne⟩).setRow hil1 pn;rw[<- HS.out]at hP9;have Wn:Mo (fun k=>k=b\/k=pb) w (wc.drew.setCells b (i*10) pn.cells):=(jY hM).cells b (i*10) pn.cells (.inl rfl);have VQ:Y.dB (wc.drew.setCells b (i*10) pn.cells) pb b ps.length cap hv fn mv:=((Mo.refl (·=b) wc.drew).cells b (i*10) pn.cells rfl |>.block pb (by show pb<wc.heap.size;have:=hM.size;omega) U9).trans V3;go_wp2_with fail;refine PJ (S:=(fun V=>V.cell? pb=some (.slice b ps.length cap)/\V.rangeAt (w.heap.size+1) 0 pn.cells)) zab ⟨hr9,YE⟩ (fun Pm=>?_);refine tH 0 pb rfl Pm ?_;refine tH 1 pb rfl Pm ?_;refine tH 2 pb rfl Pm ?_;refine tH 3 (.slice b ps.length cap) rfl Pm ?_;refine tH 4 (.int .i64 i) rfl Pm ?_;refine RS (i:=5) (v:=(.agg pn.cells.toArray)) rfl zab zab zab (fun _ _ _ h=>h) (yieldsIf_load_mid rfl 183 (.tmp 6) rfl (w.heap.size+1) 0 rfl pn.cells _ (fun w VF=>VF.2) underlying183 rfl eG) Pm ?_;refine tH 6 (b,i*10) rfl Pm ?_;refine zH 7 rfl fun K hK=>?_;go_simp;refine hK.out _ _ (by
    refine⟨(Tv b pn.cells (i*10) wc.drew _ (fun e=>absurd e U9)).trans Pm.1,World.rangeAt_setCells_apart Pm.2 b (i*10) pn.cells (.inl zaa)⟩) (fun Pm=>?_)
   clear hK K Pm;refine PX zab ?_ _;go_wp2;go_end0;exact⟨rfl,VQ,hP9,Wn⟩
theorem yF(w:World)(c s pt:Nat)(hs:s<4294967296)(hp:pt<4294967296)(hc:w.cell? (c,4)=some (.int .u32 pt)):
  () 107 #[.int .u32 s,c] w fun e w'=>e=.returned (.int .u32 ((s&&&pt:Nat):Int))/\w'=w:=by
 have ha:=SW _ _ hs hp;go_enter func107,ntmps107;go_wp2;go_ret;exact⟨rfl,rfl⟩
theorem A7(w:World)(c all:Nat)(kv:Value)(hc:w.cell? c=some (.int .u32 all)):
  () 163 #[kv,c] w fun e w'=>e=.returned (.int .u32 all)/\w'=w:=by
 go_enter func163,ntmps163;go_wp2;go_ret;exact⟨rfl,rfl⟩
theorem qB(w:World)(kv:Value):() 111 #[kv] w fun e w'=>e=.returned (.int .u32 0)/\w'=w:=by
 go_enter func111,ntmps111;exact zfr
theorem Y.Jk(ps:List Y.PS)(h:s<4294967296):Y.inn ps s<4294967296:=Y.yB ps _ _ h
theorem yE(w:World)(pb b cap:Nat)(ps:List Y.PS)(c d s ins:Nat)(hs:s<4294967296)(hi:ins<4294967296)(V9:∀i,i∈Y.els s->i<ps.length)(hP:Y.cJ w pb b cap ps)(Vo:pb<w.heap.size)(hb:b<w.heap.size)
  (hg:1<w.heap.size) (hT:TabAt 1 Lib.deBruijn32tab w) (hd:Boxed w d 103 pb) (Vu:c<w.heap.size) (hc:w.cell? (c,5)=some (.int .u32 ins)):
  () 108 #[.int .u32 s,d,c] w fun e w'=>e=.returned (.int .u32 ((Y.inn ps s&&&ins:Nat):Int))/\Below w w w':=by
 have VL:=(Pq w w).drew;have YT:=od w.drew pb b cap ps s hs V9 (hP.below VL Vo hb) Vo hb hg hT;have Xv:=Y.Jk ps hs;obtain⟨r,hr⟩:∃r,Y.inn ps s=r:=⟨_,rfl⟩;rw[hr]at YT Xv⊢;have ha:=SW _ _ Xv hi;clear hr;go_enter func108,ntmps108;go_wp2;refine PJ (S:=(fun V=>V.cell? d=some ↑pb/\V.cell? ⟨c,5,none⟩=some (.int .u32 ins))) zab ⟨hd.cell,hc⟩ (fun Pm=>?_);refine tH 0 pb rfl Pm ?_;refine tH 1 (.int .u32 s) rfl Pm ?_;refine tH 3 (c,5) rfl Pm ?_;refine tH 4 (.int .u32 ins) rfl Pm ?_;refine zH 2 rfl fun K hK=>?_;go_simp;refine YT.mono ?_;rintro e w9 ⟨rfl,VQ⟩;refine hK.out _ _ ⟨(VQ.cell (p:=d) hd.lt).trans Pm.1,(VQ.cell (p:=⟨c,5,none⟩) Vu).trans Pm.2⟩ (fun Pm=>?_);clear hK K;refine tH 5 (.int .u32 ((r&&&ins:Nat):Int)) rfl Pm ?_;refine tH 6 (.int .u32 ((r&&&ins:Nat):Int)) rfl Pm ?_;refine PX zab ?_ _;go_wp2;go_ret;exact⟨rfl,VL.trans VQ⟩
namespace Y
inductive En where
 |nil
 |all (a:Nat)
 |hist (path dest:Nat)
def uX(W:World)(pb b:Nat):En->Value->Prop
 |.nil,v=>v=.func (.func 111) #[] #[]
 |.all a,v=>∃c,v=.func (.func 163) #[] #[.pointer (some ⟨c,0,none⟩)]/\Boxed W c 167 (.int .u32 a)
 |.hist p t,v=>∃c3 c7 c6 c5,v=.func (.func 160) #[] #[.pointer (some ⟨c3,0,none⟩),.pointer (some ⟨c7,0,none⟩),.pointer (some ⟨c6,0,none⟩),.pointer (some ⟨c5,0,none⟩)]/\Boxed W c3 103 (.pointer (some ⟨pb,0,none⟩))/\Boxed W c7 167 (.int .u32 p)/\Boxed W c6 258 (.pointer (some ⟨b,t*10,none⟩))/\Boxed W c5 3 (.int .i64 t)
def vE(ps:List PS)(i:Nat):Nat:=match ps[i]? with|some p=>p.owner.toNat|none=>0
def enters(ps:List PS)(kept:Nat->Nat):En->Nat
 |.nil=>0
 |.all a=>a
 |.hist p t=>complete ps (p|||ef ps (vE ps t) (kept t))
theorem uX.aq{W W':World}{pb b:Nat}{e:En}{v:Value}(h:uX W pb b e v)(hk:∀(B:Nat) (t:TypeId) (u:Value),(t=167\/t=103\/t=258\/t=3)->Boxed W B t u->Boxed W' B t u):uX W' pb b e v:=by
 cases e with
 |nil=>exact h
 |all a=>obtain⟨c,h1,h2⟩:=h;exact⟨c,h1,hk _ _ _ zad h2⟩
 |hist p t=>obtain⟨c3,c7,c6,c5,h1,h2,h3,h4,h5⟩:=h;exact⟨c3,c7,c6,c5,h1,hk _ _ _ zad h2,hk _ _ _ zad h3,hk _ _ _ zad h4,hk _ _ _ zad h5⟩
end Y
theorem yK(w:World)(pb b cap:Nat)(ps:List Y.PS)(c3 c7 c6 c5 path to_ ow kb ko k:Nat)(pt po:Y.PS)(X3:ps[to_]?=some pt)(WZ:ps[ow]?=some po)(U2:pt.owner=ow)(hpa:path<4294967296)(WN:k<4294967296)(V9:∀i,i∈Y.els k->i<ps.length)(Zn:∀i,i∈Y.els (path|||Y.ef ps ow k)->i<ps.length)(hpts:∀(i:Nat) (p:Y.PS),ps[i]?=some p->∀j∈Y.els p.parts,j<ps.length)(hP:Y.cJ w pb b cap ps)(Vo:pb<w.heap.size)(Xc:b<w.heap.size)
  (hg:1<w.heap.size) (hT:TabAt 1 Lib.deBruijn32tab w) (h3:Boxed w c3 103 pb) (h7:Boxed w c7 167 (.int .u32 path)) (h6:Boxed w c6 258 (b,to_*10)) (h5:Boxed w c5 3 (.int .i64 to_)) (Z3:kb<w.heap.size) (hk:w.cell? (kb,ko+to_)=some (.int .u32 k)):
  () 160 #[(kb,ko),c3,c7,c6,c5] w fun e w'=>e=.returned (.int .u32 (Y.complete ps (path|||Y.ef ps ow k)))/\Below w w w':=by
 have Wz:to_<ps.length:=(Ps.1 X3).1;have hlen:=hP.len;have Zo:¬(24:Int)<=(to_:Int):=zaa;have hot:w.cell? (b,to_*10+3)=some ↑(ow:Int):=by rw[<- U2];exact(hP.at' to_ pt X3).c3
 have Xv:=Y.GR hP.sm ow k;have hrec:∀V,Below w w V->() 162 #[pb,(ow:Int),.int .u32 k] V fun e w'=>e=.returned (.int .u32 (Y.ef ps ow k))/\Below V.heap.size V w':=fun V hV=>by
  have:=hV.size;exact DR V pb b cap ps ow po WZ k WN V9 (hP.below hV Vo Xc) zaa zaa zaa (Y.KpT.of hV hg hT)
 have YU:∀V,Below w w V->() 161 #[pb,.int .u32 ((path|||Y.ef ps ow k:Nat):Int)] V fun e w'=>e=.returned (.int .u32 (Y.complete ps (path|||Y.ef ps ow k)))/\Below V.heap.size V w':=fun V hV=>by
  have:=hV.size;exact pf V pb b cap ps _ (Y.rh hpa Xv) Zn hpts (hP.below hV Vo Xc) zaa zaa zaa (Y.KpT.of hV hg hT)
 obtain⟨z,hz⟩:∃z,Y.complete ps (path|||Y.ef ps ow k)=z:=⟨_,rfl⟩;obtain⟨r,hr⟩:∃r,Y.ef ps ow k=r:=⟨_,rfl⟩;rw[hr]at hz;rw[hr]at Xv hrec YU⊢;rw[hz]at YU⊢;have ho:=Se _ _ hpa Xv;clear hr hz;go_enter func160,ntmps160;go_wp2;refine PJ (S:=(fun V=>V.cell? c3=some ↑pb/\V.cell? c7=some (.int .u32 path)/\V.cell? c6=some ↑(b,to_*10)/\V.cell? c5=some ↑(to_:Int)/\V.cell? (b,to_*10+3)=some ↑(ow:Int)/\V.cell? (kb,ko+to_)=some (.int .u32 k))) zab ⟨h3.cell,h7.cell,h6.cell,h5.cell,hot,hk⟩ (fun Pm=>?_);refine tH 0 pb rfl Pm ?_;refine tH 1 (.int .u32 path) rfl Pm ?_;refine tH 2 pb rfl Pm ?_;refine tH 3 (b,to_*10) rfl Pm ?_;refine tH 4 (b,to_*10) rfl Pm ?_;refine tH 5 (b,to_*10+3) rfl Pm ?_;refine tH 6 (.int .i64 ow) rfl Pm ?_;refine tH 7 (kb,ko) rfl Pm ?_;refine tH 8 (.int .i64 to_) rfl Pm ?_;refine tH 9 (kb,ko) rfl Pm ?_;refine tH 10 (kb,ko+to_) rfl Pm ?_;refine tH 11 (.int .u32 k) rfl Pm ?_;refine zH 12 rfl fun K hK=>?_;go_simp;refine(hrec w.drew (Pq _ w).drew).mono ?_;rintro e w9 ⟨rfl,VQ⟩;refine hK.out _ _ ((fun hb=>⟨(hb.cell (p:=c3) h3.lt).trans Pm.1,(hb.cell (p:=c7) h7.lt).trans Pm.2.1,(hb.cell (p:=c6) h6.lt).trans Pm.2.2.1,(hb.cell (p:=c5) h5.lt).trans Pm.2.2.2.1,(hb.cell (p:=(b,to_*10+3)) Xc).trans Pm.2.2.2.2.1,(hb.cell (p:=(kb,ko+to_)) Z3).trans Pm.2.2.2.2.2⟩) VQ) (fun Pm=>?_);clear hK K;refine tH 13 (.int .u32 ((path|||r:Nat):Int)) rfl Pm ?_;refine zH 14 rfl fun K hK=>?_;go_simp;have hB8:Below w w w9:=(Pq _ w).drew.trans VQ;have hl9:∀x,x<w.heap.size->x<w9.heap.size:=fun x hx=>PY hx hB8.size;refine(YU w9 hB8).mono ?_;rintro e w8 ⟨rfl,hB10⟩;refine hK.out _ _ ((fun hb=>⟨(hb.cell (p:=c3) h3.lt).trans Pm.1,(hb.cell (p:=c7) h7.lt).trans Pm.2.1,(hb.cell (p:=c6) h6.lt).trans Pm.2.2.1,(hb.cell (p:=c5) h5.lt).trans Pm.2.2.2.1,(hb.cell (p:=(b,to_*10+3)) Xc).trans Pm.2.2.2.2.1,(hb.cell (p:=(kb,ko+to_)) Z3).trans Pm.2.2.2.2.2⟩) (hB10.mono hB8.size)) (fun Pm=>?_);clear hK K;refine tH 15 (.int .u32 z) rfl Pm ?_;refine PX zab ?_ _;go_wp2;go_ret;exact⟨rfl,hB8.trans (hB10.mono hB8.size)⟩
theorem p5{P:Program}{w:World}{a:Addr}{u:Value}(hc:w.cell? a=some u)(hf:w.frozen? a=false)(f:Fn)(x y:Array Value):(store a (.func f x y)).run P w=.ok () (w.setCell a (.func f x y)):=by
 rw[UH P w _ _ _ rfl];simp[hc,hf]
namespace Y
def iV(ps:List PS)(own dest:Nat):En:=match ps[dest]? with
 |none=>.nil
 |some p=>if isH p.kind then .hist (p.around&&&dom ps own dest) dest else .all (complete ps ((p.around&&&dom ps own dest)|||p.wth))
theorem LC(h:Sms ps)(i:Nat):kg ps i<4294967296:=by
 unfold kg;split
 ·rename_i p hp;exact(h i p hp).hi
 ·decide
theorem NB(h:Sms ps)(hl:ps.length<=24)(i j:Nat):dom ps i j<4294967296:=by
 unfold dom;split
 ·exact LC h _
 ·have:2 ^ ps.length<=2 ^ 24:=Rc zac hl;omega
theorem uY.mo(h:uY W b i p)(hm:Mo P W W')(hb:b<W.heap.size)(hn:¬P b):uY W' b i p where
 c0:=(hm.cell (p:=⟨b,_,none⟩) hb hn).trans h.c0
 c1:=(hm.cell (p:=⟨b,_,none⟩) hb hn).trans h.c1
 c2:=(hm.cell (p:=⟨b,_,none⟩) hb hn).trans h.c2
 c3:=(hm.cell (p:=⟨b,_,none⟩) hb hn).trans h.c3
 c4:=(hm.cell (p:=⟨b,_,none⟩) hb hn).trans h.c4
 c5:=(hm.cell (p:=⟨b,_,none⟩) hb hn).trans h.c5
 c6:=(hm.cell (p:=⟨b,_,none⟩) hb hn).trans h.c6
 c7:=(hm.cell (p:=⟨b,_,none⟩) hb hn).trans h.c7
 c8:=(hm.cell (p:=⟨b,_,none⟩) hb hn).trans h.c8
 c9:=(hm.cell (p:=⟨b,_,none⟩) hb hn).trans h.c9
theorem cJ.mo(h:cJ W pb b cap ps)(hm:Mo P W W')(h1:pb<W.heap.size)(h2:b<W.heap.size)(n1:¬P pb)(n2:¬P b):cJ W' pb b cap ps where
 row:=(hm.cell (p:=pb) h1 n1).trans h.row
 at':=fun i p hi=>(h.at' i p hi).mo hm h2 n2
 sm:=h.sm
 len:=h.len
end Y
theorem JB(w:World)(pb b cap:Nat)(ps:List Y.PS)(own dest mvb:Nat)(p pd:Y.PS)(lv:Nat)(av fv:Value)(WZ:ps[own]?=some p)(YF:ps[dest]?=some pd)(V9:∀i,i∈Y.els (p.around&&&pd.around)->i<ps.length)(Zn:∀i,i∈Y.els ((pd.around&&&Y.dom ps own dest)|||pd.wth)->i<ps.length)(hpts:∀(i:Nat) (p:Y.PS),ps[i]?=some p->∀j∈Y.els p.parts,j<ps.length)
  (hP:Y.cJ w pb b cap ps) (Vo:pb<w.heap.size) (hb:b<w.heap.size) (n1:pb≠mvb) (n2:b≠mvb) (hg:1<w.heap.size) (hgm:1≠mvb) (hT:TabAt 1 Lib.deBruijn32tab w)
  (hmv:w.heap[mvb]?=some (.cells #[(own:Int),.int .u32 lv,av,fv] 270 (0,0))):
  () 112 #[pb,mvb,(dest:Int)] w fun e w'=>e=.returned (.tuple #[])/\Mo (·=mvb) w w'/\∃fv',w'.heap[mvb]?=some (.cells #[(own:Int),.int .u32 (Y.dom ps own dest),av,fv'] 270 (0,0))/\Y.uX w' pb b (Y.iV ps own dest) fv':=by
 have hmvl0:mvb<w.heap.size:=(Pn.1 hmv).1;have V4:dest<ps.length:=(Ps.1 YF).1;have hlen:=hP.len;have hdml:=Y.NB hP.sm hlen own dest;have hdom:∀V,Below w w V->() 159 #[pb,(own:Int),(dest:Int)] V fun e w'=>e=.returned (.int .u32 (Y.dom ps own dest))/\Below V.heap.size V w':=fun V hV=>by
  have:=hV.size;exact P8.1 (FQ 3 zaa V pb b cap ps own dest p pd WZ YF V9 (hP.below hV Vo hb) zaa zaa)
 have YU:∀V,Mo (·=mvb) w V->() 161 #[pb,.int .u32 (((pd.around&&&Y.dom ps own dest)|||pd.wth:Nat):Int)] V fun e w'=>e=.returned (.int .u32 (Y.complete ps ((pd.around&&&Y.dom ps own dest)|||pd.wth)))/\Below V.heap.size V w':=fun V hV=>by
  have:=hV.size;exact pf V pb b cap ps _ (Y.rh (Y.lg (hP.sm dest pd YF).ha) (hP.sm dest pd YF).hw) Zn hpts (hP.mo hV Vo hb n1 n2) zaa zaa zaa (hV.kpT hg hgm hT)
 have hle:Y.iV ps own dest=if Y.isH pd.kind then .hist (pd.around&&&Y.dom ps own dest) dest else .all (Y.complete ps ((pd.around&&&Y.dom ps own dest)|||pd.wth)):=by unfold Y.iV;rw[YF]
 obtain⟨en,hen⟩:∃en,Y.iV ps own dest=en:=⟨_,rfl⟩;rw[hen]at hle⊢;obtain⟨dm,hdm⟩:∃dm,Y.dom ps own dest=dm:=⟨_,rfl⟩;rw[hdm]at hdml hdom YU hle⊢;have XC:Hid _:=hle;have V7:=tj pd.kind;have a1:=SW _ _ (hP.sm dest pd YF).ha hdml;have a2:=Se _ _ (Y.lg (b:=dm) (hP.sm dest pd YF).ha) (hP.sm dest pd YF).hw;clear hle hen hdm V9 Zn;go_enter func112,ntmps112;go_wp2_with fail;have c3:=(P9 w 103 pb).alloc (.cells #[(dest:Int)] 3);have c5:=P9 (w.alloc (.cells #[pb] 103)) 3 (.int .i64 dest);simp only[World.size_alloc]at c5;have Vh:=((Pq w w).alloc (Po _) (.cells #[pb] 103)).alloc zad (.cells #[(dest:Int)] 3);obtain⟨W1,Vj⟩:∃W,(w.alloc (.cells #[pb] 103)).alloc (.cells #[(dest:Int)] 3)=W:=⟨_,rfl⟩;rw[Vj]at c3 c5 Vh⊢;clear Vj;have hmv1:=(Vh.block mvb hmvl0).trans hmv;have hmvl:mvb<W1.heap.size:=(Pn.1 hmv1).1;have Zd:W1.cell? mvb=some ↑(own:Int):=by rw[Pt W1 _ _ _ _ _ hmv1];rfl
 have hm1:W1.drew.cell? (mvb,1)=some (.int .u32 lv):=by show W1.cell? _=_;rw[Pt W1 _ _ _ _ _ hmv1];rfl
 have hf1:W1.drew.frozen? (mvb,1)=false:=by show W1.frozen? _=_;simp[World.frozen?,hmv1]
 have hdom:∀V,Below W1 W1 V->_:=fun V hV=>hdom V (Vh.trans (hV.mono Vh.size));refine PJ (S:=(fun V=>V.cell? w=some ↑pb/\V.cell? ↑(w.heap.size+1)=some ↑(dest:Int)/\V.cell? mvb=some ↑(own:Int))) zab ⟨c3.cell,c5.cell,Zd⟩ (fun Pm=>?_);refine tH 0 mvb rfl Pm ?_;refine tH 1 pb rfl Pm ?_;refine tH 2 mvb rfl Pm ?_;refine tH 3 mvb rfl Pm ?_;refine tH 4 mvb rfl Pm ?_;refine tH 5 (.int .i64 own) rfl Pm ?_;refine tH 6 (.int .i64 dest) rfl Pm ?_;refine zH 7 rfl fun K hK=>?_;go_simp;refine(hdom _ (Pq _ W1).drew).mono ?_;rintro e w9 ⟨rfl,VQ⟩;refine hK.out _ _ ⟨((VQ).cell (p:=w) c3.lt).trans Pm.1,((VQ).cell (p:=↑(w.heap.size+1)) c5.lt).trans Pm.2.1,((VQ).cell (p:=mvb) hmvl).trans Pm.2.2⟩ (fun Pm=>?_);clear hK K;have hm1:w9.cell? (mvb,1)=_:=(VQ.cell (p:=⟨mvb,1,none⟩) hmvl).trans hm1;have hf1:w9.frozen? (mvb,1)=_:=(VQ.frozen (p:=⟨mvb,1,none⟩) hmvl).trans hf1;refine tH 8 mvb rfl Pm ?_;refine tH 9 (mvb,1) rfl Pm ?_;refine zH 10 rfl fun K hK=>?_;go_simp;refine hK.out _ _ (by
  have e:∀(a:Addr),a≠⟨mvb,1,none⟩->∀v,(w9.setCell (mvb,1) v).cell? a=w9.cell? a:=fun a ha v=>aA (fun h=>ha h.symm)
  (try dsimp only at Pm);(try dsimp only)
  rw[e _ zak,e _ zak,e _ zak];exact Pm) (fun Pm=>?_)
 clear hK K Pm;refine PX zab ?_ _;have VQ:Below W1 W1 w9:=(Pq _ W1).drew.trans VQ;have hBw9:Below w w w9:=Vh.trans (VQ.mono Vh.size);have Ws:Mo (·=mvb) w (w9.setCell (mvb,1) (.int .u32 dm)):=(az hBw9).set ⟨mvb,1,none⟩ _ rfl;have hmv2:=PR w9 mvb 1 _ _ (.int .u32 dm) ((VQ.block mvb hmvl).trans hmv1);have hmv2:(w9.setCell (mvb,1) (.int .u32 dm)).heap[mvb]?=some (.cells #[(own:Int),.int .u32 dm,av,fv] 270 (0,0)):=hmv2;have c3:=bD (aD c3 VQ c3.lt) (p:=⟨mvb,1,none⟩) zaf (.int .u32 dm);have c5:=bD (aD c5 VQ c5.lt) (p:=⟨mvb,1,none⟩) zaf (.int .u32 dm);obtain⟨W2,Yh⟩:∃W,w9.setCell (mvb,1) (.int .u32 dm)=W:=⟨_,rfl⟩;rw[Yh]at Ws hmv2 c3 c5⊢;clear Yh Pm Zd hm1 hf1 hBw9 VQ Vh hmv1 hdom hmvl;have Xh:=hP.mo Ws Vo hb n1 n2;have Zp:=Ws.size;go_wp2_with fail;have hkS:∀v:Value,(fun V=>V.cell? w=some ↑pb/\V.cell? pb=some (.slice b ps.length cap)/\V.cell? ↑(w.heap.size+1)=some ↑(dest:Int)) ((W2.alloc (.cells #[v] 258)).drew):=fun v=>by
  have VK:Below W2 W2 (W2.alloc (.cells #[v] 258)).drew:=((Pq _ W2).alloc (Po _) _).drew;exact⟨(VK.cell (p:=w) c3.lt).trans c3.cell,(VK.cell (p:=pb) (show pb<W2.heap.size by omega)).trans Xh.row,(VK.cell (p:=↑(w.heap.size+1)) c5.lt).trans c5.cell⟩
 refine PJ (S:=(fun V=>V.cell? w=some ↑pb/\V.cell? pb=some (.slice b ps.length cap)/\V.cell? ↑(w.heap.size+1)=some ↑(dest:Int))) zab ⟨c3.cell,Xh.row,c5.cell⟩ (fun Pm=>?_);refine tH 0 pb rfl Pm ?_;refine tH 1 pb rfl Pm ?_;refine tH 2 pb rfl Pm ?_;refine tH 3 (.slice b ps.length cap) rfl Pm ?_;refine tH 4 (.int .i64 dest) rfl Pm ?_;refine tH 5 (b,dest*10) rfl Pm ?_;refine zH 6 rfl fun K hK=>?_;go_simp;refine hK.out _ _ (hkS _) (fun Pm=>?_);clear hK K;refine zH 7 rfl fun K hK=>?_;go_simp;refine hK.out _ _ (hkS _) (fun Pm=>?_);clear hK K Pm;refine PX zab ?_ _;have c6:Boxed (W2.alloc (.cells #[(b,dest*10)] 258)).drew W2.heap.size 258 (b,dest*10):=P9 W2 258 (b,dest*10);have Xi:Below W2 W2 (W2.alloc (.cells #[(b,dest*10)] 258)).drew:=((Pq _ W2).alloc (Po _) _).drew;have c3:=aD c3 Xi c3.lt;have c5:=aD c5 Xi c5.lt;have Wt:Mo (·=mvb) w (W2.alloc (.cells #[(b,dest*10)] 258)).drew:=Ws.trans (az Xi);have hmv3:=(Xi.block mvb zaa).trans hmv2;obtain⟨B6,YG⟩:∃B,W2.heap.size=B:=⟨_,rfl⟩;obtain⟨W3,hW3⟩:∃W,(W2.alloc (.cells #[(b,dest*10)] 258)).drew=W:=⟨_,rfl⟩;rw[hW3]at c3 c5 c6 Wt hmv3⊢;rw[YG]at c6⊢;have hB6w:w.heap.size<=B6:=zaa;clear hW3 YG Xi hkS Xh hmv2 Ws Zp;have hP3:=hP.mo Wt Vo hb n1 n2;have Xx:=Wt.size;have hm3:W3.cell? (mvb,1)=some (.int .u32 dm):=by rw[Pt W3 _ _ _ _ _ hmv3];rfl
 go_wp2_with fail;have hkS:∀v:Value,(fun V=>V.cell? B6=some ↑(b,dest*10)/\V.cell? (b,dest*10+6)=some (.int .u32 pd.around)/\V.cell? ⟨mvb,1,none⟩=some (.int .u32 dm)) ((W3.alloc (.cells #[v] 167)).drew):=fun v=>by
  have VK:Below W3 W3 (W3.alloc (.cells #[v] 167)).drew:=((Pq _ W3).alloc (Po _) _).drew;exact⟨(VK.cell (p:=B6) c6.lt).trans c6.cell,(VK.cell (p:=(b,dest*10+6)) (show b<W3.heap.size by omega)).trans (hP3.at' dest pd YF).c6,(VK.cell (p:=⟨mvb,1,none⟩) (show mvb<W3.heap.size by omega)).trans hm3⟩
 refine PJ (S:=(fun V=>V.cell? B6=some ↑(b,dest*10)/\V.cell? (b,dest*10+6)=some (.int .u32 pd.around)/\V.cell? ⟨mvb,1,none⟩=some (.int .u32 dm))) zab ⟨c6.cell,(hP3.at' dest pd YF).c6,hm3⟩ (fun Pm=>?_);refine tH 0 (b,dest*10) rfl Pm ?_;refine tH 1 (b,dest*10) rfl Pm ?_;refine tH 2 (b,dest*10+6) rfl Pm ?_;refine tH 3 (.int .u32 pd.around) rfl Pm ?_;refine tH 4 mvb rfl Pm ?_;refine tH 5 mvb rfl Pm ?_;refine tH 6 (mvb,1) rfl Pm ?_;refine tH 7 (.int .u32 dm) rfl Pm ?_;refine tH 8 (.int .u32 ((pd.around&&&dm:Nat):Int)) rfl Pm ?_;refine zH 9 rfl fun K hK=>?_;go_simp;refine hK.out _ _ (hkS _) (fun Pm=>?_);clear hK K;refine zH 10 rfl fun K hK=>?_;go_simp;refine hK.out _ _ (hkS _) (fun Pm=>?_);clear hK K Pm;refine PX zab ?_ _;obtain⟨pa,hpa⟩:∃pa,pd.around&&&dm=pa:=⟨_,rfl⟩;rw[hpa]at a1 a2 YU XC⊢;have hpal:pa<4294967296:=by rw[<- hpa];exact Y.lg (hP.sm dest pd YF).ha
 clear hpa;have c7:Boxed (W3.alloc (.cells #[.int .u32 pa] 167)).drew W3.heap.size 167 (.int .u32 pa):=P9 W3 167 (.int .u32 pa);have hB4:Below W3 W3 (W3.alloc (.cells #[.int .u32 pa] 167)).drew:=((Pq _ W3).alloc (Po _) _).drew;have c3:=aD c3 hB4 c3.lt;have c5:=aD c5 hB4 c5.lt;have c6:=aD c6 hB4 c6.lt;have Zq:Mo (·=mvb) w (W3.alloc (.cells #[.int .u32 pa] 167)).drew:=Wt.trans (az hB4);have hmv4:=(hB4.block mvb zaa).trans hmv3;obtain⟨B7,hB7⟩:∃B,W3.heap.size=B:=⟨_,rfl⟩;obtain⟨W4,hW4⟩:∃W,(W3.alloc (.cells #[.int .u32 pa] 167)).drew=W:=⟨_,rfl⟩;rw[hW4]at c3 c5 c6 c7 Zq hmv4⊢;rw[hB7]at c7⊢;have hB7w:w.heap.size<=B7:=zaa;clear hW4 hB7 hB4 hkS hP3 hmv3 Wt Xx hm3;have Xu:=hP.mo Zq Vo hb n1 n2;have hs4:=Zq.size;have d6:=c6.cell;have d0:=(Xu.at' dest pd YF).c0;have e3:W4.cell? (mvb,3)=some fv:=by rw[Pt W4 _ _ _ _ _ hmv4];rfl
 have f3:W4.frozen? (mvb,3)=false:=by simp[World.frozen?,hmv4]
 obtain⟨Xc,hh⟩:∃Xc,(decide (pd.kind=3)||decide (pd.kind=4))=Xc:=⟨_,rfl⟩;have XC:Hid (en=if Xc then .hist pa dest else .all (Y.complete ps (pa|||pd.wth))):=by have:=XC.out;unfold Y.isH at this;rw[hh]at this;exact this
 rw[hh]at V7;clear hh;cases Xc
 ·have XC:Hid (en=.all (Y.complete ps (pa|||pd.wth))):=XC.out;obtain⟨z,hz⟩:∃z,Y.complete ps (pa|||pd.wth)=z:=⟨_,rfl⟩;rw[hz]at XC YU;clear hz;have hcomA:∀V,Below W4 W4 V->_:=fun V hV=>YU V (Zq.trans (az hV));have VL:=(Pq W4 W4).drew;have hBd1:∀v:Value,Below W4 W4 (W4.alloc (.cells #[v] 167)).drew:=fun v=>((Pq _ W4).alloc (Po _) _).drew
  go_upto_region 6 with(go_at_call 106;refine(V7 _).mono ?_;rintro e w9 ⟨rfl,U1⟩;rw[U1];clear U1 w9)
  go_cut[8] from 9 (fun s8 V=>∃B8,s8=.pointer (some ⟨B8,0,none⟩)/\Boxed V B8 167 (.int .u32 z)/\Below W4 W4 V)
  case first=>
   have VO:∀V:World,Below W4 W4 V->(fun V=>V.cell? w=some ↑pb/\V.cell? B7=some (.int .u32 pa)/\V.cell? B6=some ↑(b,dest*10)/\V.cell? (b,dest*10+7)=some (.int .u32 pd.wth)) V:=fun V VK=>⟨(VK.cell (p:=w) c3.lt).trans c3.cell,(VK.cell (p:=B7) c7.lt).trans c7.cell,(VK.cell (p:=B6) c6.lt).trans c6.cell,(VK.cell (p:=(b,dest*10+7)) (show b<W4.heap.size by omega)).trans (Xu.at' dest pd YF).c7⟩;refine PJ (S:=(fun V=>V.cell? w=some ↑pb/\V.cell? B7=some (.int .u32 pa)/\V.cell? B6=some ↑(b,dest*10)/\V.cell? (b,dest*10+7)=some (.int .u32 pd.wth))) zab ⟨c3.cell,c7.cell,c6.cell,(Xu.at' dest pd YF).c7⟩ (fun Pm=>?_);refine tH 0 pb rfl Pm ?_;refine tH 1 (.int .u32 pa) rfl Pm ?_;refine tH 2 (b,dest*10) rfl Pm ?_;refine tH 3 (b,dest*10) rfl Pm ?_;refine tH 4 (b,dest*10+7) rfl Pm ?_;refine tH 5 (.int .u32 pd.wth) rfl Pm ?_;refine tH 6 (.int .u32 ((pa|||pd.wth:Nat):Int)) rfl Pm ?_;refine yH [7,8] ?_;refine Qk rfl (fun K hK=>?rg7) (Qk rfl (fun K hK=>?rg8) QX)
   case' rg7=>
    go_simp;refine(hcomA _ zbd).mono ?_;rintro e w9 ⟨rfl,hB9x⟩;have VQ:Below W4 W4 w9:=zb9;refine hK.out _ _ (VO w9 VQ) (fun Pm=>?_);clear hK K;refine zH 8 rfl fun K hK=>?_;go_simp;refine hK.out _ _ (VO _ zco) (fun Pm=>?_);clear hK K;refine zH 9 rfl fun K hK=>?_;go_simp;refine hK.out _ _ (VO _ (VQ.alloc VQ.size _)) (fun Pm=>?_);clear hK K Pm;refine PX zab ?_ _
   case' rg8=>
    go_simp;refine hK.out _ _ (VO _ zco) (fun Pm=>?_);clear hK K;refine zH 7 rfl fun K hK=>?_;go_simp;refine(hcomA _ zbd).mono ?_;rintro e w9 ⟨rfl,hB9x⟩;have VQ:Below W4 W4 w9:=zb9;refine hK.out _ _ (VO w9 VQ) (fun Pm=>?_);clear hK K;refine zH 9 rfl fun K hK=>?_;have hb8:=aD (show Boxed (W4.alloc (.cells #[.int .u32 0] 167)).drew W4.heap.size 167 (.int .u32 0) from P9 W4 _ _) hB9x (by show W4.heap.size<(W4.alloc _).heap.size;simp);have g8:=hb8.cell;have g9:=hb8.frozen;go_simp;refine hK.out _ _ (VO _ (VQ.setCell (p:=W4) (Po _) _)) (fun Pm=>?_);clear hK K Pm;refine PX zab ?_ _
   all_goals
    go_wp2_with fail;go_meet
   case rel=>exact⟨_,rfl,hb8.set _,VQ.setCell (p:=W4) (Po _) _⟩
   case rel=>exact⟨_,rfl,P9 _ _ _,VQ.alloc VQ.size _⟩
  case rest=>
   obtain⟨B8,rfl,c8,WO⟩:=hcut;have hmv5:=(WO.block mvb zaa).trans hmv4;have hM5:=Zq.trans (az WO);have e3:wc.cell? (mvb,3)=some fv:=by rw[Pt wc _ _ _ _ _ hmv5];rfl
   have f3:wc.frozen? (mvb,3)=false:=by simp[World.frozen?,hmv5]
   have hst:=p5 (P:=prog) e3 f3;have h8:B8≠mvb:=by
    intro h;subst h;rw[show wc.heap[B8]?=_ from c8]at hmv5;simp at hmv5
   go_wp2_with fail;go_end0;refine⟨rfl,hM5.set ⟨mvb,3,none⟩ _ rfl,_,PR wc mvb 3 _ _ _ hmv5,?_⟩;rw[XC.out];exact⟨B8,rfl,bD c8 (p:=⟨mvb,3,none⟩) h8 _⟩
 ·have XC:Hid (en=.hist pa dest):=XC.out;have hst:=p5 (P:=prog) e3 f3;go_wp2_with(go_at_call 106;refine(V7 _).mono ?_;rintro e w9 ⟨rfl,U1⟩;rw[U1];clear U1 w9);refine Q5 (QD rfl _ _ _) rfl ?_;refine⟨rfl,Zq.set ⟨mvb,3,none⟩ _ rfl,_,PR W4 mvb 3 _ _ _ hmv4,?_⟩;rw[XC.out];exact⟨_,_,_,_,rfl,bD c3 (p:=⟨mvb,3,none⟩) zaf _,bD c7 (p:=⟨mvb,3,none⟩) zaf _,bD c6 (p:=⟨mvb,3,none⟩) zaf _,bD c5 (p:=⟨mvb,3,none⟩) zaf _⟩
