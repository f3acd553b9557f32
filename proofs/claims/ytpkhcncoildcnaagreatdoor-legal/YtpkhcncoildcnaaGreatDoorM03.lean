import Derived.Test.YtpkhcncoildcnaaGreatDoorM02
import Derived.Deep.AppendLies
set_option maxRecDepth 100000
set_option maxHeartbeats 8000000
namespace Go.Proofs.YtpkhcncoildcnaaGreatDoor
variable {zp:Prop}
theorem zdo(h:zp:=by
 go_wp2_with(first
  |(refine PW rfl 180 (.tmp 14) rfl b (k*10) rfl _ _ TS underlying180 rfl eA ?_)
  |(refine hst rfl rfl rfl rfl ?_)
  |fail)
 go_roundg (ps.length-(k+1))
 case measure=>omega
 case rel=>exact⟨k+1,rfl,zaa,zag,by rw[HN.out];exact WE,UQ⟩):zp:=h
theorem zem(h:zp:=by
 apply Array.ext
 ·simp[size_madeCells]
 ·intro i h1 h2;simp[madeCells,Value.cells,Nat.mod_one]):zp:=h
theorem zeD(h:zp:=by
 clear h4;go_wp2_with fail;go_meet
 case rel=>exact⟨rfl,_,_,rfl,hK4⟩):zp:=h
theorem zeQ(h:zp:=by
 rcases ho with h|h
 ·rw[h]at hn;exact absurd rfl hn
 ·exact h):zp:=h
theorem zeT(h:zp:=by
 intro e;have h1:w.heap[pb]?=_:=HB.out;rw[e,hmb0]at h1;cases h1):zp:=h
theorem ze8(h:zp:=by
 go_enter func108,ntmps108;go_wp2;go_ret;exact Uu _ rfl):zp:=h
theorem zba(h:zp:=by cases e;rfl):zp:=h
theorem zbh(h:zp:=by rw[OA w _ _ _ _ _ hB];rfl):zp:=h
theorem zbp(h:zp:=by rw[Ub];simp;omega):zp:=h
theorem zbx(h:zp:=by rw[Uf];omega):zp:=h
theorem zbB(h:zp:=by rintro t (rfl|rfl|rfl|rfl|rfl)<;>decide):zp:=h
theorem zcz(h:zp:=by obtain⟨ev,he⟩:=he;have:=TT ev i he;omega):zp:=h
open Tryz
variable {E:TypeId->Prop}{A B W W':World}{P:Nat->Prop}{F M:()->Option Nat}{k n g pb N b mb i ib cb cg cc:Nat}{t:TypeId}{v:Value}{ps:List Y.PS}{ev nm:()}{L:Nat->List (Option Nat)}{X:List Y.MS}
section
open Go.RowKit Go.Proofs Go.Shelf
structure Kd(E:TypeId->Prop)(W W':World):Prop where
 size:W.heap.size<=W'.heap.size
 aq:∀(k:Nat) (c:Array Value) (t:TypeId) (f:Nat×Nat),W.heap[k]?=some (.cells c t f)->¬E t->W'.heap[k]?=W.heap[k]?
theorem Kd.trans{C:World}(h:Kd E A B)(k:Kd E B C):Kd E A C:=⟨Ox h.size k.size,fun i c t f hi hn=>by rw[k.aq i c t f ((h.aq i c t f hi hn).trans hi) hn,h.aq i c t f hi hn]⟩
theorem bE(h:Below A A B):Kd E A B:=⟨h.size,fun k _ _ _ hk _=>h.block k (Ov.1 hk).1⟩
theorem gO(h:Mo P A B)(hP:∀(k:Nat) (c:Array Value) (t:TypeId) (f:Nat×Nat),P k->A.heap[k]?=some (.cells c t f)->E t):Kd E A B:=⟨h.size,fun k c t f hk hn=>h.block k (Ov.1 hk).1 (fun hp=>hn (hP k c t f hp hk))⟩
theorem Kd.mono{F:TypeId->Prop}(h:Kd E A B)(hE:∀t,E t->F t):Kd F A B:=⟨h.size,fun k c t f hk hn=>h.aq k c t f hk (fun he=>hn (hE t he))⟩
theorem Kd.boxed(h:Kd E A B)(hb:Boxed A k t v)(hn:¬E t):Boxed B k t v:=(h.aq k _ _ _ hb hn).trans hb
theorem IY{w:World}{base size:Nat}{e:TypeId}{xs:List Value}{c:Array Value}{fz:Nat×Nat}(h:w.ownsRow base e size v n xs)(hg:w.heap[g]?=some (.cells c t fz))(TU:t≠e):v.ownBlock≠some g:=by
 rcases h.2 with⟨h0,_⟩|⟨k,cap,cur,hv,_,hk,_⟩
 ·rw[h0];intro e;cases e
 ·rw[hv];intro e;have e:k=g:=zba;rw[e,hg]at hk;simp at hk;exact TU hk.2.1
namespace Y
structure HV where
 idx:Nat
 own:Nat
 aq:Value
def HV.cells(h:HV):List Value:=[(h.idx:Int),(h.own:Int),h.aq]
def kC(W:World)(pb:Nat)(deep:Bool)(po:PS)(v:Value):Prop:=
 ∃c,W.heap[c]?=some (.cells po.cells.toArray 180 (0,0))/\if deep then ∃d,v=.func (.func 106) #[] #[.pointer (some ⟨d,0,none⟩),.pointer (some ⟨c,0,none⟩)]/\Boxed W d 103 pb else v=.func (.func 105) #[] #[.pointer (some ⟨c,0,none⟩)]
theorem kC.kd{deep:Bool}{po:PS}(h:kC W pb deep po v)(hk:Kd E W W')(h1:¬E 180)(h2:¬E 103):kC W' pb deep po v:=by
 obtain⟨c,hc,h⟩:=h;refine⟨c,(hk.aq _ _ _ _ hc h1).trans hc,?_⟩;cases deep
 ·exact h
 ·obtain⟨d,hd,hb⟩:=h;exact⟨d,hd,hk.boxed hb h2⟩
def Gs(w w':World)(pb b cap:Nat)(ps:List PS)(i:Nat)(x:MS)(hv:U.Sl)(mv:Value)(fin:Nat)(H:List HV):Prop:=
 (isH x.kind=false/\Below w w w')\/(isH x.kind=true/\∃(o:Nat) (po:PS) (kv:Value) (VD:U.Sl),x.owner=o/\ps[o]?=some po/\kC w' pb (decide (x.kind=4)) po kv/\dz w' pb b ps.length cap (.slice VD.a VD.n VD.c) fin mv/\w'.ownsRow 0 258 3 (.slice VD.a VD.n VD.c) (H.length+1) ((H++[HV.mk i o kv]).flatMap HV.cells)/\Mo (fun k=>k=pb\/hv.v.ownBlock=some k) w w'/\Kd (fun t=>t=185\/t=258) w w'/\∀g,VD.v.ownBlock=some g->hv.v.ownBlock=some g\/w.heap.size<=g)
end Y
theorem Ia:(Tryz.prog.info? 258).map (fun i=>(i.zero,i.size,i.bytes))=some (some (.agg #[(0:Int),(0:Int),.nilFunc]),3,24):=zab
theorem rY(w:World)(pb b cap:Nat)(ps:List Y.PS)(i:Nat)(x:Y.MS)(hv:U.Sl)(mv:Value)(fin:Nat)(H:List Y.HV)(hB:Y.dz w pb b ps.length cap (.slice hv.a hv.n hv.c) fin mv)(hP:Y.bC w pb b cap ps)(hb:b<w.heap.size)(hH:w.ownsRow 0 258 3 (.slice hv.a hv.n hv.c) H.length (H.flatMap Y.HV.cells))(hHl:H.length<=24)
  (how:Y.isH x.kind=true->∃(o:Nat) (po:Y.PS),x.owner=o/\ps[o]?=some po):
  () 67 #[pb,(i:Int),.agg x.arr] w fun e w'=>e=.returned (.tuple #[])/\Y.Gs w w' pb b cap ps i x hv mv fin H:=by
 have T8:pb<w.heap.size:=(Ov.1 hB).1;have hlen:=hP.len;have TU:=hP.ne;obtain⟨kind,name,depth,owner,vp,ve,vl,vm⟩:=x;dsimp only at how;have UW:=sK kind;obtain⟨VF,hh⟩:∃VF,(decide (kind=3)||decide (kind=4))=VF:=⟨_,rfl⟩;have HI:Hid (Y.isH kind=VF):=hh;rw[hh]at UW;rw[HI.out]at how;unfold Y.MS.arr;dsimp only;have T5:=((Oy w w).alloc (Ow _) (.cells #[pb] 103)).alloc zad (.cells #[(kind:Int),name,(depth:Int),(owner:Int),.slice vp.a vp.n vp.c,.slice ve.a ve.n ve.c,.slice vl.a vl.n vl.c,.slice vm.a vm.n vm.c] 188);have c3:Boxed ((w.alloc (.cells #[pb] 103)).alloc (.cells #[(kind:Int),name,(depth:Int),(owner:Int),.slice vp.a vp.n vp.c,.slice ve.a ve.n ve.c,.slice vl.a vl.n vl.c,.slice vm.a vm.n vm.c] 188)) w.heap.size 103 pb:=(O4 w _ _).alloc _;have s5:=bU w (.cells #[pb] 103) (.cells #[(kind:Int),name,(depth:Int),(owner:Int),.slice vp.a vp.n vp.c,.slice ve.a ve.n ve.c,.slice vl.a vl.n vl.c,.slice vm.a vm.n vm.c] 188);clear hh;cases VF
 ·go_enter func67,ntmps67;go_wp2_with(go_at_call 104;refine(UW _).mono ?_;rintro e w9 ⟨rfl,Pg⟩;rw[Pg];clear Pg w9);refine Qb (Pu rfl _ _ _) rfl ?_;refine⟨rfl,?_⟩;unfold Y.Gs;exact .inl ⟨HI.out,T5⟩
 ·obtain⟨ow,po,rfl,Vr⟩:=how rfl;have Xx:ow<ps.length:=(Oz.1 Vr).1;go_enter func67,ntmps67
  go_upto_region 2 with(go_at_call 104;refine(UW _).mono ?_;rintro e w9 ⟨rfl,Pg⟩;rw[Pg];clear Pg w9)
  obtain⟨W1,Uj⟩:∃W,(w.alloc (.cells #[pb] 103)).alloc (.cells #[(kind:Int),name,(depth:Int),.int .i64 (ow:Int),.slice vp.a vp.n vp.c,.slice ve.a ve.n ve.c,.slice vl.a vl.n vl.c,.slice vm.a vm.n vm.c] 188)=W:=⟨_,rfl⟩;rw[Uj]at T5 c3 s5⊢;clear Uj UW how;have Wg:=T5.size;have VW:=hP.below T5 T8 hb;have hpb1:pb<W1.heap.size:=zaa;have TM:b<W1.heap.size:=zaa;have h5l:w.heap.size+1<W1.heap.size:=(Ov.1 s5).1;have h53:W1.cell? (w.heap.size+1,3)=some ↑(ow:Int):=by rw[OA W1 _ _ _ _ _ s5];rfl
  have h50:W1.cell? ↑(w.heap.size+1)=some ↑(kind:Int):=by rw[OA W1 _ _ _ _ _ s5];rfl
  have Xo:W1.rangeAt b (ow*10) po.cells:=fun j v hv=>(VW.at' ow po Vr j v hv).1;have hBn:∀cs:Array Value,Below W1 W1 (W1.alloc (.cells cs 180)).drew:=fun cs=>((Oy _ W1).alloc (Ow _) _).drew;have ZD:po.cells.toArray.all (·.oneCell')=true:=zbD;have hlen9:po.cells.length=10:=rfl;have Vj:(storeCells ⟨W1,0,none⟩ po.cells).run prog (W1.alloc (.cells #[(0:Int),.string ⟨#[]⟩,.string ⟨#[]⟩,(0:Int),.int .u32 0,.int .u32 0,.int .u32 0,.int .u32 0,.slice none 0 0,.slice none 0 0] 180)).drew=.ok () (W1.alloc (.cells po.cells.toArray 180)).drew:=run_storeCells_new (P:=prog) W1.drew 180 #[(0:Int),.string ⟨#[]⟩,.string ⟨#[]⟩,(0:Int),.int .u32 0,.int .u32 0,.int .u32 0,.int .u32 0,.slice none 0 0,.slice none 0 0] po.cells.toArray eA rfl ZD;have UF:∀V:World,Below W1 W1 V->(fun V=>V.cell? w=some ↑pb/\V.cell? pb=some (.slice b ps.length cap)/\V.cell? ⟨w.heap.size+1,3,none⟩=some ↑(ow:Int)/\V.rangeAt b (ow*10) po.cells) V:=fun V UA=>⟨(UA.cell (p:=w) c3.lt).trans c3.cell,(UA.cell (p:=pb) hpb1).trans VW.row,(UA.cell (p:=⟨w.heap.size+1,3,none⟩) h5l).trans h53,fun j v hv=>(UA.cell (p:=⟨b,ow*10+j,none⟩) TM).trans (Xo j v hv)⟩;refine OQ (S:=(fun V=>V.cell? w=some ↑pb/\V.cell? pb=some (.slice b ps.length cap)/\V.cell? ⟨w.heap.size+1,3,none⟩=some ↑(ow:Int)/\V.rangeAt b (ow*10) po.cells)) zab (UF _ (Oy _ W1).drew) (fun u0=>?_);refine tH 0 pb rfl u0 ?_;refine tH 1 pb rfl u0 ?_;refine tH 2 pb rfl u0 ?_;refine tH 3 (.slice b ps.length cap) rfl u0 ?_;refine tH 4 (w.heap.size+1,3) rfl u0 ?_;refine tH 5 (.int .i64 ow) rfl u0 ?_;refine tH 6 (b,ow*10) rfl u0 ?_;refine Tj (i:=7) (v:=(.agg po.cells.toArray)) rfl zab zab zab (fun _ _ _ h=>h) (yieldsIf_load_mid rfl 180 (.tmp 18) rfl b (ow*10) rfl po.cells _ (fun w UL=>UL.2.2.2) underlying180 rfl eA) u0 ?_;refine zH 8 rfl fun K hK=>?_;go_simp;refine hK.out _ _ (UF _ (hBn _)) (fun u0=>?_);clear hK K;refine zH 9 rfl fun K hK=>?_;go_simp;refine hK.out _ _ (UF _ (hBn _)) (fun u0=>?_);clear hK K u0;refine OY zab ?_ _;have UU:=hBn po.cells.toArray;have s6:(W1.alloc (.cells po.cells.toArray 180)).drew.heap[W1.heap.size]?=some (.cells po.cells.toArray 180 (0,0)):=OH W1 _;obtain⟨B6,Xq⟩:∃B,W1.heap.size=B:=⟨_,rfl⟩;obtain⟨W2,WR⟩:∃W,(W1.alloc (.cells po.cells.toArray 180)).drew=W:=⟨_,rfl⟩;have XY:Below w w (W1.alloc (.cells po.cells.toArray 180)).drew:=T5.trans (UU.mono Wg);have c3:=aB c3 UU c3.lt;have HS5:Hid (∃c,(W1.alloc (.cells po.cells.toArray 180)).drew.heap[w.heap.size+1]?=some (.cells c 188 (0,0))/\c[3]?=some (.int .i64 ow)):=⟨_,(UU.block _ h5l).trans s5,rfl⟩;have h53:=(UU.cell (p:=⟨w.heap.size+1,3,none⟩) h5l).trans h53;have h50:=(UU.cell (p:=↑(w.heap.size+1)) h5l).trans h50;rw[WR]at UU s6 XY c3 h53 h50 HS5⊢;have hB6w:w.heap.size<=B6:=zaa;have h5l:w.heap.size+1<W2.heap.size:=OS h5l UU.size;rw[Xq]at s6⊢;clear UF Vj hBn Xo VW hpb1 TM T5 s5 Wg WR Xq UU
  go_upto_if 23 with fail
  go_cut[7] from 8 (fun s7 V=>V=W2/\∃f cps,s7=.func f #[] cps/\Y.kC W2 pb (decide (kind=4)) po (.func f #[] cps))
  case first=>
   by_cases h4:kind=4
   ·have h4':(kind == 4)=true:=by rw[h4];rfl
    have hK4:Y.kC W2 pb (decide (kind=4)) po (.func (.func 106) #[] #[w,B6]):=by rw[h4];exact⟨B6,s6,_,rfl,c3⟩
    exact zeD
   ·have h4':(kind == 4)=false:=by simpa using h4
    have hK4:Y.kC W2 pb (decide (kind=4)) po (.func (.func 105) #[] #[B6]):=by rw[Pc h4];exact⟨B6,s6,rfl⟩
    exact zeD
  case rest=>
   obtain⟨rfl,f,cps,rfl,hKA⟩:=hcut;obtain⟨i0,hi,Ue,Ub,Uf⟩:=PZ Ia;have ZK:=(XY.block pb T8).trans hB;have hp1:wc.cell? (pb,1)=some (.slice hv.a hv.n hv.c):=by rw[OA wc _ _ _ _ _ ZK];rfl
   have hpbl:pb<wc.heap.size:=(Ov.1 ZK).1;have hp1a:∀o:Obj,(wc.alloc o).cell? (pb,1)=some (.slice hv.a hv.n hv.c):=fun o=>(((Oy wc wc).alloc (Ow _) o).cell (p:=⟨pb,1,none⟩) hpbl).trans hp1;have TN:=(az (P:=fun _=>False) XY).own hH (fun _ _ h=>h);have hBn:∀cs:Array Value,Below wc wc (wc.alloc (.cells cs 258)).drew:=fun cs=>((Oy _ wc).alloc (Ow _) _).drew;have hownA:(wc.alloc (.cells #[(i:Int),(ow:Int),.func f #[] cps] 258)).drew.ownsRow 0 258 3 (.slice hv.a hv.n hv.c) H.length (H.flatMap Y.HV.cells):=QH TN _;have hnk:∀u∈[Value.int .i64 (i:Int),.int .i64 (ow:Int),.func f #[] cps],u.oneCell'=true:=by
    intro u hu;simp at hu
    rcases hu with rfl|rfl|rfl
    ·rfl
    ·rfl
    ·rfl
   have Um:wc.heap.size<(wc.alloc (.cells #[(i:Int),(ow:Int),.func f #[] cps] 258)).heap.size:=zad;have ZL:=hBn #[(i:Int),(ow:Int),.func f #[] cps];have Vk:∀w5,(wc.alloc (.cells #[(i:Int),(ow:Int),.func f #[] cps] 258)).drew.grownBy w5 (Value.ownBlock (.slice hv.a hv.n hv.c))->(∀(k:Nat) (c:Array Value) (t:TypeId) (fz:Nat×Nat),wc.heap[k]?=some (.cells c t fz)->t≠258->w5.heap[k]?=some (.cells c t fz)):=fun w5 hg k c t fz hk TU=>by
    have Vf:=(Ov.1 hk).1;have h0:=(ZL.block k Vf).trans hk;rw[hg.block k (OS Vf ZL.size) (fun e=>IY TN hk TU e.symm)];exact h0
   have s5c:∃c,wc.heap[w.heap.size+1]?=some (.cells c 188 (0,0))/\c[3]?=some (.int .i64 ow):=HS5.out;have hg3:=fun w5 hg=>(Vk w5 hg _ _ _ _ c3 zac);have hgS:∀w5,(wc.alloc (.cells #[(i:Int),(ow:Int),.func f #[] cps] 258)).drew.grownBy w5 (Value.ownBlock (.slice hv.a hv.n hv.c))->(w5.cell? w=some ↑pb/\w5.cell? ⟨w.heap.size+1,3,none⟩=some ↑(ow:Int))/\w5.cell? ⟨pb,1,none⟩=some (.slice hv.a hv.n hv.c)/\w5.frozen? ⟨pb,1,none⟩=false:=fun w5 hg=>by
    obtain⟨c,hc,hc3⟩:=s5c;have hq:=Vk w5 hg _ _ _ _ ZK zac;refine⟨⟨(show Boxed w5 w _ _ from hg3 w5 hg).cell,?_⟩,?_,?_⟩
    ·rw[OA w5 _ _ _ _ _ (Vk w5 hg _ _ _ _ hc zac)];exact hc3
    ·rw[OA w5 _ _ _ _ _ hq];rfl
    ·simp[World.frozen?,hq]
   go_wp2_with fail;have UF:∀V:World,Below wc wc V->(fun V=>V.cell? w=some ↑pb/\V.cell? ⟨w.heap.size+1,3,none⟩=some ↑(ow:Int)) V:=fun V UA=>⟨(UA.cell (p:=w) c3.lt).trans c3.cell,(UA.cell (p:=⟨w.heap.size+1,3,none⟩) h5l).trans h53⟩;refine OQ (S:=(fun V=>V.cell? w=some ↑pb/\V.cell? ⟨w.heap.size+1,3,none⟩=some ↑(ow:Int))) zab (UF _ (Oy _ wc).drew) (fun u0=>?_);refine tH 0 pb rfl u0 ?_;refine tH 1 pb rfl u0 ?_;refine tH 2 pb rfl u0 ?_;refine tH 3 (pb,1) rfl u0 ?_;refine tH 5 (.int .i64 i) rfl u0 ?_;refine tH 6 (w.heap.size+1,3) rfl u0 ?_;refine tH 7 (.int .i64 ow) rfl u0 ?_;refine tH 8 (.func f #[] cps) rfl u0 ?_;refine tH 9 (.agg #[(i:Int),(ow:Int),.func f #[] cps]) rfl u0 ?_;refine yH [4,10] ?_;refine Pb rfl (fun K hK=>?rg3) (Pb rfl (fun K hK=>?rg4) P1)
   case' rg3=>
    go_simp;refine hK.out _ _ u0 (fun u0=>?_);clear hK K;refine zH 10 rfl fun K hK=>?_;go_simp;refine hK.out _ _ (UF _ (hBn _)) (fun u0=>?_);clear hK K;refine zH 11 rfl fun K hK=>?_;refine step_append_lies _ zaf _ _ _ zaf 0 258 i0 _ 3 24 underlying182 hi Ue Ub Uf rfl zac (.slice hv.a hv.n hv.c) H.length (H.flatMap Y.HV.cells) zaf hownA ⟨wc,0,none⟩ 1 1 [(i:Int),(ow:Int),.func f #[] cps] zaf zaf (World.news_of_block (cs:=#[(i:Int),(ow:Int),.func f #[] cps]) (t:=258) (fr:=(0,0)) (OH wc _)) hnk zaa zah zaa (OL _) _ rfl ?_;intro g5 cap5 w5 TQ L8 Uy U2;obtain⟨hS5,hpc,hpf⟩:=hgS w5 L8;refine hK.out _ _ hS5 (fun u0=>?_);clear hK K;refine tH 12 pb rfl u0 ?_;refine tH 13 (pb,1) rfl u0 ?_;refine zH 14 rfl fun K hK=>?_;go_simp;refine hK.out _ _ (by
     have e:∀(a:Addr),a≠⟨pb,1,none⟩->∀v,(w5.setCell (pb,1) v).cell? a=w5.cell? a:=fun a ha v=>ay (fun h=>ha h.symm)
     (try dsimp only at u0);(try dsimp only)
     rw[e _ zak,e _ zak];exact u0) (fun u0=>?_)
    clear hK K u0;refine OY zab ?_ _
   case' rg4=>
    go_simp;refine hK.out _ _ (UF _ (hBn _)) (fun u0=>?_);clear hK K;refine zH 4 rfl fun K hK=>?_;go_simp;refine hK.out _ _ u0 (fun u0=>?_);clear hK K;refine zH 11 rfl fun K hK=>?_;refine step_append_lies _ zaf _ _ _ zaf 0 258 i0 _ 3 24 underlying182 hi Ue Ub Uf rfl zac (.slice hv.a hv.n hv.c) H.length (H.flatMap Y.HV.cells) zaf hownA ⟨wc,0,none⟩ 1 1 [(i:Int),(ow:Int),.func f #[] cps] zaf zaf (World.news_of_block (cs:=#[(i:Int),(ow:Int),.func f #[] cps]) (t:=258) (fr:=(0,0)) (OH wc _)) hnk zaa zah zaa (OL _) _ rfl ?_;intro g5 cap5 w5 TQ L8 Uy U2;obtain⟨hS5,hpc,hpf⟩:=hgS w5 L8;refine hK.out _ _ hS5 (fun u0=>?_);clear hK K;refine tH 12 pb rfl u0 ?_;refine tH 13 (pb,1) rfl u0 ?_;refine zH 14 rfl fun K hK=>?_;go_simp;refine hK.out _ _ (by
     have e:∀(a:Addr),a≠⟨pb,1,none⟩->∀v,(w5.setCell (pb,1) v).cell? a=w5.cell? a:=fun a ha v=>ay (fun h=>ha h.symm)
     (try dsimp only at u0);(try dsimp only)
     rw[e _ zak,e _ zak];exact u0) (fun u0=>?_)
    clear hK K u0;refine OY zab ?_ _
   all_goals
    go_wp2_with fail;go_end0;have hq:=Vk w5 L8 _ _ _ _ ZK zac;have hpbh:=OP w5 pb 1 _ _ (.slice g5 (H.length+1) cap5) hq;have hgp:(Value.slice g5 (H.length+1) cap5).ownBlock≠some pb:=IY TQ hq zac;have hM5:Mo (fun k=>k=pb\/hv.v.ownBlock=some k) w w5:=(az (XY.trans (ZL.mono XY.size))).trans ⟨L8.os,L8.tape,L8.output,L8.size,fun k hk hn=>L8.block k (OS hk (by simp[World.drew])) (fun e=>hn (.inr e.symm))⟩;have hKdc:Kd (fun t=>t=185\/t=258) wc (w5.setCell (pb,1) (.slice g5 (H.length+1) cap5)):=⟨Ox (Ox ZL.size L8.size) zad,fun k c t fz hk hn=>by
     have h1:=Vk w5 L8 k c t fz hk (fun e=>hn (.inr e));have hkpb:k≠pb:=fun e=>hn (.inl (by rw[e,show wc.heap[pb]?=_ from ZK]at hk;simp at hk;exact hk.2.1.symm));rw[O9 w5 ⟨pb,1,none⟩ _ k hkpb,h1,hk]⟩
    have hO:(w5.setCell (pb,1) (.slice g5 (H.length+1) cap5)).ownsRow 0 258 3 (.slice g5 (H.length+1) cap5) (H.length+1) ((H++[Y.HV.mk i ow (.func f #[] cps)]).flatMap Y.HV.cells):=by
     have:=((Mo.refl (·=pb) w5).set ⟨pb,1,none⟩ (.slice g5 (H.length+1) cap5) rfl).own TQ (fun g hg e=>hgp (e▸hg));rw[Ph];exact this
    refine⟨rfl,?_⟩;unfold Y.Gs;exact .inr ⟨HI.out,ow,po,.func f #[] cps,⟨some ⟨g5,0,none⟩,H.length+1,cap5⟩,rfl,Vr,hKA.kd hKdc zac zac,hpbh,hO,hM5.set ⟨pb,1,none⟩ _ (.inl rfl),(bE XY).trans hKdc,fun g hg=>by
     have hg:some g5=some g:=hg;cases hg
     rcases Uy with h|h
     ·exact .inl h
     ·right;rw[h];have:=XY.size;have:=ZL.size;omega⟩
namespace Y
def pq(N:Nat):Value->Option (DataW Nat×List MemPlace)
 |.slice (some ⟨g,0,none⟩) n c=>if n=N/\c=N then some (.lit (.int .i64 g),[]) else none
 |.slice none 0 0=>some (.lit (.int .i64 (-1)),[])
 |_=>none
theorem Jg(N g:Nat):pq N (.slice g N N)=some (.lit (.int .i64 g),[]):=by simp[pq]
theorem AS{ps:List MemPlace}(h:pq N v=some (.lit (.int .i64 g),ps)):v=.slice g N N:=by
 unfold pq at h;split at h
 ·split at h
  ·rename_i hn;obtain⟨rfl,rfl⟩:=hn;simp at h;have:_=g:=Int.ofNat.inj h.1;rw[this]
  ·cases h
 ·simp at h
 ·cases h
theorem Jf{ps:List MemPlace}(h:pq N v=some (.lit (.int .i64 (-1)),ps)):v=.slice none 0 0:=by
 unfold pq at h;split at h
 ·split at h
  ·simp at h
  ·cases h
 ·rfl
 ·cases h
def ky(ev:()):Lit:=.string ev.data.toList
theorem Ct{a b:()}(h:a≠b):ky a≠ky b:=by
 intro e;unfold ky at e;simp at e;exact h (ByteArray.ext (Array.ext' (by rw[e])))
def eT(W:World)(N mb n:Nat)(M:()->Option Nat):Prop:=∃D,W.ownsMap prog 9 (pq N) mb n D/\∀ev,match M ev with
 |none=>Go.Maps.has D (ky ev)=false
 |some g=>Go.Maps.has D (ky ev)=true/\∀z,D.atKey (ky ev) z=.lit (.int .i64 g)
theorem eT.mo(h:eT W N mb n M)(hm:Mo P W W')(hn:¬P mb):eT W' N mb n M:=by
 obtain⟨D,⟨es,clock,hb,r⟩,hM⟩:=h;exact⟨D,⟨es,clock,(hm.block mb (Ov.1 hb).1 hn).trans hb,r⟩,hM⟩
theorem eT.lt(h:eT W N mb n M):mb<W.heap.size:=by
 obtain⟨D,hD,_⟩:=h;exact hD.lt
theorem eT.kind(h:eT W N mb n M):∃es clock,W.heap[mb]?=some (.map es clock):=by
 obtain⟨D,⟨es,clock,hb,_⟩,_⟩:=h;exact⟨es,clock,hb⟩
theorem Ft:Go.Maps.Keyed prog 9:=Sb underlying9
theorem LZ(w:World):(zeroValue 261).run prog w=.ok (.slice none 0 0) w:=zab
theorem KO(h:ev.size<=1000000):keyOf prog 9 (.string ev)=some (ky ev):=Rj underlying9 zah
theorem eT.look{W:World}{N mb n:Nat}{M:()->Option Nat}(h:eT W N mb n M){ev:()}(hs:ev.size<=1000000):
  (Instr.lookup 183 (.map (some mb)) (.string ev) true).run prog W=.ok (match M ev with|none=>.tuple #[.slice none 0 0,false]|some g=>.tuple #[.slice g N N,true]) W:=by
 obtain⟨D,hD,hM⟩:=h;obtain⟨v,ps,Vj,hv⟩:=hD.look_ok Ft underlying183 (LZ W) (zd:=.lit (.int .i64 (-1))) (zp:=[]) rfl (KO hs);rw[Vj];have:=hM ev;cases hm:M ev with
 |none=>
  rw[hm]at this;rw[this];rw[Go.Maps.atKey_of_not_has this]at hv;rw[Jf hv]
 |some g=>
  rw[hm]at this;rw[this.1];rw[this.2]at hv;rw[AS hv]
theorem eT.put(h:eT W N mb n M)(hn:n<=1000000)(hs:ev.size<=1000000)(g:Nat):
  ∃w',(Instr.mapUpdate 183 (.map (some mb)) (.string ev) (.slice g N N)).run prog W=.ok () w'/\eT w' N mb (n+1) (fun e=>if e=ev then some g else M e)/\W.grownBy w' (some mb):=by
 obtain⟨D,hD,hM⟩:=h;obtain⟨w',Vj,hD',hg⟩:=hD.update Ft underlying183 zah (KO hs) (Jg N g);refine⟨w',Vj,⟨_,hD',fun e=>?_⟩,hg⟩;have hI:=hD.isMap;dsimp only;by_cases he:e=ev
 ·subst he;rw[OD rfl];exact⟨Go.Maps.has_put_same hI (show WideAt.IsKeyLit (.string _) from trivial) _,fun z=>SC hI (show WideAt.IsKeyLit (.string _) from trivial) _ _⟩
 ·rw[OB he];have:=hM e;have hk:=Ct he;cases hm:M e with
  |none=>rw[hm]at this;rw[Ru hk];exact this
  |some g'=>rw[hm]at this;refine⟨by rw[Ru hk];exact this.1,fun z=>by rw[Sv hk];exact this.2 z⟩
def dA(W:World)(g:Nat)(L:List (Option Nat)):Prop:=W.heap[g]?=some (.cells (L.map fun m=>Value.pointer (m.map fun b=>(⟨b,0,none⟩:Addr))).toArray 263 (0,0))
theorem dA.lt{L:List (Option Nat)}(h:dA W g L):g<W.heap.size:=(Ov.1 h).1
theorem dA.cell{L:List (Option Nat)}(h:dA W g L){m:Option Nat}(hi:L[i]?=some m):W.cell? (g,i)=some (.pointer (m.map fun b=>(⟨b,0,none⟩:Addr))):=by
 rw[OA W _ _ _ _ _ h];simp[hi]
theorem dA.frozen{L:List (Option Nat)}(h:dA W g L):W.frozen? (g,i)=false:=by
 simp[World.frozen?,show W.heap[g]?=_ from h]
theorem dA.set{L:List (Option Nat)}(h:dA W g L)(i:Nat)(m:Option Nat):dA (W.setCell (g,i) (.pointer (m.map fun b=>(⟨b,0,none⟩:Addr)))) g (L.set i m):=by
 unfold dA;rw[OP W g i _ _ _ h];simp[List.map_set]
end Y
theorem mO:(Tryz.prog.info? 263).map (fun i=>(i.zero,i.size,i.bytes))=some (some (.pointer none),1,8):=zab
theorem IF(n:Nat):madeCells (Value.pointer none).cells n=((List.replicate n (none:Option Nat)).map fun m=>Value.pointer (m.map fun b=>(⟨b,0,none⟩:Addr))).toArray:=by
 exact zem
theorem yK(n:Nat)(hn:n<=4096)(w:World):(Instr.makeSlice 261 (.int .i64 n) (.int .i64 n)).run prog w=.ok (.slice w n n) (w.alloc (.cells ((List.replicate n (none:Option Nat)).map fun m=>Value.pointer (m.map fun b=>(⟨b,0,none⟩:Addr))).toArray 263)):=by
 obtain⟨i0,hi,Ue,Ub,Uf⟩:=PZ mO;have h:=Tu (P:=prog) w 261 263 i0 (.pointer none) underlying261 hi Ue .i64 .i64 n n zaa (Int.le_refl _) zbp zbx zaa;rw[h,Ub];simp only[Int.toNat_natCast,Nat.mul_one];rw[IF]
namespace Y
def JS(w:World)(N mb n:Nat)(M:()->Option Nat)(ev:())(e:Ending)(w':World):Prop:=
 ∃g,e=.returned (.slice (some ⟨g,0,none⟩) N N)/\((M ev=some g/\w'=w)\/(M ev=none/\w.heap.size<=g/\eT w' N mb (n+1) (fun x=>if x=ev then some g else M x)/\dA w' g (List.replicate N none)/\Mo (·=mb) w w'))
end Y
theorem Lu(w:World)(pb b cap N:Nat)(hv:Value)(fin mb n:Nat)(M:()->Option Nat)(ev:())(hB:Y.dz w pb b N cap hv fin (.map (some mb)))(hM:Y.eT w N mb n M)(hn:n<=1000000)(Vg:ev.size<=1000000)(hN:N<=24):
  () 108 #[pb,ev] w (Y.JS w N mb n M ev):=by
 have h3:w.cell? (pb,3)=some (.map (some mb)):=zbh;have h0:w.cell? pb=some (.slice b N cap):=zbh;have T8:pb<w.heap.size:=(Ov.1 hB).1;have hl:=hM.look Vg;cases hm:M ev with
 |some g=>
  rw[hm]at hl;dsimp only at hl;have Uu:∀r,r=Ending.returned (.slice g N N)->Y.JS w N mb n M ev r w:=fun r hr=>⟨g,hr,.inl ⟨hm,rfl⟩⟩;clear hm hM;exact ze8
 |none=>
  rw[hm]at hl;dsimp only at hl;have Wu:=yK N zaa w;have UA:=(Oy w w).alloc (Ow _) (.cells ((List.replicate N (none:Option Nat)).map fun m=>Value.pointer (m.map fun b=>(⟨b,0,none⟩:Addr))).toArray 263);obtain⟨w',ZM,YX,hg⟩:=(hM.mo (P:=fun _=>False) (az UA) (fun h=>h)).put hn Vg w.heap.size;have h3a:=(UA.cell (p:=⟨pb,3,none⟩) T8).trans h3;have TO:Y.dA (w.alloc (.cells ((List.replicate N (none:Option Nat)).map fun m=>Value.pointer (m.map fun b=>(⟨b,0,none⟩:Addr))).toArray 263)) w.heap.size (List.replicate N none):=OH w _;have Uu:∀r,r=Ending.returned (.slice w N N)->Y.JS w N mb n M ev r w':=fun r hr=>by
   have hmb:=hM.lt;refine⟨_,hr,.inr ⟨hm,Ow _,YX,?_,?_⟩⟩
   ·exact(hg.block _ TO.lt zae).trans TO
   ·exact(az UA).trans' ⟨hg.os,hg.tape,hg.output,hg.size,fun k hk hn=>hg.block k hk (fun e=>hn zba)⟩ (fun k _ h=>h)
  clear hm hM YX TO hg;obtain⟨W1,Uj⟩:∃W,w.alloc (.cells ((List.replicate N (none:Option Nat)).map fun m=>Value.pointer (m.map fun b=>(⟨b,0,none⟩:Addr))).toArray 263)=W:=⟨_,rfl⟩;rw[Uj]at Wu UA ZM h3a;clear Uj;exact ze8
namespace Y
theorem uD.range{W:World}{b i:Nat}{p:PS}(h:uD W b i p):W.rangeAt b (i*10) p.cells:=fun j v hv=>by
 match j,hv with
 |0,hv=>cases hv;exact h.c0
 |1,hv=>cases hv;exact h.c1
 |2,hv=>cases hv;exact h.c2
 |3,hv=>cases hv;exact h.c3
 |4,hv=>cases hv;exact h.c4
 |5,hv=>cases hv;exact h.c5
 |6,hv=>cases hv;exact h.c6
 |7,hv=>cases hv;exact h.c7
 |8,hv=>cases hv;exact h.c8
 |9,hv=>cases hv;exact h.c9
 |j+10,hv=>cases hv
def kO(ps:List PS)(L:List (Option Nat))(i:Nat):List (Option Nat):=match L[i]?,ps[i]? with
 |some none,some p=>if p.owner == -1 then L else L.set i (L.getD p.owner.toNat none)
 |_,_=>L
def cA(ps:List PS)(L:List (Option Nat)):Nat->List (Option Nat)
 |0=>L
 |k+1=>kO ps (cA ps L k) k
theorem Cl(ps:List PS)(L:List (Option Nat))(i:Nat):(kO ps L i).length=L.length:=by
 unfold kO;split
 ·split<;>simp
 ·rfl
theorem oG(ps:List PS)(L:List (Option Nat)):∀k,(cA ps L k).length=L.length
 |0=>rfl
 |k+1=>by rw[cA,Cl,oG ps L k]
end Y
theorem p6(w:World)(pb b cap:Nat)(ps:List Y.PS)(g:Nat)(L:List (Option Nat))(hL:L.length=ps.length)(how:∀(i:Nat) (p:Y.PS),ps[i]?=some p->p.owner=-1\/∃o:Nat,p.owner=o/\o<i)
  (hP:Y.cd w pb b cap ps) (T8:pb<w.heap.size) (hb:b<w.heap.size) (n1:pb≠g) (n2:b≠g) (hR:Y.dA w g L):
  () 111 #[pb,.slice g ps.length ps.length] w fun e w'=>e=.returned (.tuple #[])/\Y.dA w' g (Y.cA ps L ps.length)/\Mo (·=g) w w':=by
 have hlen:=hP.len;have h0:=hP.row;have HP:Hid _:=hP;have HOW:Hid _:=how;have HR:Hid _:=hR;clear hP how hR;go_enter func111,ntmps111;go_wp2
 go_loopg[11] ps.length (fun q i wr=>∃k:Nat,q=ps.length-k/\k<=ps.length/\i=.int .i64 k/\Y.dA wr g (Y.cA ps L k)/\Mo (·=g) w wr)
 case atStart=>exact⟨0,rfl,OL _,rfl,HR.out,Mo.refl _ _⟩
 case round=>
  obtain⟨k,hq,hk,rfl,TO,Uh⟩:=hrel;clear h0;by_cases UC:k<ps.length
  ·obtain⟨p,hp⟩:∃p,ps[k]?=some p:=⟨_,Ou UC⟩;have hs:=Uh.size;have hPk:=HP.out.mo Uh T8 hb n1 n2;have TS:=(hPk.at' k p hp).range;have WG:(Y.cA ps L k).length=ps.length:=by rw[Y.oG,hL]
   obtain⟨m,hm⟩:∃m,(Y.cA ps L k)[k]?=some m:=⟨_,Ou zaa⟩;have Vz:=(Oy wr wr).alloc (Ow _) (.cells p.cells.toArray 180);have s5:=OH wr (.cells p.cells.toArray 180);have WE:Y.dA (wr.alloc (.cells p.cells.toArray 180)) g (Y.cA ps L k):=(Vz.block g TO.lt).trans TO;have UQ:=Uh.trans (az Vz);have c5:(wr.alloc (.cells p.cells.toArray 180)).cell? (wr,3)=some ↑(p.owner:Int):=by rw[OA _ _ _ _ _ _ s5];rfl
   have cm:=WE.cell hm;have HN:Hid (Y.cA ps L (k+1)=match (generalizing:=false) m with|none=>(if p.owner == -1 then Y.cA ps L k else(Y.cA ps L k).set k ((Y.cA ps L k).getD p.owner.toNat none))|some _=>Y.cA ps L k):=by
    unfold Hid;rw[Y.cA,Y.kO,hm,hp];cases m<;>rfl
   obtain⟨W5,hW5⟩:∃W,wr.alloc (.cells p.cells.toArray 180)=W:=⟨_,rfl⟩;have hst:∀{ops:Array Oper} {rest:List Oper} {op:Oper} {a:Act} {Q:Exit->Act->World->Prop},op.guard=none->op.op=.store 180 (.tmp 5) (.tmp 15)->a.eval (.tmp 5)=.pointer (some ⟨wr,0,none⟩)->a.eval (.tmp 15)=.agg p.cells.toArray->wpList prog ops Q rest (a.put op.dst undef) W5->wpList prog ops Q (op::rest) a (wr.alloc (.cells #[(0:Int),.string ⟨#[]⟩,.string ⟨#[]⟩,(0:Int),.int .u32 0,.int .u32 0,.int .u32 0,.int .u32 0,.slice none 0 0,.slice none 0 0] 180)):=fun h1 h2 h3 h4 h5=>aJ h1 180 (.tmp 5) (.tmp 15) h2 180 _ p.cells.toArray h3 h4 eA rfl zbD (by rw[hW5];exact h5);rw[hW5]at WE UQ c5 cm;clear hW5 s5 Vz TO Uh hPk hm;have Vf:k<ps.length:=UC;cases m with
   |some mb=>
    have HN:Hid (Y.cA ps L (k+1)=Y.cA ps L k):=HN.out;dsimp only[Option.map]at cm;exact zdo
   |none=>
    dsimp only[Option.map]at cm
    rcases HOW.out k p hp with ho|⟨o,ho,Uw⟩
    ·have HN:Hid (Y.cA ps L (k+1)=Y.cA ps L k):=by have:=HN.out;rw[ho]at this;exact this
     rw[ho]at c5;exact zdo
    ·obtain⟨mo,Uh⟩:∃mo,(Y.cA ps L k)[o]?=some mo:=⟨_,Ou zaa⟩;have HN:Hid (Y.cA ps L (k+1)=(Y.cA ps L k).set k mo):=by
      have:=HN.out;rw[ho]at this;simp only[Int.toNat_natCast]at this;rw[OB zad]at this;unfold Hid;rw[this,OJ,Uh];rfl
     rw[ho]at c5;have co:=WE.cell Uh;have fz:=WE.frozen (i:=k);have hrow6:=WE.set k mo;have Wh:=UQ.set ⟨g,k,none⟩ (.pointer (mo.map fun b=>(⟨b,0,none⟩:Addr))) rfl;have VC:((o:Int) != -1)=true:=zad;obtain⟨vo,hvo⟩:∃v,mo.map (fun b=>(⟨b,0,none⟩:Addr))=v:=⟨_,rfl⟩;rw[hvo]at co hrow6 Wh;clear ho;go_wp2_with(first
      |(refine PW rfl 180 (.tmp 14) rfl b (k*10) rfl _ _ TS underlying180 rfl eA ?_)
      |(refine hst rfl rfl rfl rfl ?_)
      |fail)
     go_roundg (ps.length-(k+1))
     case measure=>omega
     case rel=>exact⟨k+1,rfl,zaa,zag,by rw[HN.out];exact hrow6,Wh⟩
  ·obtain rfl:k=ps.length:=zaa;go_wp2;go_end0;exact⟨rfl,TO,Uh⟩
namespace Y
structure MV where
 event:()
 after:Bool
 delay:Int
 dest:()
 aw:U.Sl
def MV.cells(m:MV):List Value:=[m.event,m.after,.int .u64 m.delay,m.dest,.slice m.aw.a m.aw.n m.aw.c]
structure PM where
 own:Nat
 lv:Nat
 aw:U.Sl
 en:En
def eI(W:World)(pb b m:Nat)(x:PM):Prop:=∃fv,W.heap[m]?=some (.cells #[(x.own:Int),.int .u32 x.lv,.slice x.aw.a x.aw.n x.aw.c,fv] 266 (0,0))/\uB W pb b x.en fv
def Be(t:TypeId):Prop:=t=266\/t=107\/t=103\/t=252\/t=3
theorem eI.kd{m:Nat}{x:PM}(h:eI W pb b m x)(hk:Kd E W W')(hE:∀t,Be t->¬E t):eI W' pb b m x:=by
 obtain⟨fv,h1,h2⟩:=h;refine⟨fv,(hk.aq _ _ _ _ h1 (hE _ (.inl rfl))).trans h1,h2.aq (fun B t u ht hb=>hk.boxed hb (hE t (.inr ht)))⟩
def lJ(W:World)(pb b:Nat):Option (Option Nat)->Option (Option PM)->Prop
 |some (some m),some (some x)=>eI W pb b m x
 |some none,some none=>True
 |none,none=>True
 |_,_=>False
theorem lJ.imp{W W':World}{pb b:Nat}{x:Option (Option Nat)}{y:Option (Option PM)}(h:lJ W pb b x y)(hi:∀m z,x=some (some m)->eI W pb b m z->eI W' pb b m z):lJ W' pb b x y:=by
 match x,y,h with
 |some (some m),some (some z),h=>exact hi m z rfl h
 |some none,some none,_=>trivial
 |none,none,_=>trivial
structure Tab(W:World)(pb b N mb n:Nat)(T:()->Option (List (Option PM)))(M:()->Option Nat)(L:Nat->List (Option Nat)):Prop where
 map:eT W N mb n M
 nope:∀ev,M ev=none->T ev=none
 row:∀ev g,M ev=some g->dA W g (L g)/\(L g).length=N/\∃row,T ev=some row/\row.length=N/\∀i:Nat,lJ W pb b ((L g)[i]?) (row[i]?)
 inj:∀e e' g,M e=some g->M e'=some g->e=e'
theorem Tab.kd{T:()->Option (List (Option PM))}(h:Tab W pb b N mb n T M L)(hk:Kd E W W')(hE:∀t,Be t->¬E t)(hR:¬E 263)(hm:Mo P W W')(hn:¬P mb):Tab W' pb b N mb n T M L where
 map:=h.map.mo hm hn
 nope:=h.nope
 row:=fun ev g hg=>by
  obtain⟨h1,h2,row,h3,h4,h5⟩:=h.row ev g hg;exact⟨(hk.aq _ _ _ _ h1 hR).trans h1,h2,row,h3,h4,fun i=>(h5 i).imp (fun m z _ hz=>hz.kd hk hE)⟩
 inj:=h.inj
theorem Tab.below{T:()->Option (List (Option PM))}(h:Tab W pb b N mb n T M L)(hb:Below W W W'):Tab W' pb b N mb n T M L:=
 h.kd (E:=fun _=>False) (P:=fun _=>False) (bE hb) (fun _ _ h=>h) (fun h=>h) (az hb) (fun h=>h)
theorem Tab.NW{T:()->Option (List (Option PM))}(h:Tab W pb b N mb n T M L){e:Ending}(hr:JS W N mb n M ev e W'):
  ∃g M' L' n',e=.returned (.slice (some ⟨g,0,none⟩) N N)/\n'<=n+1/\M' ev=some g/\Mo (·=mb) W W'/\(∀x y,M' x=some y->M x=some y\/W.heap.size<=y)/\Tab W' pb b N mb n' (fun x=>if x=ev then some ((T ev).getD (List.replicate N none)) else T x) M' L':=by
 obtain⟨g,he,⟨hm,hw⟩|⟨hm,hg,YX,TO,Uh⟩⟩:=hr
 ·subst hw;obtain⟨_,_,row,h3,_,_⟩:=h.row ev g hm;have:(fun x=>if x=ev then some ((T ev).getD (List.replicate N none)) else T x)=T:=by
   funext x;by_cases hx:x=ev
   ·rw[OD hx,hx,h3];rfl
   ·rw[OB hx]
  exact⟨g,M,L,n,he,zaa,hm,Mo.refl _ _,fun _ _ h=>.inl h,by rw[this];exact h⟩
 ·have U8:Kd (fun _=>False) W W':=gO Uh (fun k c t f hk hc=>by
   obtain⟨es,clock,hmb⟩:=h.map.kind;rw[hk,hmb]at hc;cases hc)
  have hT:=h.nope ev hm;refine⟨g,fun x=>if x=ev then some g else M x,fun x=>if x=g then List.replicate N none else L x,n+1,he,Ow _,OD rfl,Uh,fun x y hxy=>?_,?_⟩
  ·dsimp only at hxy;by_cases hx:x=ev
   ·rw[OD hx]at hxy;cases hxy;exact .inr hg
   ·rw[OB hx]at hxy;exact .inl hxy
  refine⟨YX,fun e hn=>?_,fun e g' VQ=>?_,fun e e' g' h1 h2=>?_⟩
  ·by_cases hx:e=ev
   ·simp[hx]at hn
   ·simp only[if_neg hx]at hn⊢;exact h.nope e hn
  ·by_cases hx:e=ev
   ·subst hx;simp at VQ;subst VQ;simp only[if_true];refine⟨TO,zad,_,rfl,by rw[hT];simp,fun i=>?_⟩;rw[hT];by_cases hi:i<N
    ·simp[hi,lJ]
    ·simp[hi,lJ]
   ·simp only[if_neg hx]at VQ⊢;obtain⟨h1,h2,row,h3,h4,h5⟩:=h.row e g' VQ;have TU:g'≠g:=by have:=h1.lt;omega
    simp only[if_neg TU];exact⟨(U8.aq _ _ _ _ h1 (fun h=>h)).trans h1,h2,row,h3,h4,fun i=>(h5 i).imp (fun m z _ hz=>hz.kd U8 (fun _ _ h=>h))⟩
  ·by_cases hx:e=ev
   ·by_cases hy:e'=ev
    ·rw[hx,hy]
    ·simp only[if_pos hx,if_neg hy]at h1 h2;obtain⟨h3,_⟩:=h.row e' g' h2;have:=h3.lt;simp at h1;omega
   ·by_cases hy:e'=ev
    ·simp only[if_neg hx,if_pos hy]at h1 h2;obtain⟨h3,_⟩:=h.row e g' h1;have:=h3.lt;simp at h2;omega
    ·simp only[if_neg hx,if_neg hy]at h1 h2;exact h.inj e e' g' h1 h2
theorem Tab.set{q:Nat}{T:()->Option (List (Option PM))}(h:Tab W pb b N mb n T M L)(hM:M ev=some g)(hi:i<N){row:List (Option PM)}(hrw:T ev=some row)(x:PM)(hk:Kd (fun t=>t=263) W W')(hm:Mo (·=g) W W')(TO:dA W' g ((L g).set i (some q)))(hq:eI W' pb b q x):
  Tab W' pb b N mb n (fun y=>if y=ev then some (row.set i (some x)) else T y) M (fun y=>if y=g then(L g).set i (some q) else L y):=by
 obtain⟨h1,h2,row',h3,h4,h5⟩:=h.row ev g hM;rw[hrw]at h3;cases h3
 have hE:∀t,Be t->¬t=263:=zbB;have hmbg:mb≠g:=by
  obtain⟨es,clock,hmb⟩:=h.map.kind;intro e;rw[e,show W.heap[g]?=_ from h1]at hmb;cases hmb
 refine⟨h.map.mo hm hmbg,fun e hn=>?_,fun e g' VQ=>?_,h.inj⟩
 ·have hx:e≠ev:=fun hx=>by rw[hx,hM]at hn;cases hn
  rw[OB hx];exact h.nope e hn
 ·by_cases hx:e=ev
  ·subst hx;rw[hM]at VQ;cases VQ
   simp only[if_true];refine⟨TO,by simp[h2],_,rfl,by simp[h4],fun j=>?_⟩;by_cases hj:j=i
   ·subst hj;rw[OR zaa,OR zaa];exact hq
   ·rw[OU (fun e=>hj e.symm),OU (fun e=>hj e.symm)];exact(h5 j).imp (fun m z _ hz=>hz.kd hk hE)
  ·have hgg:g'≠g:=fun e'=>hx (h.inj e ev g (by rw[<- e'];exact VQ) hM);simp only[if_neg hx,if_neg hgg];obtain⟨k1,k2,row',k3,k4,k5⟩:=h.row e g' VQ;exact⟨(hm.block g' k1.lt hgg).trans k1,k2,row',k3,k4,fun j=>(k5 j).imp (fun m z _ hz=>hz.kd hk hE)⟩
def jt(W:World)(ib n:Nat)(F:()->Option Nat):Prop:=∃D:DataW Nat,W.ownsMap prog 9 (plainElem prog 3) ib n D/\∀nm,match F nm with
 |none=>Go.Maps.has D (ky nm)=false
 |some g=>∀z,D.atKey (ky nm) z=.lit (.int .i64 g)
theorem jt.mo(h:jt W ib n F)(hm:Mo P W W')(hn:¬P ib):jt W' ib n F:=by
 obtain⟨D,⟨es,clock,hb,r⟩,hM⟩:=h;exact⟨D,⟨es,clock,(hm.block ib (Ov.1 hb).1 hn).trans hb,r⟩,hM⟩
theorem N2(w:World):(zeroValue 3).run prog w=.ok (.int .i64 0) w:=zab
theorem jt.made(w:World):jt (w.alloc (.map #[] 0)) w.heap.size 0 (fun _=>none):=⟨_,Te w _ _ _,fun _=>rfl⟩
theorem jt.look(h:jt W ib n F)(hs:nm.size<=1000000)(hF:F nm=some g):
  (Instr.lookup 171 (.map (some ib)) (.string nm) false).run prog W=.ok (.int .i64 g) W:=by
 obtain⟨D,hD,hM⟩:=h;obtain⟨c,Vj,Uy,_⟩:=hD.lookup_int Ft underlying171 underlying3 (N2 W) (KO hs);have:=hM nm;rw[hF]at this;rw[this]at Uy;rw[Vj];simp at Uy;rw[Uy]
theorem jt.put(h:jt W ib n F)(hn:n<=1000000)(hs:nm.size<=1000000)(g:Nat)(hg:g<=1000000):
  ∃w',(Instr.mapUpdate 171 (.map (some ib)) (.string nm) (.int .i64 g)).run prog W=.ok () w'/\jt w' ib (n+1) (fun e=>if e=nm then some g else F e)/\W.grownBy w' (some ib):=by
 obtain⟨D,hD,hM⟩:=h;obtain⟨w',Vj,hD',hg⟩:=hD.update Ft underlying171 zah (KO hs) (Tv underlying3 (a:=(g:Int)) (WalkArith.wf_i64 zaa));refine⟨w',Vj,⟨_,hD',fun e=>?_⟩,hg⟩;have hI:=hD.isMap;dsimp only;by_cases he:e=nm
 ·subst he;rw[OD rfl];exact fun z=>SC hI (show WideAt.IsKeyLit (.string _) from trivial) _ _
 ·rw[OB he];have:=hM e;have hk:=Ct he;cases hm:F e with
  |none=>rw[hm]at this;rw[Ru hk];exact this
  |some g'=>rw[hm]at this;exact fun z=>by rw[Sv hk];exact this z
structure ChM(W:World)(cb cg cc:Nat)(X:List MS)(V:Nat->List MV):Prop where
 ptr:W.heap[cb]?=some (.cells #[.slice cg X.length cc] 175 (0,0))
 blk:∃c fz,W.heap[cg]?=some (.cells c 188 fz)
 at':∀(i:Nat) (x:MS),X[i]?=some x->W.rangeAt cg (i*8) x.arr.toList
 mv:∀(i:Nat) (x:MS),X[i]?=some x->x.vm.n=(V i).length/\((V i).length=0\/∃gm c fz,x.vm.a=some ⟨gm,0,none⟩/\(V i).length<=x.vm.c/\W.heap[gm]?=some (.cells c 260 fz)/\∀(j:Nat) (m:MV),(V i)[j]?=some m->W.rangeAt gm (j*5) m.cells)
def N9(t:TypeId):Prop:=t=175\/t=188\/t=260
theorem ChM.kd{V:Nat->List MV}(h:ChM W cb cg cc X V)(hk:Kd E W W')(hE:∀t,N9 t->¬E t):ChM W' cb cg cc X V where
 ptr:=(hk.aq _ _ _ _ h.ptr (hE _ (.inl rfl))).trans h.ptr
 blk:=by
  obtain⟨c,fz,hc⟩:=h.blk;exact⟨c,fz,(hk.aq _ _ _ _ hc (hE _ (.inr (.inl rfl)))).trans hc⟩
 at':=fun i x hx j v hv=>by
  obtain⟨c,fz,hc⟩:=h.blk;exact(OO (a:=⟨cg,_,none⟩) (hk.aq _ _ _ _ hc (hE _ (.inr (.inl rfl))))).trans (h.at' i x hx j v hv)
 mv:=fun i x hx=>by
  obtain⟨h1,h2|⟨gm,c,fz,h2,h3,h4,h5⟩⟩:=h.mv i x hx
  ·exact⟨h1,.inl h2⟩
  ·have hb:=hk.aq _ _ _ _ h4 (hE _ (.inr (.inr rfl)));exact⟨h1,.inr ⟨gm,c,fz,h2,h3,hb.trans h4,fun j m hm k v hv=>(OO (a:=⟨gm,_,none⟩) hb).trans (h5 j m hm k v hv)⟩⟩
theorem ChM.below{V:Nat->List MV}(h:ChM W cb cg cc X V)(hb:Below W W W'):ChM W' cb cg cc X V:=h.kd (E:=fun _=>False) (bE hb) (fun _ _ h=>h)
def bH(X:List MS):Nat->()->Option Nat
 |0=>fun _=>none
 |k+1=>match X[k]? with
  |some x=>fun nm=>if nm=x.name then some k else bH X k nm
  |none=>bH X k
end Y
theorem ff:(Tryz.prog.info? 188).map (·.size)=some 8:=zab
theorem wH:(Tryz.prog.info? 260).map (·.size)=some 5:=zab
namespace Y
def sL(ps:List PS)(L:List (Option PM))(i:Nat):List (Option PM):=match L[i]?,ps[i]? with
 |some none,some p=>if p.owner == -1 then L else L.set i (L.getD p.owner.toNat none)
 |_,_=>L
def nN(ps:List PS)(L:List (Option PM)):Nat->List (Option PM)
 |0=>L
 |k+1=>sL ps (nN ps L k) k
theorem Cm(ps:List PS)(L:List (Option PM))(i:Nat):(sL ps L i).length=L.length:=by
 unfold sL;split
 ·split<;>simp
 ·rfl
theorem sM(ps:List PS)(L:List (Option PM)):∀k,(nN ps L k).length=L.length
 |0=>rfl
 |k+1=>by rw[nN,Cm,sM ps L k]
theorem lJ.getD{W:World}{pb b:Nat}{L:List (Option Nat)}{R:List (Option PM)}(h:∀i:Nat,lJ W pb b (L[i]?) (R[i]?))(o:Nat):lJ W pb b (some (L.getD o none)) (some (R.getD o none)):=by
 have:=h o;rw[OJ,OJ]
 match hL:L[o]?,hR:R[o]? with
 |none,none=>trivial
 |none,some y=>rw[hL,hR]at this;cases y<;>exact this.elim
 |some x,none=>rw[hL,hR]at this;cases x<;>exact this.elim
 |some x,some y=>rw[hL,hR]at this;exact this
theorem H6{W:World}{pb b:Nat}(ps:List PS){L:List (Option Nat)}{R:List (Option PM)}(hl:L.length=R.length)(h:∀i:Nat,lJ W pb b (L[i]?) (R[i]?)):∀k,∀i:Nat,lJ W pb b ((cA ps L k)[i]?) ((nN ps R k)[i]?)
 |0,i=>h i
 |k+1,i=>by
  have ih:=H6 ps hl h k;have l1:=oG ps L k;have l2:=sM ps R k;rw[cA,nN];unfold kO sL;have hk:=ih k
  match hL:(cA ps L k)[k]?,hR:(nN ps R k)[k]?,hp:ps[k]? with
  |none,none,_=>exact ih i
  |none,some y,_=>rw[hL,hR]at hk;cases y<;>exact hk.elim
  |some x,none,_=>rw[hL,hR]at hk;cases x<;>exact hk.elim
  |some (some m),some none,_=>rw[hL,hR]at hk;exact hk.elim
  |some none,some (some z),_=>rw[hL,hR]at hk;exact hk.elim
  |some (some m),some (some z),_=>exact ih i
  |some none,some none,none=>exact ih i
  |some none,some none,some p=>
   dsimp only;by_cases ho:(p.owner == -1)=true
   ·rw[OD ho,OD ho];exact ih i
   ·rw[OB ho,OB ho];have Vf:=(Oz.1 hL).1;have hkr:=(Oz.1 hR).1;by_cases hi:i=k
    ·subst hi;rw[OR Vf,OR hkr];exact lJ.getD ih _
    ·rw[OU (fun e=>hi e.symm),OU (fun e=>hi e.symm)];exact ih i
theorem Ip{key:Value}{kl:Lit}(h:keyOf prog 9 key=some kl):∃s:(),key=.string s/\kl=ky s:=by
 cases key<;>simp[keyOf,underlying9,mapKey]at h
 obtain⟨_,rfl⟩:=h;exact⟨_,rfl,rfl⟩
theorem D7{a b:()}(h:a≠b):(ky a).sameKey (ky b)=false:=by
 cases hs:(ky a).sameKey (ky b)
 ·rfl
 ·exact absurd (WideAt.sameKey_eq hs) (Ct h)
theorem KQ(a:()):(ky a).sameKey (ky a)=true:=WideAt.sameKey_self (show WideAt.IsKeyLit (.string _) from trivial)
theorem Tab.MU{T:()->Option (List (Option PM))}(ps:List PS)(h:Tab W pb b N mb n T M L)(hM:eT W' N mb n M)(hm:Mo (fun j=>∃ev,M ev=some j) W W')(hr:∀ev g,M ev=some g->dA W' g (cA ps (L g) N)):
  Tab W' pb b N mb n (fun ev=>(T ev).map fun row=>nN ps row N) M (fun g=>cA ps (L g) N):=by
 have U8:Kd (fun t=>t=263) W W':=gO hm (fun k c t f hk hc=>by
  obtain⟨ev,he⟩:=hk;obtain⟨h1,_⟩:=h.row ev k he;rw[show W.heap[k]?=_ from h1]at hc;simp at hc;exact hc.2.1.symm)
 have hE:∀t,Be t->¬t=263:=zbB;refine⟨hM,fun ev hn=>by rw[h.nope ev hn];rfl,fun ev g hg=>?_,h.inj⟩;obtain⟨h1,h2,row,h3,h4,h5⟩:=h.row ev g hg;refine⟨hr ev g hg,by rw[oG];exact h2,nN ps row N,by rw[h3];rfl,by rw[sM];exact h4,?_⟩;exact H6 ps zaa (fun i=>(h5 i).imp (fun m z _ hz=>hz.kd U8 hE)) N
def Mm(W:World)(pb b:Nat)(ps:List PS)(N:Nat)(T0:()->Option (List (Option PM)))(M:()->Option Nat)(L:Nat->List (Option Nat)):Prop:=∃L0:Nat->List (Option Nat),∀ev g,M ev=some g->L g=cA ps (L0 g) N/\∃row0,T0 ev=some row0/\∀i:Nat,lJ W pb b ((L0 g)[i]?) (row0[i]?)
theorem Tab.once{T:()->Option (List (Option PM))}(ps:List PS)(h:Tab W pb b N mb n T M L)(hm:Mo (fun j=>∃ev,M ev=some j) W W'):Mm W' pb b ps N T M (fun g=>cA ps (L g) N):=by
 have U8:Kd (fun t=>t=263) W W':=gO hm (fun k c t f hk hc=>by
  obtain⟨ev,he⟩:=hk;obtain⟨h1,_⟩:=h.row ev k he;rw[show W.heap[k]?=_ from h1]at hc;simp at hc;exact hc.2.1.symm)
 have hE:∀t,Be t->¬t=263:=zbB;refine⟨L,fun ev g hg=>⟨rfl,?_⟩⟩;obtain⟨h1,h2,row,h3,h4,h5⟩:=h.row ev g hg;exact⟨row,h3,fun i=>(h5 i).imp (fun m z _ hz=>hz.kd U8 hE)⟩
def Good(ps:List PS):Prop:=∀(i:Nat) (p:PS),ps[i]?=some p->p.parts<2 ^ ps.length/\p.inside<2 ^ ps.length/\p.around<2 ^ ps.length/\p.wth<2 ^ ps.length
theorem xM{s:Nat}(h:s<2 ^ N)(hi:i∈els s):i<N:=by
 obtain⟨_,ht⟩:=cC.1 hi;by_cases hn:i<N
 ·exact hn
 ·rw[RQ (OS h (PX zac zaa))]at ht;cases ht
def dL(ps:List PS)(F:()->Option Nat)(i:Nat)(m:MV):PM:=if m.dest.toList.isEmpty then⟨i,0,m.aw,.nil⟩ else match F m.dest with
 |some d=>⟨i,dom ps i d,m.aw,fD ps i d⟩
 |none=>⟨i,0,m.aw,.nil⟩
def mg(ps:List PS)(F:()->Option Nat)(T:()->Option (List (Option PM)))(i:Nat)(m:MV):()->Option (List (Option PM)):=fun e=>if e=m.event then
  some (let row:=(T m.event).getD (List.replicate ps.length none);match row[i]? with|some none=>row.set i (some (dL ps F i m))|_=>row)
 else T e
def ep(ps:List PS)(F:()->Option Nat)(T:()->Option (List (Option PM)))(i:Nat)(V:List MV):Nat->()->Option (List (Option PM))
 |0=>T
 |j+1=>match V[j]? with|some m=>mg ps F (ep ps F T i V j) i m|none=>ep ps F T i V j
def ef(ps:List PS)(F:()->Option Nat)(V:Nat->List MV):Nat->()->Option (List (Option PM))
 |0=>fun _=>none
 |k+1=>ep ps F (ef ps F V k) k (V k) (V k).length
def Mg(w w':World)(pb b mb:Nat)(ps:List PS)(X:List MS)(V:Nat->List MV):Prop:=(∃n M L,Tab w' pb b ps.length mb n (fun ev=>(ef ps (bH X X.length) V X.length ev).map fun row=>nN ps row ps.length) M L/\Mm w' pb b ps ps.length (ef ps (bH X X.length) V X.length) M L)/\Mo (·=mb) w w'
end Y
theorem xu(w:World)(pb b cap:Nat)(ps:List Y.PS)(hv:Value)(fin mb cb cg cc:Nat)(X:List Y.MS)(V:Nat->List Y.MV)(hB:Y.dz w pb b ps.length cap hv fin (.map (some mb)))(hP:Y.cd w pb b cap ps)(hb:b<w.heap.size)(hC:Y.ChM w cb cg cc X V)(hX:X.length=ps.length)(Uq:∀(i:Nat) (x:Y.MS),X[i]?=some x->x.name.size<=1000000)
  (hM:Y.eT w ps.length mb 0 (fun _=>none)) (V5:b≠mb) (XZ:Y.Good ps) (hg:1<w.heap.size) (hT:TabAt 1 Lib.deBruijn32tab w) (hgk:∃c t fz,w.heap[1]?=some (.cells c t fz))
  (how:∀(i:Nat) (p:Y.PS),ps[i]?=some p->p.owner=-1\/∃o:Nat,p.owner=o/\o<i) (hV:∀i,(V i).length<=30000) (Vg:∀i,∀m∈V i,m.event.size<=1000000/\m.dest.size<=1000000/\(m.dest.toList.isEmpty=false->∃d,Y.bH X X.length m.dest=some d/\d<ps.length)):
  () 68 #[pb,cb] w fun e w'=>e=.returned (.tuple #[])/\Y.Mg w w' pb b mb ps X V:=by
 have hlen:=hP.len;have T8:pb<w.heap.size:=(Ov.1 hB).1;have hBi:=(Oy w w).alloc (Ow _) (.map #[] 0);have hI0:=Y.jt.made w;have VS:(w.alloc (.map #[] 0)).cell? cb=some (.slice cg X.length cc):=by
  rw[OA _ _ _ _ _ _ (hC.below hBi).ptr];rfl
 have XB:=@run_makeMap prog;have HB:Hid (Y.dz w pb b ps.length cap hv fin (.map (some mb))):=hB;have HP:Hid _:=hP;have HC:Hid _:=hC;have HX:Hid (X.length=ps.length):=hX;have Wp:X.length<=24:=zaa;clear hX;have HM:Hid (Y.eT w ps.length mb 0 (fun _=>none)):=hM;have HNM:Hid _:=Uq;have HBK:Hid _:=V5;have HGD:Hid (Y.Good ps):=XZ;have HT:Hid (TabAt 1 Lib.deBruijn32tab w):=hT;have HGK:Hid _:=hgk;have HV:Hid _:=hV;have HOW:Hid _:=how;clear how;have HEV:Hid _:=Vg;clear hB hP hC hM Uq V5 XZ hT hgk hV Vg;go_enter func68,ntmps68;go_wp2
 go_loopg[20] X.length (fun q i wr=>∃k:Nat,q=X.length-k/\k<=X.length/\i=.int .i64 k/\Y.jt wr w k (Y.bH X k)/\Below w w wr)
 case atStart=>exact⟨0,rfl,OL _,rfl,hI0,hBi⟩
 case round=>
  obtain⟨k,hq,hk,rfl,hI,Ui⟩:=hrel;clear VS XB;by_cases UC:k<X.length
  ·obtain⟨x,hx⟩:∃x,X[k]?=some x:=⟨_,Ou UC⟩;have Yu:=HC.out.below Ui;have TS:=Yu.at' k x hx;have hnmx:=HNM.out k x hx;have HN:Hid (Y.bH X (k+1)=fun nm=>if nm=x.name then some k else Y.bH X k nm):=by unfold Hid;rw[Y.bH,hx]
   obtain⟨kind,name,depth,owner,vp,ve,vl,vm⟩:=x;dsimp only at hnmx HN;unfold Y.MS.arr at TS;dsimp only at TS;have Vz:=(Oy wr wr).alloc (Ow _) (.cells #[(kind:Int),name,(depth:Int),(owner:Int),.slice vp.a vp.n vp.c,.slice ve.a ve.n ve.c,.slice vl.a vl.n vl.c,.slice vm.a vm.n vm.c] 188);have hI5:=hI.mo (P:=fun _=>False) (az Vz) (fun h=>h);obtain⟨w6,ZM,hI6,hg6⟩:=hI5.put zaa hnmx k zaa;have hbw6:Below w w w6:=(Ui.trans (Vz.mono Ui.size)).grown hg6 (by have:=Ui.size;simp;omega) (fun j e=>by cases e;exact Ow _);have HI6:Hid _:=hI6;clear Vz hI5 hI hg6 hI6 Yu Ui hx;go_wp2_with(first
    |(refine PW rfl 188 (.tmp 23) rfl cg (k*8) rfl _ _ TS underlying188 rfl ff ?_)
    |(refine aJ rfl 188 (.tmp 6) (.tmp 24) rfl 188 _ _ rfl rfl ff rfl rfl ?_)
    |fail)
   go_roundg (X.length-(k+1))
   case measure=>omega
   case rel=>exact⟨k+1,rfl,zaa,zag,by rw[HN.out];exact HI6.out,hbw6⟩
  ·obtain rfl:k=X.length:=zaa;obtain⟨F,hF⟩:∃F,Y.bH X X.length=F:=⟨_,rfl⟩;rw[hF]at hI;have HF:Hid _:=hF;have HI1:Hid (Y.jt wr w X.length F):=hI;have YY:Hid _:=Ui;have Wg:=Ui.size;have hcb1:wr.cell? cb=some (.slice cg X.length cc):=by
    rw[OA _ _ _ _ _ _ (HC.out.below Ui).ptr];rfl
   have hT0:Y.Tab wr pb b ps.length mb 0 (Y.ef ps F V 0) (fun _=>none) (fun _=>[]):=⟨HM.out.mo (P:=fun _=>False) (az Ui) (fun h=>h),fun _ _=>rfl,fun _ _ h=>zav,fun _ _ _ h=>zav⟩;have HT0:Hid _:=hT0;clear hI Ui hF hT0 hk hq UC;go_wp2;obtain⟨w1,Ul⟩:∃W,wr=W:=⟨_,rfl⟩;rw[Ul]at HT0 HI1 YY Wg hcb1⊢
   go_loopg[35] X.length (fun q i wr=>∃k:Nat,q=X.length-k/\k<=X.length/\i=.int .i64 k/\∃n M L,Y.Tab wr pb b ps.length mb n (Y.ef ps F V k) M L/\n<=k*30000/\(∀ev g,M ev=some g->w1.heap.size<=g)/\Mo (·=mb) w1 wr)
   case atStart=>exact⟨0,rfl,OL _,rfl,0,_,_,HT0.out,OL _,fun _ _ h=>zav,Mo.refl _ _⟩
   case round=>
    obtain⟨k,YZ,hk,rfl,n,M,L,U3,hn,TT,Uh⟩:=hrel;obtain⟨es,clock,hmbk⟩:=(HM.out.mo (P:=fun _=>False) (az YY.out) (fun h=>h)).kind;have HKD:Hid (∀V2,Mo (·=mb) w1 V2->Kd (fun _=>False) w1 V2):=fun V2 h=>gO h (fun j c t f hj hc=>by rw[hj,hmbk]at hc;cases hc)
    have Y0:Hid (Y.ChM w1 cb cg cc X V):=HC.out.below YY.out;by_cases UC:k<X.length
    ·obtain⟨x,hx⟩:∃x,X[k]?=some x:=⟨_,Ou UC⟩;have Yu:=Y0.out.kd (HKD.out _ Uh) (fun _ _ h=>h);have TS:=Yu.at' k x hx;have HMV:Hid _:=Y0.out.mv k x hx;obtain⟨kind,name,depth,owner,vp,ve,vl,⟨va,vn,vc⟩⟩:=x;obtain rfl:vn=(V k).length:=HMV.out.1;unfold Y.MS.arr at TS;dsimp only at TS;have hB8:=(Oy wr wr).alloc (Ow _) (.cells #[(kind:Int),name,(depth:Int),(owner:Int),.slice vp.a vp.n vp.c,.slice ve.a ve.n ve.c,.slice vl.a vl.n vl.c,.slice va (V k).length vc] 188);have hTab8:=U3.below hB8;have hmo8:=Uh.trans (az hB8);have HT8:Hid (Y.Tab (wr.alloc (.cells #[(kind:Int),name,(depth:Int),(owner:Int),.slice vp.a vp.n vp.c,.slice ve.a ve.n ve.c,.slice vl.a vl.n vl.c,.slice va (V k).length vc] 188)) pb b ps.length mb n (Y.ef ps F V k) M L):=hTab8;have HM8:Hid (Mo (·=mb) w1 (wr.alloc (.cells #[(kind:Int),name,(depth:Int),(owner:Int),.slice vp.a vp.n vp.c,.slice ve.a ve.n ve.c,.slice vl.a vl.n vl.c,.slice va (V k).length vc] 188))):=hmo8;have hs8:=hmo8.size;have hVk:=HV.out k;clear U3 Uh hB8 hTab8 hmo8 Yu hx;go_wp2_with(first
      |(refine PW rfl 188 (.tmp 38) rfl cg (k*8) rfl _ _ TS underlying188 rfl ff ?_)
      |(refine aJ rfl 188 (.tmp 8) (.tmp 39) rfl 188 _ _ rfl rfl ff rfl rfl ?_)
      |fail)
     obtain⟨W8,hW8⟩:∃W,wr.alloc (.cells #[(kind:Int),name,(depth:Int),(owner:Int),.slice vp.a vp.n vp.c,.slice ve.a ve.n ve.c,.slice vl.a vl.n vl.c,.slice va (V k).length vc] 188)=W:=⟨_,rfl⟩;rw[hW8]at HT8 HM8 hs8⊢;clear TS
     go_loopg[43] (V k).length (fun q j wr2=>∃j':Nat,q=(V k).length-j'/\j'<=(V k).length/\j=.int .i64 j'/\∃n M L,Y.Tab wr2 pb b ps.length mb n (Y.ep ps F (Y.ef ps F V k) k (V k) j') M L/\n<=k*30000+j'/\(∀ev g,M ev=some g->w1.heap.size<=g)/\Mo (·=mb) w1 wr2)
     case atStart=>exact⟨0,rfl,OL _,rfl,n,M,L,HT8.out,zaa,TT,HM8.out⟩
     case round=>
      clear TT hn HT8 HM8;obtain⟨j,hq,hj,rfl,n,M,L,U3,hn,TT,Uh⟩:=hrel;by_cases XC:j<(V k).length
      ·obtain⟨m,hm⟩:∃m,(V k)[j]?=some m:=⟨_,Ou XC⟩;have Ud:=OG hm;obtain⟨he1,he2,he3⟩:=HEV.out k m Ud;have HN:Hid (Y.ep ps F (Y.ef ps F V k) k (V k) (j+1)=Y.mg ps F (Y.ep ps F (Y.ef ps F V k) k (V k) j) k m):=by unfold Hid;rw[Y.ep,hm]
       obtain⟨gm,c,fz,rfl,UX,hgk,Xo⟩:∃gm c fz,va=some ⟨gm,0,none⟩/\(V k).length<=vc/\w1.heap[gm]?=some (.cells c 260 fz)/\∀(j:Nat) (m:Y.MV),(V k)[j]?=some m->w1.rangeAt gm (j*5) m.cells:=by
        rcases HMV.out.2 with h|h
        ·omega
        ·exact h
       have TS:wr.rangeAt gm (j*5) m.cells:=fun i v hv=>(OO (a:=⟨gm,_,none⟩) ((HKD.out _ Uh).aq _ _ _ _ hgk (fun h=>h))).trans (Xo j m hm i v hv);obtain⟨T,hTd⟩:∃T,Y.ep ps F (Y.ef ps F V k) k (V k) j=T:=⟨_,rfl⟩;rw[hTd]at U3 HN;obtain⟨event,after,delay,dest,aw⟩:=m;dsimp only at he1 he2 he3;unfold Y.MV.cells at TS;dsimp only at TS;clear Xo hTd hm;have Vz:=(Oy wr wr).alloc (Ow _) (.cells #[event,after,.int .u64 delay,dest,.slice aw.a aw.n aw.c] 260);have Yv:=U3.below Vz;have UQ:=Uh.trans (az Vz);have s5:=OH wr (.cells #[event,after,.int .u64 delay,dest,.slice aw.a aw.n aw.c] 260);have hB15:Y.dz (wr.alloc (.cells #[event,after,.int .u64 delay,dest,.slice aw.a aw.n aw.c] 260)) pb b ps.length cap hv fin (.map (some mb)):=by
        have h1:=(YY.out.block pb T8).trans HB.out;exact((HKD.out _ UQ).aq _ _ _ _ h1 (fun h=>h)).trans h1
       have TO:=Lu (wr.alloc (.cells #[event,after,.int .u64 delay,dest,.slice aw.a aw.n aw.c] 260)) pb b cap ps.length hv fin mb n M event hB15 Yv.map (by have:k*30000<=24*30000:=Q7 _ zaa;omega) he1 hlen;obtain⟨W5,hW5⟩:∃W,wr.alloc (.cells #[event,after,.int .u64 delay,dest,.slice aw.a aw.n aw.c] 260)=W:=⟨_,rfl⟩;rw[hW5]at Yv UQ s5 TO;have HT5:Hid (Y.Tab W5 pb b ps.length mb n T M L):=Yv;clear U3 Uh Vz hB15 Yv;have hst:∀{ops:Array Oper} {rest:List Oper} {op:Oper} {a:Act} {Q:Exit->Act->World->Prop},op.guard=none->op.op=.store 260 (.tmp 10) (.tmp 46)->a.eval (.tmp 10)=.pointer (some ⟨wr,0,none⟩)->a.eval (.tmp 46)=.agg #[event,after,.int .u64 delay,dest,.slice aw.a aw.n aw.c]->wpList prog ops Q rest (a.put op.dst undef) W5->wpList prog ops Q (op::rest) a (wr.alloc (.cells #[.string ⟨#[]⟩,false,.int .u64 0,.string ⟨#[]⟩,.slice none 0 0] 260)):=fun h1 h2 h3 h4 h5=>aJ h1 260 (.tmp 10) (.tmp 46) h2 260 _ #[event,after,.int .u64 delay,dest,.slice aw.a aw.n aw.c] h3 h4 wH rfl rfl (by rw[hW5];exact h5);have m0:W5.cell? wr=some ↑event:=by rw[OA _ _ _ _ _ _ s5];rfl
       clear hW5
       go_upto_region 13 with(first
        |(refine PW rfl 260 (.tmp 45) rfl gm (j*5) rfl _ _ TS underlying260 rfl wH ?_)
        |(refine hst rfl rfl rfl rfl ?_)
        |(go_at_call 108;refine TO.mono ?_;intro e w6 hRP;obtain⟨g,M',L',n',rfl,hn',YX,Wh,ZN,ZO⟩:=HT5.out.NW hRP)
        |fail)
       have hkN:k<ps.length:=by have:=HX.out;omega
       obtain⟨Yw,Y1,rowP,hTe,V6,hrel6⟩:=ZO.row event g YX;rw[OD rfl]at hTe;have hTe:(T event).getD (List.replicate ps.length none)=rowP:=Pd hTe;obtain⟨mm,XB⟩:∃mm,(L' g)[k]?=some mm:=⟨_,Ou zaa⟩;have cm:=Yw.cell XB;have Zq:=hrel6 k;rw[XB]at Zq;have Yx:=UQ.trans Wh;have hlo':∀x y,M' x=some y->w1.heap.size<=y:=fun x y h=>by
        rcases ZN x y h with h|h
        ·exact TT x y h
        ·have:=UQ.size;omega
       have s6:=((gO (E:=fun _=>False) Wh (fun j c t f hj hc=>by
        obtain⟨es,clock,hz⟩:=HT5.out.map.kind;rw[hj,hz]at hc;cases hc)).aq _ _ _ _ s5 (fun h=>h)).trans s5
       have HN:Hid (Y.ep ps F (Y.ef ps F V k) k (V k) (j+1)=fun e=>if e=event then some (match (generalizing:=false) rowP[k]? with|some none=>rowP.set k (some (Y.dL ps F k ⟨event,after,delay,dest,aw⟩))|_=>rowP) else T e):=by
        unfold Hid;rw[HN.out];unfold Y.mg;dsimp only;rw[hTe]
       have HT6:Hid (Y.Tab w6 pb b ps.length mb n' (fun x=>if x=event then some rowP else T x) M' L'):=by have:=ZO;rw[hTe]at this;exact this
       have hnB:n'<=k*30000+(j+1):=zaa;clear ZO hTe hrel6 TO HT5 m0 s5 UQ Wh ZN TT TS hst;cases mm with
       |some q0=>
        have HN:Hid (Y.ep ps F (Y.ef ps F V k) k (V k) (j+1)=fun e=>if e=event then some rowP else T e):=by
         unfold Hid;rw[HN.out]
         match hz:rowP[k]?,Zq with
         |some (some z),_=>rfl
        dsimp only[Option.map]at cm;clear Zq XB;go_wp2_with fail
        go_roundg ((V k).length-(j+1))
        case measure=>omega
        case rel=>exact⟨j+1,rfl,zaa,zag,n',M',L',by rw[HN.out];exact HT6.out,hnB,hlo',Yx⟩
       |none=>
        have HN:Hid (Y.ep ps F (Y.ef ps F V k) k (V k) (j+1)=fun e=>if e=event then some (rowP.set k (some (Y.dL ps F k ⟨event,after,delay,dest,aw⟩))) else T e):=by
         unfold Hid;rw[HN.out]
         match hz:rowP[k]?,Zq with
         |some none,_=>rfl
        dsimp only[Option.map]at cm;have UN:=Yw.lt;have hs6l:=(Ov.1 s6).1;have hgw:g≠wr.heap.size:=by
         intro e;rw[<- e,show w6.heap[g]?=_ from Yw]at s6;simp at s6
        have hYs:(w6.setCell (g,k) w6).heap.size=w6.heap.size:=zad;have hY:=Yw.set k (some w6.heap.size);dsimp only[Option.map]at hY;have hB7:=(Oy (w6.setCell (g,k) w6).heap.size (w6.setCell (g,k) w6)).alloc (Ow _) (.cells #[(k:Int),.int .u32 0,.slice aw.a aw.n aw.c,.func (.func 109) #[] #[]] 266);have m4:w6.cell? (wr,4)=some (.slice aw.a aw.n aw.c):=by rw[OA _ _ _ _ _ _ s6];rfl
        have m3:((w6.setCell (g,k) w6).alloc (.cells #[(k:Int),.int .u32 0,.slice aw.a aw.n aw.c,.func (.func 109) #[] #[]] 266)).cell? (wr,3)=some ↑dest:=by
         rw[hB7.cell (p:=⟨wr,3,none⟩) (by rw[hYs];exact hs6l),ay (by intro h;injection h with h1 h2;exact hgw h1),OA _ _ _ _ _ _ s6];rfl
        have UA:=(Oy w6 w6).alloc (Ow _) (.cells #[(k:Int),.int .u32 0,.slice aw.a aw.n aw.c,.func (.func 109) #[] #[]] 266);have cmA:=(UA.cell (p:=(g,k)) UN).trans cm;have fz:w6.frozen? (g,k)=false:=Yw.frozen;have fzA:=(UA.frozen (p:=(g,k)) UN).trans fz;have hR7:Y.dA ((w6.setCell (g,k) w6).alloc (.cells #[(k:Int),.int .u32 0,.slice aw.a aw.n aw.c,.func (.func 109) #[] #[]] 266)) g ((L' g).set k (some w6.heap.size)):=(hB7.block g (by rw[hYs];exact UN)).trans hY;have Y2:Mo (·=g) w6 ((w6.setCell (g,k) w6).alloc (.cells #[(k:Int),.int .u32 0,.slice aw.a aw.n aw.c,.func (.func 109) #[] #[]] 266)):=((Mo.refl (·=g) w6).set ⟨g,k,none⟩ _ rfl).trans (az hB7);have hq7:((w6.setCell (g,k) w6).alloc (.cells #[(k:Int),.int .u32 0,.slice aw.a aw.n aw.c,.func (.func 109) #[] #[]] 266)).heap[w6.heap.size]?=some (.cells #[(k:Int),.int .u32 0,.slice aw.a aw.n aw.c,.func (.func 109) #[] #[]] 266 (0,0)):=by
         have:=OH (w6.setCell (g,k) w6) (.cells #[(k:Int),.int .u32 0,.slice aw.a aw.n aw.c,.func (.func 109) #[] #[]] 266)
         rwa [hYs]at this
        have Uu:∀(W9:World) (z:Y.PM),Mo (·=g) w6 W9->Y.dA W9 g ((L' g).set k (some w6.heap.size))->Y.eI W9 pb b w6 z->z=Y.dL ps F k ⟨event,after,delay,dest,aw⟩->∃n M L,Y.Tab W9 pb b ps.length mb n (Y.ep ps F (Y.ef ps F V k) k (V k) (j+1)) M L/\n<=k*30000+(j+1)/\(∀ev g,M ev=some g->w1.heap.size<=g)/\Mo (·=mb) w1 W9:=fun W9 z X3 hr9 hz hze=>by
         have hkd9:Kd (fun t=>t=263) w6 W9:=gO X3 (fun i c t f hi hc=>by rw[hi,show w6.heap[g]?=_ from Yw]at hc;simp at hc;exact hc.2.1.symm);have:=HT6.out.set YX hkN (OD rfl) z hkd9 X3 hr9 hz;refine⟨n',M',fun y=>if y=g then(L' g).set k (some w6.heap.size) else L' y,?_,hnB,hlo',Yx.trans' X3 (fun i hi e=>by have:=hlo' event g YX;omega)⟩;rw[HN.out,<- hze];have e2:(fun y=>if y=event then some (rowP.set k (some z)) else(fun x=>if x=event then some rowP else T x) y)=fun e=>if e=event then some (rowP.set k (some z)) else T e:=by
          funext y;by_cases hy:y=event
          ·rw[OD hy,OD hy]
          ·rw[OB hy,OB hy];exact OB hy
         rw[<- e2];exact this
        clear Zq XB HT6 Yw s6 hB7 UA hY hYs
        go_upto_if 66 with fail
        obtain⟨W7,hW7⟩:∃W,((w6.setCell (g,k) w6).alloc (.cells #[(k:Int),.int .u32 0,.slice aw.a aw.n aw.c,.func (.func 109) #[] #[]] 266))=W:=⟨_,rfl⟩;rw[hW7]at m3 hR7 Y2 hq7⊢;have hglo:=hlo' event g YX;have ZN:w1.heap.size<=w6.heap.size:=Yx.size;clear hW7 cmA fzA fz m4 cm;by_cases hde:dest.toList.isEmpty=true
        ·have hdb:(!dest.toList.isEmpty)=false:=by rw[hde];rfl
         rw[hdb];have Ww:=Uu W7 ⟨k,0,aw,.nil⟩ Y2 hR7 ⟨_,hq7,rfl⟩ (by unfold Y.dL;rw[OD hde]);have HRES:Hid _:=Ww;clear Uu Ww m3 hR7 Y2 hq7;go_wp2_with fail
         go_roundg ((V k).length-(j+1))
         case measure=>omega
         case rel=>
          obtain⟨n2,M2,L2,r1,r2,r3,r4⟩:=HRES.out;exact⟨j+1,rfl,zaa,zag,n2,M2,L2,r1,r2,r3,r4⟩
        ·have hde:dest.toList.isEmpty=false:=by simpa using hde
         have hdb:(!dest.toList.isEmpty)=true:=by rw[hde];rfl
         rw[hdb];have hde1:(dest.toList == [])=false:=by
          cases hz:dest.toList with
          |nil=>rw[hz]at hde;cases hde
          |cons=>rfl
         obtain⟨d,hFd,hdN⟩:=he3 hde;rw[HF.out]at hFd;obtain⟨p,hp⟩:∃p,ps[k]?=some p:=⟨_,Ou hkN⟩;obtain⟨pd,Xp⟩:∃p,ps[d]?=some p:=⟨_,Ou hdN⟩;have hw01:=YY.out.size;have WH:Mo (·=mb) w1 W7:=Yx.trans' Y2 (fun i hi e=>zaa);have hmbw:mb<w.heap.size:=HM.out.lt;obtain⟨es0,clock0,hmb0⟩:=HM.out.kind;have ZP:b≠mb:=HBK.out;have X4:pb≠mb:=by
          exact zeT
         have hgmb:1≠mb:=by
          obtain⟨c,t,fz,hc⟩:=HGK.out;intro e;rw[e,hmb0]at hc;cases hc
         have VW:=HP.out.below YY.out T8 hb;have hP7:Y.cd W7.drew pb b cap ps:=(VW.mo WH zaa zaa X4 ZP).below ((Oy W7 W7).drew) (by have:=WH.size;omega) (by have:=WH.size;omega);have hT7:TabAt 1 Lib.deBruijn32tab W7.drew:=WH.kpT zaa hgmb (Y.KpT.of YY.out hg HT.out);have hs7:=WH.size;have hI7:Y.jt W7.drew w X.length F:=HI1.out.mo (jB WH) zaa;have WI:=hI7.look he2 hFd;have UO:=HGD.out;have hand:∀{x y:Nat},x<2 ^ ps.length->x&&&y<2 ^ ps.length:=fun h=>Pm Qi h;have hlead:=IA W7.drew pb b cap ps k d w6 p pd 0 (.slice aw.a aw.n aw.c) (.func (.func 109) #[] #[]) hp Xp (fun i hi=>Y.xM (hand (UO k p hp).2.2.1) hi) (fun i hi=>Y.xM (Po (hand (UO d pd Xp).2.2.1) (UO d pd Xp).2.2.2) hi) (fun i q hq jj hj=>Y.xM (UO i q hq).1 hj) hP7 (by show pb<W7.heap.size;omega) (by show b<W7.heap.size;omega) zaa zaa (by show _<W7.heap.size;omega) zaa hT7 hq7;have Ww:∀(W9:World) (fv':Value),Mo (·=w6.heap.size) W7.drew W9->W9.heap[w6.heap.size]?=some (.cells #[(k:Int),.int .u32 (Y.dom ps k d),.slice aw.a aw.n aw.c,fv'] 266 (0,0))->Y.uB W9 pb b (Y.fD ps k d) fv'->_:=fun W9 fv' h1 h2 h3=>Uu W9 ⟨k,Y.dom ps k d,aw,Y.fD ps k d⟩ ((jB Y2).trans' h1 (fun i hi e=>zaa)) ((h1.block g (show g<W7.heap.size from hR7.lt) zaa).trans hR7) ⟨fv',h2,h3⟩ (by unfold Y.dL;rw[OB (by rw[hde];decide)];dsimp only;rw[hFd]);have HRES:Hid _:=Ww;have cq:W7.cell? (g,k)=some ↑w6:=hR7.cell (m:=some w6.heap.size) (OR zaa);clear Uu Ww UO hand hI7 hT7 hP7 VW hR7 Y2 hq7 he3
         go_upto_region 16 with fail
         refine fa 9 zab zab ?_;simp only[List.take_succ_cons,List.take_zero,List.drop_succ_cons,List.drop_zero]
         repeat still_step
         refine P8 ?_;go_wp2_with(go_at_call 110;refine hlead.mono ?_;intro e w8 hL8;obtain⟨rfl,hm8,fv',hq8,hen8⟩:=hL8)
         go_roundg ((V k).length-(j+1))
         case measure=>omega
         case rel=>
          obtain⟨n2,M2,L2,r1,r2,r3,r4⟩:=HRES.out w8 fv' hm8 hq8 hen8;exact⟨j+1,rfl,zaa,zag,n2,M2,L2,r1,r2,r3,r4⟩
      ·obtain rfl:j=(V k).length:=zaa;go_wp2
       go_roundg (X.length-(k+1))
       case measure=>omega
       case rel=>exact⟨k+1,rfl,zaa,zag,n,M,L,U3,by have:=hVk;rw[S7];omega,TT,Uh⟩
    ·obtain rfl:k=X.length:=zaa;obtain⟨D,hD,hMD⟩:=U3.map;obtain⟨w2,hw2⟩:∃W,wr=W:=⟨_,rfl⟩;rw[hw2]at U3 Uh hD⊢;have hs2:=Uh.size;have hw01:=YY.out.size;have hmbw:mb<w.heap.size:=HM.out.lt;have h3:w2.cell? (pb,3)=some (.map (some mb)):=by
      have h1:=(YY.out.block pb T8).trans HB.out;rw[OA _ _ _ _ _ _ (((HKD.out _ Uh).aq _ _ _ _ h1 (fun h=>h)).trans h1)];rfl
     have Y3:Hid (Y.Tab w2 pb b ps.length mb n (Y.ef ps F V X.length) M L):=U3;have HMD:Hid (∀ev,match M ev with|none=>Go.Maps.has D (Y.ky ev)=false|some g=>Go.Maps.has D (Y.ky ev)=true/\∀z,D.atKey (Y.ky ev) z=.lit (.int .i64 g)):=hMD;have HMO:Hid (Mo (·=mb) w1 w2):=Uh;clear U3 hMD Uh UC YZ hk hn hw2;go_wp2_with(first
      |(refine wpList_range_own _ rfl (.tmp 82) 183 rfl 9 261 Y.Ft underlying183 (Y.pq ps.length) mb n D rfl hD ?_;intro w3 Xo hg3 Wv)
      |fail)
     simp only[Act.put,List.setIfInBounds_toArray,List.set_cons_succ,List.set_cons_zero];have hm3:Mo (fun j=>∃ev,M ev=some j) w2 w3:=⟨hg3.os,hg3.tape,hg3.output,hg3.size,fun j hj _=>hg3.block j hj zad⟩;have HR3:Hid (∀ev g,M ev=some g->g<w2.heap.size/\(L g).length=ps.length):=fun ev g h=>⟨(Y3.out.row ev g h).1.lt,(Y3.out.row ev g h).2.1⟩;have hr3:∀ev g,M ev=some g->Y.dA w3 g (if Go.Maps.has D (Y.ky ev) then L g else Y.cA ps (L g) ps.length):=fun ev g h=>by
      have h1:=HMD.out ev;rw[h]at h1;rw[OD h1.1];have h2:=(Y3.out.row ev g h).1;exact(hg3.block g h2.lt zad).trans h2
     have HRG:Hid (w3.ranges prog 9 (Y.pq ps.length) mb w2 n D (Go.Maps.has D) (Go.Maps.size D)):=Xo;have XD:Hid (∀ev g,M ev=some g->Y.dA w3 g (if Go.Maps.has D (Y.ky ev) then L g else Y.cA ps (L g) ps.length)):=hr3;have HM3:Hid (Mo (fun j=>∃ev,M ev=some j) w2 w3):=hm3;clear Xo hr3 hm3 hg3 h3 hD
     go_loopg[13] (Go.Maps.size D) (fun q _ wr=>∃left,wr.ranges prog 9 (Y.pq ps.length) mb w2 n D left q/\(∀kl,left kl=true->Go.Maps.has D kl=true)/\(∀ev g,M ev=some g->Y.dA wr g (if left (Y.ky ev) then L g else Y.cA ps (L g) ps.length))/\Mo (fun j=>∃ev,M ev=some j) w2 wr)
     case atStart=>exact⟨_,HRG.out,fun _ h=>h,XD.out,HM3.out⟩
     case round=>
      obtain⟨left,Xo,hle,hrows,Uh⟩:=hrel;have HRG:Hid (wr.ranges prog 9 (Y.pq ps.length) mb w2 n D left gk):=Xo;have HRW:Hid (∀ev g,M ev=some g->Y.dA wr g (if left (Y.ky ev) then L g else Y.cA ps (L g) ps.length)):=hrows;have YV:Hid (∀kl,left kl=true->Go.Maps.has D kl=true):=hle;have HMW:Hid (Mo (fun j=>∃ev,M ev=some j) w2 wr):=Uh;clear hrows hle Uh XD HM3;go_wp2_with(first
       |(refine wpList_next_ranges _ rfl (.tmp 83) rfl 9 Y.Ft (Y.pq ps.length) id id (fun key _ _=>⟨key,rfl⟩) (fun v _ _=>⟨v,rfl⟩) mb w2.heap.size n D left gk rfl Xo ?_ ?_)
       |fail)
      case refine_1=>
       intro h0 Vs;have HALL:Hid (∀kl,left kl=false):=Vs;clear Vs h0 Xo;go_wp2;go_end0;refine⟨rfl,?_⟩;unfold Y.Mg;rw[HF.out];refine⟨⟨n,M,_,Y3.out.MU ps ⟨D,HRG.out.owns,HMD.out⟩ HMW.out (fun ev g h=>?_),Y3.out.once ps HMW.out⟩,?_⟩
       ·have:=HRW.out ev g h;rw[HALL.out,OB zac]at this;exact this
       ·exact(az YY.out).trans' (HMO.out.trans' HMW.out (fun i hi he=>zcz)) (fun i _ e=>e)
      case refine_2=>
       intro x c kl y ys w4 cnt' WU WG hv Uy hrg4 TX Vk T6 hen;obtain⟨s,rfl,rfl⟩:=Y.Ip WU;have hMs:=HMD.out s;cases Yy:M s with
       |none=>
        rw[Yy]at hMs;have h1:=YV.out _ WG;rw[show Go.Maps.has D (Y.ky s)=false from hMs]at h1;cases h1
       |some g=>
        rw[Yy]at hMs;have hy:y=.lit (.int .i64 g):=(Uy (.lit (.int .i64 0))).symm.trans (hMs.2 _);rw[hy]at hv;have hc:=Y.AS hv;rw[hc]at hen⊢;obtain⟨hg2,Yt⟩:=HR3.out s g Yy;have hglo:=TT s g Yy;have hrow4:Y.dA w4 g (L g):=by
         have h1:=HRW.out s g Yy;rw[WG,OD rfl]at h1;exact(Vk.block g (by have:=HMW.out.size;omega) zae).trans h1
        obtain⟨es0,clock0,hmb0⟩:=HM.out.kind;have ZP:b≠mb:=HBK.out;have X4:pb≠mb:=by
         exact zeT
        have hm4:Mo (·=w2.heap.size) wr w4:=⟨Vk.os,Vk.tape,Vk.output,Vk.size,fun j hj hn=>Vk.block j hj (fun e=>hn zba)⟩;have hmr:=HMW.out.size;have ZQ:Mo (·=mb) w1 w4:=(HMO.out.trans' HMW.out (fun i hi he=>zcz)).trans' hm4 (fun i hi e=>zaa);have V4:Y.cd w4 pb b cap ps:=(HP.out.below YY.out T8 hb).mo ZQ zaa zaa X4 ZP;have hs14:=ZQ.size;have hho:=p6 w4 pb b cap ps g (L g) Yt HOW.out V4 zaa zaa zaa zaa hrow4;have X5:Hid (∀w5,Y.dA w5 g (Y.cA ps (L g) ps.length)->Mo (·=g) w4 w5->∃left,w5.ranges prog 9 (Y.pq ps.length) mb w2 n D left cnt'/\(∀kl,left kl=true->Go.Maps.has D kl=true)/\(∀ev g,M ev=some g->Y.dA w5 g (if left (Y.ky ev) then L g else Y.cA ps (L g) ps.length))/\Mo (fun j=>∃ev,M ev=some j) w2 w5):=fun w5 hr5 hm5=>by
         refine⟨fun z=>left z&&!z.sameKey (Y.ky s),hrg4.kept (row:=some g) ⟨hm5.os,hm5.tape,hm5.output,hm5.size,fun j hj hn=>hm5.block j hj (fun e=>hn (by rw[e]))⟩ zae zae,fun kl h=>YV.out kl (by simp at h;exact h.1),fun ev g' VQ=>?_,?_⟩
         ·by_cases he:ev=s
          ·rw[he]at VQ⊢;rw[Yy]at VQ;cases VQ
           rw[OB (by show ¬(left (Y.ky s)&&!(Y.ky s).sameKey (Y.ky s))=true;rw[Y.KQ];simp)];exact hr5
          ·have hgg:g'≠g:=fun e=>he (Y3.out.inj ev s g (by rw[<- e];exact VQ) Yy);have h1:=HRW.out ev g' VQ;have h2:=(HR3.out ev g' VQ).1;have h3:=(hm5.block g' zaa hgg).trans (Vk.block g' zaa zae);by_cases hl:left (Y.ky ev)=true
           ·rw[OD hl]at h1;rw[OD (by show(left (Y.ky ev)&&!(Y.ky ev).sameKey (Y.ky s))=true;rw[Y.D7 he,hl];rfl)];exact h3.trans h1
           ·rw[OB hl]at h1;rw[OB (by show ¬(left (Y.ky ev)&&!(Y.ky ev).sameKey (Y.ky s))=true;rw[Y.D7 he];simpa using hl)];exact h3.trans h1
         ·exact(HMW.out.trans' hm4 (fun i hi e=>zaa)).trans' hm5 (fun i _ e=>⟨s,by rw[e];exact Yy⟩)
        clear Xo hrg4 WU hv Uy hc V4 hrow4 ZQ hm4 Vk hMs hy;go_wp2_with(go_at_call 111;refine hho.mono ?_;intro e w5 h5;obtain⟨rfl,hr5,hm5⟩:=h5)
        go_roundg cnt'
        case measure=>exact TX
        case rel=>exact X5.out w5 hr5 hm5
namespace Y
def zPS:PS:={ kind:=0,name:=⟨#[]⟩,done:=⟨#[]⟩,owner:=0,parts:=0,inside:=0,around:=0,wth:=0,enter:=⟨none,0,0⟩,leave:=⟨none,0,0⟩ }
def a8(X:List MS):Nat->List PS
 |0=>List.replicate X.length zPS
 |k+1=>match X[k]? with|some x=>jI (a8 X k) k x|none=>a8 X k
def bn(X:List MS):Nat->Nat
 |0=>0
 |k+1=>match X[k]? with|some x=>rX (bn X k) k x|none=>bn X k
def cX(ps:List PS):Nat->List PS
 |0=>ps
 |k+1=>aX (cX ps k) (ps.length-1-k)
theorem cV(X:List MS):∀k,(a8 X k).length=X.length
 |0=>by simp[a8]
 |k+1=>by
  rw[a8];split
  ·rw[GK,cV X k]
  ·exact cV X k
theorem yS(ps:List PS)(i:Nat):(aX ps i).length=ps.length:=by
 unfold aX;split
 ·rfl
 ·split
  ·simp
  ·split<;>simp
theorem ku(ps:List PS):∀k,(cX ps k).length=ps.length
 |0=>rfl
 |k+1=>by rw[cX,yS,ku ps k]
def de(N:Nat)(ps:List PS):Prop:=∀(i:Nat) (p:PS),ps[i]?=some p->p.parts<2 ^ N/\p.inside<2 ^ N/\p.around<2 ^ N/\p.wth<2 ^ N
theorem de.sms(h:de N ps)(hN:N<=24):Sms ps:=fun i p hi=>by
 have h2:2 ^ N<=2 ^ 24:=PX zac hN;obtain⟨a,b,c,d⟩:=h i p hi;exact⟨zaa,zaa,zaa,zaa⟩
theorem de.set(h:de N ps)(i:Nat)(p:PS)(hp:p.parts<2 ^ N/\p.inside<2 ^ N/\p.around<2 ^ N/\p.wth<2 ^ N):de N (ps.set i p):=fun j q hq=>by
 by_cases e:i=j
 ·subst e;have hl:i<ps.length:=by have:=(Oz.1 hq).1;simpa using this
  rw[OR hl]at hq;cases hq
  exact hp
 ·rw[OU e]at hq;exact h j q hq
theorem gI(h:i<N):2 ^ i<2 ^ N:=QM zac h
theorem dS(N:Nat):0<2 ^ N:=PU N
theorem vq(h:de N ps)(hi:i<N)(x:MS)(ho:x.owner=-1\/∃o:Nat,x.owner=o/\o<i):de N (jI ps i x):=by
 have hz:=dS N;unfold jI;split
 ·exact h.set _ _ ⟨hz,hz,hz,hz⟩
 ·rename_i hn;obtain⟨o,ho,hoi⟩:∃o:Nat,x.owner=o/\o<i:=by
   exact zeQ
  split
  ·exact h
  ·rename_i q hq;obtain⟨a,b,c,d⟩:=h _ q hq;have Wo:x.owner.toNat=o:=zaD;refine de.set ?_ _ _ ⟨hz,hz,Po c (by rw[Wo];exact gI zaa),hz⟩;split
   ·exact h
   ·exact h.set _ _ ⟨Po a (gI hi),b,c,d⟩
theorem kA(h:de N ps)(i:Nat):bW ps i<2 ^ N:=by
 unfold bW;split
 ·rename_i p hp;exact(h i p hp).2.2.2
 ·exact dS N
theorem AG{N:Nat}{ps:List PS}(h:de N ps):∀(l:List Nat) (o:Nat),o<2 ^ N->orW ps o l<2 ^ N
 |[],_,ho=>ho
 |k::l,_,ho=>AG h l _ (Po ho (kA h k))
theorem nB(h:de N ps)(hi:i<N):de N (aX ps i):=by
 unfold aX;split
 ·exact h
 ·rename_i p hp;obtain⟨a,b,c,d⟩:=h i p hp;have h1:de N (ps.set i { p with wth:=gG ps i p }):=h.set _ _ ⟨a,b,c,AG h _ _ (gI hi)⟩;split
  ·exact h1
  ·split
   ·exact h1
   ·rename_i q hq;obtain⟨a',b',c',d'⟩:=h _ q hq;exact h1.set _ _ ⟨a',Po b' (Po b (gI hi)),c',d'⟩
theorem nL(X:List MS){N:Nat}(hN:X.length<=N):∀k,k<=N->bn X k<2 ^ N
 |0,_=>dS N
 |k+1,hk=>by
  rw[bn];have ih:=nL X hN k zaa;split
  ·unfold rX;split
   ·exact Po ih (gI zaa)
   ·exact ih
  ·exact ih
structure Ord(X:List MS)(k:Nat)(ps:List PS):Prop where
 own:∀(i:Nat) (p:PS) (x:MS),i<k->ps[i]?=some p->X[i]?=some x->p.owner=x.owner/\p.kind=x.kind
 part:∀(i:Nat) (p:PS),ps[i]?=some p->∀j∈els p.parts,i<j/\j<k
theorem MH{a j:Nat}(h:j∈els (a|||2 ^ i)):j∈els a\/j=i:=by
 obtain⟨h1,h2⟩:=cC.1 h;rw[Rs]at h2;by_cases e:j=i
 ·exact .inr e
 ·rw[Nat.testBit_two_pow_of_ne (fun x=>e x.symm),Sr]at h2;exact .inl (cC.2 ⟨h1,h2⟩)
theorem zi(h:Ord X k ps)(hl:k<ps.length){x:MS}(hx:X[k]?=some x)(ho:x.owner=-1\/∃o:Nat,x.owner=o/\o<k):Ord X (k+1) (jI ps k x):=by
 have hz:∀j,j ∉ els 0:=fun j hj=>by rw[lR]at hj;cases hj
 have T4:∀(qs:List PS) (ar:Nat),qs.length=ps.length->(∀(i:Nat) (p:PS) (y:MS),i<k->qs[i]?=some p->X[i]?=some y->p.owner=y.owner/\p.kind=y.kind)->(∀(i:Nat) (p:PS),qs[i]?=some p->∀j∈els p.parts,i<j/\j<k+1)->Ord X (k+1) (qs.set k (l7 x ar)):=fun qs ar WJ h1 h2=>by
  refine⟨fun i p y hi hp hy=>?_,fun i p hp j hj=>?_⟩
  ·by_cases e:k=i
   ·subst e;rw[OR zaa]at hp;rw[hx]at hy;cases hp;cases hy
    exact⟨rfl,rfl⟩
   ·rw[OU e]at hp;exact h1 i p y zaa hp hy
  ·by_cases e:k=i
   ·subst e;rw[OR zaa]at hp;cases hp
    exact absurd hj (hz j)
   ·rw[OU e]at hp;exact h2 i p hp j hj
 have hpp:∀(i:Nat) (p:PS),ps[i]?=some p->∀j∈els p.parts,i<j/\j<k+1:=fun i p hp j hj=>by have:=h.part i p hp j hj;omega
 unfold jI;split
 ·exact T4 ps 0 rfl (fun i p y hi hp hy=>h.own i p y hi hp hy) hpp
 ·rename_i hn;obtain⟨o,ho,hoi⟩:∃o:Nat,x.owner=o/\o<k:=by
   exact zeQ
  have Wo:x.owner.toNat=o:=zaD;rw[Wo];split
  ·rename_i hq;rw[Ou zaa]at hq;cases hq
  ·rename_i q hq;split
   ·exact T4 ps _ rfl (fun i p y hi hp hy=>h.own i p y hi hp hy) hpp
   ·refine T4 _ _ zad (fun i p y hi hp hy=>?_) (fun i p hp j hj=>?_)
    ·by_cases e:o=i
     ·subst e;rw[OR zaa]at hp;cases hp
      exact h.own o q y hi hq hy
     ·rw[OU e]at hp;exact h.own i p y hi hp hy
    ·by_cases e:o=i
     ·subst e;rw[OR zaa]at hp;cases hp
      rcases MH hj with h1|h1
      ·have:=h.part o q hq j h1;omega
      ·omega
     ·rw[OU e]at hp;exact hpp i p hp j hj
theorem pH(h:Ord X k ps):Ord X k (aX ps i):=by
 have T4:∀(qs:List PS),Ord X k qs->∀(j:Nat) (p p':PS),qs[j]?=some p->p'.owner=p.owner->p'.kind=p.kind->p'.parts=p.parts->Ord X k (qs.set j p'):=fun qs hq j p p' hp e1 e2 e3=>by
  have hjl:=(Oz.1 hp).1;refine⟨fun a q y ha Zr hy=>?_,fun a q Zr b hb=>?_⟩
  ·by_cases e:j=a
   ·subst e;rw[OR hjl]at Zr;cases Zr
    rw[e1,e2];exact hq.own j p y ha hp hy
   ·rw[OU e]at Zr;exact hq.own a q y ha Zr hy
  ·by_cases e:j=a
   ·subst e;rw[OR hjl]at Zr;cases Zr
    rw[e3]at hb;exact hq.part j p hp b hb
   ·rw[OU e]at Zr;exact hq.part a q Zr b hb
 unfold aX;split
 ·exact h
 ·rename_i p hp;have h1:=T4 ps h i p { p with wth:=gG ps i p } hp rfl rfl rfl;split
  ·exact h1
  ·split
   ·exact h1
   ·rename_i q hq;by_cases e:i=p.owner.toNat
    ·rw[<- e]at hq⊢;rw[hp]at hq;cases hq
     rw[RR];exact T4 ps h i p _ hp rfl rfl rfl
    ·exact T4 _ h1 _ q _ (by rw[OU e];exact hq) rfl rfl rfl
