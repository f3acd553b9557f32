import Derived.Test.YtibbecdlllchkaaGreatDoorM02
import Derived.Deep.AppendLies
set_option maxRecDepth 100000
set_option maxHeartbeats 8000000
namespace Go.Proofs.YtibbecdlllchkaaGreatDoor
variable {zp:Prop}
theorem zc3(h:zp:=by
 go_wp2_with(first
  |(refine QA rfl 183 (.tmp 14) rfl b (k*10) rfl _ _ Va underlying183 rfl eG ?_)
  |(refine hst rfl rfl rfl rfl ?_)
  |fail)
 go_roundg (ps.length-(k+1))
 case measure=>omega
 case rel=>exact⟨k+1,rfl,zaa,zah,by rw[HN.out];exact X5,VV⟩):zp:=h
theorem zem(h:zp:=by
 clear h4;go_wp2_with fail;go_meet
 case rel=>exact⟨rfl,_,_,rfl,hK4⟩):zp:=h
theorem zeD(h:zp:=by
 rcases ho with h|h
 ·rw[h]at hn;exact absurd rfl hn
 ·exact h):zp:=h
theorem zeG(h:zp:=by
 intro e;have h1:w.heap[pb]?=_:=HB.out;rw[e,hmb0]at h1;cases h1):zp:=h
theorem zeT(h:zp:=by
 go_enter func110,ntmps110;go_wp2;go_ret;exact VH _ rfl):zp:=h
theorem za8(h:zp:=by cases e;rfl):zp:=h
theorem zbh(h:zp:=by rw[Pt w _ _ _ _ _ hB];rfl):zp:=h
theorem zbB(h:zp:=by rintro t (rfl|rfl|rfl|rfl|rfl)<;>decide):zp:=h
theorem zcz(h:zp:=by obtain⟨ev,he⟩:=he;have:=U8 ev i he;omega):zp:=h
open Tryz
variable {E:TypeId->Prop}{A B W W':World}{P:Nat->Prop}{F M:()->Option Nat}{k n g pb N b mb i ib cb cg cc:Nat}{t:TypeId}{v:Value}{ps:List Y.PS}{ev nm:()}{L:Nat->List (Option Nat)}{X:List Y.MS}
section
open Go.RowKit Go.Proofs Go.Shelf
structure Kd(E:TypeId->Prop)(W W':World):Prop where
 size:W.heap.size<=W'.heap.size
 aq:∀(k:Nat) (c:Array Value) (t:TypeId) (f:Nat×Nat),W.heap[k]?=some (.cells c t f)->¬E t->W'.heap[k]?=W.heap[k]?
theorem Kd.trans{C:World}(h:Kd E A B)(k:Kd E B C):Kd E A C:=⟨Pr h.size k.size,fun i c t f hi hn=>by rw[k.aq i c t f ((h.aq i c t f hi hn).trans hi) hn,h.aq i c t f hi hn]⟩
theorem bB(h:Below A A B):Kd E A B:=⟨h.size,fun k _ _ _ hk _=>h.block k (Pn.1 hk).1⟩
theorem gS(h:Mo P A B)(hP:∀(k:Nat) (c:Array Value) (t:TypeId) (f:Nat×Nat),P k->A.heap[k]?=some (.cells c t f)->E t):Kd E A B:=⟨h.size,fun k c t f hk hn=>h.block k (Pn.1 hk).1 (fun hp=>hn (hP k c t f hp hk))⟩
theorem Kd.mono{F:TypeId->Prop}(h:Kd E A B)(hE:∀t,E t->F t):Kd F A B:=⟨h.size,fun k c t f hk hn=>h.aq k c t f hk (fun he=>hn (hE t he))⟩
theorem Kd.boxed(h:Kd E A B)(hb:Boxed A k t v)(hn:¬E t):Boxed B k t v:=(h.aq k _ _ _ hb hn).trans hb
theorem JY{w:World}{base size:Nat}{e:TypeId}{xs:List Value}{c:Array Value}{fz:Nat×Nat}(h:w.ownsRow base e size v n xs)(hg:w.heap[g]?=some (.cells c t fz))(U9:t≠e):v.ownBlock≠some g:=by
 rcases h.2 with⟨h0,_⟩|⟨k,cap,cur,hv,_,hk,_⟩
 ·rw[h0];intro e;cases e
 ·rw[hv];intro e;have e:k=g:=za8;rw[e,hg]at hk;simp at hk;exact U9 hk.2.1
namespace Y
structure HV where
 idx:Nat
 own:Nat
 aq:Value
def HV.cells(h:HV):List Value:=[(h.idx:Int),(h.own:Int),h.aq]
def k8(W:World)(pb:Nat)(deep:Bool)(po:PS)(v:Value):Prop:=
 ∃c,W.heap[c]?=some (.cells po.cells.toArray 183 (0,0))/\if deep then ∃d,v=.func (.func 108) #[] #[.pointer (some ⟨d,0,none⟩),.pointer (some ⟨c,0,none⟩)]/\Boxed W d 103 pb else v=.func (.func 107) #[] #[.pointer (some ⟨c,0,none⟩)]
theorem k8.kd{deep:Bool}{po:PS}(h:k8 W pb deep po v)(hk:Kd E W W')(h1:¬E 183)(h2:¬E 103):k8 W' pb deep po v:=by
 obtain⟨c,hc,h⟩:=h;refine⟨c,(hk.aq _ _ _ _ hc h1).trans hc,?_⟩;cases deep
 ·exact h
 ·obtain⟨d,hd,hb⟩:=h;exact⟨d,hd,hk.boxed hb h2⟩
def Ht(w w':World)(pb b cap:Nat)(ps:List PS)(i:Nat)(x:MS)(hv:U.Sl)(mv:Value)(fin:Nat)(H:List HV):Prop:=
 (isH x.kind=false/\Below w w w')\/(isH x.kind=true/\∃(o:Nat) (po:PS) (kv:Value) (WQ:U.Sl),x.owner=o/\ps[o]?=some po/\k8 w' pb (decide (x.kind=4)) po kv/\dB w' pb b ps.length cap (.slice WQ.a WQ.n WQ.c) fin mv/\w'.ownsRow 0 264 3 (.slice WQ.a WQ.n WQ.c) (H.length+1) ((H++[HV.mk i o kv]).flatMap HV.cells)/\Mo (fun k=>k=pb\/hv.v.ownBlock=some k) w w'/\Kd (fun t=>t=188\/t=264) w w'/\∀g,WQ.v.ownBlock=some g->hv.v.ownBlock=some g\/w.heap.size<=g)
end Y
theorem Jh:(Tryz.prog.info? 264).map (fun i=>(i.zero,i.size,i.bytes))=some (some (.agg #[(0:Int),(0:Int),.nilFunc]),3,24):=zab
theorem sB(w:World)(pb b cap:Nat)(ps:List Y.PS)(i:Nat)(x:Y.MS)(hv:U.Sl)(mv:Value)(fin:Nat)(H:List Y.HV)(hB:Y.dB w pb b ps.length cap (.slice hv.a hv.n hv.c) fin mv)(hP:Y.bH w pb b cap ps)(hb:b<w.heap.size)(hH:w.ownsRow 0 264 3 (.slice hv.a hv.n hv.c) H.length (H.flatMap Y.HV.cells))(hHl:H.length<=24)
  (how:Y.isH x.kind=true->∃(o:Nat) (po:Y.PS),x.owner=o/\ps[o]?=some po):
  () 69 #[pb,(i:Int),.agg x.arr] w fun e w'=>e=.returned (.tuple #[])/\Y.Ht w w' pb b cap ps i x hv mv fin H:=by
 have Vo:pb<w.heap.size:=(Pn.1 hB).1;have hlen:=hP.len;have U9:=hP.ne;obtain⟨kind,name,depth,owner,vp,ve,vl,vm⟩:=x;dsimp only at how;have V7:=tj kind;obtain⟨Xc,hh⟩:∃Xc,(decide (kind=3)||decide (kind=4))=Xc:=⟨_,rfl⟩;have HI:Hid (Y.isH kind=Xc):=hh;rw[hh]at V7;rw[HI.out]at how;unfold Y.MS.arr;dsimp only;have Vh:=((Pq w w).alloc (Po _) (.cells #[pb] 103)).alloc zad (.cells #[(kind:Int),name,(depth:Int),(owner:Int),.slice vp.a vp.n vp.c,.slice ve.a ve.n ve.c,.slice vl.a vl.n vl.c,.slice vm.a vm.n vm.c] 134);have c3:Boxed ((w.alloc (.cells #[pb] 103)).alloc (.cells #[(kind:Int),name,(depth:Int),(owner:Int),.slice vp.a vp.n vp.c,.slice ve.a ve.n ve.c,.slice vl.a vl.n vl.c,.slice vm.a vm.n vm.c] 134)) w.heap.size 103 pb:=(P9 w _ _).alloc _;have s5:=cA w (.cells #[pb] 103) (.cells #[(kind:Int),name,(depth:Int),(owner:Int),.slice vp.a vp.n vp.c,.slice ve.a ve.n ve.c,.slice vl.a vl.n vl.c,.slice vm.a vm.n vm.c] 134);clear hh;cases Xc
 ·go_enter func69,ntmps69;go_wp2_with(go_at_call 106;refine(V7 _).mono ?_;rintro e w9 ⟨rfl,U1⟩;rw[U1];clear U1 w9);refine Q5 (QD rfl _ _ _) rfl ?_;refine⟨rfl,?_⟩;unfold Y.Ht;exact .inl ⟨HI.out,Vh⟩
 ·obtain⟨ow,po,rfl,WZ⟩:=how rfl;have YR:ow<ps.length:=(Ps.1 WZ).1;go_enter func69,ntmps69
  go_upto_region 2 with(go_at_call 106;refine(V7 _).mono ?_;rintro e w9 ⟨rfl,U1⟩;rw[U1];clear U1 w9)
  obtain⟨W1,Vj⟩:∃W,(w.alloc (.cells #[pb] 103)).alloc (.cells #[(kind:Int),name,(depth:Int),.int .i64 (ow:Int),.slice vp.a vp.n vp.c,.slice ve.a ve.n ve.c,.slice vl.a vl.n vl.c,.slice vm.a vm.n vm.c] 134)=W:=⟨_,rfl⟩;rw[Vj]at Vh c3 s5⊢;clear Vj V7 how;have WR:=Vh.size;have Xp:=hP.below Vh Vo hb;have hpb1:pb<W1.heap.size:=zaa;have U3:b<W1.heap.size:=zaa;have h5l:w.heap.size+1<W1.heap.size:=(Pn.1 s5).1;have h53:W1.cell? (w.heap.size+1,3)=some ↑(ow:Int):=by rw[Pt W1 _ _ _ _ _ s5];rfl
  have h50:W1.cell? ↑(w.heap.size+1)=some ↑(kind:Int):=by rw[Pt W1 _ _ _ _ _ s5];rfl
  have YE:W1.rangeAt b (ow*10) po.cells:=fun j v hv=>(Xp.at' ow po WZ j v hv).1;have hBn:∀cs:Array Value,Below W1 W1 (W1.alloc (.cells cs 183)).drew:=fun cs=>((Pq _ W1).alloc (Po _) _).drew;have hone9:po.cells.toArray.all (·.oneCell')=true:=zbD;have hlen9:po.cells.length=10:=rfl;have Wu:(storeCells ⟨W1,0,none⟩ po.cells).run prog (W1.alloc (.cells #[(0:Int),.string ⟨#[]⟩,.string ⟨#[]⟩,(0:Int),.int .u32 0,.int .u32 0,.int .u32 0,.int .u32 0,.slice none 0 0,.slice none 0 0] 183)).drew=.ok () (W1.alloc (.cells po.cells.toArray 183)).drew:=run_storeCells_new (P:=prog) W1.drew 183 #[(0:Int),.string ⟨#[]⟩,.string ⟨#[]⟩,(0:Int),.int .u32 0,.int .u32 0,.int .u32 0,.int .u32 0,.slice none 0 0,.slice none 0 0] po.cells.toArray eG rfl hone9;have VO:∀V:World,Below W1 W1 V->(fun V=>V.cell? w=some ↑pb/\V.cell? pb=some (.slice b ps.length cap)/\V.cell? ⟨w.heap.size+1,3,none⟩=some ↑(ow:Int)/\V.rangeAt b (ow*10) po.cells) V:=fun V VK=>⟨(VK.cell (p:=w) c3.lt).trans c3.cell,(VK.cell (p:=pb) hpb1).trans Xp.row,(VK.cell (p:=⟨w.heap.size+1,3,none⟩) h5l).trans h53,fun j v hv=>(VK.cell (p:=⟨b,ow*10+j,none⟩) U3).trans (YE j v hv)⟩;refine PJ (S:=(fun V=>V.cell? w=some ↑pb/\V.cell? pb=some (.slice b ps.length cap)/\V.cell? ⟨w.heap.size+1,3,none⟩=some ↑(ow:Int)/\V.rangeAt b (ow*10) po.cells)) zab (VO _ (Pq _ W1).drew) (fun Pm=>?_);refine tH 0 pb rfl Pm ?_;refine tH 1 pb rfl Pm ?_;refine tH 2 pb rfl Pm ?_;refine tH 3 (.slice b ps.length cap) rfl Pm ?_;refine tH 4 (w.heap.size+1,3) rfl Pm ?_;refine tH 5 (.int .i64 ow) rfl Pm ?_;refine tH 6 (b,ow*10) rfl Pm ?_;refine RS (i:=7) (v:=(.agg po.cells.toArray)) rfl zab zab zab (fun _ _ _ h=>h) (yieldsIf_load_mid rfl 183 (.tmp 18) rfl b (ow*10) rfl po.cells _ (fun w VF=>VF.2.2.2) underlying183 rfl eG) Pm ?_;refine zH 8 rfl fun K hK=>?_;go_simp;refine hK.out _ _ (VO _ (hBn _)) (fun Pm=>?_);clear hK K;refine zH 9 rfl fun K hK=>?_;go_simp;refine hK.out _ _ (VO _ (hBn _)) (fun Pm=>?_);clear hK K Pm;refine PX zab ?_ _;have V6:=hBn po.cells.toArray;have s6:(W1.alloc (.cells po.cells.toArray 183)).drew.heap[W1.heap.size]?=some (.cells po.cells.toArray 183 (0,0)):=PG W1 _;obtain⟨B6,YG⟩:∃B,W1.heap.size=B:=⟨_,rfl⟩;obtain⟨W2,Yh⟩:∃W,(W1.alloc (.cells po.cells.toArray 183)).drew=W:=⟨_,rfl⟩;have Zr:Below w w (W1.alloc (.cells po.cells.toArray 183)).drew:=Vh.trans (V6.mono WR);have c3:=aD c3 V6 c3.lt;have HS5:Hid (∃c,(W1.alloc (.cells po.cells.toArray 183)).drew.heap[w.heap.size+1]?=some (.cells c 134 (0,0))/\c[3]?=some (.int .i64 ow)):=⟨_,(V6.block _ h5l).trans s5,rfl⟩;have h53:=(V6.cell (p:=⟨w.heap.size+1,3,none⟩) h5l).trans h53;have h50:=(V6.cell (p:=↑(w.heap.size+1)) h5l).trans h50;rw[Yh]at V6 s6 Zr c3 h53 h50 HS5⊢;have hB6w:w.heap.size<=B6:=zaa;have h5l:w.heap.size+1<W2.heap.size:=PY h5l V6.size;rw[YG]at s6⊢;clear VO Wu hBn YE Xp hpb1 U3 Vh s5 WR Yh YG V6
  go_upto_if 23 with fail
  go_cut[7] from 8 (fun s7 V=>V=W2/\∃f cps,s7=.func f #[] cps/\Y.k8 W2 pb (decide (kind=4)) po (.func f #[] cps))
  case first=>
   by_cases h4:kind=4
   ·have h4':(kind == 4)=true:=by rw[h4];rfl
    have hK4:Y.k8 W2 pb (decide (kind=4)) po (.func (.func 108) #[] #[w,B6]):=by rw[h4];exact⟨B6,s6,_,rfl,c3⟩
    exact zem
   ·have h4':(kind == 4)=false:=by simpa using h4
    have hK4:Y.k8 W2 pb (decide (kind=4)) po (.func (.func 107) #[] #[B6]):=by rw[Ql h4];exact⟨B6,s6,rfl⟩
    exact zem
  case rest=>
   obtain⟨rfl,f,cps,rfl,hKA⟩:=hcut;obtain⟨i0,hi,Vv,Vk,Vl⟩:=QV Jh;have hPBc:=(Zr.block pb Vo).trans hB;have hp1:wc.cell? (pb,1)=some (.slice hv.a hv.n hv.c):=by rw[Pt wc _ _ _ _ _ hPBc];rfl
   have hpbl:pb<wc.heap.size:=(Pn.1 hPBc).1;have hp1a:∀o:Obj,(wc.alloc o).cell? (pb,1)=some (.slice hv.a hv.n hv.c):=fun o=>(((Pq wc wc).alloc (Po _) o).cell (p:=⟨pb,1,none⟩) hpbl).trans hp1;have U2:=(az (P:=fun _=>False) Zr).own hH (fun _ _ h=>h);have hBn:∀cs:Array Value,Below wc wc (wc.alloc (.cells cs 264)).drew:=fun cs=>((Pq _ wc).alloc (Po _) _).drew;have hownA:(wc.alloc (.cells #[(i:Int),(ow:Int),.func f #[] cps] 264)).drew.ownsRow 0 264 3 (.slice hv.a hv.n hv.c) H.length (H.flatMap Y.HV.cells):=RK U2 _;have hnk:∀u∈[Value.int .i64 (i:Int),.int .i64 (ow:Int),.func f #[] cps],u.oneCell'=true:=by
    intro u hu;simp at hu
    rcases hu with rfl|rfl|rfl
    ·rfl
    ·rfl
    ·rfl
   have Vu:wc.heap.size<(wc.alloc (.cells #[(i:Int),(ow:Int),.func f #[] cps] 264)).heap.size:=zad;have hBn0:=hBn #[(i:Int),(ow:Int),.func f #[] cps];have Wv:∀w5,(wc.alloc (.cells #[(i:Int),(ow:Int),.func f #[] cps] 264)).drew.grownBy w5 (Value.ownBlock (.slice hv.a hv.n hv.c))->(∀(k:Nat) (c:Array Value) (t:TypeId) (fz:Nat×Nat),wc.heap[k]?=some (.cells c t fz)->t≠264->w5.heap[k]?=some (.cells c t fz)):=fun w5 hg k c t fz hk U9=>by
    have WN:=(Pn.1 hk).1;have h0:=(hBn0.block k WN).trans hk;rw[hg.block k (PY WN hBn0.size) (fun e=>JY U2 hk U9 e.symm)];exact h0
   have s5c:∃c,wc.heap[w.heap.size+1]?=some (.cells c 134 (0,0))/\c[3]?=some (.int .i64 ow):=HS5.out;have hg3:=fun w5 hg=>(Wv w5 hg _ _ _ _ c3 zac);have hgS:∀w5,(wc.alloc (.cells #[(i:Int),(ow:Int),.func f #[] cps] 264)).drew.grownBy w5 (Value.ownBlock (.slice hv.a hv.n hv.c))->(w5.cell? w=some ↑pb/\w5.cell? ⟨w.heap.size+1,3,none⟩=some ↑(ow:Int))/\w5.cell? ⟨pb,1,none⟩=some (.slice hv.a hv.n hv.c)/\w5.frozen? ⟨pb,1,none⟩=false:=fun w5 hg=>by
    obtain⟨c,hc,hc3⟩:=s5c;have hq:=Wv w5 hg _ _ _ _ hPBc zac;refine⟨⟨(show Boxed w5 w _ _ from hg3 w5 hg).cell,?_⟩,?_,?_⟩
    ·rw[Pt w5 _ _ _ _ _ (Wv w5 hg _ _ _ _ hc zac)];exact hc3
    ·rw[Pt w5 _ _ _ _ _ hq];rfl
    ·simp[World.frozen?,hq]
   go_wp2_with fail;have VO:∀V:World,Below wc wc V->(fun V=>V.cell? w=some ↑pb/\V.cell? ⟨w.heap.size+1,3,none⟩=some ↑(ow:Int)) V:=fun V VK=>⟨(VK.cell (p:=w) c3.lt).trans c3.cell,(VK.cell (p:=⟨w.heap.size+1,3,none⟩) h5l).trans h53⟩;refine PJ (S:=(fun V=>V.cell? w=some ↑pb/\V.cell? ⟨w.heap.size+1,3,none⟩=some ↑(ow:Int))) zab (VO _ (Pq _ wc).drew) (fun Pm=>?_);refine tH 0 pb rfl Pm ?_;refine tH 1 pb rfl Pm ?_;refine tH 2 pb rfl Pm ?_;refine tH 3 (pb,1) rfl Pm ?_;refine tH 5 (.int .i64 i) rfl Pm ?_;refine tH 6 (w.heap.size+1,3) rfl Pm ?_;refine tH 7 (.int .i64 ow) rfl Pm ?_;refine tH 8 (.func f #[] cps) rfl Pm ?_;refine tH 9 (.agg #[(i:Int),(ow:Int),.func f #[] cps]) rfl Pm ?_;refine yH [4,10] ?_;refine Qk rfl (fun K hK=>?rg3) (Qk rfl (fun K hK=>?rg4) QX)
   case' rg3=>
    go_simp;refine hK.out _ _ Pm (fun Pm=>?_);clear hK K;refine zH 10 rfl fun K hK=>?_;go_simp;refine hK.out _ _ (VO _ (hBn _)) (fun Pm=>?_);clear hK K;refine zH 11 rfl fun K hK=>?_;refine step_append_lies _ zae _ _ _ zae 0 264 i0 _ 3 24 underlying185 hi Vv Vk Vl rfl zac (.slice hv.a hv.n hv.c) H.length (H.flatMap Y.HV.cells) zae hownA ⟨wc,0,none⟩ 1 1 [(i:Int),(ow:Int),.func f #[] cps] zae zae (World.news_of_block (cs:=#[(i:Int),(ow:Int),.func f #[] cps]) (t:=264) (fr:=(0,0)) (PG wc _)) hnk zaa zag zaa (PK _) _ rfl ?_;intro g5 cap5 w5 U6 Pg VJ We;obtain⟨hS5,hpc,hpf⟩:=hgS w5 Pg;refine hK.out _ _ hS5 (fun Pm=>?_);clear hK K;refine tH 12 pb rfl Pm ?_;refine tH 13 (pb,1) rfl Pm ?_;refine zH 14 rfl fun K hK=>?_;go_simp;refine hK.out _ _ (by
     have e:∀(a:Addr),a≠⟨pb,1,none⟩->∀v,(w5.setCell (pb,1) v).cell? a=w5.cell? a:=fun a ha v=>aA (fun h=>ha h.symm)
     (try dsimp only at Pm);(try dsimp only)
     rw[e _ zak,e _ zak];exact Pm) (fun Pm=>?_)
    clear hK K Pm;refine PX zab ?_ _
   case' rg4=>
    go_simp;refine hK.out _ _ (VO _ (hBn _)) (fun Pm=>?_);clear hK K;refine zH 4 rfl fun K hK=>?_;go_simp;refine hK.out _ _ Pm (fun Pm=>?_);clear hK K;refine zH 11 rfl fun K hK=>?_;refine step_append_lies _ zae _ _ _ zae 0 264 i0 _ 3 24 underlying185 hi Vv Vk Vl rfl zac (.slice hv.a hv.n hv.c) H.length (H.flatMap Y.HV.cells) zae hownA ⟨wc,0,none⟩ 1 1 [(i:Int),(ow:Int),.func f #[] cps] zae zae (World.news_of_block (cs:=#[(i:Int),(ow:Int),.func f #[] cps]) (t:=264) (fr:=(0,0)) (PG wc _)) hnk zaa zag zaa (PK _) _ rfl ?_;intro g5 cap5 w5 U6 Pg VJ We;obtain⟨hS5,hpc,hpf⟩:=hgS w5 Pg;refine hK.out _ _ hS5 (fun Pm=>?_);clear hK K;refine tH 12 pb rfl Pm ?_;refine tH 13 (pb,1) rfl Pm ?_;refine zH 14 rfl fun K hK=>?_;go_simp;refine hK.out _ _ (by
     have e:∀(a:Addr),a≠⟨pb,1,none⟩->∀v,(w5.setCell (pb,1) v).cell? a=w5.cell? a:=fun a ha v=>aA (fun h=>ha h.symm)
     (try dsimp only at Pm);(try dsimp only)
     rw[e _ zak,e _ zak];exact Pm) (fun Pm=>?_)
    clear hK K Pm;refine PX zab ?_ _
   all_goals
    go_wp2_with fail;go_end0;have hq:=Wv w5 Pg _ _ _ _ hPBc zac;have hpbh:=PR w5 pb 1 _ _ (.slice g5 (H.length+1) cap5) hq;have hgp:(Value.slice g5 (H.length+1) cap5).ownBlock≠some pb:=JY U6 hq zac;have hM5:Mo (fun k=>k=pb\/hv.v.ownBlock=some k) w w5:=(az (Zr.trans (hBn0.mono Zr.size))).trans ⟨Pg.os,Pg.tape,Pg.output,Pg.size,fun k hk hn=>Pg.block k (PY hk (by simp[World.drew])) (fun e=>hn (.inr e.symm))⟩;have hKdc:Kd (fun t=>t=188\/t=264) wc (w5.setCell (pb,1) (.slice g5 (H.length+1) cap5)):=⟨Pr (Pr hBn0.size Pg.size) zad,fun k c t fz hk hn=>by
     have h1:=Wv w5 Pg k c t fz hk (fun e=>hn (.inr e));have hkpb:k≠pb:=fun e=>hn (.inl (by rw[e,show wc.heap[pb]?=_ from hPBc]at hk;simp at hk;exact hk.2.1.symm));rw[Qg w5 ⟨pb,1,none⟩ _ k hkpb,h1,hk]⟩
    have hO:(w5.setCell (pb,1) (.slice g5 (H.length+1) cap5)).ownsRow 0 264 3 (.slice g5 (H.length+1) cap5) (H.length+1) ((H++[Y.HV.mk i ow (.func f #[] cps)]).flatMap Y.HV.cells):=by
     have:=((Mo.refl (·=pb) w5).set ⟨pb,1,none⟩ (.slice g5 (H.length+1) cap5) rfl).own U6 (fun g hg e=>hgp (e▸hg));rw[Qc];exact this
    refine⟨rfl,?_⟩;unfold Y.Ht;exact .inr ⟨HI.out,ow,po,.func f #[] cps,⟨some ⟨g5,0,none⟩,H.length+1,cap5⟩,rfl,WZ,hKA.kd hKdc zac zac,hpbh,hO,hM5.set ⟨pb,1,none⟩ _ (.inl rfl),(bB Zr).trans hKdc,fun g hg=>by
     have hg:some g5=some g:=hg;cases hg
     rcases VJ with h|h
     ·exact .inl h
     ·right;rw[h];have:=Zr.size;have:=hBn0.size;omega⟩
namespace Y
def pX(N:Nat):Value->Option (DataW Nat×List MemPlace)
 |.slice (some ⟨g,0,none⟩) n c=>if n=N/\c=N then some (.lit (.int .i64 g),[]) else none
 |.slice none 0 0=>some (.lit (.int .i64 (-1)),[])
 |_=>none
theorem Ki(N g:Nat):pX N (.slice g N N)=some (.lit (.int .i64 g),[]):=by simp[pX]
theorem BF{ps:List MemPlace}(h:pX N v=some (.lit (.int .i64 g),ps)):v=.slice g N N:=by
 unfold pX at h;split at h
 ·split at h
  ·rename_i hn;obtain⟨rfl,rfl⟩:=hn;simp at h;have:_=g:=Int.ofNat.inj h.1;rw[this]
  ·cases h
 ·simp at h
 ·cases h
theorem Kh{ps:List MemPlace}(h:pX N v=some (.lit (.int .i64 (-1)),ps)):v=.slice none 0 0:=by
 unfold pX at h;split at h
 ·split at h
  ·simp at h
  ·cases h
 ·rfl
 ·cases h
def ky(ev:()):Lit:=.string ev.data.toList
theorem C8{a b:()}(h:a≠b):ky a≠ky b:=by
 intro e;unfold ky at e;simp at e;exact h (ByteArray.ext (Array.ext' (by rw[e])))
def fa(W:World)(N mb n:Nat)(M:()->Option Nat):Prop:=∃D,W.ownsMap prog 9 (pX N) mb n D/\∀ev,match M ev with
 |none=>Go.Maps.has D (ky ev)=false
 |some g=>Go.Maps.has D (ky ev)=true/\∀z,D.atKey (ky ev) z=.lit (.int .i64 g)
theorem fa.mo(h:fa W N mb n M)(hm:Mo P W W')(hn:¬P mb):fa W' N mb n M:=by
 obtain⟨D,⟨es,clock,hb,r⟩,hM⟩:=h;exact⟨D,⟨es,clock,(hm.block mb (Pn.1 hb).1 hn).trans hb,r⟩,hM⟩
theorem fa.lt(h:fa W N mb n M):mb<W.heap.size:=by
 obtain⟨D,hD,_⟩:=h;exact hD.lt
theorem fa.kind(h:fa W N mb n M):∃es clock,W.heap[mb]?=some (.map es clock):=by
 obtain⟨D,⟨es,clock,hb,_⟩,_⟩:=h;exact⟨es,clock,hb⟩
theorem Ge:Go.Maps.Keyed prog 9:=Tj underlying9
theorem MQ(w:World):(zeroValue 265).run prog w=.ok (.slice none 0 0) w:=zab
theorem LK(h:ev.size<=1000000):keyOf prog 9 (.string ev)=some (ky ev):=Sr underlying9 zag
theorem fa.look{W:World}{N mb n:Nat}{M:()->Option Nat}(h:fa W N mb n M){ev:()}(hs:ev.size<=1000000):
  (Instr.lookup 186 (.map (some mb)) (.string ev) true).run prog W=.ok (match M ev with|none=>.tuple #[.slice none 0 0,false]|some g=>.tuple #[.slice g N N,true]) W:=by
 obtain⟨D,hD,hM⟩:=h;obtain⟨v,ps,Wu,hv⟩:=hD.look_ok Ge underlying186 (MQ W) (zd:=.lit (.int .i64 (-1))) (zp:=[]) rfl (LK hs);rw[Wu];have:=hM ev;cases hm:M ev with
 |none=>
  rw[hm]at this;rw[this];rw[Go.Maps.atKey_of_not_has this]at hv;rw[Kh hv]
 |some g=>
  rw[hm]at this;rw[this.1];rw[this.2]at hv;rw[BF hv]
theorem fa.put(h:fa W N mb n M)(hn:n<=1000000)(hs:ev.size<=1000000)(g:Nat):
  ∃w',(Instr.mapUpdate 186 (.map (some mb)) (.string ev) (.slice g N N)).run prog W=.ok () w'/\fa w' N mb (n+1) (fun e=>if e=ev then some g else M e)/\W.grownBy w' (some mb):=by
 obtain⟨D,hD,hM⟩:=h;obtain⟨w',Wu,hD',hg⟩:=hD.update Ge underlying186 zag (LK hs) (Ki N g);refine⟨w',Wu,⟨_,hD',fun e=>?_⟩,hg⟩;have hI:=hD.isMap;dsimp only;by_cases he:e=ev
 ·subst he;rw[PC rfl];exact⟨Go.Maps.has_put_same hI (show WideAt.IsKeyLit (.string _) from trivial) _,fun z=>TJ hI (show WideAt.IsKeyLit (.string _) from trivial) _ _⟩
 ·rw[Pu he];have:=hM e;have hk:=C8 he;cases hm:M e with
  |none=>rw[hm]at this;rw[SA hk];exact this
  |some g'=>rw[hm]at this;refine⟨by rw[SA hk];exact this.1,fun z=>by rw[TB hk];exact this.2 z⟩
def dC(W:World)(g:Nat)(L:List (Option Nat)):Prop:=W.heap[g]?=some (.cells (L.map fun m=>Value.pointer (m.map fun b=>(⟨b,0,none⟩:Addr))).toArray 267 (0,0))
theorem dC.lt{L:List (Option Nat)}(h:dC W g L):g<W.heap.size:=(Pn.1 h).1
theorem dC.cell{L:List (Option Nat)}(h:dC W g L){m:Option Nat}(hi:L[i]?=some m):W.cell? (g,i)=some (.pointer (m.map fun b=>(⟨b,0,none⟩:Addr))):=by
 rw[Pt W _ _ _ _ _ h];simp[hi]
theorem dC.frozen{L:List (Option Nat)}(h:dC W g L):W.frozen? (g,i)=false:=by
 simp[World.frozen?,show W.heap[g]?=_ from h]
theorem dC.set{L:List (Option Nat)}(h:dC W g L)(i:Nat)(m:Option Nat):dC (W.setCell (g,i) (.pointer (m.map fun b=>(⟨b,0,none⟩:Addr)))) g (L.set i m):=by
 unfold dC;rw[PR W g i _ _ _ h];simp[List.map_set]
end Y
theorem nC:(Tryz.prog.info? 267).map (fun i=>(i.zero,i.size,i.bytes))=some (some (.pointer none),1,8):=zab
theorem JG(n:Nat):madeCells (Value.pointer none).cells n=((List.replicate n (none:Option Nat)).map fun m=>Value.pointer (m.map fun b=>(⟨b,0,none⟩:Addr))).toArray:=by
 apply Array.ext
 ·simp[size_madeCells]
 ·intro i h1 h2;simp[madeCells,Value.cells,Nat.mod_one]
theorem zr(n:Nat)(hn:n<=4096)(w:World):(Instr.makeSlice 265 (.int .i64 n) (.int .i64 n)).run prog w=.ok (.slice w n n) (w.alloc (.cells ((List.replicate n (none:Option Nat)).map fun m=>Value.pointer (m.map fun b=>(⟨b,0,none⟩:Addr))).toArray 267)):=by
 obtain⟨i0,hi,Vv,Vk,Vl⟩:=QV nC;have h:=run_makeSlice (P:=prog) w 265 267 i0 (.pointer none) underlying265 hi Vv .i64 .i64 n n zaa (Int.le_refl _) (by rw[Vk];simp;omega) (by rw[Vl];omega) zaa;rw[h,Vk];simp only[Int.toNat_natCast,Nat.mul_one];rw[JG]
namespace Y
def KQ(w:World)(N mb n:Nat)(M:()->Option Nat)(ev:())(e:Ending)(w':World):Prop:=
 ∃g,e=.returned (.slice (some ⟨g,0,none⟩) N N)/\((M ev=some g/\w'=w)\/(M ev=none/\w.heap.size<=g/\fa w' N mb (n+1) (fun x=>if x=ev then some g else M x)/\dC w' g (List.replicate N none)/\Mo (·=mb) w w'))
end Y
theorem Mu(w:World)(pb b cap N:Nat)(hv:Value)(fin mb n:Nat)(M:()->Option Nat)(ev:())(hB:Y.dB w pb b N cap hv fin (.map (some mb)))(hM:Y.fa w N mb n M)(hn:n<=1000000)(Wq:ev.size<=1000000)(hN:N<=24):
  () 110 #[pb,ev] w (Y.KQ w N mb n M ev):=by
 have h3:w.cell? (pb,3)=some (.map (some mb)):=zbh;have h0:w.cell? pb=some (.slice b N cap):=zbh;have Vo:pb<w.heap.size:=(Pn.1 hB).1;have hl:=hM.look Wq;cases hm:M ev with
 |some g=>
  rw[hm]at hl;dsimp only at hl;have VH:∀r,r=Ending.returned (.slice g N N)->Y.KQ w N mb n M ev r w:=fun r hr=>⟨g,hr,.inl ⟨hm,rfl⟩⟩;clear hm hM;exact zeT
 |none=>
  rw[hm]at hl;dsimp only at hl;have Zc:=zr N zaa w;have VK:=(Pq w w).alloc (Po _) (.cells ((List.replicate N (none:Option Nat)).map fun m=>Value.pointer (m.map fun b=>(⟨b,0,none⟩:Addr))).toArray 267);obtain⟨w',hput,Ze,hg⟩:=(hM.mo (P:=fun _=>False) (az VK) (fun h=>h)).put hn Wq w.heap.size;have h3a:=(VK.cell (p:=⟨pb,3,none⟩) Vo).trans h3;have U5:Y.dC (w.alloc (.cells ((List.replicate N (none:Option Nat)).map fun m=>Value.pointer (m.map fun b=>(⟨b,0,none⟩:Addr))).toArray 267)) w.heap.size (List.replicate N none):=PG w _;have VH:∀r,r=Ending.returned (.slice w N N)->Y.KQ w N mb n M ev r w':=fun r hr=>by
   have hmb:=hM.lt;refine⟨_,hr,.inr ⟨hm,Po _,Ze,?_,?_⟩⟩
   ·exact(hg.block _ U5.lt zaf).trans U5
   ·exact(az VK).trans' ⟨hg.os,hg.tape,hg.output,hg.size,fun k hk hn=>hg.block k hk (fun e=>hn za8)⟩ (fun k _ h=>h)
  clear hm hM Ze U5 hg;obtain⟨W1,Vj⟩:∃W,w.alloc (.cells ((List.replicate N (none:Option Nat)).map fun m=>Value.pointer (m.map fun b=>(⟨b,0,none⟩:Addr))).toArray 267)=W:=⟨_,rfl⟩;rw[Vj]at Zc VK hput h3a;clear Vj;exact zeT
namespace Y
theorem uY.range{W:World}{b i:Nat}{p:PS}(h:uY W b i p):W.rangeAt b (i*10) p.cells:=fun j v hv=>by
 match j,hv with
 |0,hv=>cases hv;exact h.c0
 |1,hv=>cases hv;exact h.c1
 |2,hv=>cases hv;exact h.c2
 |3,hv=>cases hv;exact h.c3
 |4,hv=>cases hv;exact h.c4
 |5,hv=>cases hv;exact h.c5
 |6,hv=>cases hv;exact h.c6
 |7,hv=>cases hv;exact h.c7
 |8,hv=>cases hv;exact h.c8
 |9,hv=>cases hv;exact h.c9
 |j+10,hv=>cases hv
def mB(ps:List PS)(L:List (Option Nat))(i:Nat):List (Option Nat):=match L[i]?,ps[i]? with
 |some none,some p=>if p.owner == -1 then L else L.set i (L.getD p.owner.toNat none)
 |_,_=>L
def di(ps:List PS)(L:List (Option Nat)):Nat->List (Option Nat)
 |0=>L
 |k+1=>mB ps (di ps L k) k
theorem CY(ps:List PS)(L:List (Option Nat))(i:Nat):(mB ps L i).length=L.length:=by
 unfold mB;split
 ·split<;>simp
 ·rfl
theorem pA(ps:List PS)(L:List (Option Nat)):∀k,(di ps L k).length=L.length
 |0=>rfl
 |k+1=>by rw[di,CY,pA ps L k]
end Y
theorem qD(w:World)(pb b cap:Nat)(ps:List Y.PS)(g:Nat)(L:List (Option Nat))(hL:L.length=ps.length)(how:∀(i:Nat) (p:Y.PS),ps[i]?=some p->p.owner=-1\/∃o:Nat,p.owner=o/\o<i)
  (hP:Y.cJ w pb b cap ps) (Vo:pb<w.heap.size) (hb:b<w.heap.size) (n1:pb≠g) (n2:b≠g) (hR:Y.dC w g L):
  () 113 #[pb,.slice g ps.length ps.length] w fun e w'=>e=.returned (.tuple #[])/\Y.dC w' g (Y.di ps L ps.length)/\Mo (·=g) w w':=by
 have hlen:=hP.len;have h0:=hP.row;have HP:Hid _:=hP;have HOW:Hid _:=how;have HR:Hid _:=hR;clear hP how hR;go_enter func113,ntmps113;go_wp2
 go_loopg[11] ps.length (fun q i wr=>∃k:Nat,q=ps.length-k/\k<=ps.length/\i=.int .i64 k/\Y.dC wr g (Y.di ps L k)/\Mo (·=g) w wr)
 case atStart=>exact⟨0,rfl,PK _,rfl,HR.out,Mo.refl _ _⟩
 case round=>
  obtain⟨k,hq,hk,rfl,U5,Vp⟩:=hrel;clear h0;by_cases Vx:k<ps.length
  ·obtain⟨p,hp⟩:∃p,ps[k]?=some p:=⟨_,Pp Vx⟩;have hs:=Vp.size;have hPk:=HP.out.mo Vp Vo hb n1 n2;have Va:=(hPk.at' k p hp).range;have YH:(Y.di ps L k).length=ps.length:=by rw[Y.pA,hL]
   obtain⟨m,hm⟩:∃m,(Y.di ps L k)[k]?=some m:=⟨_,Pp zaa⟩;have WO:=(Pq wr wr).alloc (Po _) (.cells p.cells.toArray 183);have s5:=PG wr (.cells p.cells.toArray 183);have X5:Y.dC (wr.alloc (.cells p.cells.toArray 183)) g (Y.di ps L k):=(WO.block g U5.lt).trans U5;have VV:=Vp.trans (az WO);have c5:(wr.alloc (.cells p.cells.toArray 183)).cell? (wr,3)=some ↑(p.owner:Int):=by rw[Pt _ _ _ _ _ _ s5];rfl
   have cm:=X5.cell hm;have HN:Hid (Y.di ps L (k+1)=match (generalizing:=false) m with|none=>(if p.owner == -1 then Y.di ps L k else(Y.di ps L k).set k ((Y.di ps L k).getD p.owner.toNat none))|some _=>Y.di ps L k):=by
    unfold Hid;rw[Y.di,Y.mB,hm,hp];cases m<;>rfl
   obtain⟨W5,hW5⟩:∃W,wr.alloc (.cells p.cells.toArray 183)=W:=⟨_,rfl⟩;have hst:∀{ops:Array Oper} {rest:List Oper} {op:Oper} {a:Act} {Q:Exit->Act->World->Prop},op.guard=none->op.op=.store 183 (.tmp 5) (.tmp 15)->a.eval (.tmp 5)=.pointer (some ⟨wr,0,none⟩)->a.eval (.tmp 15)=.agg p.cells.toArray->wpList prog ops Q rest (a.put op.dst undef) W5->wpList prog ops Q (op::rest) a (wr.alloc (.cells #[(0:Int),.string ⟨#[]⟩,.string ⟨#[]⟩,(0:Int),.int .u32 0,.int .u32 0,.int .u32 0,.int .u32 0,.slice none 0 0,.slice none 0 0] 183)):=fun h1 h2 h3 h4 h5=>aB h1 183 (.tmp 5) (.tmp 15) h2 183 _ p.cells.toArray h3 h4 eG rfl zbD (by rw[hW5];exact h5);rw[hW5]at X5 VV c5 cm;clear hW5 s5 WO U5 Vp hPk hm;have WN:k<ps.length:=Vx;cases m with
   |some mb=>
    have HN:Hid (Y.di ps L (k+1)=Y.di ps L k):=HN.out;dsimp only[Option.map]at cm;exact zc3
   |none=>
    dsimp only[Option.map]at cm
    rcases HOW.out k p hp with ho|⟨o,ho,Vw⟩
    ·have HN:Hid (Y.di ps L (k+1)=Y.di ps L k):=by have:=HN.out;rw[ho]at this;exact this
     rw[ho]at c5;exact zc3
    ·obtain⟨mo,Vp⟩:∃mo,(Y.di ps L k)[o]?=some mo:=⟨_,Pp zaa⟩;have HN:Hid (Y.di ps L (k+1)=(Y.di ps L k).set k mo):=by
      have:=HN.out;rw[ho]at this;simp only[Int.toNat_natCast]at this;rw[Pu zad]at this;unfold Hid;rw[this,PH,Vp];rfl
     rw[ho]at c5;have co:=X5.cell Vp;have fz:=X5.frozen (i:=k);have hrow6:=X5.set k mo;have XD:=VV.set ⟨g,k,none⟩ (.pointer (mo.map fun b=>(⟨b,0,none⟩:Addr))) rfl;have hon:((o:Int) != -1)=true:=zad;obtain⟨vo,hvo⟩:∃v,mo.map (fun b=>(⟨b,0,none⟩:Addr))=v:=⟨_,rfl⟩;rw[hvo]at co hrow6 XD;clear ho;go_wp2_with(first
      |(refine QA rfl 183 (.tmp 14) rfl b (k*10) rfl _ _ Va underlying183 rfl eG ?_)
      |(refine hst rfl rfl rfl rfl ?_)
      |fail)
     go_roundg (ps.length-(k+1))
     case measure=>omega
     case rel=>exact⟨k+1,rfl,zaa,zah,by rw[HN.out];exact hrow6,XD⟩
  ·obtain rfl:k=ps.length:=zaa;go_wp2;go_end0;exact⟨rfl,U5,Vp⟩
namespace Y
structure MV where
 event:()
 after:Bool
 delay:Int
 dest:()
 ai:U.Sl
def MV.cells(m:MV):List Value:=[m.event,m.after,.int .u64 m.delay,m.dest,.slice m.ai.a m.ai.n m.ai.c]
structure PM where
 own:Nat
 lv:Nat
 ai:U.Sl
 en:En
def eP(W:World)(pb b m:Nat)(x:PM):Prop:=∃fv,W.heap[m]?=some (.cells #[(x.own:Int),.int .u32 x.lv,.slice x.ai.a x.ai.n x.ai.c,fv] 270 (0,0))/\uX W pb b x.en fv
def BW(t:TypeId):Prop:=t=270\/t=167\/t=103\/t=258\/t=3
theorem eP.kd{m:Nat}{x:PM}(h:eP W pb b m x)(hk:Kd E W W')(hE:∀t,BW t->¬E t):eP W' pb b m x:=by
 obtain⟨fv,h1,h2⟩:=h;refine⟨fv,(hk.aq _ _ _ _ h1 (hE _ (.inl rfl))).trans h1,h2.aq (fun B t u ht hb=>hk.boxed hb (hE t (.inr ht)))⟩
def ml(W:World)(pb b:Nat):Option (Option Nat)->Option (Option PM)->Prop
 |some (some m),some (some x)=>eP W pb b m x
 |some none,some none=>True
 |none,none=>True
 |_,_=>False
theorem ml.imp{W W':World}{pb b:Nat}{x:Option (Option Nat)}{y:Option (Option PM)}(h:ml W pb b x y)(hi:∀m z,x=some (some m)->eP W pb b m z->eP W' pb b m z):ml W' pb b x y:=by
 match x,y,h with
 |some (some m),some (some z),h=>exact hi m z rfl h
 |some none,some none,_=>trivial
 |none,none,_=>trivial
structure Tab(W:World)(pb b N mb n:Nat)(T:()->Option (List (Option PM)))(M:()->Option Nat)(L:Nat->List (Option Nat)):Prop where
 map:fa W N mb n M
 nope:∀ev,M ev=none->T ev=none
 row:∀ev g,M ev=some g->dC W g (L g)/\(L g).length=N/\∃row,T ev=some row/\row.length=N/\∀i:Nat,ml W pb b ((L g)[i]?) (row[i]?)
 inj:∀e e' g,M e=some g->M e'=some g->e=e'
theorem Tab.kd{T:()->Option (List (Option PM))}(h:Tab W pb b N mb n T M L)(hk:Kd E W W')(hE:∀t,BW t->¬E t)(hR:¬E 267)(hm:Mo P W W')(hn:¬P mb):Tab W' pb b N mb n T M L where
 map:=h.map.mo hm hn
 nope:=h.nope
 row:=fun ev g hg=>by
  obtain⟨h1,h2,row,h3,h4,h5⟩:=h.row ev g hg;exact⟨(hk.aq _ _ _ _ h1 hR).trans h1,h2,row,h3,h4,fun i=>(h5 i).imp (fun m z _ hz=>hz.kd hk hE)⟩
 inj:=h.inj
theorem Tab.below{T:()->Option (List (Option PM))}(h:Tab W pb b N mb n T M L)(hb:Below W W W'):Tab W' pb b N mb n T M L:=
 h.kd (E:=fun _=>False) (P:=fun _=>False) (bB hb) (fun _ _ h=>h) (fun h=>h) (az hb) (fun h=>h)
theorem Tab.OU{T:()->Option (List (Option PM))}(h:Tab W pb b N mb n T M L){e:Ending}(hr:KQ W N mb n M ev e W'):
  ∃g M' L' n',e=.returned (.slice (some ⟨g,0,none⟩) N N)/\n'<=n+1/\M' ev=some g/\Mo (·=mb) W W'/\(∀x y,M' x=some y->M x=some y\/W.heap.size<=y)/\Tab W' pb b N mb n' (fun x=>if x=ev then some ((T ev).getD (List.replicate N none)) else T x) M' L':=by
 obtain⟨g,he,⟨hm,hw⟩|⟨hm,hg,Ze,U5,Vp⟩⟩:=hr
 ·subst hw;obtain⟨_,_,row,h3,_,_⟩:=h.row ev g hm;have:(fun x=>if x=ev then some ((T ev).getD (List.replicate N none)) else T x)=T:=by
   funext x;by_cases hx:x=ev
   ·rw[PC hx,hx,h3];rfl
   ·rw[Pu hx]
  exact⟨g,M,L,n,he,zaa,hm,Mo.refl _ _,fun _ _ h=>.inl h,by rw[this];exact h⟩
 ·have Wj:Kd (fun _=>False) W W':=gS Vp (fun k c t f hk hc=>by
   obtain⟨es,clock,hmb⟩:=h.map.kind;rw[hk,hmb]at hc;cases hc)
  have hT:=h.nope ev hm;refine⟨g,fun x=>if x=ev then some g else M x,fun x=>if x=g then List.replicate N none else L x,n+1,he,Po _,PC rfl,Vp,fun x y hxy=>?_,?_⟩
  ·dsimp only at hxy;by_cases hx:x=ev
   ·rw[PC hx]at hxy;cases hxy;exact .inr hg
   ·rw[Pu hx]at hxy;exact .inl hxy
  refine⟨Ze,fun e hn=>?_,fun e g' Xb=>?_,fun e e' g' h1 h2=>?_⟩
  ·by_cases hx:e=ev
   ·simp[hx]at hn
   ·simp only[if_neg hx]at hn⊢;exact h.nope e hn
  ·by_cases hx:e=ev
   ·subst hx;simp at Xb;subst Xb;simp only[if_true];refine⟨U5,zad,_,rfl,by rw[hT];simp,fun i=>?_⟩;rw[hT];by_cases hi:i<N
    ·simp[hi,ml]
    ·simp[hi,ml]
   ·simp only[if_neg hx]at Xb⊢;obtain⟨h1,h2,row,h3,h4,h5⟩:=h.row e g' Xb;have U9:g'≠g:=by have:=h1.lt;omega
    simp only[if_neg U9];exact⟨(Wj.aq _ _ _ _ h1 (fun h=>h)).trans h1,h2,row,h3,h4,fun i=>(h5 i).imp (fun m z _ hz=>hz.kd Wj (fun _ _ h=>h))⟩
  ·by_cases hx:e=ev
   ·by_cases hy:e'=ev
    ·rw[hx,hy]
    ·simp only[if_pos hx,if_neg hy]at h1 h2;obtain⟨h3,_⟩:=h.row e' g' h2;have:=h3.lt;simp at h1;omega
   ·by_cases hy:e'=ev
    ·simp only[if_neg hx,if_pos hy]at h1 h2;obtain⟨h3,_⟩:=h.row e g' h1;have:=h3.lt;simp at h2;omega
    ·simp only[if_neg hx,if_neg hy]at h1 h2;exact h.inj e e' g' h1 h2
theorem Tab.set{q:Nat}{T:()->Option (List (Option PM))}(h:Tab W pb b N mb n T M L)(hM:M ev=some g)(hi:i<N){row:List (Option PM)}(hrw:T ev=some row)(x:PM)(hk:Kd (fun t=>t=267) W W')(hm:Mo (·=g) W W')(U5:dC W' g ((L g).set i (some q)))(hq:eP W' pb b q x):
  Tab W' pb b N mb n (fun y=>if y=ev then some (row.set i (some x)) else T y) M (fun y=>if y=g then(L g).set i (some q) else L y):=by
 obtain⟨h1,h2,row',h3,h4,h5⟩:=h.row ev g hM;rw[hrw]at h3;cases h3
 have hE:∀t,BW t->¬t=267:=zbB;have hmbg:mb≠g:=by
  obtain⟨es,clock,hmb⟩:=h.map.kind;intro e;rw[e,show W.heap[g]?=_ from h1]at hmb;cases hmb
 refine⟨h.map.mo hm hmbg,fun e hn=>?_,fun e g' Xb=>?_,h.inj⟩
 ·have hx:e≠ev:=fun hx=>by rw[hx,hM]at hn;cases hn
  rw[Pu hx];exact h.nope e hn
 ·by_cases hx:e=ev
  ·subst hx;rw[hM]at Xb;cases Xb
   simp only[if_true];refine⟨U5,by simp[h2],_,rfl,by simp[h4],fun j=>?_⟩;by_cases hj:j=i
   ·subst hj;rw[P4 zaa,P4 zaa];exact hq
   ·rw[Qb (fun e=>hj e.symm),Qb (fun e=>hj e.symm)];exact(h5 j).imp (fun m z _ hz=>hz.kd hk hE)
  ·have hgg:g'≠g:=fun e'=>hx (h.inj e ev g (by rw[<- e'];exact Xb) hM);simp only[if_neg hx,if_neg hgg];obtain⟨k1,k2,row',k3,k4,k5⟩:=h.row e g' Xb;exact⟨(hm.block g' k1.lt hgg).trans k1,k2,row',k3,k4,fun j=>(k5 j).imp (fun m z _ hz=>hz.kd hk hE)⟩
def jR(W:World)(ib n:Nat)(F:()->Option Nat):Prop:=∃D:DataW Nat,W.ownsMap prog 9 (plainElem prog 3) ib n D/\∀nm,match F nm with
 |none=>Go.Maps.has D (ky nm)=false
 |some g=>∀z,D.atKey (ky nm) z=.lit (.int .i64 g)
theorem jR.mo(h:jR W ib n F)(hm:Mo P W W')(hn:¬P ib):jR W' ib n F:=by
 obtain⟨D,⟨es,clock,hb,r⟩,hM⟩:=h;exact⟨D,⟨es,clock,(hm.block ib (Pn.1 hb).1 hn).trans hb,r⟩,hM⟩
theorem OZ(w:World):(zeroValue 3).run prog w=.ok (.int .i64 0) w:=zab
theorem jR.made(w:World):jR (w.alloc (.map #[] 0)) w.heap.size 0 (fun _=>none):=⟨_,Up w _ _ _,fun _=>rfl⟩
theorem jR.look(h:jR W ib n F)(hs:nm.size<=1000000)(hF:F nm=some g):
  (Instr.lookup 119 (.map (some ib)) (.string nm) false).run prog W=.ok (.int .i64 g) W:=by
 obtain⟨D,hD,hM⟩:=h;obtain⟨c,Wu,VJ,_⟩:=hD.lookup_int Ge underlying119 underlying3 (OZ W) (LK hs);have:=hM nm;rw[hF]at this;rw[this]at VJ;rw[Wu];simp at VJ;rw[VJ]
theorem jR.put(h:jR W ib n F)(hn:n<=1000000)(hs:nm.size<=1000000)(g:Nat)(hg:g<=1000000):
  ∃w',(Instr.mapUpdate 119 (.map (some ib)) (.string nm) (.int .i64 g)).run prog W=.ok () w'/\jR w' ib (n+1) (fun e=>if e=nm then some g else F e)/\W.grownBy w' (some ib):=by
 obtain⟨D,hD,hM⟩:=h;obtain⟨w',Wu,hD',hg⟩:=hD.update Ge underlying119 zag (LK hs) (UD underlying3 (a:=(g:Int)) (WalkArith.wf_i64 zaa));refine⟨w',Wu,⟨_,hD',fun e=>?_⟩,hg⟩;have hI:=hD.isMap;dsimp only;by_cases he:e=nm
 ·subst he;rw[PC rfl];exact fun z=>TJ hI (show WideAt.IsKeyLit (.string _) from trivial) _ _
 ·rw[Pu he];have:=hM e;have hk:=C8 he;cases hm:F e with
  |none=>rw[hm]at this;rw[SA hk];exact this
  |some g'=>rw[hm]at this;exact fun z=>by rw[TB hk];exact this z
structure ChM(W:World)(cb cg cc:Nat)(X:List MS)(V:Nat->List MV):Prop where
 ptr:W.heap[cb]?=some (.cells #[.slice cg X.length cc] 123 (0,0))
 blk:∃c fz,W.heap[cg]?=some (.cells c 134 fz)
 at':∀(i:Nat) (x:MS),X[i]?=some x->W.rangeAt cg (i*8) x.arr.toList
 mv:∀(i:Nat) (x:MS),X[i]?=some x->x.vm.n=(V i).length/\((V i).length=0\/∃gm c fz,x.vm.a=some ⟨gm,0,none⟩/\(V i).length<=x.vm.c/\W.heap[gm]?=some (.cells c 207 fz)/\∀(j:Nat) (m:MV),(V i)[j]?=some m->W.rangeAt gm (j*5) m.cells)
def O5(t:TypeId):Prop:=t=123\/t=134\/t=207
theorem ChM.kd{V:Nat->List MV}(h:ChM W cb cg cc X V)(hk:Kd E W W')(hE:∀t,O5 t->¬E t):ChM W' cb cg cc X V where
 ptr:=(hk.aq _ _ _ _ h.ptr (hE _ (.inl rfl))).trans h.ptr
 blk:=by
  obtain⟨c,fz,hc⟩:=h.blk;exact⟨c,fz,(hk.aq _ _ _ _ hc (hE _ (.inr (.inl rfl)))).trans hc⟩
 at':=fun i x hx j v hv=>by
  obtain⟨c,fz,hc⟩:=h.blk;exact(PN (a:=⟨cg,_,none⟩) (hk.aq _ _ _ _ hc (hE _ (.inr (.inl rfl))))).trans (h.at' i x hx j v hv)
 mv:=fun i x hx=>by
  obtain⟨h1,h2|⟨gm,c,fz,h2,h3,h4,h5⟩⟩:=h.mv i x hx
  ·exact⟨h1,.inl h2⟩
  ·have hb:=hk.aq _ _ _ _ h4 (hE _ (.inr (.inr rfl)));exact⟨h1,.inr ⟨gm,c,fz,h2,h3,hb.trans h4,fun j m hm k v hv=>(PN (a:=⟨gm,_,none⟩) hb).trans (h5 j m hm k v hv)⟩⟩
theorem ChM.below{V:Nat->List MV}(h:ChM W cb cg cc X V)(hb:Below W W W'):ChM W' cb cg cc X V:=h.kd (E:=fun _=>False) (bB hb) (fun _ _ h=>h)
def b7(X:List MS):Nat->()->Option Nat
 |0=>fun _=>none
 |k+1=>match X[k]? with
  |some x=>fun nm=>if nm=x.name then some k else b7 X k nm
  |none=>b7 X k
end Y
theorem fo:(Tryz.prog.info? 134).map (·.size)=some 8:=zab
theorem xm:(Tryz.prog.info? 207).map (·.size)=some 5:=zab
namespace Y
def tk(ps:List PS)(L:List (Option PM))(i:Nat):List (Option PM):=match L[i]?,ps[i]? with
 |some none,some p=>if p.owner == -1 then L else L.set i (L.getD p.owner.toNat none)
 |_,_=>L
def oE(ps:List PS)(L:List (Option PM)):Nat->List (Option PM)
 |0=>L
 |k+1=>tk ps (oE ps L k) k
theorem CZ(ps:List PS)(L:List (Option PM))(i:Nat):(tk ps L i).length=L.length:=by
 unfold tk;split
 ·split<;>simp
 ·rfl
theorem tp(ps:List PS)(L:List (Option PM)):∀k,(oE ps L k).length=L.length
 |0=>rfl
 |k+1=>by rw[oE,CZ,tp ps L k]
theorem ml.getD{W:World}{pb b:Nat}{L:List (Option Nat)}{R:List (Option PM)}(h:∀i:Nat,ml W pb b (L[i]?) (R[i]?))(o:Nat):ml W pb b (some (L.getD o none)) (some (R.getD o none)):=by
 have:=h o;rw[PH,PH]
 match hL:L[o]?,hR:R[o]? with
 |none,none=>trivial
 |none,some y=>rw[hL,hR]at this;cases y<;>exact this.elim
 |some x,none=>rw[hL,hR]at this;cases x<;>exact this.elim
 |some x,some y=>rw[hL,hR]at this;exact this
theorem Jf{W:World}{pb b:Nat}(ps:List PS){L:List (Option Nat)}{R:List (Option PM)}(hl:L.length=R.length)(h:∀i:Nat,ml W pb b (L[i]?) (R[i]?)):∀k,∀i:Nat,ml W pb b ((di ps L k)[i]?) ((oE ps R k)[i]?)
 |0,i=>h i
 |k+1,i=>by
  have ih:=Jf ps hl h k;have l1:=pA ps L k;have l2:=tp ps R k;rw[di,oE];unfold mB tk;have hk:=ih k
  match hL:(di ps L k)[k]?,hR:(oE ps R k)[k]?,hp:ps[k]? with
  |none,none,_=>exact ih i
  |none,some y,_=>rw[hL,hR]at hk;cases y<;>exact hk.elim
  |some x,none,_=>rw[hL,hR]at hk;cases x<;>exact hk.elim
  |some (some m),some none,_=>rw[hL,hR]at hk;exact hk.elim
  |some none,some (some z),_=>rw[hL,hR]at hk;exact hk.elim
  |some (some m),some (some z),_=>exact ih i
  |some none,some none,none=>exact ih i
  |some none,some none,some p=>
   dsimp only;by_cases ho:(p.owner == -1)=true
   ·rw[PC ho,PC ho];exact ih i
   ·rw[Pu ho,Pu ho];have WN:=(Ps.1 hL).1;have X6:=(Ps.1 hR).1;by_cases hi:i=k
    ·subst hi;rw[P4 WN,P4 X6];exact ml.getD ih _
    ·rw[Qb (fun e=>hi e.symm),Qb (fun e=>hi e.symm)];exact ih i
theorem Jq{key:Value}{kl:Lit}(h:keyOf prog 9 key=some kl):∃s:(),key=.string s/\kl=ky s:=by
 cases key<;>simp[keyOf,underlying9,mapKey]at h
 obtain⟨_,rfl⟩:=h;exact⟨_,rfl,rfl⟩
theorem EU{a b:()}(h:a≠b):(ky a).sameKey (ky b)=false:=by
 cases hs:(ky a).sameKey (ky b)
 ·rfl
 ·exact absurd (WideAt.sameKey_eq hs) (C8 h)
theorem LO(a:()):(ky a).sameKey (ky a)=true:=WideAt.sameKey_self (show WideAt.IsKeyLit (.string _) from trivial)
theorem Tab.NO{T:()->Option (List (Option PM))}(ps:List PS)(h:Tab W pb b N mb n T M L)(hM:fa W' N mb n M)(hm:Mo (fun j=>∃ev,M ev=some j) W W')(hr:∀ev g,M ev=some g->dC W' g (di ps (L g) N)):
  Tab W' pb b N mb n (fun ev=>(T ev).map fun row=>oE ps row N) M (fun g=>di ps (L g) N):=by
 have Wj:Kd (fun t=>t=267) W W':=gS hm (fun k c t f hk hc=>by
  obtain⟨ev,he⟩:=hk;obtain⟨h1,_⟩:=h.row ev k he;rw[show W.heap[k]?=_ from h1]at hc;simp at hc;exact hc.2.1.symm)
 have hE:∀t,BW t->¬t=267:=zbB;refine⟨hM,fun ev hn=>by rw[h.nope ev hn];rfl,fun ev g hg=>?_,h.inj⟩;obtain⟨h1,h2,row,h3,h4,h5⟩:=h.row ev g hg;refine⟨hr ev g hg,by rw[pA];exact h2,oE ps row N,by rw[h3];rfl,by rw[tp];exact h4,?_⟩;exact Jf ps zaa (fun i=>(h5 i).imp (fun m z _ hz=>hz.kd Wj hE)) N
def Nk(W:World)(pb b:Nat)(ps:List PS)(N:Nat)(T0:()->Option (List (Option PM)))(M:()->Option Nat)(L:Nat->List (Option Nat)):Prop:=∃L0:Nat->List (Option Nat),∀ev g,M ev=some g->L g=di ps (L0 g) N/\∃row0,T0 ev=some row0/\∀i:Nat,ml W pb b ((L0 g)[i]?) (row0[i]?)
theorem Tab.once{T:()->Option (List (Option PM))}(ps:List PS)(h:Tab W pb b N mb n T M L)(hm:Mo (fun j=>∃ev,M ev=some j) W W'):Nk W' pb b ps N T M (fun g=>di ps (L g) N):=by
 have Wj:Kd (fun t=>t=267) W W':=gS hm (fun k c t f hk hc=>by
  obtain⟨ev,he⟩:=hk;obtain⟨h1,_⟩:=h.row ev k he;rw[show W.heap[k]?=_ from h1]at hc;simp at hc;exact hc.2.1.symm)
 have hE:∀t,BW t->¬t=267:=zbB;refine⟨L,fun ev g hg=>⟨rfl,?_⟩⟩;obtain⟨h1,h2,row,h3,h4,h5⟩:=h.row ev g hg;exact⟨row,h3,fun i=>(h5 i).imp (fun m z _ hz=>hz.kd Wj hE)⟩
def Good(ps:List PS):Prop:=∀(i:Nat) (p:PS),ps[i]?=some p->p.parts<2 ^ ps.length/\p.inside<2 ^ ps.length/\p.around<2 ^ ps.length/\p.wth<2 ^ ps.length
theorem yu{s:Nat}(h:s<2 ^ N)(hi:i∈els s):i<N:=by
 obtain⟨_,ht⟩:=pK.1 hi;by_cases hn:i<N
 ·exact hn
 ·rw[TH (PY h (Rc zac zaa))]at ht;cases ht
def eQ(ps:List PS)(F:()->Option Nat)(i:Nat)(m:MV):PM:=if m.dest.toList.isEmpty then⟨i,0,m.ai,.nil⟩ else match F m.dest with
 |some d=>⟨i,dom ps i d,m.ai,iV ps i d⟩
 |none=>⟨i,0,m.ai,.nil⟩
def mO(ps:List PS)(F:()->Option Nat)(T:()->Option (List (Option PM)))(i:Nat)(m:MV):()->Option (List (Option PM)):=fun e=>if e=m.event then
  some (let row:=(T m.event).getD (List.replicate ps.length none);match row[i]? with|some none=>row.set i (some (eQ ps F i m))|_=>row)
 else T e
def aX(ps:List PS)(F:()->Option Nat)(T:()->Option (List (Option PM)))(i:Nat)(V:List MV):Nat->()->Option (List (Option PM))
 |0=>T
 |j+1=>match V[j]? with|some m=>mO ps F (aX ps F T i V j) i m|none=>aX ps F T i V j
def ep(ps:List PS)(F:()->Option Nat)(V:Nat->List MV):Nat->()->Option (List (Option PM))
 |0=>fun _=>none
 |k+1=>aX ps F (ep ps F V k) k (V k) (V k).length
def Nf(w w':World)(pb b mb:Nat)(ps:List PS)(X:List MS)(V:Nat->List MV):Prop:=(∃n M L,Tab w' pb b ps.length mb n (fun ev=>(ep ps (b7 X X.length) V X.length ev).map fun row=>oE ps row ps.length) M L/\Nk w' pb b ps ps.length (ep ps (b7 X X.length) V X.length) M L)/\Mo (·=mb) w w'
end Y
theorem xS(w:World)(pb b cap:Nat)(ps:List Y.PS)(hv:Value)(fin mb cb cg cc:Nat)(X:List Y.MS)(V:Nat->List Y.MV)(hB:Y.dB w pb b ps.length cap hv fin (.map (some mb)))(hP:Y.cJ w pb b cap ps)(hb:b<w.heap.size)(hC:Y.ChM w cb cg cc X V)(hX:X.length=ps.length)(VD:∀(i:Nat) (x:Y.MS),X[i]?=some x->x.name.size<=1000000)
  (hM:Y.fa w ps.length mb 0 (fun _=>none)) (Wl:b≠mb) (Zt:Y.Good ps) (hg:1<w.heap.size) (hT:TabAt 1 Lib.deBruijn32tab w) (hgk:∃c t fz,w.heap[1]?=some (.cells c t fz))
  (how:∀(i:Nat) (p:Y.PS),ps[i]?=some p->p.owner=-1\/∃o:Nat,p.owner=o/\o<i) (hV:∀i,(V i).length<=30000) (Wq:∀i,∀m∈V i,m.event.size<=1000000/\m.dest.size<=1000000/\(m.dest.toList.isEmpty=false->∃d,Y.b7 X X.length m.dest=some d/\d<ps.length)):
  () 70 #[pb,cb] w fun e w'=>e=.returned (.tuple #[])/\Y.Nf w w' pb b mb ps X V:=by
 have hlen:=hP.len;have Vo:pb<w.heap.size:=(Pn.1 hB).1;have hBi:=(Pq w w).alloc (Po _) (.map #[] 0);have hI0:=Y.jR.made w;have XK:(w.alloc (.map #[] 0)).cell? cb=some (.slice cg X.length cc):=by
  rw[Pt _ _ _ _ _ _ (hC.below hBi).ptr];rfl
 have X7:=@run_makeMap prog;have HB:Hid (Y.dB w pb b ps.length cap hv fin (.map (some mb))):=hB;have HP:Hid _:=hP;have HC:Hid _:=hC;have HX:Hid (X.length=ps.length):=hX;have Xl:X.length<=24:=zaa;clear hX;have HM:Hid (Y.fa w ps.length mb 0 (fun _=>none)):=hM;have HNM:Hid _:=VD;have HBK:Hid _:=Wl;have HGD:Hid (Y.Good ps):=Zt;have HT:Hid (TabAt 1 Lib.deBruijn32tab w):=hT;have HGK:Hid _:=hgk;have HV:Hid _:=hV;have HOW:Hid _:=how;clear how;have HEV:Hid _:=Wq;clear hB hP hC hM VD Wl Zt hT hgk hV Wq;go_enter func70,ntmps70;go_wp2
 go_loopg[20] X.length (fun q i wr=>∃k:Nat,q=X.length-k/\k<=X.length/\i=.int .i64 k/\Y.jR wr w k (Y.b7 X k)/\Below w w wr)
 case atStart=>exact⟨0,rfl,PK _,rfl,hI0,hBi⟩
 case round=>
  obtain⟨k,hq,hk,rfl,hI,Vy⟩:=hrel;clear XK X7;by_cases Vx:k<X.length
  ·obtain⟨x,hx⟩:∃x,X[k]?=some x:=⟨_,Pp Vx⟩;have Z4:=HC.out.below Vy;have Va:=Z4.at' k x hx;have hnmx:=HNM.out k x hx;have HN:Hid (Y.b7 X (k+1)=fun nm=>if nm=x.name then some k else Y.b7 X k nm):=by unfold Hid;rw[Y.b7,hx]
   obtain⟨kind,name,depth,owner,vp,ve,vl,vm⟩:=x;dsimp only at hnmx HN;unfold Y.MS.arr at Va;dsimp only at Va;have WO:=(Pq wr wr).alloc (Po _) (.cells #[(kind:Int),name,(depth:Int),(owner:Int),.slice vp.a vp.n vp.c,.slice ve.a ve.n ve.c,.slice vl.a vl.n vl.c,.slice vm.a vm.n vm.c] 134);have hI5:=hI.mo (P:=fun _=>False) (az WO) (fun h=>h);obtain⟨w6,hput,hI6,hg6⟩:=hI5.put zaa hnmx k zaa;have XQ:Below w w w6:=(Vy.trans (WO.mono Vy.size)).grown hg6 (by have:=Vy.size;simp;omega) (fun j e=>by cases e;exact Po _);have HI6:Hid _:=hI6;clear WO hI5 hI hg6 hI6 Z4 Vy hx;go_wp2_with(first
    |(refine QA rfl 134 (.tmp 23) rfl cg (k*8) rfl _ _ Va underlying134 rfl fo ?_)
    |(refine aB rfl 134 (.tmp 6) (.tmp 24) rfl 134 _ _ rfl rfl fo rfl rfl ?_)
    |fail)
   go_roundg (X.length-(k+1))
   case measure=>omega
   case rel=>exact⟨k+1,rfl,zaa,zah,by rw[HN.out];exact HI6.out,XQ⟩
  ·obtain rfl:k=X.length:=zaa;obtain⟨F,hF⟩:∃F,Y.b7 X X.length=F:=⟨_,rfl⟩;rw[hF]at hI;have HF:Hid _:=hF;have HI1:Hid (Y.jR wr w X.length F):=hI;have X8:Hid _:=Vy;have WR:=Vy.size;have hcb1:wr.cell? cb=some (.slice cg X.length cc):=by
    rw[Pt _ _ _ _ _ _ (HC.out.below Vy).ptr];rfl
   have hT0:Y.Tab wr pb b ps.length mb 0 (Y.ep ps F V 0) (fun _=>none) (fun _=>[]):=⟨HM.out.mo (P:=fun _=>False) (az Vy) (fun h=>h),fun _ _=>rfl,fun _ _ h=>zaE,fun _ _ _ h=>zaE⟩;have HT0:Hid _:=hT0;clear hI Vy hF hT0 hk hq Vx;go_wp2;obtain⟨w1,Vg⟩:∃W,wr=W:=⟨_,rfl⟩;rw[Vg]at HT0 HI1 X8 WR hcb1⊢
   go_loopg[35] X.length (fun q i wr=>∃k:Nat,q=X.length-k/\k<=X.length/\i=.int .i64 k/\∃n M L,Y.Tab wr pb b ps.length mb n (Y.ep ps F V k) M L/\n<=k*30000/\(∀ev g,M ev=some g->w1.heap.size<=g)/\Mo (·=mb) w1 wr)
   case atStart=>exact⟨0,rfl,PK _,rfl,0,_,_,HT0.out,PK _,fun _ _ h=>zaE,Mo.refl _ _⟩
   case round=>
    obtain⟨k,hq1,hk,rfl,n,M,L,Wf,hn,U8,Vp⟩:=hrel;obtain⟨es,clock,hmbk⟩:=(HM.out.mo (P:=fun _=>False) (az X8.out) (fun h=>h)).kind;have HKD:Hid (∀V2,Mo (·=mb) w1 V2->Kd (fun _=>False) w1 V2):=fun V2 h=>gS h (fun j c t f hj hc=>by rw[hj,hmbk]at hc;cases hc)
    have HC1:Hid (Y.ChM w1 cb cg cc X V):=HC.out.below X8.out;by_cases Vx:k<X.length
    ·obtain⟨x,hx⟩:∃x,X[k]?=some x:=⟨_,Pp Vx⟩;have Z4:=HC1.out.kd (HKD.out _ Vp) (fun _ _ h=>h);have Va:=Z4.at' k x hx;have HMV:Hid _:=HC1.out.mv k x hx;obtain⟨kind,name,depth,owner,vp,ve,vl,⟨va,vn,vc⟩⟩:=x;obtain rfl:vn=(V k).length:=HMV.out.1;unfold Y.MS.arr at Va;dsimp only at Va;have hB8:=(Pq wr wr).alloc (Po _) (.cells #[(kind:Int),name,(depth:Int),(owner:Int),.slice vp.a vp.n vp.c,.slice ve.a ve.n ve.c,.slice vl.a vl.n vl.c,.slice va (V k).length vc] 134);have hTab8:=Wf.below hB8;have hmo8:=Vp.trans (az hB8);have HT8:Hid (Y.Tab (wr.alloc (.cells #[(kind:Int),name,(depth:Int),(owner:Int),.slice vp.a vp.n vp.c,.slice ve.a ve.n ve.c,.slice vl.a vl.n vl.c,.slice va (V k).length vc] 134)) pb b ps.length mb n (Y.ep ps F V k) M L):=hTab8;have HM8:Hid (Mo (·=mb) w1 (wr.alloc (.cells #[(kind:Int),name,(depth:Int),(owner:Int),.slice vp.a vp.n vp.c,.slice ve.a ve.n ve.c,.slice vl.a vl.n vl.c,.slice va (V k).length vc] 134))):=hmo8;have hs8:=hmo8.size;have hVk:=HV.out k;clear Wf Vp hB8 hTab8 hmo8 Z4 hx;go_wp2_with(first
      |(refine QA rfl 134 (.tmp 38) rfl cg (k*8) rfl _ _ Va underlying134 rfl fo ?_)
      |(refine aB rfl 134 (.tmp 8) (.tmp 39) rfl 134 _ _ rfl rfl fo rfl rfl ?_)
      |fail)
     obtain⟨W8,hW8⟩:∃W,wr.alloc (.cells #[(kind:Int),name,(depth:Int),(owner:Int),.slice vp.a vp.n vp.c,.slice ve.a ve.n ve.c,.slice vl.a vl.n vl.c,.slice va (V k).length vc] 134)=W:=⟨_,rfl⟩;rw[hW8]at HT8 HM8 hs8⊢;clear Va
     go_loopg[43] (V k).length (fun q j wr2=>∃j':Nat,q=(V k).length-j'/\j'<=(V k).length/\j=.int .i64 j'/\∃n M L,Y.Tab wr2 pb b ps.length mb n (Y.aX ps F (Y.ep ps F V k) k (V k) j') M L/\n<=k*30000+j'/\(∀ev g,M ev=some g->w1.heap.size<=g)/\Mo (·=mb) w1 wr2)
     case atStart=>exact⟨0,rfl,PK _,rfl,n,M,L,HT8.out,zaa,U8,HM8.out⟩
     case round=>
      clear U8 hn HT8 HM8;obtain⟨j,hq,hj,rfl,n,M,L,Wf,hn,U8,Vp⟩:=hrel;by_cases YV:j<(V k).length
      ·obtain⟨m,hm⟩:∃m,(V k)[j]?=some m:=⟨_,Pp YV⟩;have Vs:=PD hm;obtain⟨he1,he2,he3⟩:=HEV.out k m Vs;have HN:Hid (Y.aX ps F (Y.ep ps F V k) k (V k) (j+1)=Y.mO ps F (Y.aX ps F (Y.ep ps F V k) k (V k) j) k m):=by unfold Hid;rw[Y.aX,hm]
       obtain⟨gm,c,fz,rfl,Ww,hgk,YE⟩:∃gm c fz,va=some ⟨gm,0,none⟩/\(V k).length<=vc/\w1.heap[gm]?=some (.cells c 207 fz)/\∀(j:Nat) (m:Y.MV),(V k)[j]?=some m->w1.rangeAt gm (j*5) m.cells:=by
        rcases HMV.out.2 with h|h
        ·omega
        ·exact h
       have Va:wr.rangeAt gm (j*5) m.cells:=fun i v hv=>(PN (a:=⟨gm,_,none⟩) ((HKD.out _ Vp).aq _ _ _ _ hgk (fun h=>h))).trans (YE j m hm i v hv);obtain⟨T,hTd⟩:∃T,Y.aX ps F (Y.ep ps F V k) k (V k) j=T:=⟨_,rfl⟩;rw[hTd]at Wf HN;obtain⟨event,after,delay,dest,ai⟩:=m;dsimp only at he1 he2 he3;unfold Y.MV.cells at Va;dsimp only at Va;clear YE hTd hm;have WO:=(Pq wr wr).alloc (Po _) (.cells #[event,after,.int .u64 delay,dest,.slice ai.a ai.n ai.c] 207);have Z5:=Wf.below WO;have VV:=Vp.trans (az WO);have s5:=PG wr (.cells #[event,after,.int .u64 delay,dest,.slice ai.a ai.n ai.c] 207);have hB15:Y.dB (wr.alloc (.cells #[event,after,.int .u64 delay,dest,.slice ai.a ai.n ai.c] 207)) pb b ps.length cap hv fin (.map (some mb)):=by
        have h1:=(X8.out.block pb Vo).trans HB.out;exact((HKD.out _ VV).aq _ _ _ _ h1 (fun h=>h)).trans h1
       have U5:=Mu (wr.alloc (.cells #[event,after,.int .u64 delay,dest,.slice ai.a ai.n ai.c] 207)) pb b cap ps.length hv fin mb n M event hB15 Z5.map (by have:k*30000<=24*30000:=Qx _ zaa;omega) he1 hlen;obtain⟨W5,hW5⟩:∃W,wr.alloc (.cells #[event,after,.int .u64 delay,dest,.slice ai.a ai.n ai.c] 207)=W:=⟨_,rfl⟩;rw[hW5]at Z5 VV s5 U5;have HT5:Hid (Y.Tab W5 pb b ps.length mb n T M L):=Z5;clear Wf Vp WO hB15 Z5;have hst:∀{ops:Array Oper} {rest:List Oper} {op:Oper} {a:Act} {Q:Exit->Act->World->Prop},op.guard=none->op.op=.store 207 (.tmp 10) (.tmp 46)->a.eval (.tmp 10)=.pointer (some ⟨wr,0,none⟩)->a.eval (.tmp 46)=.agg #[event,after,.int .u64 delay,dest,.slice ai.a ai.n ai.c]->wpList prog ops Q rest (a.put op.dst undef) W5->wpList prog ops Q (op::rest) a (wr.alloc (.cells #[.string ⟨#[]⟩,false,.int .u64 0,.string ⟨#[]⟩,.slice none 0 0] 207)):=fun h1 h2 h3 h4 h5=>aB h1 207 (.tmp 10) (.tmp 46) h2 207 _ #[event,after,.int .u64 delay,dest,.slice ai.a ai.n ai.c] h3 h4 xm rfl rfl (by rw[hW5];exact h5);have m0:W5.cell? wr=some ↑event:=by rw[Pt _ _ _ _ _ _ s5];rfl
       clear hW5
       go_upto_region 13 with(first
        |(refine QA rfl 207 (.tmp 45) rfl gm (j*5) rfl _ _ Va underlying207 rfl xm ?_)
        |(refine hst rfl rfl rfl rfl ?_)
        |(go_at_call 110;refine U5.mono ?_;intro e w6 hRP;obtain⟨g,M',L',n',rfl,hn',Ze,XD,hlo6,hTab6⟩:=HT5.out.OU hRP)
        |fail)
       have hkN:k<ps.length:=by have:=HX.out;omega
       obtain⟨Z6,hR2,rowP,hTe,Xv,hrel6⟩:=hTab6.row event g Ze;rw[PC rfl]at hTe;have hTe:(T event).getD (List.replicate ps.length none)=rowP:=Qh hTe;obtain⟨mm,X7⟩:∃mm,(L' g)[k]?=some mm:=⟨_,Pp zaa⟩;have cm:=Z6.cell X7;have Zu:=hrel6 k;rw[X7]at Zu;have Z7:=VV.trans XD;have hlo':∀x y,M' x=some y->w1.heap.size<=y:=fun x y h=>by
        rcases hlo6 x y h with h|h
        ·exact U8 x y h
        ·have:=VV.size;omega
       have s6:=((gS (E:=fun _=>False) XD (fun j c t f hj hc=>by
        obtain⟨es,clock,hz⟩:=HT5.out.map.kind;rw[hj,hz]at hc;cases hc)).aq _ _ _ _ s5 (fun h=>h)).trans s5
       have HN:Hid (Y.aX ps F (Y.ep ps F V k) k (V k) (j+1)=fun e=>if e=event then some (match (generalizing:=false) rowP[k]? with|some none=>rowP.set k (some (Y.eQ ps F k ⟨event,after,delay,dest,ai⟩))|_=>rowP) else T e):=by
        unfold Hid;rw[HN.out];unfold Y.mO;dsimp only;rw[hTe]
       have HT6:Hid (Y.Tab w6 pb b ps.length mb n' (fun x=>if x=event then some rowP else T x) M' L'):=by have:=hTab6;rw[hTe]at this;exact this
       have hnB:n'<=k*30000+(j+1):=zaa;clear hTab6 hTe hrel6 U5 HT5 m0 s5 VV XD hlo6 U8 Va hst;cases mm with
       |some q0=>
        have HN:Hid (Y.aX ps F (Y.ep ps F V k) k (V k) (j+1)=fun e=>if e=event then some rowP else T e):=by
         unfold Hid;rw[HN.out]
         match hz:rowP[k]?,Zu with
         |some (some z),_=>rfl
        dsimp only[Option.map]at cm;clear Zu X7;go_wp2_with fail
        go_roundg ((V k).length-(j+1))
        case measure=>omega
        case rel=>exact⟨j+1,rfl,zaa,zah,n',M',L',by rw[HN.out];exact HT6.out,hnB,hlo',Z7⟩
       |none=>
        have HN:Hid (Y.aX ps F (Y.ep ps F V k) k (V k) (j+1)=fun e=>if e=event then some (rowP.set k (some (Y.eQ ps F k ⟨event,after,delay,dest,ai⟩))) else T e):=by
         unfold Hid;rw[HN.out]
         match hz:rowP[k]?,Zu with
         |some none,_=>rfl
        dsimp only[Option.map]at cm;have V5:=Z6.lt;have hs6l:=(Pn.1 s6).1;have hgw:g≠wr.heap.size:=by
         intro e;rw[<- e,show w6.heap[g]?=_ from Z6]at s6;simp at s6
        have hYs:(w6.setCell (g,k) w6).heap.size=w6.heap.size:=zad;have hY:=Z6.set k (some w6.heap.size);dsimp only[Option.map]at hY;have hB7:=(Pq (w6.setCell (g,k) w6).heap.size (w6.setCell (g,k) w6)).alloc (Po _) (.cells #[(k:Int),.int .u32 0,.slice ai.a ai.n ai.c,.func (.func 111) #[] #[]] 270);have m4:w6.cell? (wr,4)=some (.slice ai.a ai.n ai.c):=by rw[Pt _ _ _ _ _ _ s6];rfl
        have m3:((w6.setCell (g,k) w6).alloc (.cells #[(k:Int),.int .u32 0,.slice ai.a ai.n ai.c,.func (.func 111) #[] #[]] 270)).cell? (wr,3)=some ↑dest:=by
         rw[hB7.cell (p:=⟨wr,3,none⟩) (by rw[hYs];exact hs6l),aA (by intro h;injection h with h1 h2;exact hgw h1),Pt _ _ _ _ _ _ s6];rfl
        have VK:=(Pq w6 w6).alloc (Po _) (.cells #[(k:Int),.int .u32 0,.slice ai.a ai.n ai.c,.func (.func 111) #[] #[]] 270);have cmA:=(VK.cell (p:=(g,k)) V5).trans cm;have fz:w6.frozen? (g,k)=false:=Z6.frozen;have fzA:=(VK.frozen (p:=(g,k)) V5).trans fz;have hR7:Y.dC ((w6.setCell (g,k) w6).alloc (.cells #[(k:Int),.int .u32 0,.slice ai.a ai.n ai.c,.func (.func 111) #[] #[]] 270)) g ((L' g).set k (some w6.heap.size)):=(hB7.block g (by rw[hYs];exact V5)).trans hY;have hmo7:Mo (·=g) w6 ((w6.setCell (g,k) w6).alloc (.cells #[(k:Int),.int .u32 0,.slice ai.a ai.n ai.c,.func (.func 111) #[] #[]] 270)):=((Mo.refl (·=g) w6).set ⟨g,k,none⟩ _ rfl).trans (az hB7);have hq7:((w6.setCell (g,k) w6).alloc (.cells #[(k:Int),.int .u32 0,.slice ai.a ai.n ai.c,.func (.func 111) #[] #[]] 270)).heap[w6.heap.size]?=some (.cells #[(k:Int),.int .u32 0,.slice ai.a ai.n ai.c,.func (.func 111) #[] #[]] 270 (0,0)):=by
         have:=PG (w6.setCell (g,k) w6) (.cells #[(k:Int),.int .u32 0,.slice ai.a ai.n ai.c,.func (.func 111) #[] #[]] 270)
         rwa [hYs]at this
        have VH:∀(W9:World) (z:Y.PM),Mo (·=g) w6 W9->Y.dC W9 g ((L' g).set k (some w6.heap.size))->Y.eP W9 pb b w6 z->z=Y.eQ ps F k ⟨event,after,delay,dest,ai⟩->∃n M L,Y.Tab W9 pb b ps.length mb n (Y.aX ps F (Y.ep ps F V k) k (V k) (j+1)) M L/\n<=k*30000+(j+1)/\(∀ev g,M ev=some g->w1.heap.size<=g)/\Mo (·=mb) w1 W9:=fun W9 z Zv hr9 hz hze=>by
         have hkd9:Kd (fun t=>t=267) w6 W9:=gS Zv (fun i c t f hi hc=>by rw[hi,show w6.heap[g]?=_ from Z6]at hc;simp at hc;exact hc.2.1.symm);have:=HT6.out.set Ze hkN (PC rfl) z hkd9 Zv hr9 hz;refine⟨n',M',fun y=>if y=g then(L' g).set k (some w6.heap.size) else L' y,?_,hnB,hlo',Z7.trans' Zv (fun i hi e=>by have:=hlo' event g Ze;omega)⟩;rw[HN.out,<- hze];have e2:(fun y=>if y=event then some (rowP.set k (some z)) else(fun x=>if x=event then some rowP else T x) y)=fun e=>if e=event then some (rowP.set k (some z)) else T e:=by
          funext y;by_cases hy:y=event
          ·rw[PC hy,PC hy]
          ·rw[Pu hy,Pu hy];exact Pu hy
         rw[<- e2];exact this
        clear Zu X7 HT6 Z6 s6 hB7 VK hY hYs
        go_upto_if 66 with fail
        obtain⟨W7,hW7⟩:∃W,((w6.setCell (g,k) w6).alloc (.cells #[(k:Int),.int .u32 0,.slice ai.a ai.n ai.c,.func (.func 111) #[] #[]] 270))=W:=⟨_,rfl⟩;rw[hW7]at m3 hR7 hmo7 hq7⊢;have hglo:=hlo' event g Ze;have hlo6:w1.heap.size<=w6.heap.size:=Z7.size;clear hW7 cmA fzA fz m4 cm;by_cases hde:dest.toList.isEmpty=true
        ·have hdb:(!dest.toList.isEmpty)=false:=by rw[hde];rfl
         rw[hdb];have XR:=VH W7 ⟨k,0,ai,.nil⟩ hmo7 hR7 ⟨_,hq7,rfl⟩ (by unfold Y.eQ;rw[PC hde]);have HRES:Hid _:=XR;clear VH XR m3 hR7 hmo7 hq7;go_wp2_with fail
         go_roundg ((V k).length-(j+1))
         case measure=>omega
         case rel=>
          obtain⟨n2,M2,L2,r1,r2,r3,r4⟩:=HRES.out;exact⟨j+1,rfl,zaa,zah,n2,M2,L2,r1,r2,r3,r4⟩
        ·have hde:dest.toList.isEmpty=false:=by simpa using hde
         have hdb:(!dest.toList.isEmpty)=true:=by rw[hde];rfl
         rw[hdb];have hde1:(dest.toList == [])=false:=by
          cases hz:dest.toList with
          |nil=>rw[hz]at hde;cases hde
          |cons=>rfl
         obtain⟨d,hFd,hdN⟩:=he3 hde;rw[HF.out]at hFd;obtain⟨p,hp⟩:∃p,ps[k]?=some p:=⟨_,Pp hkN⟩;obtain⟨pd,YF⟩:∃p,ps[d]?=some p:=⟨_,Pp hdN⟩;have hw01:=X8.out.size;have X9:Mo (·=mb) w1 W7:=Z7.trans' hmo7 (fun i hi e=>zaa);have hmbw:mb<w.heap.size:=HM.out.lt;obtain⟨es0,clock0,hmb0⟩:=HM.out.kind;have hbm:b≠mb:=HBK.out;have Zw:pb≠mb:=by
          exact zeG
         have hgmb:1≠mb:=by
          obtain⟨c,t,fz,hc⟩:=HGK.out;intro e;rw[e,hmb0]at hc;cases hc
         have Xp:=HP.out.below X8.out Vo hb;have hP7:Y.cJ W7.drew pb b cap ps:=(Xp.mo X9 zaa zaa Zw hbm).below ((Pq W7 W7).drew) (by have:=X9.size;omega) (by have:=X9.size;omega);have hT7:TabAt 1 Lib.deBruijn32tab W7.drew:=X9.kpT zaa hgmb (Y.KpT.of X8.out hg HT.out);have hs7:=X9.size;have hI7:Y.jR W7.drew w X.length F:=HI1.out.mo (jY X9) zaa;have Ya:=hI7.look he2 hFd;have VS:=HGD.out;have hand:∀{x y:Nat},x<2 ^ ps.length->x&&&y<2 ^ ps.length:=fun h=>Qq Rh h;have hlead:=JB W7.drew pb b cap ps k d w6 p pd 0 (.slice ai.a ai.n ai.c) (.func (.func 111) #[] #[]) hp YF (fun i hi=>Y.yu (hand (VS k p hp).2.2.1) hi) (fun i hi=>Y.yu (Qt (hand (VS d pd YF).2.2.1) (VS d pd YF).2.2.2) hi) (fun i q hq jj hj=>Y.yu (VS i q hq).1 hj) hP7 (by show pb<W7.heap.size;omega) (by show b<W7.heap.size;omega) zaa zaa (by show _<W7.heap.size;omega) zaa hT7 hq7;have XR:∀(W9:World) (fv':Value),Mo (·=w6.heap.size) W7.drew W9->W9.heap[w6.heap.size]?=some (.cells #[(k:Int),.int .u32 (Y.dom ps k d),.slice ai.a ai.n ai.c,fv'] 270 (0,0))->Y.uX W9 pb b (Y.iV ps k d) fv'->_:=fun W9 fv' h1 h2 h3=>VH W9 ⟨k,Y.dom ps k d,ai,Y.iV ps k d⟩ ((jY hmo7).trans' h1 (fun i hi e=>zaa)) ((h1.block g (show g<W7.heap.size from hR7.lt) zaa).trans hR7) ⟨fv',h2,h3⟩ (by unfold Y.eQ;rw[Pu (by rw[hde];decide)];dsimp only;rw[hFd]);have HRES:Hid _:=XR;have cq:W7.cell? (g,k)=some ↑w6:=hR7.cell (m:=some w6.heap.size) (P4 zaa);clear VH XR VS hand hI7 hT7 hP7 Xp hR7 hmo7 hq7 he3
         go_upto_region 16 with fail
         refine eD 9 zab zab ?_;simp only[List.take_succ_cons,List.take_zero,List.drop_succ_cons,List.drop_zero]
         repeat still_step
         refine QY ?_;go_wp2_with(go_at_call 112;refine hlead.mono ?_;intro e w8 hL8;obtain⟨rfl,hm8,fv',hq8,hen8⟩:=hL8)
         go_roundg ((V k).length-(j+1))
         case measure=>omega
         case rel=>
          obtain⟨n2,M2,L2,r1,r2,r3,r4⟩:=HRES.out w8 fv' hm8 hq8 hen8;exact⟨j+1,rfl,zaa,zah,n2,M2,L2,r1,r2,r3,r4⟩
      ·obtain rfl:j=(V k).length:=zaa;go_wp2
       go_roundg (X.length-(k+1))
       case measure=>omega
       case rel=>exact⟨k+1,rfl,zaa,zah,n,M,L,Wf,by have:=hVk;rw[R1];omega,U8,Vp⟩
    ·obtain rfl:k=X.length:=zaa;obtain⟨D,hD,hMD⟩:=Wf.map;obtain⟨w2,Zf⟩:∃W,wr=W:=⟨_,rfl⟩;rw[Zf]at Wf Vp hD⊢;have Zp:=Vp.size;have hw01:=X8.out.size;have hmbw:mb<w.heap.size:=HM.out.lt;have h3:w2.cell? (pb,3)=some (.map (some mb)):=by
      have h1:=(X8.out.block pb Vo).trans HB.out;rw[Pt _ _ _ _ _ _ (((HKD.out _ Vp).aq _ _ _ _ h1 (fun h=>h)).trans h1)];rfl
     have HTab:Hid (Y.Tab w2 pb b ps.length mb n (Y.ep ps F V X.length) M L):=Wf;have HMD:Hid (∀ev,match M ev with|none=>Go.Maps.has D (Y.ky ev)=false|some g=>Go.Maps.has D (Y.ky ev)=true/\∀z,D.atKey (Y.ky ev) z=.lit (.int .i64 g)):=hMD;have HMO:Hid (Mo (·=mb) w1 w2):=Vp;clear Wf hMD Vp Vx hq1 hk hn Zf;go_wp2_with(first
      |(refine wpList_range_own _ rfl (.tmp 82) 186 rfl 9 265 Y.Ge underlying186 (Y.pX ps.length) mb n D rfl hD ?_;intro w3 YE hg3 Xx)
      |fail)
     simp only[Act.put,List.setIfInBounds_toArray,List.set_cons_succ,List.set_cons_zero];have hm3:Mo (fun j=>∃ev,M ev=some j) w2 w3:=⟨hg3.os,hg3.tape,hg3.output,hg3.size,fun j hj _=>hg3.block j hj zad⟩;have HR3:Hid (∀ev g,M ev=some g->g<w2.heap.size/\(L g).length=ps.length):=fun ev g h=>⟨(HTab.out.row ev g h).1.lt,(HTab.out.row ev g h).2.1⟩;have hr3:∀ev g,M ev=some g->Y.dC w3 g (if Go.Maps.has D (Y.ky ev) then L g else Y.di ps (L g) ps.length):=fun ev g h=>by
      have h1:=HMD.out ev;rw[h]at h1;rw[PC h1.1];have h2:=(HTab.out.row ev g h).1;exact(hg3.block g h2.lt zad).trans h2
     have HRG:Hid (w3.ranges prog 9 (Y.pX ps.length) mb w2 n D (Go.Maps.has D) (Go.Maps.size D)):=YE;have Zg:Hid (∀ev g,M ev=some g->Y.dC w3 g (if Go.Maps.has D (Y.ky ev) then L g else Y.di ps (L g) ps.length)):=hr3;have HM3:Hid (Mo (fun j=>∃ev,M ev=some j) w2 w3):=hm3;clear YE hr3 hm3 hg3 h3 hD
     go_loopg[13] (Go.Maps.size D) (fun q _ wr=>∃left,wr.ranges prog 9 (Y.pX ps.length) mb w2 n D left q/\(∀kl,left kl=true->Go.Maps.has D kl=true)/\(∀ev g,M ev=some g->Y.dC wr g (if left (Y.ky ev) then L g else Y.di ps (L g) ps.length))/\Mo (fun j=>∃ev,M ev=some j) w2 wr)
     case atStart=>exact⟨_,HRG.out,fun _ h=>h,Zg.out,HM3.out⟩
     case round=>
      obtain⟨left,YE,hle,hrows,Vp⟩:=hrel;have HRG:Hid (wr.ranges prog 9 (Y.pX ps.length) mb w2 n D left gk):=YE;have HRW:Hid (∀ev g,M ev=some g->Y.dC wr g (if left (Y.ky ev) then L g else Y.di ps (L g) ps.length)):=hrows;have XC:Hid (∀kl,left kl=true->Go.Maps.has D kl=true):=hle;have HMW:Hid (Mo (fun j=>∃ev,M ev=some j) w2 wr):=Vp;clear hrows hle Vp Zg HM3;go_wp2_with(first
       |(refine wpList_next_ranges _ rfl (.tmp 83) rfl 9 Y.Ge (Y.pX ps.length) id id (fun key _ _=>⟨key,rfl⟩) (fun v _ _=>⟨v,rfl⟩) mb w2.heap.size n D left gk rfl YE ?_ ?_)
       |fail)
      case refine_1=>
       intro h0 WB;have HALL:Hid (∀kl,left kl=false):=WB;clear WB h0 YE;go_wp2;go_end0;refine⟨rfl,?_⟩;unfold Y.Nf;rw[HF.out];refine⟨⟨n,M,_,HTab.out.NO ps ⟨D,HRG.out.owns,HMD.out⟩ HMW.out (fun ev g h=>?_),HTab.out.once ps HMW.out⟩,?_⟩
       ·have:=HRW.out ev g h;rw[HALL.out,Pu zac]at this;exact this
       ·exact(az X8.out).trans' (HMO.out.trans' HMW.out (fun i hi he=>zcz)) (fun i _ e=>e)
      case refine_2=>
       intro x c kl y ys w4 cnt' Yj YH hv VJ hrg4 Vd Wv Vf hen;obtain⟨s,rfl,rfl⟩:=Y.Jq Yj;have hMs:=HMD.out s;cases Z8:M s with
       |none=>
        rw[Z8]at hMs;have h1:=XC.out _ YH;rw[show Go.Maps.has D (Y.ky s)=false from hMs]at h1;cases h1
       |some g=>
        rw[Z8]at hMs;have hy:y=.lit (.int .i64 g):=(VJ (.lit (.int .i64 0))).symm.trans (hMs.2 _);rw[hy]at hv;have hc:=Y.BF hv;rw[hc]at hen⊢;obtain⟨hg2,Z2⟩:=HR3.out s g Z8;have hglo:=U8 s g Z8;have hrow4:Y.dC w4 g (L g):=by
         have h1:=HRW.out s g Z8;rw[YH,PC rfl]at h1;exact(Wv.block g (by have:=HMW.out.size;omega) zaf).trans h1
        obtain⟨es0,clock0,hmb0⟩:=HM.out.kind;have hbm:b≠mb:=HBK.out;have Zw:pb≠mb:=by
         exact zeG
        have hm4:Mo (·=w2.heap.size) wr w4:=⟨Wv.os,Wv.tape,Wv.output,Wv.size,fun j hj hn=>Wv.block j hj (fun e=>hn za8)⟩;have hmr:=HMW.out.size;have hmo14:Mo (·=mb) w1 w4:=(HMO.out.trans' HMW.out (fun i hi he=>zcz)).trans' hm4 (fun i hi e=>zaa);have Xu:Y.cJ w4 pb b cap ps:=(HP.out.below X8.out Vo hb).mo hmo14 zaa zaa Zw hbm;have hs14:=hmo14.size;have hho:=qD w4 pb b cap ps g (L g) Z2 HOW.out Xu zaa zaa zaa zaa hrow4;have Zx:Hid (∀w5,Y.dC w5 g (Y.di ps (L g) ps.length)->Mo (·=g) w4 w5->∃left,w5.ranges prog 9 (Y.pX ps.length) mb w2 n D left cnt'/\(∀kl,left kl=true->Go.Maps.has D kl=true)/\(∀ev g,M ev=some g->Y.dC w5 g (if left (Y.ky ev) then L g else Y.di ps (L g) ps.length))/\Mo (fun j=>∃ev,M ev=some j) w2 w5):=fun w5 hr5 Zy=>by
         refine⟨fun z=>left z&&!z.sameKey (Y.ky s),hrg4.kept (row:=some g) ⟨Zy.os,Zy.tape,Zy.output,Zy.size,fun j hj hn=>Zy.block j hj (fun e=>hn (by rw[e]))⟩ zaf zaf,fun kl h=>XC.out kl (by simp at h;exact h.1),fun ev g' Xb=>?_,?_⟩
         ·by_cases he:ev=s
          ·rw[he]at Xb⊢;rw[Z8]at Xb;cases Xb
           rw[Pu (by show ¬(left (Y.ky s)&&!(Y.ky s).sameKey (Y.ky s))=true;rw[Y.LO];simp)];exact hr5
          ·have hgg:g'≠g:=fun e=>he (HTab.out.inj ev s g (by rw[<- e];exact Xb) Z8);have h1:=HRW.out ev g' Xb;have h2:=(HR3.out ev g' Xb).1;have h3:=(Zy.block g' zaa hgg).trans (Wv.block g' zaa zaf);by_cases hl:left (Y.ky ev)=true
           ·rw[PC hl]at h1;rw[PC (by show(left (Y.ky ev)&&!(Y.ky ev).sameKey (Y.ky s))=true;rw[Y.EU he,hl];rfl)];exact h3.trans h1
           ·rw[Pu hl]at h1;rw[Pu (by show ¬(left (Y.ky ev)&&!(Y.ky ev).sameKey (Y.ky s))=true;rw[Y.EU he];simpa using hl)];exact h3.trans h1
         ·exact(HMW.out.trans' hm4 (fun i hi e=>zaa)).trans' Zy (fun i _ e=>⟨s,by rw[e];exact Z8⟩)
        clear YE hrg4 Yj hv VJ hc Xu hrow4 hmo14 hm4 Wv hMs hy;go_wp2_with(go_at_call 113;refine hho.mono ?_;intro e w5 h5;obtain⟨rfl,hr5,Zy⟩:=h5)
        go_roundg cnt'
        case measure=>exact Vd
        case rel=>exact Zx.out w5 hr5 Zy
namespace Y
def zPS:PS:={ kind:=0,name:=⟨#[]⟩,done:=⟨#[]⟩,owner:=0,parts:=0,inside:=0,around:=0,wth:=0,enter:=⟨none,0,0⟩,leave:=⟨none,0,0⟩ }
def bL(X:List MS):Nat->List PS
 |0=>List.replicate X.length zPS
 |k+1=>match X[k]? with|some x=>nW (bL X k) k x|none=>bL X k
def bF(X:List MS):Nat->Nat
 |0=>0
 |k+1=>match X[k]? with|some x=>sA (bF X k) k x|none=>bF X k
def dY(ps:List PS):Nat->List PS
 |0=>ps
 |k+1=>bT (dY ps k) (ps.length-1-k)
theorem eN(X:List MS):∀k,(bL X k).length=X.length
 |0=>by simp[bL]
 |k+1=>by
  rw[bL];split
  ·rw[Io,eN X k]
  ·exact eN X k
theorem zC(ps:List PS)(i:Nat):(bT ps i).length=ps.length:=by
 unfold bT;split
 ·rfl
 ·split
  ·simp
  ·split<;>simp
theorem qP(ps:List PS):∀k,(dY ps k).length=ps.length
 |0=>rfl
 |k+1=>by rw[dY,zC,qP ps k]
def dt(N:Nat)(ps:List PS):Prop:=∀(i:Nat) (p:PS),ps[i]?=some p->p.parts<2 ^ N/\p.inside<2 ^ N/\p.around<2 ^ N/\p.wth<2 ^ N
theorem dt.sms(h:dt N ps)(hN:N<=24):Sms ps:=fun i p hi=>by
 have h2:2 ^ N<=2 ^ 24:=Rc zac hN;obtain⟨a,b,c,d⟩:=h i p hi;exact⟨zaa,zaa,zaa,zaa⟩
theorem dt.set(h:dt N ps)(i:Nat)(p:PS)(hp:p.parts<2 ^ N/\p.inside<2 ^ N/\p.around<2 ^ N/\p.wth<2 ^ N):dt N (ps.set i p):=fun j q hq=>by
 by_cases e:i=j
 ·subst e;have hl:i<ps.length:=by have:=(Ps.1 hq).1;simpa using this
  rw[P4 hl]at hq;cases hq
  exact hp
 ·rw[Qb e]at hq;exact h j q hq
theorem gZ(h:i<N):2 ^ i<2 ^ N:=SJ zac h
theorem dR(N:Nat):0<2 ^ N:=Q3 N
theorem vR(h:dt N ps)(hi:i<N)(x:MS)(ho:x.owner=-1\/∃o:Nat,x.owner=o/\o<i):dt N (nW ps i x):=by
 have hz:=dR N;unfold nW;split
 ·exact h.set _ _ ⟨hz,hz,hz,hz⟩
 ·rename_i hn;obtain⟨o,ho,hoi⟩:∃o:Nat,x.owner=o/\o<i:=by
   exact zeD
  split
  ·exact h
  ·rename_i q hq;obtain⟨a,b,c,d⟩:=h _ q hq;have YD:x.owner.toNat=o:=by rw[ho];rfl
   refine dt.set ?_ _ _ ⟨hz,hz,Qt c (by rw[YD];exact gZ zaa),hz⟩;split
   ·exact h
   ·exact h.set _ _ ⟨Qt a (gZ hi),b,c,d⟩
theorem kY(h:dt N ps)(i:Nat):gn ps i<2 ^ N:=by
 unfold gn;split
 ·rename_i p hp;exact(h i p hp).2.2.2
 ·exact dR N
theorem Bi{N:Nat}{ps:List PS}(h:dt N ps):∀(l:List Nat) (o:Nat),o<2 ^ N->orW ps o l<2 ^ N
 |[],_,ho=>ho
 |k::l,_,ho=>Bi h l _ (Qt ho (kY h k))
theorem om(h:dt N ps)(hi:i<N):dt N (bT ps i):=by
 unfold bT;split
 ·exact h
 ·rename_i p hp;obtain⟨a,b,c,d⟩:=h i p hp;have h1:dt N (ps.set i { p with wth:=lU ps i p }):=h.set _ _ ⟨a,b,c,Bi h _ _ (gZ hi)⟩;split
  ·exact h1
  ·split
   ·exact h1
   ·rename_i q hq;obtain⟨a',b',c',d'⟩:=h _ q hq;exact h1.set _ _ ⟨a',Qt b' (Qt b (gZ hi)),c',d'⟩
theorem oC(X:List MS){N:Nat}(hN:X.length<=N):∀k,k<=N->bF X k<2 ^ N
 |0,_=>dR N
 |k+1,hk=>by
  rw[bF];have ih:=oC X hN k zaa;split
  ·unfold sA;split
   ·exact Qt ih (gZ zaa)
   ·exact ih
  ·exact ih
structure Ord(X:List MS)(k:Nat)(ps:List PS):Prop where
 own:∀(i:Nat) (p:PS) (x:MS),i<k->ps[i]?=some p->X[i]?=some x->p.owner=x.owner/\p.kind=x.kind
 part:∀(i:Nat) (p:PS),ps[i]?=some p->∀j∈els p.parts,i<j/\j<k
theorem ND{a j:Nat}(h:j∈els (a|||2 ^ i)):j∈els a\/j=i:=by
 obtain⟨h1,h2⟩:=pK.1 h;rw[US]at h2;by_cases e:j=i
 ·exact .inr e
 ·rw[Nat.testBit_two_pow_of_ne (fun x=>e x.symm),Tf]at h2;exact .inl (pK.2 ⟨h1,h2⟩)
theorem zS(h:Ord X k ps)(hl:k<ps.length){x:MS}(hx:X[k]?=some x)(ho:x.owner=-1\/∃o:Nat,x.owner=o/\o<k):Ord X (k+1) (nW ps k x):=by
 have hz:∀j,j ∉ els 0:=fun j hj=>by rw[my]at hj;cases hj
 have Vq:∀(qs:List PS) (ar:Nat),qs.length=ps.length->(∀(i:Nat) (p:PS) (y:MS),i<k->qs[i]?=some p->X[i]?=some y->p.owner=y.owner/\p.kind=y.kind)->(∀(i:Nat) (p:PS),qs[i]?=some p->∀j∈els p.parts,i<j/\j<k+1)->Ord X (k+1) (qs.set k (Gt x ar)):=fun qs ar Yb h1 h2=>by
  refine⟨fun i p y hi hp hy=>?_,fun i p hp j hj=>?_⟩
  ·by_cases e:k=i
   ·subst e;rw[P4 zaa]at hp;rw[hx]at hy;cases hp;cases hy
    exact⟨rfl,rfl⟩
   ·rw[Qb e]at hp;exact h1 i p y zaa hp hy
  ·by_cases e:k=i
   ·subst e;rw[P4 zaa]at hp;cases hp
    exact absurd hj (hz j)
   ·rw[Qb e]at hp;exact h2 i p hp j hj
 have hpp:∀(i:Nat) (p:PS),ps[i]?=some p->∀j∈els p.parts,i<j/\j<k+1:=fun i p hp j hj=>by have:=h.part i p hp j hj;omega
 unfold nW;split
 ·exact Vq ps 0 rfl (fun i p y hi hp hy=>h.own i p y hi hp hy) hpp
 ·rename_i hn;obtain⟨o,ho,hoi⟩:∃o:Nat,x.owner=o/\o<k:=by
   exact zeD
  have YD:x.owner.toNat=o:=by rw[ho];rfl
  rw[YD];split
  ·rename_i hq;rw[Pp zaa]at hq;cases hq
  ·rename_i q hq;split
   ·exact Vq ps _ rfl (fun i p y hi hp hy=>h.own i p y hi hp hy) hpp
   ·refine Vq _ _ zad (fun i p y hi hp hy=>?_) (fun i p hp j hj=>?_)
    ·by_cases e:o=i
     ·subst e;rw[P4 zaa]at hp;cases hp
      exact h.own o q y hi hq hy
     ·rw[Qb e]at hp;exact h.own i p y hi hp hy
    ·by_cases e:o=i
     ·subst e;rw[P4 zaa]at hp;cases hp
      rcases ND hj with h1|h1
      ·have:=h.part o q hq j h1;omega
      ·omega
     ·rw[Qb e]at hp;exact hpp i p hp j hj
theorem qg(h:Ord X k ps):Ord X k (bT ps i):=by
 have Vq:∀(qs:List PS),Ord X k qs->∀(j:Nat) (p p':PS),qs[j]?=some p->p'.owner=p.owner->p'.kind=p.kind->p'.parts=p.parts->Ord X k (qs.set j p'):=fun qs hq j p p' hp e1 e2 e3=>by
  have hjl:=(Ps.1 hp).1;refine⟨fun a q y ha hqa hy=>?_,fun a q hqa b hb=>?_⟩
  ·by_cases e:j=a
   ·subst e;rw[P4 hjl]at hqa;cases hqa
    rw[e1,e2];exact hq.own j p y ha hp hy
   ·rw[Qb e]at hqa;exact hq.own a q y ha hqa hy
  ·by_cases e:j=a
   ·subst e;rw[P4 hjl]at hqa;cases hqa
    rw[e3]at hb;exact hq.part j p hp b hb
   ·rw[Qb e]at hqa;exact hq.part a q hqa b hb
 unfold bT;split
 ·exact h
 ·rename_i p hp;have h1:=Vq ps h i p { p with wth:=lU ps i p } hp rfl rfl rfl;split
  ·exact h1
  ·split
   ·exact h1
   ·rename_i q hq;by_cases e:i=p.owner.toNat
    ·rw[<- e]at hq⊢;rw[hp]at hq;cases hq
     rw[S1];exact Vq ps h i p _ hp rfl rfl rfl
    ·exact Vq _ h1 _ q _ (by rw[Qb e];exact hq) rfl rfl rfl
