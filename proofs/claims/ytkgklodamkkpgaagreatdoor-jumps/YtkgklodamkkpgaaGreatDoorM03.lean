import Derived.Test.YtkgklodamkkpgaaGreatDoorM02
import Derived.Deep.AppendLies
set_option maxRecDepth 100000
set_option maxHeartbeats 8000000
namespace Go.Proofs.YtkgklodamkkpgaaGreatDoor
variable {zp:Prop}
theorem zdi (h:zp:=by
 go_wp2_with (first
  | (refine Om rfl 161 (.tmp 14) rfl b (k*10) rfl _ _ hrng underlying161 rfl dX ?_)
  | (refine hst rfl rfl rfl rfl ?_)
  | fail)
 go_roundg (ps.length-(k+1))
 case measure=>omega
 case rel=>exact ⟨k+1,rfl,zaa,zah,by rw [HN.out];exact hrow5,hmo5⟩):zp:=h
theorem zet (h:zp:=by
 clear h4;go_wp2_with fail;go_meet
 case rel=>exact ⟨rfl,_,_,rfl,hK4⟩):zp:=h
theorem zeG (h:zp:=by
 rcases ho with h | h
 ·rw [h] at hn;exact absurd rfl hn
 ·exact h):zp:=h
theorem zeJ (h:zp:=by
 intro e;have h1:w.heap[pb]?=_:=HB.out;rw [e,hmb0] at h1;cases h1):zp:=h
theorem zeW (h:zp:=by
 go_enter func102,ntmps102;go_wp2;go_ret;exact hfin _ rfl):zp:=h
theorem za7 (h:zp:=by cases e;rfl):zp:=h
theorem zbf (h:zp:=by rw [M0 w _ _ _ _ _ hB];rfl):zp:=h
theorem zbx (h:zp:=by rintro t (rfl | rfl | rfl | rfl | rfl) <;> decide):zp:=h
theorem zct (h:zp:=by obtain ⟨ev,he⟩:=he;have:=hlo ev i he;omega):zp:=h
open Tryz
variable {E:TypeId->Prop} {A B W W':World} {P:Nat->Prop} {F M:ByteArray->Option Nat} {k n g pb N b mb i ib cb cg cc:Nat} {t:TypeId} {v:Value} {ps:List Pg.PS} {ev nm:ByteArray} {L:Nat->List (Option Nat)} {X:List Pg.MS}
section
open Go.RowKit Go.Proofs Go.Shelf
structure Kd (E:TypeId->Prop) (W W':World):Prop where
 size:W.heap.size<=W'.heap.size
 ao:∀ (k:Nat) (c:Array Value) (t:TypeId) (f:Nat×Nat),W.heap[k]?=some (.cells c t f)->¬ E t->W'.heap[k]?=W.heap[k]?
theorem Kd.trans {C:World} (h:Kd E A B) (k:Kd E B C):Kd E A C:=⟨MX h.size k.size,fun i c t f hi hn=>by rw [k.ao i c t f ((h.ao i c t f hi hn).trans hi) hn,h.ao i c t f hi hn]⟩
theorem bD (h:Below A A B):Kd E A B:=⟨h.size,fun k _ _ _ hk _=>h.block k (MQ.1 hk).1⟩
theorem fX (h:Mo P A B) (hP:∀ (k:Nat) (c:Array Value) (t:TypeId) (f:Nat×Nat),P k->A.heap[k]?=some (.cells c t f)->E t):Kd E A B:=⟨h.size,fun k c t f hk hn=>h.block k (MQ.1 hk).1 (fun hp=>hn (hP k c t f hp hk))⟩
theorem Kd.mono {F:TypeId->Prop} (h:Kd E A B) (hE:∀ t,E t->F t):Kd F A B:=⟨h.size,fun k c t f hk hn=>h.ao k c t f hk (fun he=>hn (hE t he))⟩
theorem Kd.boxed (h:Kd E A B) (hb:Boxed A k t v) (hn:¬ E t):Boxed B k t v:=(h.ao k _ _ _ hb hn).trans hb
theorem Hk {w:World} {base size:Nat} {e:TypeId} {xs:List Value} {c:Array Value} {fz:Nat×Nat} (h:w.ownsRow base e size v n xs) (hg:w.heap[g]?=some (.cells c t fz)) (hne:t≠e):v.ownBlock≠some g:=by
 rcases h.2 with ⟨h0,_⟩ | ⟨k,cap,cur,hv,_,hk,_⟩
 ·rw [h0];intro e;cases e
 ·rw [hv];intro e;have e:k=g:=za7;rw [e,hg] at hk;simp at hk;exact hne hk.2.1
namespace Pg
structure HV where
 idx:Nat
 own:Nat
 ao:Value
def HV.cells (h:HV):List Value:=[(h.idx:Int),(h.own:Int),h.ao]
def jY (W:World) (pb:Nat) (deep:Bool) (po:PS) (v:Value):Prop :=
 ∃ c,W.heap[c]?=some (.cells po.cells.toArray 161 (0,0))/\if deep then ∃ d,v = .func (.func 100) #[] #[.pointer (some ⟨d,0,none⟩),.pointer (some ⟨c,0,none⟩)]/\Boxed W d 73 pb else v = .func (.func 99) #[] #[.pointer (some ⟨c,0,none⟩)]
theorem jY.kd {deep:Bool} {po:PS} (h:jY W pb deep po v) (hk:Kd E W W') (h1:¬ E 161) (h2:¬ E 73):jY W' pb deep po v:=by
 obtain ⟨c,hc,h⟩:=h;refine ⟨c,(hk.ao _ _ _ _ hc h1).trans hc,?_⟩;cases deep
 ·exact h
 ·obtain ⟨d,hd,hb⟩:=h;exact ⟨d,hd,hk.boxed hb h2⟩
def Fp (w w':World) (pb b cap:Nat) (ps:List PS) (i:Nat) (x:MS) (hv:Ref.Sl) (mv:Value) (fin:Nat) (H:List HV):Prop :=
 (isH x.kind=false/\Below w w w')\/(isH x.kind=true/\∃ (o:Nat) (po:PS) (kv:Value) (hv':Ref.Sl),x.owner=o/\ps[o]?=some po/\jY w' pb (decide (x.kind=4)) po kv/\di w' pb b ps.length cap (.slice hv'.a hv'.n hv'.c) fin mv/\w'.ownsRow 0 237 3 (.slice hv'.a hv'.n hv'.c) (H.length+1) ((H++[HV.mk i o kv]).flatMap HV.cells)/\Mo (fun k=>k=pb\/hv.v.ownBlock=some k) w w'/\Kd (fun t=>t=166\/t=237) w w'/\∀ g,hv'.v.ownBlock=some g->hv.v.ownBlock=some g\/w.heap.size<=g)
end Pg
theorem Gs:(Tryz.prog.info? 237).map (fun i=>(i.zero,i.size,i.bytes))=some (some (.agg #[(0:Int),(0:Int),.nilFunc]),3,24):=zab
theorem qZ (w:World) (pb b cap:Nat) (ps:List Pg.PS) (i:Nat) (x:Pg.MS) (hv:Ref.Sl) (mv:Value) (fin:Nat) (H:List Pg.HV) (hB:Pg.di w pb b ps.length cap (.slice hv.a hv.n hv.c) fin mv) (hP:Pg.bu w pb b cap ps) (hb:b<w.heap.size) (hH:w.ownsRow 0 237 3 (.slice hv.a hv.n hv.c) H.length (H.flatMap Pg.HV.cells)) (hHl:H.length<=24)
  (how:Pg.isH x.kind=true->∃ (o:Nat) (po:Pg.PS),x.owner=o/\ps[o]?=some po) :
  () 63 #[pb,(i:Int),.agg x.arr] w fun e w'=>e = .returned (.tuple #[])/\Pg.Fp w w' pb b cap ps i x hv mv fin H:=by
 have hpb:pb<w.heap.size:=(MQ.1 hB).1;have hlen:=hP.len;have hne:=hP.ne;obtain ⟨kind,name,depth,owner,vp,ve,vl,vm⟩:=x;dsimp only at how;have hhist:=rP kind;obtain ⟨hb0,hh⟩:∃ hb0,(decide (kind=3)||decide (kind=4))=hb0:=⟨_,rfl⟩;have HI:Hid (Pg.isH kind=hb0):=hh;rw [hh] at hhist;rw [HI.out] at how;unfold Pg.MS.arr;dsimp only;have hB1:=((MY w w).alloc (MR _) (.cells #[pb] 73)).alloc zad (.cells #[(kind:Int),name,(depth:Int),(owner:Int),.slice vp.a vp.n vp.c,.slice ve.a ve.n ve.c,.slice vl.a vl.n vl.c,.slice vm.a vm.n vm.c] 171);have c3:Boxed ((w.alloc (.cells #[pb] 73)).alloc (.cells #[(kind:Int),name,(depth:Int),(owner:Int),.slice vp.a vp.n vp.c,.slice ve.a ve.n ve.c,.slice vl.a vl.n vl.c,.slice vm.a vm.n vm.c] 171)) w.heap.size 73 pb:=(NA w _ _).alloc _;have s5:=bR w (.cells #[pb] 73) (.cells #[(kind:Int),name,(depth:Int),(owner:Int),.slice vp.a vp.n vp.c,.slice ve.a ve.n ve.c,.slice vl.a vl.n vl.c,.slice vm.a vm.n vm.c] 171);clear hh;cases hb0
 ·go_enter func63,ntmps63;go_wp2_with (go_at_call 98;refine (hhist _).mono ?_;rintro e w9 ⟨rfl,hw9⟩;rw [hw9];clear hw9 w9);refine OI (N5 rfl _ _ _) rfl ?_;refine ⟨rfl,?_⟩;unfold Pg.Fp;exact .inl ⟨HI.out,hB1⟩
 ·obtain ⟨ow,po,rfl,hpo⟩:=how rfl;have hol:ow<ps.length:=(MZ.1 hpo).1;go_enter func63,ntmps63
  go_upto_region 2 with (go_at_call 98;refine (hhist _).mono ?_;rintro e w9 ⟨rfl,hw9⟩;rw [hw9];clear hw9 w9)
  obtain ⟨W1,hW1⟩:∃ W,(w.alloc (.cells #[pb] 73)).alloc (.cells #[(kind:Int),name,(depth:Int),.int .i64 (ow:Int),.slice vp.a vp.n vp.c,.slice ve.a ve.n ve.c,.slice vl.a vl.n vl.c,.slice vm.a vm.n vm.c] 171)=W:=⟨_,rfl⟩;rw [hW1] at hB1 c3 s5 ⊢;clear hW1 hhist how;have hs1:=hB1.size;have hP1:=hP.below hB1 hpb hb;have hpb1:pb<W1.heap.size:=zaa;have hb1:b<W1.heap.size:=zaa;have h5l:w.heap.size+1<W1.heap.size:=(MQ.1 s5).1;have h53:W1.cell? ⟨w.heap.size+1,3,none⟩=some ↑(ow:Int):=by rw [M0 W1 _ _ _ _ _ s5];rfl
  have h50:W1.cell? ⟨w.heap.size+1,0,none⟩=some ↑(kind:Int):=by rw [M0 W1 _ _ _ _ _ s5];rfl
  have hrg:W1.rangeAt b (ow*10) po.cells:=fun j v hv=>(hP1.at' ow po hpo j v hv).1;have hBn:∀ cs:Array Value,Below W1 W1 (W1.alloc (.cells cs 161)).drew:=fun cs=>((MY _ W1).alloc (MR _) _).drew;have hone9:po.cells.toArray.all (·.oneCell')=true:=zbz;have hlen9:po.cells.length=10:=rfl;have hrun:(storeCells ⟨W1,0,none⟩ po.cells).run prog (W1.alloc (.cells #[(0:Int),.string ⟨#[]⟩,.string ⟨#[]⟩,(0:Int),.int .u32 0,.int .u32 0,.int .u32 0,.int .u32 0,.slice none 0 0,.slice none 0 0] 161)).drew = .ok () (W1.alloc (.cells po.cells.toArray 161)).drew:=run_storeCells_new (P:=prog) W1.drew 161 #[(0:Int),.string ⟨#[]⟩,.string ⟨#[]⟩,(0:Int),.int .u32 0,.int .u32 0,.int .u32 0,.int .u32 0,.slice none 0 0,.slice none 0 0] po.cells.toArray dX rfl hone9;have hkB:∀ V:World,Below W1 W1 V->(fun V=>V.cell? w=some ↑pb/\V.cell? pb=some (.slice b ps.length cap)/\V.cell? ⟨w.heap.size+1,3,none⟩=some ↑(ow:Int)/\V.rangeAt b (ow*10) po.cells) V:=fun V hBa=>⟨(hBa.cell (p:=⟨w,0,none⟩) c3.lt).trans c3.cell,(hBa.cell (p:=⟨pb,0,none⟩) hpb1).trans hP1.row,(hBa.cell (p:=⟨w.heap.size+1,3,none⟩) h5l).trans h53,fun j v hv=>(hBa.cell (p:=⟨b,ow*10+j,none⟩) hb1).trans (hrg j v hv)⟩;refine No (S:=(fun V=>V.cell? w=some ↑pb/\V.cell? pb=some (.slice b ps.length cap)/\V.cell? ⟨w.heap.size+1,3,none⟩=some ↑(ow:Int)/\V.rangeAt b (ow*10) po.cells)) zab (hkB _ (MY _ W1).drew) (fun u0 => ?_);refine tH 0 pb rfl u0 ?_;refine tH 1 pb rfl u0 ?_;refine tH 2 pb rfl u0 ?_;refine tH 3 (.slice b ps.length cap) rfl u0 ?_;refine tH 4 (.pointer (some ⟨w.heap.size+1,3,none⟩)) rfl u0 ?_;refine tH 5 (.int .i64 ow) rfl u0 ?_;refine tH 6 (.pointer (some ⟨b,ow*10,none⟩)) rfl u0 ?_;refine RI (i:=7) (v:=(.agg po.cells.toArray)) rfl zab zab zab (fun _ _ _ h=>h) (yieldsIf_load_mid rfl 161 (.tmp 18) rfl b (ow*10) rfl po.cells _ (fun w hSw=>hSw.2.2.2) underlying161 rfl dX) u0 ?_;refine zH 8 rfl fun K hK => ?_;go_simp;refine hK.out _ _ (hkB _ (hBn _)) (fun u0 => ?_);clear hK K;refine zH 9 rfl fun K hK => ?_;go_simp;refine hK.out _ _ (hkB _ (hBn _)) (fun u0 => ?_);clear hK K u0;refine Nt zab ?_ _;have hB2:=hBn po.cells.toArray;have s6:(W1.alloc (.cells po.cells.toArray 161)).drew.heap[W1.heap.size]?=some (.cells po.cells.toArray 161 (0,0)):=Na W1 _;obtain ⟨B6,hB6⟩:∃ B,W1.heap.size=B:=⟨_,rfl⟩;obtain ⟨W2,hW2⟩:∃ W,(W1.alloc (.cells po.cells.toArray 161)).drew=W:=⟨_,rfl⟩;have hB02:Below w w (W1.alloc (.cells po.cells.toArray 161)).drew:=hB1.trans (hB2.mono hs1);have c3:=aB c3 hB2 c3.lt;have HS5:Hid (∃ c,(W1.alloc (.cells po.cells.toArray 161)).drew.heap[w.heap.size+1]?=some (.cells c 171 (0,0))/\c[3]?=some (.int .i64 ow)):=⟨_,(hB2.block _ h5l).trans s5,rfl⟩;have h53:=(hB2.cell (p:=⟨w.heap.size+1,3,none⟩) h5l).trans h53;have h50:=(hB2.cell (p:=⟨w.heap.size+1,0,none⟩) h5l).trans h50;rw [hW2] at hB2 s6 hB02 c3 h53 h50 HS5 ⊢;have hB6w:w.heap.size<=B6:=zaa;have h5l:w.heap.size+1<W2.heap.size:=Nq h5l hB2.size;rw [hB6] at s6 ⊢;clear hkB hrun hBn hrg hP1 hpb1 hb1 hB1 s5 hs1 hW2 hB6 hB2
  go_upto_if 23 with fail
  go_cut [7] from 8 (fun s7 V=>V=W2/\∃ f cps,s7 = .func f #[] cps/\Pg.jY W2 pb (decide (kind=4)) po (.func f #[] cps))
  case first =>
   by_cases h4:kind=4
   ·have h4':(kind == 4)=true:=by rw [h4];rfl
    have hK4:Pg.jY W2 pb (decide (kind=4)) po (.func (.func 100) #[] #[w,B6]):=by rw [h4];exact ⟨B6,s6,_,rfl,c3⟩
    exact zet
   ·have h4':(kind == 4)=false:=by simpa using h4
    have hK4:Pg.jY W2 pb (decide (kind=4)) po (.func (.func 99) #[] #[B6]):=by rw [NM h4];exact ⟨B6,s6,rfl⟩
    exact zet
  case rest =>
   obtain ⟨rfl,f,cps,rfl,hKA⟩:=hcut;obtain ⟨i0,hi,hz0,hz1,hz2⟩:=OB Gs;have hPBc:=(hB02.block pb hpb).trans hB;have hp1:wc.cell? ⟨pb,1,none⟩=some (.slice hv.a hv.n hv.c):=by rw [M0 wc _ _ _ _ _ hPBc];rfl
   have hpbl:pb<wc.heap.size:=(MQ.1 hPBc).1;have hp1a:∀ o:Obj,(wc.alloc o).cell? ⟨pb,1,none⟩=some (.slice hv.a hv.n hv.c):=fun o=>(((MY wc wc).alloc (MR _) o).cell (p:=⟨pb,1,none⟩) hpbl).trans hp1;have hown:=(ay (P:=fun _=>False) hB02).own hH (fun _ _ h=>h);have hBn:∀ cs:Array Value,Below wc wc (wc.alloc (.cells cs 237)).drew:=fun cs=>((MY _ wc).alloc (MR _) _).drew;have hownA:(wc.alloc (.cells #[(i:Int),(ow:Int),.func f #[] cps] 237)).drew.ownsRow 0 237 3 (.slice hv.a hv.n hv.c) H.length (H.flatMap Pg.HV.cells):=O7 hown _;have hnk:∀ u∈[Value.int .i64 (i:Int),.int .i64 (ow:Int),.func f #[] cps],u.oneCell'=true:=by
    intro u hu;simp at hu
    rcases hu with rfl | rfl | rfl
    ·rfl
    ·rfl
    ·rfl
   have hcl:wc.heap.size<(wc.alloc (.cells #[(i:Int),(ow:Int),.func f #[] cps] 237)).heap.size:=zad;have hBn0:=hBn #[(i:Int),(ow:Int),.func f #[] cps];have hgr:∀ w5,(wc.alloc (.cells #[(i:Int),(ow:Int),.func f #[] cps] 237)).drew.grownBy w5 (Value.ownBlock (.slice hv.a hv.n hv.c))->(∀ (k:Nat) (c:Array Value) (t:TypeId) (fz:Nat×Nat),wc.heap[k]?=some (.cells c t fz)->t≠237->w5.heap[k]?=some (.cells c t fz)):=fun w5 hg k c t fz hk hne=>by
    have hkl:=(MQ.1 hk).1;have h0:=(hBn0.block k hkl).trans hk;rw [hg.block k (Nq hkl hBn0.size) (fun e=>Hk hown hk hne e.symm)];exact h0
   have s5c:∃ c,wc.heap[w.heap.size+1]?=some (.cells c 171 (0,0))/\c[3]?=some (.int .i64 ow):=HS5.out;have hg3:=fun w5 hg=>(hgr w5 hg _ _ _ _ c3 zac);have hgS:∀ w5,(wc.alloc (.cells #[(i:Int),(ow:Int),.func f #[] cps] 237)).drew.grownBy w5 (Value.ownBlock (.slice hv.a hv.n hv.c))->(w5.cell? w=some ↑pb/\w5.cell? ⟨w.heap.size+1,3,none⟩=some ↑(ow:Int))/\w5.cell? ⟨pb,1,none⟩=some (.slice hv.a hv.n hv.c)/\w5.frozen? ⟨pb,1,none⟩=false:=fun w5 hg=>by
    obtain ⟨c,hc,hc3⟩:=s5c;have hq:=hgr w5 hg _ _ _ _ hPBc zac;refine ⟨⟨(show Boxed w5 w _ _ from hg3 w5 hg).cell,?_⟩,?_,?_⟩
    ·rw [M0 w5 _ _ _ _ _ (hgr w5 hg _ _ _ _ hc zac)];exact hc3
    ·rw [M0 w5 _ _ _ _ _ hq];rfl
    ·simp [World.frozen?,hq]
   go_wp2_with fail;have hkB:∀ V:World,Below wc wc V->(fun V=>V.cell? w=some ↑pb/\V.cell? ⟨w.heap.size+1,3,none⟩=some ↑(ow:Int)) V:=fun V hBa=>⟨(hBa.cell (p:=⟨w,0,none⟩) c3.lt).trans c3.cell,(hBa.cell (p:=⟨w.heap.size+1,3,none⟩) h5l).trans h53⟩;refine No (S:=(fun V=>V.cell? w=some ↑pb/\V.cell? ⟨w.heap.size+1,3,none⟩=some ↑(ow:Int))) zab (hkB _ (MY _ wc).drew) (fun u0 => ?_);refine tH 0 pb rfl u0 ?_;refine tH 1 pb rfl u0 ?_;refine tH 2 pb rfl u0 ?_;refine tH 3 (.pointer (some ⟨pb,1,none⟩)) rfl u0 ?_;refine tH 5 (.int .i64 i) rfl u0 ?_;refine tH 6 (.pointer (some ⟨w.heap.size+1,3,none⟩)) rfl u0 ?_;refine tH 7 (.int .i64 ow) rfl u0 ?_;refine tH 8 (.func f #[] cps) rfl u0 ?_;refine tH 9 (.agg #[(i:Int),(ow:Int),.func f #[] cps]) rfl u0 ?_;refine yH [4,10] ?_;refine NJ rfl (fun K hK => ?rg3) (NJ rfl (fun K hK => ?rg4) Ou)
   case' rg3 =>
    go_simp;refine hK.out _ _ u0 (fun u0 => ?_);clear hK K;refine zH 10 rfl fun K hK => ?_;go_simp;refine hK.out _ _ (hkB _ (hBn _)) (fun u0 => ?_);clear hK K;refine zH 11 rfl fun K hK => ?_;refine step_append_lies _ zaf _ _ _ zaf 0 237 i0 _ 3 24 underlying163 hi hz0 hz1 hz2 rfl zac (.slice hv.a hv.n hv.c) H.length (H.flatMap Pg.HV.cells) zaf hownA ⟨wc,0,none⟩ 1 1 [(i:Int),(ow:Int),.func f #[] cps] zaf zaf (World.news_of_block (cs:=#[(i:Int),(ow:Int),.func f #[] cps]) (t:=237) (fr:=(0,0)) (Na wc _)) hnk zaa zag zaa (Ni _) _ rfl ?_;intro g5 cap5 w5 hown5 hgrow hat hlt5;obtain ⟨hS5,hpc,hpf⟩:=hgS w5 hgrow;refine hK.out _ _ hS5 (fun u0 => ?_);clear hK K;refine tH 12 pb rfl u0 ?_;refine tH 13 (.pointer (some ⟨pb,1,none⟩)) rfl u0 ?_;refine zH 14 rfl fun K hK => ?_;go_simp;refine hK.out _ _ (by
     have e:∀ (a:Addr),a≠⟨pb,1,none⟩->∀ v,(w5.setCell ⟨pb,1,none⟩ v).cell? a=w5.cell? a:=fun a ha v=>az (fun h=>ha h.symm)
     (try dsimp only at u0);(try dsimp only)
     rw [e _ zak,e _ zak];exact u0) (fun u0 => ?_)
    clear hK K u0;refine Nt zab ?_ _
   case' rg4 =>
    go_simp;refine hK.out _ _ (hkB _ (hBn _)) (fun u0 => ?_);clear hK K;refine zH 4 rfl fun K hK => ?_;go_simp;refine hK.out _ _ u0 (fun u0 => ?_);clear hK K;refine zH 11 rfl fun K hK => ?_;refine step_append_lies _ zaf _ _ _ zaf 0 237 i0 _ 3 24 underlying163 hi hz0 hz1 hz2 rfl zac (.slice hv.a hv.n hv.c) H.length (H.flatMap Pg.HV.cells) zaf hownA ⟨wc,0,none⟩ 1 1 [(i:Int),(ow:Int),.func f #[] cps] zaf zaf (World.news_of_block (cs:=#[(i:Int),(ow:Int),.func f #[] cps]) (t:=237) (fr:=(0,0)) (Na wc _)) hnk zaa zag zaa (Ni _) _ rfl ?_;intro g5 cap5 w5 hown5 hgrow hat hlt5;obtain ⟨hS5,hpc,hpf⟩:=hgS w5 hgrow;refine hK.out _ _ hS5 (fun u0 => ?_);clear hK K;refine tH 12 pb rfl u0 ?_;refine tH 13 (.pointer (some ⟨pb,1,none⟩)) rfl u0 ?_;refine zH 14 rfl fun K hK => ?_;go_simp;refine hK.out _ _ (by
     have e:∀ (a:Addr),a≠⟨pb,1,none⟩->∀ v,(w5.setCell ⟨pb,1,none⟩ v).cell? a=w5.cell? a:=fun a ha v=>az (fun h=>ha h.symm)
     (try dsimp only at u0);(try dsimp only)
     rw [e _ zak,e _ zak];exact u0) (fun u0 => ?_)
    clear hK K u0;refine Nt zab ?_ _
   all_goals
    go_wp2_with fail;go_end0;have hq:=hgr w5 hgrow _ _ _ _ hPBc zac;have hpbh:=Nn w5 pb 1 _ _ (.slice g5 (H.length+1) cap5) hq;have hgp:(Value.slice g5 (H.length+1) cap5).ownBlock≠some pb:=Hk hown5 hq zac;have hM5:Mo (fun k=>k=pb\/hv.v.ownBlock=some k) w w5:=(ay (hB02.trans (hBn0.mono hB02.size))).trans ⟨hgrow.os,hgrow.tape,hgrow.output,hgrow.size,fun k hk hn=>hgrow.block k (Nq hk (by simp [World.drew])) (fun e=>hn (.inr e.symm))⟩;have hKdc:Kd (fun t=>t=166\/t=237) wc (w5.setCell ⟨pb,1,none⟩ (.slice g5 (H.length+1) cap5)):=⟨MX (MX hBn0.size hgrow.size) zad,fun k c t fz hk hn=>by
     have h1:=hgr w5 hgrow k c t fz hk (fun e=>hn (.inr e));have hkpb:k≠pb:=fun e=>hn (.inl (by rw [e,show wc.heap[pb]?=_ from hPBc] at hk;simp at hk;exact hk.2.1.symm));rw [NF w5 ⟨pb,1,none⟩ _ k hkpb,h1,hk]⟩
    have hO:(w5.setCell ⟨pb,1,none⟩ (.slice g5 (H.length+1) cap5)).ownsRow 0 237 3 (.slice g5 (H.length+1) cap5) (H.length+1) ((H++[Pg.HV.mk i ow (.func f #[] cps)]).flatMap Pg.HV.cells):=by
     have:=((Mo.refl (· = pb) w5).set ⟨pb,1,none⟩ (.slice g5 (H.length+1) cap5) rfl).own hown5 (fun g hg e=>hgp (e ▸ hg));rw [NQ];exact this
    refine ⟨rfl,?_⟩;unfold Pg.Fp;exact .inr ⟨HI.out,ow,po,.func f #[] cps,⟨some ⟨g5,0,none⟩,H.length+1,cap5⟩,rfl,hpo,hKA.kd hKdc zac zac,hpbh,hO,hM5.set ⟨pb,1,none⟩ _ (.inl rfl),(bD hB02).trans hKdc,fun g hg=>by
     have hg:some g5=some g:=hg;cases hg
     rcases hat with h | h
     ·exact .inl h
     ·right;rw [h];have:=hB02.size;have:=hBn0.size;omega⟩
namespace Pg
def oG (N:Nat):Value->Option (DataW Nat×List MemPlace)
 | .slice (some ⟨g,0,none⟩) n c=>if n=N/\c=N then some (.lit (.int .i64 g),[]) else none
 | .slice none 0 0=>some (.lit (.int .i64 (-1)),[])
 | _=>none
theorem Ib (N g:Nat):oG N (.slice g N N)=some (.lit (.int .i64 g),[]):=by simp [oG]
theorem z8 {ps:List MemPlace} (h:oG N v=some (.lit (.int .i64 g),ps)):v = .slice g N N:=by
 unfold oG at h;split at h
 ·split at h
  ·rename_i hn;obtain ⟨rfl,rfl⟩:=hn;simp at h;have:_=g:=Int.ofNat.inj h.1;rw [this]
  ·cases h
 ·simp at h
 ·cases h
theorem Ia {ps:List MemPlace} (h:oG N v=some (.lit (.int .i64 (-1)),ps)):v = .slice none 0 0:=by
 unfold oG at h;split at h
 ·split at h
  ·simp at h
  ·cases h
 ·rfl
 ·cases h
def ky (ev:ByteArray):Lit := .string ev.data.toList
theorem BE {a b:ByteArray} (h:a≠b):ky a≠ky b:=by
 intro e;unfold ky at e;simp at e;exact h (ByteArray.ext (Array.ext' (by rw [e])))
def eB (W:World) (N mb n:Nat) (M:ByteArray->Option Nat):Prop:=∃ D,W.ownsMap prog 9 (oG N) mb n D/\∀ ev,match M ev with
 | none=>Go.Maps.has D (ky ev)=false
 | some g=>Go.Maps.has D (ky ev)=true/\∀ z,D.atKey (ky ev) z = .lit (.int .i64 g)
theorem eB.mo (h:eB W N mb n M) (hm:Mo P W W') (hn:¬ P mb):eB W' N mb n M:=by
 obtain ⟨D,⟨es,clock,hb,r⟩,hM⟩:=h;exact ⟨D,⟨es,clock,(hm.block mb (MQ.1 hb).1 hn).trans hb,r⟩,hM⟩
theorem eB.lt (h:eB W N mb n M):mb<W.heap.size:=by
 obtain ⟨D,hD,_⟩:=h;exact hD.lt
theorem eB.kind (h:eB W N mb n M):∃ es clock,W.heap[mb]?=some (.map es clock):=by
 obtain ⟨D,⟨es,clock,hb,_⟩,_⟩:=h;exact ⟨es,clock,hb⟩
theorem Er:Go.Maps.Keyed prog 9:=QA underlying9
theorem Ky (w:World):(zeroValue 240).run prog w = .ok (.slice none 0 0) w:=zab
theorem JG (h:ev.size<=1000000):keyOf prog 9 (.string ev)=some (ky ev):=PU underlying9 zag
theorem eB.look {W:World} {N mb n:Nat} {M:ByteArray->Option Nat} (h:eB W N mb n M) {ev:ByteArray} (hs:ev.size<=1000000) :
  (Instr.lookup 164 (.map (some mb)) (.string ev) true).run prog W = .ok (match M ev with | none => .tuple #[.slice none 0 0,false] | some g => .tuple #[.slice g N N,true]) W:=by
 obtain ⟨D,hD,hM⟩:=h;obtain ⟨v,ps,hrun,hv⟩:=hD.look_ok Er underlying164 (Ky W) (zd := .lit (.int .i64 (-1))) (zp:=[]) rfl (JG hs);rw [hrun];have:=hM ev;cases hm:M ev with
 | none =>
  rw [hm] at this;rw [this];rw [Go.Maps.atKey_of_not_has this] at hv;rw [Ia hv]
 | some g =>
  rw [hm] at this;rw [this.1];rw [this.2] at hv;rw [z8 hv]
theorem eB.put (h:eB W N mb n M) (hn:n<=1000000) (hs:ev.size<=1000000) (g:Nat) :
  ∃ w',(Instr.mapUpdate 164 (.map (some mb)) (.string ev) (.slice g N N)).run prog W = .ok () w'/\eB w' N mb (n+1) (fun e=>if e=ev then some g else M e)/\W.grownBy w' (some mb):=by
 obtain ⟨D,hD,hM⟩:=h;obtain ⟨w',hrun,hD',hg⟩:=hD.update Er underlying164 zag (JG hs) (Ib N g);refine ⟨w',hrun,⟨_,hD',fun e => ?_⟩,hg⟩;have hI:=hD.isMap;dsimp only;by_cases he:e=ev
 ·subst he;rw [M6 rfl];exact ⟨Go.Maps.has_put_same hI (show WideAt.IsKeyLit (.string _) from trivial) _,fun z=>QX hI (show WideAt.IsKeyLit (.string _) from trivial) _ _⟩
 ·rw [M4 he];have:=hM e;have hk:=BE he;cases hm:M e with
  | none=>rw [hm] at this;rw [P2 hk];exact this
  | some g'=>rw [hm] at this;refine ⟨by rw [P2 hk];exact this.1,fun z=>by rw [QQ hk];exact this.2 z⟩
def dj (W:World) (g:Nat) (L:List (Option Nat)):Prop:=W.heap[g]?=some (.cells (L.map fun m=>Value.pointer (m.map fun b=>(⟨b,0,none⟩:Addr))).toArray 242 (0,0))
theorem dj.lt {L:List (Option Nat)} (h:dj W g L):g<W.heap.size:=(MQ.1 h).1
theorem dj.cell {L:List (Option Nat)} (h:dj W g L) {m:Option Nat} (hi:L[i]?=some m):W.cell? ⟨g,i,none⟩=some (.pointer (m.map fun b=>(⟨b,0,none⟩:Addr))):=by
 rw [M0 W _ _ _ _ _ h];simp [hi]
theorem dj.frozen {L:List (Option Nat)} (h:dj W g L):W.frozen? ⟨g,i,none⟩=false:=by
 simp [World.frozen?,show W.heap[g]?=_ from h]
theorem dj.set {L:List (Option Nat)} (h:dj W g L) (i:Nat) (m:Option Nat):dj (W.setCell ⟨g,i,none⟩ (.pointer (m.map fun b=>(⟨b,0,none⟩:Addr)))) g (L.set i m):=by
 unfold dj;rw [Nn W g i _ _ _ h];simp [List.map_set]
end Pg
theorem l7:(Tryz.prog.info? 242).map (fun i=>(i.zero,i.size,i.bytes))=some (some (.pointer none),1,8):=zab
theorem GV (n:Nat):madeCells (Value.pointer none).cells n=((List.replicate n (none:Option Nat)).map fun m=>Value.pointer (m.map fun b=>(⟨b,0,none⟩:Addr))).toArray:=by
 apply Array.ext
 ·simp [size_madeCells]
 ·intro i h1 h2;simp [madeCells,Value.cells,Nat.mod_one]
theorem xO (n:Nat) (hn:n<=4096) (w:World):(Instr.makeSlice 240 (.int .i64 n) (.int .i64 n)).run prog w = .ok (.slice w n n) (w.alloc (.cells ((List.replicate n (none:Option Nat)).map fun m=>Value.pointer (m.map fun b=>(⟨b,0,none⟩:Addr))).toArray 242)):=by
 obtain ⟨i0,hi,hz0,hz1,hz2⟩:=OB l7;have h:=run_makeSlice (P:=prog) w 240 242 i0 (.pointer none) underlying240 hi hz0 .i64 .i64 n n zaa (Int.le_refl _) (by rw [hz1];simp;omega) (by rw [hz2];omega) zaa;rw [h,hz1];simp only [Int.toNat_natCast,Nat.mul_one];rw [GV]
namespace Pg
def IM (w:World) (N mb n:Nat) (M:ByteArray->Option Nat) (ev:ByteArray) (e:Ending) (w':World):Prop :=
 ∃ g,e = .returned (.slice (some ⟨g,0,none⟩) N N)/\((M ev=some g/\w'=w)\/(M ev=none/\w.heap.size<=g/\eB w' N mb (n+1) (fun x=>if x=ev then some g else M x)/\dj w' g (List.replicate N none)/\Mo (· = mb) w w'))
end Pg
theorem Kf (w:World) (pb b cap N:Nat) (hv:Value) (fin mb n:Nat) (M:ByteArray->Option Nat) (ev:ByteArray) (hB:Pg.di w pb b N cap hv fin (.map (some mb))) (hM:Pg.eB w N mb n M) (hn:n<=1000000) (hev:ev.size<=1000000) (hN:N<=24) :
  () 102 #[pb,ev] w (Pg.IM w N mb n M ev):=by
 have h3:w.cell? ⟨pb,3,none⟩=some (.map (some mb)):=zbf;have h0:w.cell? pb=some (.slice b N cap):=zbf;have hpb:pb<w.heap.size:=(MQ.1 hB).1;have hl:=hM.look hev;cases hm:M ev with
 | some g =>
  rw [hm] at hl;dsimp only at hl;have hfin:∀ r,r=Ending.returned (.slice g N N)->Pg.IM w N mb n M ev r w:=fun r hr=>⟨g,hr,.inl ⟨hm,rfl⟩⟩;clear hm hM;exact zeW
 | none =>
  rw [hm] at hl;dsimp only at hl;have hmk:=xO N zaa w;have hBa:=(MY w w).alloc (MR _) (.cells ((List.replicate N (none:Option Nat)).map fun m=>Value.pointer (m.map fun b=>(⟨b,0,none⟩:Addr))).toArray 242);obtain ⟨w',hput,hM',hg⟩:=(hM.mo (P:=fun _=>False) (ay hBa) (fun h=>h)).put hn hev w.heap.size;have h3a:=(hBa.cell (p:=⟨pb,3,none⟩) hpb).trans h3;have hrow:Pg.dj (w.alloc (.cells ((List.replicate N (none:Option Nat)).map fun m=>Value.pointer (m.map fun b=>(⟨b,0,none⟩:Addr))).toArray 242)) w.heap.size (List.replicate N none):=Na w _;have hfin:∀ r,r=Ending.returned (.slice w N N)->Pg.IM w N mb n M ev r w':=fun r hr=>by
   have hmb:=hM.lt;refine ⟨_,hr,.inr ⟨hm,MR _,hM',?_,?_⟩⟩
   ·exact (hg.block _ hrow.lt zae).trans hrow
   ·exact (ay hBa).trans' ⟨hg.os,hg.tape,hg.output,hg.size,fun k hk hn=>hg.block k hk (fun e=>hn za7)⟩ (fun k _ h=>h)
  clear hm hM hM' hrow hg;obtain ⟨W1,hW1⟩:∃ W,w.alloc (.cells ((List.replicate N (none:Option Nat)).map fun m=>Value.pointer (m.map fun b=>(⟨b,0,none⟩:Addr))).toArray 242)=W:=⟨_,rfl⟩;rw [hW1] at hmk hBa hput h3a;clear hW1;exact zeW
namespace Pg
theorem tK.range {W:World} {b i:Nat} {p:PS} (h:tK W b i p):W.rangeAt b (i*10) p.cells:=fun j v hv=>by
 match j,hv with
 | 0,hv=>cases hv;exact h.c0
 | 1,hv=>cases hv;exact h.c1
 | 2,hv=>cases hv;exact h.c2
 | 3,hv=>cases hv;exact h.c3
 | 4,hv=>cases hv;exact h.c4
 | 5,hv=>cases hv;exact h.c5
 | 6,hv=>cases hv;exact h.c6
 | 7,hv=>cases hv;exact h.c7
 | 8,hv=>cases hv;exact h.c8
 | 9,hv=>cases hv;exact h.c9
 | j+10,hv=>cases hv
def lf (ps:List PS) (L:List (Option Nat)) (i:Nat):List (Option Nat):=match L[i]?,ps[i]? with
 | some none,some p=>if p.owner == -1 then L else L.set i (L.getD p.owner.toNat none)
 | _,_=>L
def cQ (ps:List PS) (L:List (Option Nat)):Nat->List (Option Nat)
 | 0=>L
 | k+1=>lf ps (cQ ps L k) k
theorem Bp (ps:List PS) (L:List (Option Nat)) (i:Nat):(lf ps L i).length=L.length:=by
 unfold lf;split
 ·split <;> simp
 ·rfl
theorem nT (ps:List PS) (L:List (Option Nat)):∀ k,(cQ ps L k).length=L.length
 | 0=>rfl
 | k+1=>by rw [cQ,Bp,nT ps L k]
end Pg
theorem pA (w:World) (pb b cap:Nat) (ps:List Pg.PS) (g:Nat) (L:List (Option Nat)) (hL:L.length=ps.length) (how:∀ (i:Nat) (p:Pg.PS),ps[i]?=some p->p.owner = -1\/∃ o:Nat,p.owner=o/\o<i)
  (hP:Pg.bZ w pb b cap ps) (hpb:pb<w.heap.size) (hb:b<w.heap.size) (n1:pb≠g) (n2:b≠g) (hR:Pg.dj w g L) :
  () 105 #[pb,.slice g ps.length ps.length] w fun e w'=>e = .returned (.tuple #[])/\Pg.dj w' g (Pg.cQ ps L ps.length)/\Mo (· = g) w w':=by
 have hlen:=hP.len;have h0:=hP.row;have HP:Hid _:=hP;have HOW:Hid _:=how;have HR:Hid _:=hR;clear hP how hR;go_enter func105,ntmps105;go_wp2
 go_loopg [11] ps.length (fun q i wr=>∃ k:Nat,q=ps.length-k/\k<=ps.length/\i = .int .i64 k/\Pg.dj wr g (Pg.cQ ps L k)/\Mo (· = g) w wr)
 case atStart=>exact ⟨0,rfl,Ni _,rfl,HR.out,Mo.refl _ _⟩
 case round =>
  obtain ⟨k,hq,hk,rfl,hrow,hmo⟩:=hrel;clear h0;by_cases hkn:k<ps.length
  ·obtain ⟨p,hp⟩:∃ p,ps[k]?=some p:=⟨_,MU hkn⟩;have hs:=hmo.size;have hPk:=HP.out.mo hmo hpb hb n1 n2;have hrng:=(hPk.at' k p hp).range;have hlk:(Pg.cQ ps L k).length=ps.length:=by rw [Pg.nT,hL]
   obtain ⟨m,hm⟩:∃ m,(Pg.cQ ps L k)[k]?=some m:=⟨_,MU zaa⟩;have hB5:=(MY wr wr).alloc (MR _) (.cells p.cells.toArray 161);have s5:=Na wr (.cells p.cells.toArray 161);have hrow5:Pg.dj (wr.alloc (.cells p.cells.toArray 161)) g (Pg.cQ ps L k):=(hB5.block g hrow.lt).trans hrow;have hmo5:=hmo.trans (ay hB5);have c5:(wr.alloc (.cells p.cells.toArray 161)).cell? ⟨wr,3,none⟩=some ↑(p.owner:Int):=by rw [M0 _ _ _ _ _ _ s5];rfl
   have cm:=hrow5.cell hm;have HN:Hid (Pg.cQ ps L (k+1)=match (generalizing:=false) m with | none=>(if p.owner == -1 then Pg.cQ ps L k else (Pg.cQ ps L k).set k ((Pg.cQ ps L k).getD p.owner.toNat none)) | some _=>Pg.cQ ps L k):=by
    unfold Hid;rw [Pg.cQ,Pg.lf,hm,hp];cases m <;> rfl
   obtain ⟨W5,hW5⟩:∃ W,wr.alloc (.cells p.cells.toArray 161)=W:=⟨_,rfl⟩;have hst:∀ {ops:Array Oper} {rest:List Oper} {op:Oper} {a:Act} {Q:Exit->Act->World->Prop},op.guard=none->op.op = .store 161 (.tmp 5) (.tmp 15)->a.eval (.tmp 5) = .pointer (some ⟨wr,0,none⟩)->a.eval (.tmp 15) = .agg p.cells.toArray->wpList prog ops Q rest (a.put op.dst undef) W5->wpList prog ops Q (op::rest) a (wr.alloc (.cells #[(0:Int),.string ⟨#[]⟩,.string ⟨#[]⟩,(0:Int),.int .u32 0,.int .u32 0,.int .u32 0,.int .u32 0,.slice none 0 0,.slice none 0 0] 161)):=fun h1 h2 h3 h4 h5=>aI h1 161 (.tmp 5) (.tmp 15) h2 161 _ p.cells.toArray h3 h4 dX rfl zbz (by rw [hW5];exact h5);rw [hW5] at hrow5 hmo5 c5 cm;clear hW5 s5 hB5 hrow hmo hPk hm;have hkl:k<ps.length:=hkn;cases m with
   | some mb =>
    have HN:Hid (Pg.cQ ps L (k+1)=Pg.cQ ps L k):=HN.out;dsimp only [Option.map] at cm;exact zdi
   | none =>
    dsimp only [Option.map] at cm
    rcases HOW.out k p hp with ho | ⟨o,ho,hok⟩
    ·have HN:Hid (Pg.cQ ps L (k+1)=Pg.cQ ps L k):=by have:=HN.out;rw [ho] at this;exact this
     rw [ho] at c5;exact zdi
    ·obtain ⟨mo,hmo⟩:∃ mo,(Pg.cQ ps L k)[o]?=some mo:=⟨_,MU zaa⟩;have HN:Hid (Pg.cQ ps L (k+1)=(Pg.cQ ps L k).set k mo):=by
      have:=HN.out;rw [ho] at this;simp only [Int.toNat_natCast] at this;rw [M4 zad] at this;unfold Hid;rw [this,Nh,hmo];rfl
     rw [ho] at c5;have co:=hrow5.cell hmo;have fz:=hrow5.frozen (i:=k);have hrow6:=hrow5.set k mo;have hmo6:=hmo5.set ⟨g,k,none⟩ (.pointer (mo.map fun b=>(⟨b,0,none⟩:Addr))) rfl;have hon:((o:Int) != -1)=true:=zad;obtain ⟨vo,hvo⟩:∃ v,mo.map (fun b=>(⟨b,0,none⟩:Addr))=v:=⟨_,rfl⟩;rw [hvo] at co hrow6 hmo6;clear ho;go_wp2_with (first
      | (refine Om rfl 161 (.tmp 14) rfl b (k*10) rfl _ _ hrng underlying161 rfl dX ?_)
      | (refine hst rfl rfl rfl rfl ?_)
      | fail)
     go_roundg (ps.length-(k+1))
     case measure=>omega
     case rel=>exact ⟨k+1,rfl,zaa,zah,by rw [HN.out];exact hrow6,hmo6⟩
  ·obtain rfl:k=ps.length:=zaa;go_wp2;go_end0;exact ⟨rfl,hrow,hmo⟩
namespace Pg
structure MV where
 event:ByteArray
 after:Bool
 delay:Int
 dest:ByteArray
 aw:Ref.Sl
def MV.cells (m:MV):List Value:=[m.event,m.after,.int .u64 m.delay,m.dest,.slice m.aw.a m.aw.n m.aw.c]
structure PM where
 own:Nat
 lv:Nat
 aw:Ref.Sl
 en:En
def ej (W:World) (pb b m:Nat) (x:PM):Prop:=∃ fv,W.heap[m]?=some (.cells #[(x.own:Int),.int .u32 x.lv,.slice x.aw.a x.aw.n x.aw.c,fv] 245 (0,0))/\tJ W pb b x.en fv
def Ap (t:TypeId):Prop:=t=245\/t=75\/t=73\/t=231\/t=3
theorem ej.kd {m:Nat} {x:PM} (h:ej W pb b m x) (hk:Kd E W W') (hE:∀ t,Ap t->¬ E t):ej W' pb b m x:=by
 obtain ⟨fv,h1,h2⟩:=h;refine ⟨fv,(hk.ao _ _ _ _ h1 (hE _ (.inl rfl))).trans h1,h2.ao (fun B t u ht hb=>hk.boxed hb (hE t (.inr ht)))⟩
def kU (W:World) (pb b:Nat):Option (Option Nat)->Option (Option PM)->Prop
 | some (some m),some (some x)=>ej W pb b m x
 | some none,some none=>True
 | none,none=>True
 | _,_=>False
theorem kU.imp {W W':World} {pb b:Nat} {x:Option (Option Nat)} {y:Option (Option PM)} (h:kU W pb b x y) (hi:∀ m z,x=some (some m)->ej W pb b m z->ej W' pb b m z):kU W' pb b x y:=by
 match x,y,h with
 | some (some m),some (some z),h=>exact hi m z rfl h
 | some none,some none,_=>trivial
 | none,none,_=>trivial
structure Tab (W:World) (pb b N mb n:Nat) (T:ByteArray->Option (List (Option PM))) (M:ByteArray->Option Nat) (L:Nat->List (Option Nat)):Prop where
 map:eB W N mb n M
 nope:∀ ev,M ev=none->T ev=none
 row:∀ ev g,M ev=some g->dj W g (L g)/\(L g).length=N/\∃ row,T ev=some row/\row.length=N/\∀ i:Nat,kU W pb b ((L g)[i]?) (row[i]?)
 inj:∀ e e' g,M e=some g->M e'=some g->e=e'
theorem Tab.kd {T:ByteArray->Option (List (Option PM))} (h:Tab W pb b N mb n T M L) (hk:Kd E W W') (hE:∀ t,Ap t->¬ E t) (hR:¬ E 242) (hm:Mo P W W') (hn:¬ P mb):Tab W' pb b N mb n T M L where
 map:=h.map.mo hm hn
 nope:=h.nope
 row:=fun ev g hg=>by
  obtain ⟨h1,h2,row,h3,h4,h5⟩:=h.row ev g hg;exact ⟨(hk.ao _ _ _ _ h1 hR).trans h1,h2,row,h3,h4,fun i=>(h5 i).imp (fun m z _ hz=>hz.kd hk hE)⟩
 inj:=h.inj
theorem Tab.below {T:ByteArray->Option (List (Option PM))} (h:Tab W pb b N mb n T M L) (hb:Below W W W'):Tab W' pb b N mb n T M L :=
 h.kd (E:=fun _=>False) (P:=fun _=>False) (bD hb) (fun _ _ h=>h) (fun h=>h) (ay hb) (fun h=>h)
theorem Tab.Mp {T:ByteArray->Option (List (Option PM))} (h:Tab W pb b N mb n T M L) {e:Ending} (hr:IM W N mb n M ev e W') :
  ∃ g M' L' n',e = .returned (.slice (some ⟨g,0,none⟩) N N)/\n'<=n+1/\M' ev=some g/\Mo (· = mb) W W'/\(∀ x y,M' x=some y->M x=some y\/W.heap.size<=y)/\Tab W' pb b N mb n' (fun x=>if x=ev then some ((T ev).getD (List.replicate N none)) else T x) M' L':=by
 obtain ⟨g,he,⟨hm,hw⟩ | ⟨hm,hg,hM',hrow,hmo⟩⟩:=hr
 ·subst hw;obtain ⟨_,_,row,h3,_,_⟩:=h.row ev g hm;have:(fun x=>if x=ev then some ((T ev).getD (List.replicate N none)) else T x)=T:=by
   funext x;by_cases hx:x=ev
   ·rw [M6 hx,hx,h3];rfl
   ·rw [M4 hx]
  exact ⟨g,M,L,n,he,zaa,hm,Mo.refl _ _,fun _ _ h => .inl h,by rw [this];exact h⟩
 ·have hkd:Kd (fun _=>False) W W':=fX hmo (fun k c t f hk hc=>by
   obtain ⟨es,clock,hmb⟩:=h.map.kind;rw [hk,hmb] at hc;cases hc)
  have hT:=h.nope ev hm;refine ⟨g,fun x=>if x=ev then some g else M x,fun x=>if x=g then List.replicate N none else L x,n+1,he,MR _,M6 rfl,hmo,fun x y hxy => ?_,?_⟩
  ·dsimp only at hxy;by_cases hx:x=ev
   ·rw [M6 hx] at hxy;cases hxy;exact .inr hg
   ·rw [M4 hx] at hxy;exact .inl hxy
  refine ⟨hM',fun e hn => ?_,fun e g' hg' => ?_,fun e e' g' h1 h2 => ?_⟩
  ·by_cases hx:e=ev
   ·simp [hx] at hn
   ·simp only [if_neg hx] at hn ⊢;exact h.nope e hn
  ·by_cases hx:e=ev
   ·subst hx;simp at hg';subst hg';simp only [if_true];refine ⟨hrow,zad,_,rfl,by rw [hT];simp,fun i => ?_⟩;rw [hT];by_cases hi:i<N
    ·simp [hi,kU]
    ·simp [hi,kU]
   ·simp only [if_neg hx] at hg' ⊢;obtain ⟨h1,h2,row,h3,h4,h5⟩:=h.row e g' hg';have hne:g'≠g:=by have:=h1.lt;omega
    simp only [if_neg hne];exact ⟨(hkd.ao _ _ _ _ h1 (fun h=>h)).trans h1,h2,row,h3,h4,fun i=>(h5 i).imp (fun m z _ hz=>hz.kd hkd (fun _ _ h=>h))⟩
  ·by_cases hx:e=ev
   ·by_cases hy:e'=ev
    ·rw [hx,hy]
    ·simp only [if_pos hx,if_neg hy] at h1 h2;obtain ⟨h3,_⟩:=h.row e' g' h2;have:=h3.lt;simp at h1;omega
   ·by_cases hy:e'=ev
    ·simp only [if_neg hx,if_pos hy] at h1 h2;obtain ⟨h3,_⟩:=h.row e g' h1;have:=h3.lt;simp at h2;omega
    ·simp only [if_neg hx,if_neg hy] at h1 h2;exact h.inj e e' g' h1 h2
theorem Tab.set {q:Nat} {T:ByteArray->Option (List (Option PM))} (h:Tab W pb b N mb n T M L) (hM:M ev=some g) (hi:i<N) {row:List (Option PM)} (hrw:T ev=some row) (x:PM) (hk:Kd (fun t=>t=242) W W') (hm:Mo (· = g) W W') (hrow:dj W' g ((L g).set i (some q))) (hq:ej W' pb b q x) :
  Tab W' pb b N mb n (fun y=>if y=ev then some (row.set i (some x)) else T y) M (fun y=>if y=g then (L g).set i (some q) else L y):=by
 obtain ⟨h1,h2,row',h3,h4,h5⟩:=h.row ev g hM;rw [hrw] at h3;cases h3
 have hE:∀ t,Ap t->¬ t=242:=zbx;have hmbg:mb≠g:=by
  obtain ⟨es,clock,hmb⟩:=h.map.kind;intro e;rw [e,show W.heap[g]?=_ from h1] at hmb;cases hmb
 refine ⟨h.map.mo hm hmbg,fun e hn => ?_,fun e g' hg' => ?_,h.inj⟩
 ·have hx:e≠ev:=fun hx=>by rw [hx,hM] at hn;cases hn
  rw [M4 hx];exact h.nope e hn
 ·by_cases hx:e=ev
  ·subst hx;rw [hM] at hg';cases hg'
   simp only [if_true];refine ⟨hrow,by simp [h2],_,rfl,by simp [h4],fun j => ?_⟩;by_cases hj:j=i
   ·subst hj;rw [Nw zaa,Nw zaa];exact hq
   ·rw [NG (fun e=>hj e.symm),NG (fun e=>hj e.symm)];exact (h5 j).imp (fun m z _ hz=>hz.kd hk hE)
  ·have hgg:g'≠g:=fun e'=>hx (h.inj e ev g (by rw [<- e'];exact hg') hM);simp only [if_neg hx,if_neg hgg];obtain ⟨k1,k2,row',k3,k4,k5⟩:=h.row e g' hg';exact ⟨(hm.block g' k1.lt hgg).trans k1,k2,row',k3,k4,fun j=>(k5 j).imp (fun m z _ hz=>hz.kd hk hE)⟩
def iY (W:World) (ib n:Nat) (F:ByteArray->Option Nat):Prop:=∃ D:DataW Nat,W.ownsMap prog 9 (plainElem prog 3) ib n D/\∀ nm,match F nm with
 | none=>Go.Maps.has D (ky nm)=false
 | some g=>∀ z,D.atKey (ky nm) z = .lit (.int .i64 g)
theorem iY.mo (h:iY W ib n F) (hm:Mo P W W') (hn:¬ P ib):iY W' ib n F:=by
 obtain ⟨D,⟨es,clock,hb,r⟩,hM⟩:=h;exact ⟨D,⟨es,clock,(hm.block ib (MQ.1 hb).1 hn).trans hb,r⟩,hM⟩
theorem Mt (w:World):(zeroValue 3).run prog w = .ok (.int .i64 0) w:=zab
theorem iY.made (w:World):iY (w.alloc (.map #[] 0)) w.heap.size 0 (fun _=>none):=⟨_,RD w _ _ _,fun _=>rfl⟩
theorem iY.look (h:iY W ib n F) (hs:nm.size<=1000000) (hF:F nm=some g) :
  (Instr.lookup 152 (.map (some ib)) (.string nm) false).run prog W = .ok (.int .i64 g) W:=by
 obtain ⟨D,hD,hM⟩:=h;obtain ⟨c,hrun,hat,_⟩:=hD.lookup_int Er underlying152 underlying3 (Mt W) (JG hs);have:=hM nm;rw [hF] at this;rw [this] at hat;rw [hrun];simp at hat;rw [hat]
theorem iY.put (h:iY W ib n F) (hn:n<=1000000) (hs:nm.size<=1000000) (g:Nat) (hg:g<=1000000) :
  ∃ w',(Instr.mapUpdate 152 (.map (some ib)) (.string nm) (.int .i64 g)).run prog W = .ok () w'/\iY w' ib (n+1) (fun e=>if e=nm then some g else F e)/\W.grownBy w' (some ib):=by
 obtain ⟨D,hD,hM⟩:=h;obtain ⟨w',hrun,hD',hg⟩:=hD.update Er underlying152 zag (JG hs) (RQ underlying3 (a:=(g:Int)) (WalkArith.wf_i64 zaa));refine ⟨w',hrun,⟨_,hD',fun e => ?_⟩,hg⟩;have hI:=hD.isMap;dsimp only;by_cases he:e=nm
 ·subst he;rw [M6 rfl];exact fun z=>QX hI (show WideAt.IsKeyLit (.string _) from trivial) _ _
 ·rw [M4 he];have:=hM e;have hk:=BE he;cases hm:F e with
  | none=>rw [hm] at this;rw [P2 hk];exact this
  | some g'=>rw [hm] at this;exact fun z=>by rw [QQ hk];exact this z
structure ChM (W:World) (cb cg cc:Nat) (X:List MS) (V:Nat->List MV):Prop where
 ptr:W.heap[cb]?=some (.cells #[.slice cg X.length cc] 156 (0,0))
 blk:∃ c fz,W.heap[cg]?=some (.cells c 171 fz)
 at':∀ (i:Nat) (x:MS),X[i]?=some x->W.rangeAt cg (i*8) x.arr.toList
 mv:∀ (i:Nat) (x:MS),X[i]?=some x->x.vm.n=(V i).length/\((V i).length=0\/∃ gm c fz,x.vm.a=some ⟨gm,0,none⟩/\(V i).length<=x.vm.c/\W.heap[gm]?=some (.cells c 239 fz)/\∀ (j:Nat) (m:MV),(V i)[j]?=some m->W.rangeAt gm (j*5) m.cells)
def Mz (t:TypeId):Prop:=t=156\/t=171\/t=239
theorem ChM.kd {V:Nat->List MV} (h:ChM W cb cg cc X V) (hk:Kd E W W') (hE:∀ t,Mz t->¬ E t):ChM W' cb cg cc X V where
 ptr:=(hk.ao _ _ _ _ h.ptr (hE _ (.inl rfl))).trans h.ptr
 blk:=by
  obtain ⟨c,fz,hc⟩:=h.blk;exact ⟨c,fz,(hk.ao _ _ _ _ hc (hE _ (.inr (.inl rfl)))).trans hc⟩
 at':=fun i x hx j v hv=>by
  obtain ⟨c,fz,hc⟩:=h.blk;exact (Nk (a:=⟨cg,_,none⟩) (hk.ao _ _ _ _ hc (hE _ (.inr (.inl rfl))))).trans (h.at' i x hx j v hv)
 mv:=fun i x hx=>by
  obtain ⟨h1,h2 | ⟨gm,c,fz,h2,h3,h4,h5⟩⟩:=h.mv i x hx
  ·exact ⟨h1,.inl h2⟩
  ·have hb:=hk.ao _ _ _ _ h4 (hE _ (.inr (.inr rfl)));exact ⟨h1,.inr ⟨gm,c,fz,h2,h3,hb.trans h4,fun j m hm k v hv=>(Nk (a:=⟨gm,_,none⟩) hb).trans (h5 j m hm k v hv)⟩⟩
theorem ChM.below {V:Nat->List MV} (h:ChM W cb cg cc X V) (hb:Below W W W'):ChM W' cb cg cc X V:=h.kd (E:=fun _=>False) (bD hb) (fun _ _ h=>h)
def bT (X:List MS):Nat->ByteArray->Option Nat
 | 0=>fun _=>none
 | k+1=>match X[k]? with
  | some x=>fun nm=>if nm=x.name then some k else bT X k nm
  | none=>bT X k
end Pg
theorem eI:(Tryz.prog.info? 171).map (·.size)=some 8:=zab
theorem vM:(Tryz.prog.info? 239).map (·.size)=some 5:=zab
namespace Pg
def rQ (ps:List PS) (L:List (Option PM)) (i:Nat):List (Option PM):=match L[i]?,ps[i]? with
 | some none,some p=>if p.owner == -1 then L else L.set i (L.getD p.owner.toNat none)
 | _,_=>L
def ng (ps:List PS) (L:List (Option PM)):Nat->List (Option PM)
 | 0=>L
 | k+1=>rQ ps (ng ps L k) k
theorem Bq (ps:List PS) (L:List (Option PM)) (i:Nat):(rQ ps L i).length=L.length:=by
 unfold rQ;split
 ·split <;> simp
 ·rfl
theorem rR (ps:List PS) (L:List (Option PM)):∀ k,(ng ps L k).length=L.length
 | 0=>rfl
 | k+1=>by rw [ng,Bq,rR ps L k]
theorem kU.getD {W:World} {pb b:Nat} {L:List (Option Nat)} {R:List (Option PM)} (h:∀ i:Nat,kU W pb b (L[i]?) (R[i]?)) (o:Nat):kU W pb b (some (L.getD o none)) (some (R.getD o none)):=by
 have:=h o;rw [Nh,Nh]
 match hL:L[o]?,hR:R[o]? with
 | none,none=>trivial
 | none,some y=>rw [hL,hR] at this;cases y <;> exact this.elim
 | some x,none=>rw [hL,hR] at this;cases x <;> exact this.elim
 | some x,some y=>rw [hL,hR] at this;exact this
theorem Gq {W:World} {pb b:Nat} (ps:List PS) {L:List (Option Nat)} {R:List (Option PM)} (hl:L.length=R.length) (h:∀ i:Nat,kU W pb b (L[i]?) (R[i]?)):∀ k,∀ i:Nat,kU W pb b ((cQ ps L k)[i]?) ((ng ps R k)[i]?)
 | 0,i=>h i
 | k+1,i=>by
  have ih:=Gq ps hl h k;have l1:=nT ps L k;have l2:=rR ps R k;rw [cQ,ng];unfold lf rQ;have hk:=ih k
  match hL:(cQ ps L k)[k]?,hR:(ng ps R k)[k]?,hp:ps[k]? with
  | none,none,_=>exact ih i
  | none,some y,_=>rw [hL,hR] at hk;cases y <;> exact hk.elim
  | some x,none,_=>rw [hL,hR] at hk;cases x <;> exact hk.elim
  | some (some m),some none,_=>rw [hL,hR] at hk;exact hk.elim
  | some none,some (some z),_=>rw [hL,hR] at hk;exact hk.elim
  | some (some m),some (some z),_=>exact ih i
  | some none,some none,none=>exact ih i
  | some none,some none,some p =>
   dsimp only;by_cases ho:(p.owner == -1)=true
   ·rw [M6 ho,M6 ho];exact ih i
   ·rw [M4 ho,M4 ho];have hkl:=(MZ.1 hL).1;have hkr:=(MZ.1 hR).1;by_cases hi:i=k
    ·subst hi;rw [Nw hkl,Nw hkr];exact kU.getD ih _
    ·rw [NG (fun e=>hi e.symm),NG (fun e=>hi e.symm)];exact ih i
theorem GC {key:Value} {kl:Lit} (h:keyOf prog 9 key=some kl):∃ s:ByteArray,key = .string s/\kl=ky s:=by
 cases key <;> simp [keyOf,underlying9,mapKey] at h
 obtain ⟨_,rfl⟩:=h;exact ⟨_,rfl,rfl⟩
theorem Dc {a b:ByteArray} (h:a≠b):(ky a).sameKey (ky b)=false:=by
 cases hs:(ky a).sameKey (ky b)
 ·rfl
 ·exact absurd (WideAt.sameKey_eq hs) (BE h)
theorem JI (a:ByteArray):(ky a).sameKey (ky a)=true:=WideAt.sameKey_self (show WideAt.IsKeyLit (.string _) from trivial)
theorem Tab.Lm {T:ByteArray->Option (List (Option PM))} (ps:List PS) (h:Tab W pb b N mb n T M L) (hM:eB W' N mb n M) (hm:Mo (fun j=>∃ ev,M ev=some j) W W') (hr:∀ ev g,M ev=some g->dj W' g (cQ ps (L g) N)) :
  Tab W' pb b N mb n (fun ev=>(T ev).map fun row=>ng ps row N) M (fun g=>cQ ps (L g) N):=by
 have hkd:Kd (fun t=>t=242) W W':=fX hm (fun k c t f hk hc=>by
  obtain ⟨ev,he⟩:=hk;obtain ⟨h1,_⟩:=h.row ev k he;rw [show W.heap[k]?=_ from h1] at hc;simp at hc;exact hc.2.1.symm)
 have hE:∀ t,Ap t->¬ t=242:=zbx;refine ⟨hM,fun ev hn=>by rw [h.nope ev hn];rfl,fun ev g hg => ?_,h.inj⟩;obtain ⟨h1,h2,row,h3,h4,h5⟩:=h.row ev g hg;refine ⟨hr ev g hg,by rw [nT];exact h2,ng ps row N,by rw [h3];rfl,by rw [rR];exact h4,?_⟩;exact Gq ps zaa (fun i=>(h5 i).imp (fun m z _ hz=>hz.kd hkd hE)) N
def KT (W:World) (pb b:Nat) (ps:List PS) (N:Nat) (T0:ByteArray->Option (List (Option PM))) (M:ByteArray->Option Nat) (L:Nat->List (Option Nat)):Prop:=∃ L0:Nat->List (Option Nat),∀ ev g,M ev=some g->L g=cQ ps (L0 g) N/\∃ row0,T0 ev=some row0/\∀ i:Nat,kU W pb b ((L0 g)[i]?) (row0[i]?)
theorem Tab.once {T:ByteArray->Option (List (Option PM))} (ps:List PS) (h:Tab W pb b N mb n T M L) (hm:Mo (fun j=>∃ ev,M ev=some j) W W'):KT W' pb b ps N T M (fun g=>cQ ps (L g) N):=by
 have hkd:Kd (fun t=>t=242) W W':=fX hm (fun k c t f hk hc=>by
  obtain ⟨ev,he⟩:=hk;obtain ⟨h1,_⟩:=h.row ev k he;rw [show W.heap[k]?=_ from h1] at hc;simp at hc;exact hc.2.1.symm)
 have hE:∀ t,Ap t->¬ t=242:=zbx;refine ⟨L,fun ev g hg=>⟨rfl,?_⟩⟩;obtain ⟨h1,h2,row,h3,h4,h5⟩:=h.row ev g hg;exact ⟨row,h3,fun i=>(h5 i).imp (fun m z _ hz=>hz.kd hkd hE)⟩
def Good (ps:List PS):Prop:=∀ (i:Nat) (p:PS),ps[i]?=some p->p.parts<2 ^ ps.length/\p.inside<2 ^ ps.length/\p.around<2 ^ ps.length/\p.wth<2 ^ ps.length
theorem wS {s:Nat} (h:s<2 ^ N) (hi:i∈els s):i<N:=by
 obtain ⟨_,ht⟩:=n8.1 hi;by_cases hn:i<N
 ·exact hn
 ·rw [QV (Nq h (OM zac zaa))] at ht;cases ht
def eG (ps:List PS) (F:ByteArray->Option Nat) (i:Nat) (m:MV):PM:=if m.dest.toList.isEmpty then ⟨i,0,m.aw,.nil⟩ else match F m.dest with
 | some d=>⟨i,dom ps i d,m.aw,ie ps i d⟩
 | none=>⟨i,0,m.aw,.nil⟩
def lD (ps:List PS) (F:ByteArray->Option Nat) (T:ByteArray->Option (List (Option PM))) (i:Nat) (m:MV):ByteArray->Option (List (Option PM)):=fun e=>if e=m.event then
  some (let row:=(T m.event).getD (List.replicate ps.length none);match row[i]? with | some none=>row.set i (some (eG ps F i m)) | _=>row)
 else T e
def dT (ps:List PS) (F:ByteArray->Option Nat) (T:ByteArray->Option (List (Option PM))) (i:Nat) (V:List MV):Nat->ByteArray->Option (List (Option PM))
 | 0=>T
 | j+1=>match V[j]? with | some m=>lD ps F (dT ps F T i V j) i m | none=>dT ps F T i V j
def dQ (ps:List PS) (F:ByteArray->Option Nat) (V:Nat->List MV):Nat->ByteArray->Option (List (Option PM))
 | 0=>fun _=>none
 | k+1=>dT ps F (dQ ps F V k) k (V k) (V k).length
def KO (w w':World) (pb b mb:Nat) (ps:List PS) (X:List MS) (V:Nat->List MV):Prop:=(∃ n M L,Tab w' pb b ps.length mb n (fun ev=>(dQ ps (bT X X.length) V X.length ev).map fun row=>ng ps row ps.length) M L/\KT w' pb b ps ps.length (dQ ps (bT X X.length) V X.length) M L)/\Mo (· = mb) w w'
end Pg
theorem wz (w:World) (pb b cap:Nat) (ps:List Pg.PS) (hv:Value) (fin mb cb cg cc:Nat) (X:List Pg.MS) (V:Nat->List Pg.MV) (hB:Pg.di w pb b ps.length cap hv fin (.map (some mb))) (hP:Pg.bZ w pb b cap ps) (hb:b<w.heap.size) (hC:Pg.ChM w cb cg cc X V) (hX:X.length=ps.length) (hnm:∀ (i:Nat) (x:Pg.MS),X[i]?=some x->x.name.size<=1000000)
  (hM:Pg.eB w ps.length mb 0 (fun _=>none)) (hbk:b≠mb) (hGd:Pg.Good ps) (hg:1<w.heap.size) (hT:TabAt 1 Lib.deBruijn32tab w) (hgk:∃ c t fz,w.heap[1]?=some (.cells c t fz))
  (how:∀ (i:Nat) (p:Pg.PS),ps[i]?=some p->p.owner = -1\/∃ o:Nat,p.owner=o/\o<i) (hV:∀ i,(V i).length<=30000) (hev:∀ i,∀ m∈V i,m.event.size<=1000000/\m.dest.size<=1000000/\(m.dest.toList.isEmpty=false->∃ d,Pg.bT X X.length m.dest=some d/\d<ps.length)) :
  () 64 #[pb,cb] w fun e w'=>e = .returned (.tuple #[])/\Pg.KO w w' pb b mb ps X V:=by
 have hlen:=hP.len;have hpb:pb<w.heap.size:=(MQ.1 hB).1;have hBi:=(MY w w).alloc (MR _) (.map #[] 0);have hI0:=Pg.iY.made w;have hcb:(w.alloc (.map #[] 0)).cell? cb=some (.slice cg X.length cc):=by
  rw [M0 _ _ _ _ _ _ (hC.below hBi).ptr];rfl
 have hmm:=@run_makeMap prog;have HB:Hid (Pg.di w pb b ps.length cap hv fin (.map (some mb))):=hB;have HP:Hid _:=hP;have HC:Hid _:=hC;have HX:Hid (X.length=ps.length):=hX;have hXl:X.length<=24:=zaa;clear hX;have HM:Hid (Pg.eB w ps.length mb 0 (fun _=>none)):=hM;have HNM:Hid _:=hnm;have HBK:Hid _:=hbk;have HGD:Hid (Pg.Good ps):=hGd;have HT:Hid (TabAt 1 Lib.deBruijn32tab w):=hT;have HGK:Hid _:=hgk;have HV:Hid _:=hV;have HOW:Hid _:=how;clear how;have HEV:Hid _:=hev;clear hB hP hC hM hnm hbk hGd hT hgk hV hev;go_enter func64,ntmps64;go_wp2
 go_loopg [20] X.length (fun q i wr=>∃ k:Nat,q=X.length-k/\k<=X.length/\i = .int .i64 k/\Pg.iY wr w k (Pg.bT X k)/\Below w w wr)
 case atStart=>exact ⟨0,rfl,Ni _,rfl,hI0,hBi⟩
 case round =>
  obtain ⟨k,hq,hk,rfl,hI,hbw⟩:=hrel;clear hcb hmm;by_cases hkn:k<X.length
  ·obtain ⟨x,hx⟩:∃ x,X[k]?=some x:=⟨_,MU hkn⟩;have hCk:=HC.out.below hbw;have hrng:=hCk.at' k x hx;have hnmx:=HNM.out k x hx;have HN:Hid (Pg.bT X (k+1)=fun nm=>if nm=x.name then some k else Pg.bT X k nm):=by unfold Hid;rw [Pg.bT,hx]
   obtain ⟨kind,name,depth,owner,vp,ve,vl,vm⟩:=x;dsimp only at hnmx HN;unfold Pg.MS.arr at hrng;dsimp only at hrng;have hB5:=(MY wr wr).alloc (MR _) (.cells #[(kind:Int),name,(depth:Int),(owner:Int),.slice vp.a vp.n vp.c,.slice ve.a ve.n ve.c,.slice vl.a vl.n vl.c,.slice vm.a vm.n vm.c] 171);have hI5:=hI.mo (P:=fun _=>False) (ay hB5) (fun h=>h);obtain ⟨w6,hput,hI6,hg6⟩:=hI5.put zaa hnmx k zaa;have hbw6:Below w w w6:=(hbw.trans (hB5.mono hbw.size)).grown hg6 (by have:=hbw.size;simp;omega) (fun j e=>by cases e;exact MR _);have HI6:Hid _:=hI6;clear hB5 hI5 hI hg6 hI6 hCk hbw hx;go_wp2_with (first
    | (refine Om rfl 171 (.tmp 23) rfl cg (k*8) rfl _ _ hrng underlying171 rfl eI ?_)
    | (refine aI rfl 171 (.tmp 6) (.tmp 24) rfl 171 _ _ rfl rfl eI rfl rfl ?_)
    | fail)
   go_roundg (X.length-(k+1))
   case measure=>omega
   case rel=>exact ⟨k+1,rfl,zaa,zah,by rw [HN.out];exact HI6.out,hbw6⟩
  ·obtain rfl:k=X.length:=zaa;obtain ⟨F,hF⟩:∃ F,Pg.bT X X.length=F:=⟨_,rfl⟩;rw [hF] at hI;have HF:Hid _:=hF;have HI1:Hid (Pg.iY wr w X.length F):=hI;have HB1:Hid _:=hbw;have hs1:=hbw.size;have hcb1:wr.cell? cb=some (.slice cg X.length cc):=by
    rw [M0 _ _ _ _ _ _ (HC.out.below hbw).ptr];rfl
   have hT0:Pg.Tab wr pb b ps.length mb 0 (Pg.dQ ps F V 0) (fun _=>none) (fun _=>[]):=⟨HM.out.mo (P:=fun _=>False) (ay hbw) (fun h=>h),fun _ _=>rfl,fun _ _ h=>zat,fun _ _ _ h=>zat⟩;have HT0:Hid _:=hT0;clear hI hbw hF hT0 hk hq hkn;go_wp2;obtain ⟨w1,hw1⟩:∃ W,wr=W:=⟨_,rfl⟩;rw [hw1] at HT0 HI1 HB1 hs1 hcb1 ⊢
   go_loopg [35] X.length (fun q i wr=>∃ k:Nat,q=X.length-k/\k<=X.length/\i = .int .i64 k/\∃ n M L,Pg.Tab wr pb b ps.length mb n (Pg.dQ ps F V k) M L/\n<=k*30000/\(∀ ev g,M ev=some g->w1.heap.size<=g)/\Mo (· = mb) w1 wr)
   case atStart=>exact ⟨0,rfl,Ni _,rfl,0,_,_,HT0.out,Ni _,fun _ _ h=>zat,Mo.refl _ _⟩
   case round =>
    obtain ⟨k,hq1,hk,rfl,n,M,L,hTab,hn,hlo,hmo⟩:=hrel;obtain ⟨es,clock,hmbk⟩:=(HM.out.mo (P:=fun _=>False) (ay HB1.out) (fun h=>h)).kind;have HKD:Hid (∀ V2,Mo (· = mb) w1 V2->Kd (fun _=>False) w1 V2):=fun V2 h=>fX h (fun j c t f hj hc=>by rw [hj,hmbk] at hc;cases hc)
    have HC1:Hid (Pg.ChM w1 cb cg cc X V):=HC.out.below HB1.out;by_cases hkn:k<X.length
    ·obtain ⟨x,hx⟩:∃ x,X[k]?=some x:=⟨_,MU hkn⟩;have hCk:=HC1.out.kd (HKD.out _ hmo) (fun _ _ h=>h);have hrng:=hCk.at' k x hx;have HMV:Hid _:=HC1.out.mv k x hx;obtain ⟨kind,name,depth,owner,vp,ve,vl,⟨va,vn,vc⟩⟩:=x;obtain rfl:vn=(V k).length:=HMV.out.1;unfold Pg.MS.arr at hrng;dsimp only at hrng;have hB8:=(MY wr wr).alloc (MR _) (.cells #[(kind:Int),name,(depth:Int),(owner:Int),.slice vp.a vp.n vp.c,.slice ve.a ve.n ve.c,.slice vl.a vl.n vl.c,.slice va (V k).length vc] 171);have hTab8:=hTab.below hB8;have hmo8:=hmo.trans (ay hB8);have HT8:Hid (Pg.Tab (wr.alloc (.cells #[(kind:Int),name,(depth:Int),(owner:Int),.slice vp.a vp.n vp.c,.slice ve.a ve.n ve.c,.slice vl.a vl.n vl.c,.slice va (V k).length vc] 171)) pb b ps.length mb n (Pg.dQ ps F V k) M L):=hTab8;have HM8:Hid (Mo (· = mb) w1 (wr.alloc (.cells #[(kind:Int),name,(depth:Int),(owner:Int),.slice vp.a vp.n vp.c,.slice ve.a ve.n ve.c,.slice vl.a vl.n vl.c,.slice va (V k).length vc] 171))):=hmo8;have hs8:=hmo8.size;have hVk:=HV.out k;clear hTab hmo hB8 hTab8 hmo8 hCk hx;go_wp2_with (first
      | (refine Om rfl 171 (.tmp 38) rfl cg (k*8) rfl _ _ hrng underlying171 rfl eI ?_)
      | (refine aI rfl 171 (.tmp 8) (.tmp 39) rfl 171 _ _ rfl rfl eI rfl rfl ?_)
      | fail)
     obtain ⟨W8,hW8⟩:∃ W,wr.alloc (.cells #[(kind:Int),name,(depth:Int),(owner:Int),.slice vp.a vp.n vp.c,.slice ve.a ve.n ve.c,.slice vl.a vl.n vl.c,.slice va (V k).length vc] 171)=W:=⟨_,rfl⟩;rw [hW8] at HT8 HM8 hs8 ⊢;clear hrng
     go_loopg [43] (V k).length (fun q j wr2=>∃ j':Nat,q=(V k).length-j'/\j'<=(V k).length/\j = .int .i64 j'/\∃ n M L,Pg.Tab wr2 pb b ps.length mb n (Pg.dT ps F (Pg.dQ ps F V k) k (V k) j') M L/\n<=k*30000+j'/\(∀ ev g,M ev=some g->w1.heap.size<=g)/\Mo (· = mb) w1 wr2)
     case atStart=>exact ⟨0,rfl,Ni _,rfl,n,M,L,HT8.out,zaa,hlo,HM8.out⟩
     case round =>
      clear hlo hn HT8 HM8;obtain ⟨j,hq,hj,rfl,n,M,L,hTab,hn,hlo,hmo⟩:=hrel;by_cases hjn:j<(V k).length
      ·obtain ⟨m,hm⟩:∃ m,(V k)[j]?=some m:=⟨_,MU hjn⟩;have hmem:=Nc hm;obtain ⟨he1,he2,he3⟩:=HEV.out k m hmem;have HN:Hid (Pg.dT ps F (Pg.dQ ps F V k) k (V k) (j+1)=Pg.lD ps F (Pg.dT ps F (Pg.dQ ps F V k) k (V k) j) k m):=by unfold Hid;rw [Pg.dT,hm]
       obtain ⟨gm,c,fz,rfl,hcap,hgk,hrg⟩:∃ gm c fz,va=some ⟨gm,0,none⟩/\(V k).length<=vc/\w1.heap[gm]?=some (.cells c 239 fz)/\∀ (j:Nat) (m:Pg.MV),(V k)[j]?=some m->w1.rangeAt gm (j*5) m.cells:=by
        rcases HMV.out.2 with h | h
        ·omega
        ·exact h
       have hrng:wr.rangeAt gm (j*5) m.cells:=fun i v hv=>(Nk (a:=⟨gm,_,none⟩) ((HKD.out _ hmo).ao _ _ _ _ hgk (fun h=>h))).trans (hrg j m hm i v hv);obtain ⟨T,hTd⟩:∃ T,Pg.dT ps F (Pg.dQ ps F V k) k (V k) j=T:=⟨_,rfl⟩;rw [hTd] at hTab HN;obtain ⟨event,after,delay,dest,aw⟩:=m;dsimp only at he1 he2 he3;unfold Pg.MV.cells at hrng;dsimp only at hrng;clear hrg hTd hm;have hB5:=(MY wr wr).alloc (MR _) (.cells #[event,after,.int .u64 delay,dest,.slice aw.a aw.n aw.c] 239);have hTab5:=hTab.below hB5;have hmo5:=hmo.trans (ay hB5);have s5:=Na wr (.cells #[event,after,.int .u64 delay,dest,.slice aw.a aw.n aw.c] 239);have hB15:Pg.di (wr.alloc (.cells #[event,after,.int .u64 delay,dest,.slice aw.a aw.n aw.c] 239)) pb b ps.length cap hv fin (.map (some mb)):=by
        have h1:=(HB1.out.block pb hpb).trans HB.out;exact ((HKD.out _ hmo5).ao _ _ _ _ h1 (fun h=>h)).trans h1
       have hrow:=Kf (wr.alloc (.cells #[event,after,.int .u64 delay,dest,.slice aw.a aw.n aw.c] 239)) pb b cap ps.length hv fin mb n M event hB15 hTab5.map (by have:k*30000<=24*30000:=PE _ zaa;omega) he1 hlen;obtain ⟨W5,hW5⟩:∃ W,wr.alloc (.cells #[event,after,.int .u64 delay,dest,.slice aw.a aw.n aw.c] 239)=W:=⟨_,rfl⟩;rw [hW5] at hTab5 hmo5 s5 hrow;have HT5:Hid (Pg.Tab W5 pb b ps.length mb n T M L):=hTab5;clear hTab hmo hB5 hB15 hTab5;have hst:∀ {ops:Array Oper} {rest:List Oper} {op:Oper} {a:Act} {Q:Exit->Act->World->Prop},op.guard=none->op.op = .store 239 (.tmp 10) (.tmp 46)->a.eval (.tmp 10) = .pointer (some ⟨wr,0,none⟩)->a.eval (.tmp 46) = .agg #[event,after,.int .u64 delay,dest,.slice aw.a aw.n aw.c]->wpList prog ops Q rest (a.put op.dst undef) W5->wpList prog ops Q (op::rest) a (wr.alloc (.cells #[.string ⟨#[]⟩,false,.int .u64 0,.string ⟨#[]⟩,.slice none 0 0] 239)):=fun h1 h2 h3 h4 h5=>aI h1 239 (.tmp 10) (.tmp 46) h2 239 _ #[event,after,.int .u64 delay,dest,.slice aw.a aw.n aw.c] h3 h4 vM rfl rfl (by rw [hW5];exact h5);have m0:W5.cell? wr=some ↑event:=by rw [M0 _ _ _ _ _ _ s5];rfl
       clear hW5
       go_upto_region 13 with (first
        | (refine Om rfl 239 (.tmp 45) rfl gm (j*5) rfl _ _ hrng underlying239 rfl vM ?_)
        | (refine hst rfl rfl rfl rfl ?_)
        | (go_at_call 102;refine hrow.mono ?_;intro e w6 hRP;obtain ⟨g,M',L',n',rfl,hn',hM',hmo6,hlo6,hTab6⟩:=HT5.out.Mp hRP)
        | fail)
       have hkN:k<ps.length:=by have:=HX.out;omega
       obtain ⟨hR1,hR2,rowP,hTe,hrl,hrel6⟩:=hTab6.row event g hM';rw [M6 rfl] at hTe;have hTe:(T event).getD (List.replicate ps.length none)=rowP:=NO hTe;obtain ⟨mm,hmm⟩:∃ mm,(L' g)[k]?=some mm:=⟨_,MU zaa⟩;have cm:=hR1.cell hmm;have hrk:=hrel6 k;rw [hmm] at hrk;have hmo16:=hmo5.trans hmo6;have hlo':∀ x y,M' x=some y->w1.heap.size<=y:=fun x y h=>by
        rcases hlo6 x y h with h | h
        ·exact hlo x y h
        ·have:=hmo5.size;omega
       have s6:=((fX (E:=fun _=>False) hmo6 (fun j c t f hj hc=>by
        obtain ⟨es,clock,hz⟩:=HT5.out.map.kind;rw [hj,hz] at hc;cases hc)).ao _ _ _ _ s5 (fun h=>h)).trans s5
       have HN:Hid (Pg.dT ps F (Pg.dQ ps F V k) k (V k) (j+1)=fun e=>if e=event then some (match (generalizing:=false) rowP[k]? with | some none=>rowP.set k (some (Pg.eG ps F k ⟨event,after,delay,dest,aw⟩)) | _=>rowP) else T e):=by
        unfold Hid;rw [HN.out];unfold Pg.lD;dsimp only;rw [hTe]
       have HT6:Hid (Pg.Tab w6 pb b ps.length mb n' (fun x=>if x=event then some rowP else T x) M' L'):=by have:=hTab6;rw [hTe] at this;exact this
       have hnB:n'<=k*30000+(j+1):=zaa;clear hTab6 hTe hrel6 hrow HT5 m0 s5 hmo5 hmo6 hlo6 hlo hrng hst;cases mm with
       | some q0 =>
        have HN:Hid (Pg.dT ps F (Pg.dQ ps F V k) k (V k) (j+1)=fun e=>if e=event then some rowP else T e):=by
         unfold Hid;rw [HN.out]
         match hz:rowP[k]?,hrk with
         | some (some z),_=>rfl
        dsimp only [Option.map] at cm;clear hrk hmm;go_wp2_with fail
        go_roundg ((V k).length-(j+1))
        case measure=>omega
        case rel=>exact ⟨j+1,rfl,zaa,zah,n',M',L',by rw [HN.out];exact HT6.out,hnB,hlo',hmo16⟩
       | none =>
        have HN:Hid (Pg.dT ps F (Pg.dQ ps F V k) k (V k) (j+1)=fun e=>if e=event then some (rowP.set k (some (Pg.eG ps F k ⟨event,after,delay,dest,aw⟩))) else T e):=by
         unfold Hid;rw [HN.out]
         match hz:rowP[k]?,hrk with
         | some none,_=>rfl
        dsimp only [Option.map] at cm;have hgl:=hR1.lt;have hs6l:=(MQ.1 s6).1;have hgw:g≠wr.heap.size:=by
         intro e;rw [<- e,show w6.heap[g]?=_ from hR1] at s6;simp at s6
        have hYs:(w6.setCell ⟨g,k,none⟩ w6).heap.size=w6.heap.size:=zad;have hY:=hR1.set k (some w6.heap.size);dsimp only [Option.map] at hY;have hB7:=(MY (w6.setCell ⟨g,k,none⟩ w6).heap.size (w6.setCell ⟨g,k,none⟩ w6)).alloc (MR _) (.cells #[(k:Int),.int .u32 0,.slice aw.a aw.n aw.c,.func (.func 103) #[] #[]] 245);have m4:w6.cell? ⟨wr,4,none⟩=some (.slice aw.a aw.n aw.c):=by rw [M0 _ _ _ _ _ _ s6];rfl
        have m3:((w6.setCell ⟨g,k,none⟩ w6).alloc (.cells #[(k:Int),.int .u32 0,.slice aw.a aw.n aw.c,.func (.func 103) #[] #[]] 245)).cell? ⟨wr,3,none⟩=some ↑dest:=by
         rw [hB7.cell (p:=⟨wr,3,none⟩) (by rw [hYs];exact hs6l),az (by intro h;injection h with h1 h2;exact hgw h1),M0 _ _ _ _ _ _ s6];rfl
        have hBa:=(MY w6 w6).alloc (MR _) (.cells #[(k:Int),.int .u32 0,.slice aw.a aw.n aw.c,.func (.func 103) #[] #[]] 245);have cmA:=(hBa.cell (p:=⟨g,k,none⟩) hgl).trans cm;have fz:w6.frozen? ⟨g,k,none⟩=false:=hR1.frozen;have fzA:=(hBa.frozen (p:=⟨g,k,none⟩) hgl).trans fz;have hR7:Pg.dj ((w6.setCell ⟨g,k,none⟩ w6).alloc (.cells #[(k:Int),.int .u32 0,.slice aw.a aw.n aw.c,.func (.func 103) #[] #[]] 245)) g ((L' g).set k (some w6.heap.size)):=(hB7.block g (by rw [hYs];exact hgl)).trans hY;have hmo7:Mo (· = g) w6 ((w6.setCell ⟨g,k,none⟩ w6).alloc (.cells #[(k:Int),.int .u32 0,.slice aw.a aw.n aw.c,.func (.func 103) #[] #[]] 245)):=((Mo.refl (· = g) w6).set ⟨g,k,none⟩ _ rfl).trans (ay hB7);have hq7:((w6.setCell ⟨g,k,none⟩ w6).alloc (.cells #[(k:Int),.int .u32 0,.slice aw.a aw.n aw.c,.func (.func 103) #[] #[]] 245)).heap[w6.heap.size]?=some (.cells #[(k:Int),.int .u32 0,.slice aw.a aw.n aw.c,.func (.func 103) #[] #[]] 245 (0,0)):=by
         have:=Na (w6.setCell ⟨g,k,none⟩ w6) (.cells #[(k:Int),.int .u32 0,.slice aw.a aw.n aw.c,.func (.func 103) #[] #[]] 245)
         rwa [hYs] at this
        have hfin:∀ (W9:World) (z:Pg.PM),Mo (· = g) w6 W9->Pg.dj W9 g ((L' g).set k (some w6.heap.size))->Pg.ej W9 pb b w6 z->z=Pg.eG ps F k ⟨event,after,delay,dest,aw⟩->∃ n M L,Pg.Tab W9 pb b ps.length mb n (Pg.dT ps F (Pg.dQ ps F V k) k (V k) (j+1)) M L/\n<=k*30000+(j+1)/\(∀ ev g,M ev=some g->w1.heap.size<=g)/\Mo (· = mb) w1 W9:=fun W9 z hm9 hr9 hz hze=>by
         have hkd9:Kd (fun t=>t=242) w6 W9:=fX hm9 (fun i c t f hi hc=>by rw [hi,show w6.heap[g]?=_ from hR1] at hc;simp at hc;exact hc.2.1.symm);have:=HT6.out.set hM' hkN (M6 rfl) z hkd9 hm9 hr9 hz;refine ⟨n',M',fun y=>if y=g then (L' g).set k (some w6.heap.size) else L' y,?_,hnB,hlo',hmo16.trans' hm9 (fun i hi e=>by have:=hlo' event g hM';omega)⟩;rw [HN.out,<- hze];have e2:(fun y=>if y=event then some (rowP.set k (some z)) else (fun x=>if x=event then some rowP else T x) y)=fun e=>if e=event then some (rowP.set k (some z)) else T e:=by
          funext y;by_cases hy:y=event
          ·rw [M6 hy,M6 hy]
          ·rw [M4 hy,M4 hy];exact M4 hy
         rw [<- e2];exact this
        clear hrk hmm HT6 hR1 s6 hB7 hBa hY hYs
        go_upto_if 66 with fail
        obtain ⟨W7,hW7⟩:∃ W,((w6.setCell ⟨g,k,none⟩ w6).alloc (.cells #[(k:Int),.int .u32 0,.slice aw.a aw.n aw.c,.func (.func 103) #[] #[]] 245))=W:=⟨_,rfl⟩;rw [hW7] at m3 hR7 hmo7 hq7 ⊢;have hglo:=hlo' event g hM';have hlo6:w1.heap.size<=w6.heap.size:=hmo16.size;clear hW7 cmA fzA fz m4 cm;by_cases hde:dest.toList.isEmpty=true
        ·have hdb:(!dest.toList.isEmpty)=false:=by rw [hde];rfl
         rw [hdb];have hres:=hfin W7 ⟨k,0,aw,.nil⟩ hmo7 hR7 ⟨_,hq7,rfl⟩ (by unfold Pg.eG;rw [M6 hde]);have HRES:Hid _:=hres;clear hfin hres m3 hR7 hmo7 hq7;go_wp2_with fail
         go_roundg ((V k).length-(j+1))
         case measure=>omega
         case rel =>
          obtain ⟨n2,M2,L2,r1,r2,r3,r4⟩:=HRES.out;exact ⟨j+1,rfl,zaa,zah,n2,M2,L2,r1,r2,r3,r4⟩
        ·have hde:dest.toList.isEmpty=false:=by simpa using hde
         have hdb:(!dest.toList.isEmpty)=true:=by rw [hde];rfl
         rw [hdb];have hde1:(dest.toList == [])=false:=by
          cases hz:dest.toList with
          | nil=>rw [hz] at hde;cases hde
          | cons=>rfl
         obtain ⟨d,hFd,hdN⟩:=he3 hde;rw [HF.out] at hFd;obtain ⟨p,hp⟩:∃ p,ps[k]?=some p:=⟨_,MU hkN⟩;obtain ⟨pd,hpd⟩:∃ p,ps[d]?=some p:=⟨_,MU hdN⟩;have hw01:=HB1.out.size;have hmo17:Mo (· = mb) w1 W7:=hmo16.trans' hmo7 (fun i hi e=>zaa);have hmbw:mb<w.heap.size:=HM.out.lt;obtain ⟨es0,clock0,hmb0⟩:=HM.out.kind;have hbm:b≠mb:=HBK.out;have hpm:pb≠mb:=by
          exact zeJ
         have hgmb:1≠mb:=by
          obtain ⟨c,t,fz,hc⟩:=HGK.out;intro e;rw [e,hmb0] at hc;cases hc
         have hP1:=HP.out.below HB1.out hpb hb;have hP7:Pg.bZ W7.drew pb b cap ps:=(hP1.mo hmo17 zaa zaa hpm hbm).below ((MY W7 W7).drew) (by have:=hmo17.size;omega) (by have:=hmo17.size;omega);have hT7:TabAt 1 Lib.deBruijn32tab W7.drew:=hmo17.kpT zaa hgmb (Pg.KpT.of HB1.out hg HT.out);have hs7:=hmo17.size;have hI7:Pg.iY W7.drew w X.length F:=HI1.out.mo (ja hmo17) zaa;have hlook:=hI7.look he2 hFd;have hgood:=HGD.out;have hand:∀ {x y:Nat},x<2 ^ ps.length->x&&&y<2 ^ ps.length:=fun h=>NT OQ h;have hlead:=GN W7.drew pb b cap ps k d w6 p pd 0 (.slice aw.a aw.n aw.c) (.func (.func 103) #[] #[]) hp hpd (fun i hi=>Pg.wS (hand (hgood k p hp).2.2.1) hi) (fun i hi=>Pg.wS (NV (hand (hgood d pd hpd).2.2.1) (hgood d pd hpd).2.2.2) hi) (fun i q hq jj hj=>Pg.wS (hgood i q hq).1 hj) hP7 (by show pb<W7.heap.size;omega) (by show b<W7.heap.size;omega) zaa zaa (by show _<W7.heap.size;omega) zaa hT7 hq7;have hres:∀ (W9:World) (fv':Value),Mo (· = w6.heap.size) W7.drew W9->W9.heap[w6.heap.size]?=some (.cells #[(k:Int),.int .u32 (Pg.dom ps k d),.slice aw.a aw.n aw.c,fv'] 245 (0,0))->Pg.tJ W9 pb b (Pg.ie ps k d) fv'->_:=fun W9 fv' h1 h2 h3=>hfin W9 ⟨k,Pg.dom ps k d,aw,Pg.ie ps k d⟩ ((ja hmo7).trans' h1 (fun i hi e=>zaa)) ((h1.block g (show g<W7.heap.size from hR7.lt) zaa).trans hR7) ⟨fv',h2,h3⟩ (by unfold Pg.eG;rw [M4 (by rw [hde];decide)];dsimp only;rw [hFd]);have HRES:Hid _:=hres;have cq:W7.cell? ⟨g,k,none⟩=some ↑w6:=hR7.cell (m:=some w6.heap.size) (Nw zaa);clear hfin hres hgood hand hI7 hT7 hP7 hP1 hR7 hmo7 hq7 he3
         go_upto_region 16 with fail
         refine dU 9 zab zab ?_;simp only [List.take_succ_cons,List.take_zero,List.drop_succ_cons,List.drop_zero]
         repeat still_step
         refine Ov ?_;go_wp2_with (go_at_call 104;refine hlead.mono ?_;intro e w8 hL8;obtain ⟨rfl,hm8,fv',hq8,hen8⟩:=hL8)
         go_roundg ((V k).length-(j+1))
         case measure=>omega
         case rel =>
          obtain ⟨n2,M2,L2,r1,r2,r3,r4⟩:=HRES.out w8 fv' hm8 hq8 hen8;exact ⟨j+1,rfl,zaa,zah,n2,M2,L2,r1,r2,r3,r4⟩
      ·obtain rfl:j=(V k).length:=zaa;go_wp2
       go_roundg (X.length-(k+1))
       case measure=>omega
       case rel=>exact ⟨k+1,rfl,zaa,zah,n,M,L,hTab,by have:=hVk;rw [Rx];omega,hlo,hmo⟩
    ·obtain rfl:k=X.length:=zaa;obtain ⟨D,hD,hMD⟩:=hTab.map;obtain ⟨w2,hw2⟩:∃ W,wr=W:=⟨_,rfl⟩;rw [hw2] at hTab hmo hD ⊢;have hs2:=hmo.size;have hw01:=HB1.out.size;have hmbw:mb<w.heap.size:=HM.out.lt;have h3:w2.cell? ⟨pb,3,none⟩=some (.map (some mb)):=by
      have h1:=(HB1.out.block pb hpb).trans HB.out;rw [M0 _ _ _ _ _ _ (((HKD.out _ hmo).ao _ _ _ _ h1 (fun h=>h)).trans h1)];rfl
     have HTab:Hid (Pg.Tab w2 pb b ps.length mb n (Pg.dQ ps F V X.length) M L):=hTab;have HMD:Hid (∀ ev,match M ev with | none=>Go.Maps.has D (Pg.ky ev)=false | some g=>Go.Maps.has D (Pg.ky ev)=true/\∀ z,D.atKey (Pg.ky ev) z = .lit (.int .i64 g)):=hMD;have HMO:Hid (Mo (· = mb) w1 w2):=hmo;clear hTab hMD hmo hkn hq1 hk hn hw2;go_wp2_with (first
      | (refine wpList_range_own _ rfl (.tmp 82) 164 rfl 9 240 Pg.Er underlying164 (Pg.oG ps.length) mb n D rfl hD ?_;intro w3 hrg hg3 hs3)
      | fail)
     simp only [Act.put,List.setIfInBounds_toArray,List.set_cons_succ,List.set_cons_zero];have hm3:Mo (fun j=>∃ ev,M ev=some j) w2 w3:=⟨hg3.os,hg3.tape,hg3.output,hg3.size,fun j hj _=>hg3.block j hj zad⟩;have HR3:Hid (∀ ev g,M ev=some g->g<w2.heap.size/\(L g).length=ps.length):=fun ev g h=>⟨(HTab.out.row ev g h).1.lt,(HTab.out.row ev g h).2.1⟩;have hr3:∀ ev g,M ev=some g->Pg.dj w3 g (if Go.Maps.has D (Pg.ky ev) then L g else Pg.cQ ps (L g) ps.length):=fun ev g h=>by
      have h1:=HMD.out ev;rw [h] at h1;rw [M6 h1.1];have h2:=(HTab.out.row ev g h).1;exact (hg3.block g h2.lt zad).trans h2
     have HRG:Hid (w3.ranges prog 9 (Pg.oG ps.length) mb w2 n D (Go.Maps.has D) (Go.Maps.size D)):=hrg;have HRR:Hid (∀ ev g,M ev=some g->Pg.dj w3 g (if Go.Maps.has D (Pg.ky ev) then L g else Pg.cQ ps (L g) ps.length)):=hr3;have HM3:Hid (Mo (fun j=>∃ ev,M ev=some j) w2 w3):=hm3;clear hrg hr3 hm3 hg3 h3 hD
     go_loopg [13] (Go.Maps.size D) (fun q _ wr=>∃ left,wr.ranges prog 9 (Pg.oG ps.length) mb w2 n D left q/\(∀ kl,left kl=true->Go.Maps.has D kl=true)/\(∀ ev g,M ev=some g->Pg.dj wr g (if left (Pg.ky ev) then L g else Pg.cQ ps (L g) ps.length))/\Mo (fun j=>∃ ev,M ev=some j) w2 wr)
     case atStart=>exact ⟨_,HRG.out,fun _ h=>h,HRR.out,HM3.out⟩
     case round =>
      obtain ⟨left,hrg,hle,hrows,hmo⟩:=hrel;have HRG:Hid (wr.ranges prog 9 (Pg.oG ps.length) mb w2 n D left gk):=hrg;have HRW:Hid (∀ ev g,M ev=some g->Pg.dj wr g (if left (Pg.ky ev) then L g else Pg.cQ ps (L g) ps.length)):=hrows;have HLE:Hid (∀ kl,left kl=true->Go.Maps.has D kl=true):=hle;have HMW:Hid (Mo (fun j=>∃ ev,M ev=some j) w2 wr):=hmo;clear hrows hle hmo HRR HM3;go_wp2_with (first
       | (refine wpList_next_ranges _ rfl (.tmp 83) rfl 9 Pg.Er (Pg.oG ps.length) id id (fun key _ _=>⟨key,rfl⟩) (fun v _ _=>⟨v,rfl⟩) mb w2.heap.size n D left gk rfl hrg ?_ ?_)
       | fail)
      case refine_1 =>
       intro h0 hall;have HALL:Hid (∀ kl,left kl=false):=hall;clear hall h0 hrg;go_wp2;go_end0;refine ⟨rfl,?_⟩;unfold Pg.KO;rw [HF.out];refine ⟨⟨n,M,_,HTab.out.Lm ps ⟨D,HRG.out.owns,HMD.out⟩ HMW.out (fun ev g h => ?_),HTab.out.once ps HMW.out⟩,?_⟩
       ·have:=HRW.out ev g h;rw [HALL.out,M4 zac] at this;exact this
       ·exact (ay HB1.out).trans' (HMO.out.trans' HMW.out (fun i hi he=>zct)) (fun i _ e=>e)
      case refine_2 =>
       intro x c kl y ys w4 cnt' hkey hlk hv hat hrg4 hlt hgr hsz hen;obtain ⟨s,rfl,rfl⟩:=Pg.GC hkey;have hMs:=HMD.out s;cases hms:M s with
       | none =>
        rw [hms] at hMs;have h1:=HLE.out _ hlk;rw [show Go.Maps.has D (Pg.ky s)=false from hMs] at h1;cases h1
       | some g =>
        rw [hms] at hMs;have hy:y = .lit (.int .i64 g):=(hat (.lit (.int .i64 0))).symm.trans (hMs.2 _);rw [hy] at hv;have hc:=Pg.z8 hv;rw [hc] at hen ⊢;obtain ⟨hg2,hLl⟩:=HR3.out s g hms;have hglo:=hlo s g hms;have hrow4:Pg.dj w4 g (L g):=by
         have h1:=HRW.out s g hms;rw [hlk,M6 rfl] at h1;exact (hgr.block g (by have:=HMW.out.size;omega) zae).trans h1
        obtain ⟨es0,clock0,hmb0⟩:=HM.out.kind;have hbm:b≠mb:=HBK.out;have hpm:pb≠mb:=by
         exact zeJ
        have hm4:Mo (· = w2.heap.size) wr w4:=⟨hgr.os,hgr.tape,hgr.output,hgr.size,fun j hj hn=>hgr.block j hj (fun e=>hn za7)⟩;have hmr:=HMW.out.size;have hmo14:Mo (· = mb) w1 w4:=(HMO.out.trans' HMW.out (fun i hi he=>zct)).trans' hm4 (fun i hi e=>zaa);have hP4:Pg.bZ w4 pb b cap ps:=(HP.out.below HB1.out hpb hb).mo hmo14 zaa zaa hpm hbm;have hs14:=hmo14.size;have hho:=pA w4 pb b cap ps g (L g) hLl HOW.out hP4 zaa zaa zaa zaa hrow4;have HNXT:Hid (∀ w5,Pg.dj w5 g (Pg.cQ ps (L g) ps.length)->Mo (· = g) w4 w5->∃ left,w5.ranges prog 9 (Pg.oG ps.length) mb w2 n D left cnt'/\(∀ kl,left kl=true->Go.Maps.has D kl=true)/\(∀ ev g,M ev=some g->Pg.dj w5 g (if left (Pg.ky ev) then L g else Pg.cQ ps (L g) ps.length))/\Mo (fun j=>∃ ev,M ev=some j) w2 w5):=fun w5 hr5 hm5=>by
         refine ⟨fun z=>left z && !z.sameKey (Pg.ky s),hrg4.kept (row:=some g) ⟨hm5.os,hm5.tape,hm5.output,hm5.size,fun j hj hn=>hm5.block j hj (fun e=>hn (by rw [e]))⟩ zae zae,fun kl h=>HLE.out kl (by simp at h;exact h.1),fun ev g' hg' => ?_,?_⟩
         ·by_cases he:ev=s
          ·rw [he] at hg' ⊢;rw [hms] at hg';cases hg'
           rw [M4 (by show ¬ (left (Pg.ky s) && !(Pg.ky s).sameKey (Pg.ky s))=true;rw [Pg.JI];simp)];exact hr5
          ·have hgg:g'≠g:=fun e=>he (HTab.out.inj ev s g (by rw [<- e];exact hg') hms);have h1:=HRW.out ev g' hg';have h2:=(HR3.out ev g' hg').1;have h3:=(hm5.block g' zaa hgg).trans (hgr.block g' zaa zae);by_cases hl:left (Pg.ky ev)=true
           ·rw [M6 hl] at h1;rw [M6 (by show (left (Pg.ky ev) && !(Pg.ky ev).sameKey (Pg.ky s))=true;rw [Pg.Dc he,hl];rfl)];exact h3.trans h1
           ·rw [M4 hl] at h1;rw [M4 (by show ¬ (left (Pg.ky ev) && !(Pg.ky ev).sameKey (Pg.ky s))=true;rw [Pg.Dc he];simpa using hl)];exact h3.trans h1
         ·exact (HMW.out.trans' hm4 (fun i hi e=>zaa)).trans' hm5 (fun i _ e=>⟨s,by rw [e];exact hms⟩)
        clear hrg hrg4 hkey hv hat hc hP4 hrow4 hmo14 hm4 hgr hMs hy;go_wp2_with (go_at_call 105;refine hho.mono ?_;intro e w5 h5;obtain ⟨rfl,hr5,hm5⟩:=h5)
        go_roundg cnt'
        case measure=>exact hlt
        case rel=>exact HNXT.out w5 hr5 hm5
namespace Pg
def zPS:PS:={ kind:=0,name:=⟨#[]⟩,done:=⟨#[]⟩,owner:=0,parts:=0,inside:=0,around:=0,wth:=0,enter:=⟨none,0,0⟩,leave:=⟨none,0,0⟩ }
def bE (X:List MS):Nat->List PS
 | 0=>List.replicate X.length zPS
 | k+1=>match X[k]? with | some x=>mC (bE X k) k x | none=>bE X k
def bo (X:List MS):Nat->Nat
 | 0=>0
 | k+1=>match X[k]? with | some x=>qY (bo X k) k x | none=>bo X k
def dL (ps:List PS):Nat->List PS
 | 0=>ps
 | k+1=>bK (dL ps k) (ps.length-1-k)
theorem eh (X:List MS):∀ k,(bE X k).length=X.length
 | 0=>by simp [bE]
 | k+1=>by
  rw [bE];split
  ·rw [FG,eh X k]
  ·exact eh X k
theorem xV (ps:List PS) (i:Nat):(bK ps i).length=ps.length:=by
 unfold bK;split
 ·rfl
 ·split
  ·simp
  ·split <;> simp
theorem pP (ps:List PS):∀ k,(dL ps k).length=ps.length
 | 0=>rfl
 | k+1=>by rw [dL,xV,pP ps k]
def cW (N:Nat) (ps:List PS):Prop:=∀ (i:Nat) (p:PS),ps[i]?=some p->p.parts<2 ^ N/\p.inside<2 ^ N/\p.around<2 ^ N/\p.wth<2 ^ N
theorem cW.sms (h:cW N ps) (hN:N<=24):Sms ps:=fun i p hi=>by
 have h2:2 ^ N<=2 ^ 24:=OM zac hN;obtain ⟨a,b,c,d⟩:=h i p hi;exact ⟨zaa,zaa,zaa,zaa⟩
theorem cW.set (h:cW N ps) (i:Nat) (p:PS) (hp:p.parts<2 ^ N/\p.inside<2 ^ N/\p.around<2 ^ N/\p.wth<2 ^ N):cW N (ps.set i p):=fun j q hq=>by
 by_cases e:i=j
 ·subst e;have hl:i<ps.length:=by have:=(MZ.1 hq).1;simpa using this
  rw [Nw hl] at hq;cases hq
  exact hp
 ·rw [NG e] at hq;exact h j q hq
theorem gb (h:i<N):2 ^ i<2 ^ N:=P8 zac h
theorem dH (N:Nat):0<2 ^ N:=OF N
theorem uu (h:cW N ps) (hi:i<N) (x:MS) (ho:x.owner = -1\/∃ o:Nat,x.owner=o/\o<i):cW N (mC ps i x):=by
 have hz:=dH N;unfold mC;split
 ·exact h.set _ _ ⟨hz,hz,hz,hz⟩
 ·rename_i hn;obtain ⟨o,ho,hoi⟩:∃ o:Nat,x.owner=o/\o<i:=by
   exact zeG
  split
  ·exact h
  ·rename_i q hq;obtain ⟨a,b,c,d⟩:=h _ q hq;have hto:x.owner.toNat=o:=by rw [ho];rfl
   refine cW.set ?_ _ _ ⟨hz,hz,NV c (by rw [hto];exact gb zaa),hz⟩;split
   ·exact h
   ·exact h.set _ _ ⟨NV a (gb hi),b,c,d⟩
theorem jW (h:cW N ps) (i:Nat):fy ps i<2 ^ N:=by
 unfold fy;split
 ·rename_i p hp;exact (h i p hp).2.2.2
 ·exact dH N
theorem zQ {N:Nat} {ps:List PS} (h:cW N ps):∀ (l:List Nat) (o:Nat),o<2 ^ N->orW ps o l<2 ^ N
 | [],_,ho=>ho
 | k::l,_,ho=>zQ h l _ (NV ho (jW h k))
theorem mN (h:cW N ps) (hi:i<N):cW N (bK ps i):=by
 unfold bK;split
 ·exact h
 ·rename_i p hp;obtain ⟨a,b,c,d⟩:=h i p hp;have h1:cW N (ps.set i { p with wth:=kG ps i p }):=h.set _ _ ⟨a,b,c,zQ h _ _ (gb hi)⟩;split
  ·exact h1
  ·split
   ·exact h1
   ·rename_i q hq;obtain ⟨a',b',c',d'⟩:=h _ q hq;exact h1.set _ _ ⟨a',NV b' (NV b (gb hi)),c',d'⟩
theorem mW (X:List MS) {N:Nat} (hN:X.length<=N):∀ k,k<=N->bo X k<2 ^ N
 | 0,_=>dH N
 | k+1,hk=>by
  rw [bo];have ih:=mW X hN k zaa;split
  ·unfold qY;split
   ·exact NV ih (gb zaa)
   ·exact ih
  ·exact ih
structure Ord (X:List MS) (k:Nat) (ps:List PS):Prop where
 own:∀ (i:Nat) (p:PS) (x:MS),i<k->ps[i]?=some p->X[i]?=some x->p.owner=x.owner/\p.kind=x.kind
 part:∀ (i:Nat) (p:PS),ps[i]?=some p->∀ j∈els p.parts,i<j/\j<k
theorem Lc {a j:Nat} (h:j∈els (a|||2 ^ i)):j∈els a\/j=i:=by
 obtain ⟨h1,h2⟩:=n8.1 h;rw [R5] at h2;by_cases e:j=i
 ·exact .inr e
 ·rw [Nat.testBit_two_pow_of_ne (fun x=>e x.symm),QK] at h2;exact .inl (n8.2 ⟨h1,h2⟩)
theorem ym (h:Ord X k ps) (hl:k<ps.length) {x:MS} (hx:X[k]?=some x) (ho:x.owner = -1\/∃ o:Nat,x.owner=o/\o<k):Ord X (k+1) (mC ps k x):=by
 have hz:∀ j,j ∉ els 0:=fun j hj=>by rw [k9] at hj;cases hj
 have hset:∀ (qs:List PS) (ar:Nat),qs.length=ps.length->(∀ (i:Nat) (p:PS) (y:MS),i<k->qs[i]?=some p->X[i]?=some y->p.owner=y.owner/\p.kind=y.kind)->(∀ (i:Nat) (p:PS),qs[i]?=some p->∀ j∈els p.parts,i<j/\j<k+1)->Ord X (k+1) (qs.set k (EC x ar)):=fun qs ar hql h1 h2=>by
  refine ⟨fun i p y hi hp hy => ?_,fun i p hp j hj => ?_⟩
  ·by_cases e:k=i
   ·subst e;rw [Nw zaa] at hp;rw [hx] at hy;cases hp;cases hy
    exact ⟨rfl,rfl⟩
   ·rw [NG e] at hp;exact h1 i p y zaa hp hy
  ·by_cases e:k=i
   ·subst e;rw [Nw zaa] at hp;cases hp
    exact absurd hj (hz j)
   ·rw [NG e] at hp;exact h2 i p hp j hj
 have hpp:∀ (i:Nat) (p:PS),ps[i]?=some p->∀ j∈els p.parts,i<j/\j<k+1:=fun i p hp j hj=>by have:=h.part i p hp j hj;omega
 unfold mC;split
 ·exact hset ps 0 rfl (fun i p y hi hp hy=>h.own i p y hi hp hy) hpp
 ·rename_i hn;obtain ⟨o,ho,hoi⟩:∃ o:Nat,x.owner=o/\o<k:=by
   exact zeG
  have hto:x.owner.toNat=o:=by rw [ho];rfl
  rw [hto];split
  ·rename_i hq;rw [MU zaa] at hq;cases hq
  ·rename_i q hq;split
   ·exact hset ps _ rfl (fun i p y hi hp hy=>h.own i p y hi hp hy) hpp
   ·refine hset _ _ zad (fun i p y hi hp hy => ?_) (fun i p hp j hj => ?_)
    ·by_cases e:o=i
     ·subst e;rw [Nw zaa] at hp;cases hp
      exact h.own o q y hi hq hy
     ·rw [NG e] at hp;exact h.own i p y hi hp hy
    ·by_cases e:o=i
     ·subst e;rw [Nw zaa] at hp;cases hp
      rcases Lc hj with h1 | h1
      ·have:=h.part o q hq j h1;omega
      ·omega
     ·rw [NG e] at hp;exact hpp i p hp j hj
theorem oR (h:Ord X k ps):Ord X k (bK ps i):=by
 have hset:∀ (qs:List PS),Ord X k qs->∀ (j:Nat) (p p':PS),qs[j]?=some p->p'.owner=p.owner->p'.kind=p.kind->p'.parts=p.parts->Ord X k (qs.set j p'):=fun qs hq j p p' hp e1 e2 e3=>by
  have hjl:=(MZ.1 hp).1;refine ⟨fun a q y ha hqa hy => ?_,fun a q hqa b hb => ?_⟩
  ·by_cases e:j=a
   ·subst e;rw [Nw hjl] at hqa;cases hqa
    rw [e1,e2];exact hq.own j p y ha hp hy
   ·rw [NG e] at hqa;exact hq.own a q y ha hqa hy
  ·by_cases e:j=a
   ·subst e;rw [Nw hjl] at hqa;cases hqa
    rw [e3] at hb;exact hq.part j p hp b hb
   ·rw [NG e] at hqa;exact hq.part a q hqa b hb
 unfold bK;split
 ·exact h
 ·rename_i p hp;have h1:=hset ps h i p { p with wth:=kG ps i p } hp rfl rfl rfl;split
  ·exact h1
  ·split
   ·exact h1
   ·rename_i q hq;by_cases e:i=p.owner.toNat
    ·rw [<- e] at hq ⊢;rw [hp] at hq;cases hq
     rw [Ql];exact hset ps h i p _ hp rfl rfl rfl
    ·exact hset _ h1 _ q _ (by rw [NG e];exact hq) rfl rfl rfl
