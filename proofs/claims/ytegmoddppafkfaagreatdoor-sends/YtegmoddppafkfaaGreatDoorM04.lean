import Derived.Test.YtegmoddppafkfaaGreatDoorM00
import Derived.Test.YtegmoddppafkfaaGreatDoorM02
import Derived.Deep.CutRange
import Derived.Deep.AppendLies
set_option maxRecDepth 100000
set_option maxHeartbeats 8000000
namespace Go.Proofs.YtegmoddppafkfaaGreatDoor
section
open Go.RowKit Go.Proofs Go.Shelf
theorem uN (k:Int) (w:World):Calls Tryz.prog 156 #[.int .i64 k] w fun e w'=>e = .returned (.bool (decide (k=3)||decide (k=4)))∧w'=w:=by
 by_cases h3:k=3
 ·subst h3
  go_enter Tryz.func156,Tryz.ntmps156
  go_wp2
  go_ret
  exact ⟨rfl,rfl⟩
 ·by_cases h4:k=4
  ·subst h4
   go_enter Tryz.func156,Tryz.ntmps156
   go_wp2
   go_ret
   exact ⟨rfl,rfl⟩
  ·go_enter Tryz.func156,Tryz.ntmps156
   go_wp2
   go_ret
   exact ⟨by simp [h3,h4],rfl⟩
theorem Mo.cells {P:Nat→Prop} {a b:World} (h:Mo P a b) (g:Nat):∀ (o:Nat) (vs:List Value),P g→Mo P a (b.setCells g o vs):=by
 intro o vs
 induction vs generalizing o b with
 | nil=>intro _;exact h
 | cons v vs ih=>intro hp;exact ih (h.set ⟨g,o,none⟩ v hp) (o+1) hp
namespace Pg
structure MS where
 kind:Int
 name:ByteArray
 depth:Int
 owner:Int
 vp:Ref.Sl
 ve:Ref.Sl
 vl:Ref.Sl
 vm:Ref.Sl
def MS.arr (x:MS):Array Value:=#[.int .i64 x.kind,.string x.name,.int .i64 x.depth,.int .i64 x.owner,.slice x.vp.a x.vp.n x.vp.c,.slice x.ve.a x.ve.n x.ve.c,.slice x.vl.a x.vl.n x.vl.c,.slice x.vm.a x.vm.n x.vm.c]
def yE:ByteArray:=⟨#[100,111,110,101,46]⟩
def B1 (x:MS) (ar:Nat):PS:={ kind:=x.kind,name:=x.name,done:=yE++x.name,owner:=x.owner,parts:=0,inside:=0,around:=ar,wth:=0,enter:=x.ve,leave:=x.vl }
def isH (k:Int):Bool:=decide (k=3)||decide (k=4)
def nI (ps:List PS) (i:Nat) (x:MS):List PS:=if x.owner == -1 then ps.set i (B1 x 0) else
 match ps[x.owner.toNat]? with
 | none=>ps
 | some q=>(if isH x.kind then ps else ps.set x.owner.toNat { q with parts:=q.parts|||2 ^ i }).set i (B1 x (q.around|||2 ^ x.owner.toNat))
def ou (fin i:Nat) (x:MS):Nat:=if x.kind == 2 then fin|||2 ^ i else fin
def di (W:World) (pb b n cap:Nat) (hv:Value) (fin:Nat) (mv:Value):Prop:=W.heap[pb]?=some (.cells #[.slice (some ⟨b,0,none⟩) n cap,hv,.int .u32 fin,mv] 258 (0,0))
theorem bl.setRow {W:World} {pb b cap i:Nat} {ps:List PS} (h:bl W pb b cap ps) (hi:i<ps.length) (p':PS):bl (W.setCells b (i*10) p'.cells) pb b cap (ps.set i p') where
 row:=by
  rw [World.cell?_setCells_out b _ _ _ _ (fun e=>absurd e h.ne),List.length_set];exact h.row
 at':=fun i' q hq k' v' hv=>by
  rw [World.frozen?_setCells]
  have hl:∀ r:PS,r.cells.length=10:=fun r=>rfl
  have hk':k'<10:=by have:=(List.getElem?_eq_some_iff.1 hv).1;rwa [hl] at this
  obtain ⟨p,hp⟩:∃ p,ps[i]?=some p:=⟨_,List.getElem?_eq_getElem hi⟩
  have hat:∀ j,j<p'.cells.length→∃ v,W.cell? ⟨b,i*10+j,none⟩=some v∧W.frozen? ⟨b,i*10+j,none⟩=false:=fun j hj=>⟨_,h.at' i p hp j _ (List.getElem?_eq_getElem (by rw [hl] at hj ⊢;exact hj))⟩
  by_cases e:i'=i
  ·subst e
   rw [List.getElem?_set_self hi] at hq
   cases hq
   have hkl:k'<p'.cells.length:=by rw [hl];exact hk'
   have:=World.cell?_setCells_in b p'.cells (i'*10) W (fun j hj=>by obtain ⟨v,hv,_⟩:=hat j hj;rw [hv];rfl) k' hkl
   obtain ⟨_,_,hfz⟩:=hat k' hkl
   refine ⟨?_,hfz⟩
   rw [this,← hv,List.getElem?_eq_getElem hkl]
  ·rw [List.getElem?_set_ne (fun x=>e x.symm)] at hq
   have:=h.at' i' q hq k' v' hv
   refine ⟨(World.cell?_setCells_out b _ _ _ _ (fun _ _ => ?_)).trans this.1,this.2⟩
   rw [hl];show i'*10+k'<i*10∨_≤i'*10+k';omega
 len:=by rw [List.length_set];exact h.len
 ne:=h.ne
theorem bl.Gp {W:World} {pb b cap:Nat} {ps:List PS} (h:bl W pb b cap ps) (k:Nat) (v:Value) (hk:k≠0):bl (W.setCell ⟨pb,k,none⟩ v) pb b cap ps where
 row:=(ax (by intro x;injection x with x1 x2;omega)).trans h.row
 at':=fun i p hi j u hu=>by
  have:=h.at' i p hi j u hu
  rw [World.frozen?_setCell]
  exact ⟨(ax (by intro x;injection x with x1 x2;exact h.ne x1)).trans this.1,this.2⟩
 len:=h.len
 ne:=h.ne
theorem A9 (ps:List PS) (i:Nat) (x:MS):(nI ps i x).length=ps.length:=by
 unfold nI
 split
 ·simp
 ·split
  ·rfl
  ·split <;> simp
end Pg
theorem Tryz.eN:(Tryz.prog.info? 253).map (·.size)=some 10:=by kernel_rfl
theorem sf (w:World) (pb b cap:Nat) (ps:List Pg.PS) (i:Nat) (x:Pg.MS) (hv mv:Value) (fin:Nat) (hB:Pg.di w pb b ps.length cap hv fin mv) (hP:Pg.bl w pb b cap ps) (hfl:fin<4294967296) (hil:i<ps.length) (hnm:x.name.size≤1000000) (how:x.owner = -1) (hb:b<w.heap.size) :
  Calls Tryz.prog 115 #[.pointer (some ⟨pb,0,none⟩),.int .i64 i,.agg x.arr] w fun e w'=>e = .returned (.tuple #[])∧Pg.di w' pb b ps.length cap hv (Pg.ou fin i x) mv∧Pg.bl w' pb b cap (Pg.nI ps i x)∧Mo (fun k=>k=b∨k=pb) w w':=by
 have hpb:pb<w.heap.size:=(Array.getElem?_eq_some_iff.1 hB).1
 have hlen:=hP.len
 have hne:=hP.ne
 have hi32:i<32:=by omega
 obtain ⟨t,ht⟩:∃ t,2 ^ i=t:=⟨_,rfl⟩
 have htl:t<4294967296:=by rw [← ht];exact wb hi32
 have hone:∀ V:World,Calls Tryz.prog 151 #[.int .i64 i] V fun e w'=>e = .returned (.int .u32 t)∧w'=V:=fun V=>by rw [← ht];exact ji i V hi32
 obtain ⟨kind,name,depth,owner,vp,ve,vl,vm⟩:=x
 obtain ⟨fn,hfn⟩:∃ fn,Pg.ou fin i ⟨kind,name,depth,owner,vp,ve,vl,vm⟩=fn:=⟨_,rfl⟩
 obtain ⟨pz,hpz⟩:∃ pz,Pg.nI ps i ⟨kind,name,depth,owner,vp,ve,vl,vm⟩=pz:=⟨_,rfl⟩
 obtain ⟨mk,hmk⟩:∃ mk,Pg.B1 ⟨kind,name,depth,owner,vp,ve,vl,vm⟩=mk:=⟨_,rfl⟩
 have HF:Hid (fn=if kind == 2 then fin|||t else fin):=by rw [← hfn,← ht];rfl
 have HZ:Hid (Pg.nI ps i ⟨kind,name,depth,owner,vp,ve,vl,vm⟩=pz):=hpz
 rw [hfn,hpz]
 clear hfn hpz
 dsimp only at how hnm
 have HOW:Hid (owner = -1):=how
 have hB1:=((Below.refl w.heap.size w).alloc (Nat.le_refl _) (.cells #[.int .i64 kind,.string name,.int .i64 depth,.int .i64 owner,.slice vp.a vp.n vp.c,.slice ve.a ve.n ve.c,.slice vl.a vl.n vl.c,.slice vm.a vm.n vm.c] 242)).alloc (by simp) (.cells #[.int .i64 kind,.string name,.string (⟨#[100,111,110,101,46]⟩++name),.int .i64 owner,.int .u32 0,.int .u32 0,.int .u32 0,.int .u32 0,.slice ve.a ve.n ve.c,.slice vl.a vl.n vl.c] 253)
 have s5:=gn w (.cells #[.int .i64 kind,.string name,.int .i64 depth,.int .i64 owner,.slice vp.a vp.n vp.c,.slice ve.a ve.n ve.c,.slice vl.a vl.n vl.c,.slice vm.a vm.n vm.c] 242) (.cells #[.int .i64 kind,.string name,.string (⟨#[100,111,110,101,46]⟩++name),.int .i64 owner,.int .u32 0,.int .u32 0,.int .u32 0,.int .u32 0,.slice ve.a ve.n ve.c,.slice vl.a vl.n vl.c] 253)
 have s6:=b8 w (.cells #[.int .i64 kind,.string name,.int .i64 depth,.int .i64 owner,.slice vp.a vp.n vp.c,.slice ve.a ve.n ve.c,.slice vl.a vl.n vl.c,.slice vm.a vm.n vm.c] 242) (.cells #[.int .i64 kind,.string name,.string (⟨#[100,111,110,101,46]⟩++name),.int .i64 owner,.int .u32 0,.int .u32 0,.int .u32 0,.int .u32 0,.slice ve.a ve.n ve.c,.slice vl.a vl.n vl.c] 253)
 unfold Pg.MS.arr
 dsimp only
 clear how
 go_enter Tryz.func115,Tryz.ntmps115
 go_upto_if 24 with (first
  | (refine aG rfl 253 (.tmp 6) (.tmp 21) rfl 253 _ _ rfl rfl Tryz.eN rfl rfl ?_)
  | fail)
 obtain ⟨V0,hV⟩:∃ V,(w.alloc (.cells #[.int .i64 kind,.string name,.int .i64 depth,.int .i64 owner,.slice vp.a vp.n vp.c,.slice ve.a ve.n ve.c,.slice vl.a vl.n vl.c,.slice vm.a vm.n vm.c] 242)).alloc (.cells #[.int .i64 kind,.string name,.string (⟨#[100,111,110,101,46]⟩++name),.int .i64 owner,.int .u32 0,.int .u32 0,.int .u32 0,.int .u32 0,.slice ve.a ve.n ve.c,.slice vl.a vl.n vl.c] 253)=V:=⟨_,rfl⟩
 rw [hV] at hB1 s5 s6 ⊢
 clear hV
 have s6:V0.heap[w.heap.size+1]?=some (.cells (mk 0).cells.toArray 253 (0,0)):=by rw [← hmk];exact s6
 have hk5:V0.cell? ⟨w.heap.size,0,none⟩=some (.int .i64 kind):=by rw [cell_of_row V0 _ _ _ _ _ s5];rfl
 have hP0:=hP.below hB1 hpb hb
 have hPB0:Pg.di V0 pb b ps.length cap hv fin mv:=(hB1.block pb hpb).trans hB
 go_cut [] from 8 (fun V=>(∃ (ps1:List Pg.PS) (ar:Nat),Hid (pz=ps1.set i (mk ar))∧Pg.bl V pb b cap ps1∧ps1.length=ps.length∧V.heap[w.heap.size+1]?=some (.cells (mk ar).cells.toArray 253 (0,0)))∧Pg.di V pb b ps.length cap hv fin mv∧Mo (fun k=>k=b∨k=pb) w V∧V.cell? ⟨w.heap.size,0,none⟩=some (.int .i64 kind))
 case first =>
  have ho:=HOW.out
  ·have hon:(owner != -1)=false:=by rw [ho];rfl
   have HZ:Hid (pz=ps.set i (mk 0)):=by unfold Hid;rw [← HZ.out,← hmk,ho];rfl
   clear ho
   go_wp2_with fail
   go_meet
   case rel=>exact ⟨⟨ps,0,HZ,hP0,rfl,s6⟩,hPB0,aq hB1,hk5⟩
 case rest =>
  obtain ⟨⟨ps1,ar,HS,hPW,hl1,s6⟩,hPB,hM,hk5⟩:=hcut
  obtain ⟨pn,hpn⟩:∃ pn,mk ar=pn:=⟨_,rfl⟩
  rw [hpn] at HS s6
  clear hpn hmk hB1 s5 HOW HZ hB hP hP0 hPB0
  have hf2c:wc.cell? ⟨pb,2,none⟩=some (.int .u32 fin):=by rw [cell_of_row wc _ _ _ _ _ hPB];rfl
  have hf2f:wc.frozen? ⟨pb,2,none⟩=false:=by simp [World.frozen?,show wc.heap[pb]?=_ from hPB]
  go_upto_if 56 with fail
  go_cut [] from 8 (fun V=>Pg.bl V pb b cap ps1∧V.heap[w.heap.size+1]?=some (.cells pn.cells.toArray 253 (0,0))∧Pg.di V pb b ps.length cap hv fn mv∧Mo (fun k=>k=b∨k=pb) w V)
  case first =>
   obtain ⟨k2,hk2⟩:∃ k2,(kind == 2)=k2:=⟨_,rfl⟩
   cases k2
   ·have hPB:Pg.di wc pb b ps.length cap hv fn mv:=by have:=HF.out;rw [if_neg (by rw [hk2];decide)] at this;rw [this];exact hPB
    go_wp2_with fail
    go_meet
    case rel=>exact ⟨hPW,s6,hPB,hM⟩
   ·have HF:Hid (fn=fin|||t):=by have:=HF.out;rw [if_pos hk2] at this;exact this
    have o3:=u32_or_nat _ _ hfl htl
    have hPB:=heap_setCell_same wc pb 2 _ _ (.int .u32 ((fin|||t:Nat):Int)) hPB
    have hPB:Pg.di (wc.setCell ⟨pb,2,none⟩ (.int .u32 ((fin|||t:Nat):Int))).drew pb b ps.length cap hv fn mv:=by rw [HF.out];exact hPB
    have hPW:=hPW.Gp 2 (.int .u32 ((fin|||t:Nat):Int)) (by decide)
    have hPW:Pg.bl (wc.setCell ⟨pb,2,none⟩ (.int .u32 ((fin|||t:Nat):Int))).drew pb b cap ps1:=⟨hPW.row,hPW.at',hPW.len,hPW.ne⟩
    have hM:Mo (fun k=>k=b∨k=pb) w (wc.setCell ⟨pb,2,none⟩ (.int .u32 ((fin|||t:Nat):Int))).drew:=j6 (hM.set ⟨pb,2,none⟩ _ (.inr rfl))
    have s6:(wc.setCell ⟨pb,2,none⟩ (.int .u32 ((fin|||t:Nat):Int))).drew.heap[w.heap.size+1]?=_:=(Below.heap_setCell wc ⟨pb,2,none⟩ _ _ (by simp;omega)).trans s6
    go_wp2_with fail
    refine wp_region_held_drew (S:=(fun _=>True)) (by kernel_rfl) trivial (fun hHeld => ?_)
    refine tH 0 (.pointer (some ⟨pb,0,none⟩)) rfl hHeld ?_
    refine tH 1 (.pointer (some ⟨pb,0,none⟩)) rfl hHeld ?_
    refine tH 2 (.pointer (some ⟨pb,2,none⟩)) rfl hHeld ?_
    refine tH 4 (.int .i64 i) rfl hHeld ?_
    refine yH [3,5] ?_
    refine AllReadyH.cons rfl (fun K hK => ?rg9) (AllReadyH.cons rfl (fun K hK => ?rg10) AllReadyH.nil)
    case' rg9 =>
     go_simp
     refine hK.out _ _ hHeld (fun hHeld => ?_)
     clear hK K
     refine zH 5 rfl fun K hK => ?_
     go_simp
     refine (hone _).mono ?_
     rintro e w9 ⟨rfl,rfl⟩
     refine hK.out _ _ hHeld (fun hHeld => ?_)
     clear hK K
     refine tH 6 (.int .u32 ((fin|||t:Nat):Int)) rfl hHeld ?_
     refine tH 7 (.pointer (some ⟨pb,0,none⟩)) rfl hHeld ?_
     refine tH 8 (.pointer (some ⟨pb,2,none⟩)) rfl hHeld ?_
     refine zH 9 rfl fun K hK => ?_
     go_simp
     refine hK.out _ _ (by
      exact trivial) (fun hHeld => ?_)
     clear hK K hHeld
     refine wpAnyH_done (by kernel_rfl) ?_ _
    case' rg10 =>
     go_simp
     refine (hone _).mono ?_
     rintro e w9 ⟨rfl,rfl⟩
     refine hK.out _ _ hHeld (fun hHeld => ?_)
     clear hK K
     refine zH 3 rfl fun K hK => ?_
     go_simp
     refine hK.out _ _ hHeld (fun hHeld => ?_)
     clear hK K
     refine tH 6 (.int .u32 ((fin|||t:Nat):Int)) rfl hHeld ?_
     refine tH 7 (.pointer (some ⟨pb,0,none⟩)) rfl hHeld ?_
     refine tH 8 (.pointer (some ⟨pb,2,none⟩)) rfl hHeld ?_
     refine zH 9 rfl fun K hK => ?_
     go_simp
     refine hK.out _ _ (by
      exact trivial) (fun hHeld => ?_)
     clear hK K hHeld
     refine wpAnyH_done (by kernel_rfl) ?_ _
    all_goals
     go_wp2_with fail
     go_meet
     case rel=>exact ⟨hPW,s6,hPB,hM⟩
  case rest =>
   clear hPW s6 hPB hM hk5 hf2c hf2f HF
   obtain ⟨hPW,s6,hPB,hM⟩:=hcut
   have hr9:=hPW.row
   rw [hl1] at hr9
   have hil1:i<ps1.length:=by omega
   have hrg:wc.drew.rangeAt (w.heap.size+1) 0 pn.cells:=by
    have:=jm (w:=wc) s6
    simpa using this
   obtain ⟨p1,hp1⟩:∃ p,ps1[i]?=some p:=⟨_,List.getElem?_eq_getElem hil1⟩
   have hth:wc.drew.there b (i*10) pn.cells.toArray.size:=fun j hj=>by
    have hj:j<10:=by simpa [Pg.PS.cells] using hj
    have:=hPW.at' i p1 hp1 j _ (List.getElem?_eq_getElem (by simpa [Pg.PS.cells] using hj))
    exact ⟨by rw [show wc.drew.cell? ⟨b,i*10+j,none⟩=_ from this.1];rfl,this.2⟩
   have hsz9:(Tryz.prog.info? 253).map (·.size)=some pn.cells.toArray.size:=Tryz.eN
   have hone9:pn.cells.toArray.all (·.oneCell')=true:=by simp [Pg.PS.cells,Value.oneCell',Ref.Sl.v]
   have hlen9:pn.cells.length=10:=rfl
   have hrun:(storeCells ⟨b,i*10,none⟩ pn.cells).run Tryz.prog wc.drew = .ok () (wc.drew.setCells b (i*10) pn.cells) :=
    run_storeCells_cells (P:=Tryz.prog) b (i*10) pn.cells 0 wc.drew (fun j hj=>(hth j (by simpa using hj)).1) (fun j hj=>(hth j (by simpa using hj)).2) (fun v hv=>Array.all_eq_true_iff_forall_mem.1 hone9 v (by simpa using hv))
   have hP9:=(show Pg.bl wc.drew pb b cap ps1 from ⟨hPW.row,hPW.at',hPW.len,hPW.ne⟩).setRow hil1 pn
   rw [← HS.out] at hP9
   have hM9:Mo (fun k=>k=b∨k=pb) w (wc.drew.setCells b (i*10) pn.cells):=(j6 hM).cells b (i*10) pn.cells (.inl rfl)
   have hB9:Pg.di (wc.drew.setCells b (i*10) pn.cells) pb b ps.length cap hv fn mv:=((Mo.refl (· = b) wc.drew).cells b (i*10) pn.cells rfl |>.block pb (by show pb<wc.heap.size;have:=hM.size;omega) hne).trans hPB
   go_wp2_with fail
   refine wp_region_held_drew (S:=(fun V=>V.cell? ⟨pb,0,none⟩=some (.slice (some ⟨b,0,none⟩) ps.length cap)∧V.rangeAt (w.heap.size+1) 0 pn.cells)) (by kernel_rfl) ⟨hr9,hrg⟩ (fun hHeld => ?_)
   refine tH 0 (.pointer (some ⟨pb,0,none⟩)) rfl hHeld ?_
   refine tH 1 (.pointer (some ⟨pb,0,none⟩)) rfl hHeld ?_
   refine tH 2 (.pointer (some ⟨pb,0,none⟩)) rfl hHeld ?_
   refine tH 3 (.slice (some ⟨b,0,none⟩) ps.length cap) rfl hHeld ?_
   refine tH 4 (.int .i64 i) rfl hHeld ?_
   refine wpAnyH_take (i:=5) (v:=(.agg pn.cells.toArray)) rfl (by kernel_rfl) (by kernel_rfl) (by kernel_rfl) (fun _ _ _ h=>h) (yieldsIf_load_mid rfl 253 (.tmp 6) rfl (w.heap.size+1) 0 rfl pn.cells _ (fun w hSw=>hSw.2) Tryz.underlying253 rfl Tryz.eN) hHeld ?_
   refine tH 6 (.pointer (some ⟨b,i*10,none⟩)) rfl hHeld ?_
   refine zH 7 rfl fun K hK => ?_
   go_simp
   refine hK.out _ _ (by
    refine ⟨(World.cell?_setCells_out b pn.cells (i*10) wc.drew _ (fun e=>absurd e hne)).trans hHeld.1,World.rangeAt_setCells_apart hHeld.2 b (i*10) pn.cells (.inl (by omega))⟩) (fun hHeld => ?_)
   clear hK K hHeld
   refine wpAnyH_done (by kernel_rfl) ?_ _
   go_wp2
   go_end0
   exact ⟨rfl,hB9,hP9,hM9⟩
theorem vf (w:World) (c all:Nat) (kv:Value) (hc:w.cell? ⟨c,0,none⟩=some (.int .u32 all)) :
  Calls Tryz.prog 199 #[kv,.pointer (some ⟨c,0,none⟩)] w fun e w'=>e = .returned (.int .u32 all)∧w'=w:=by
 go_enter Tryz.func199,Tryz.ntmps199
 go_wp2
 go_ret
 exact ⟨rfl,rfl⟩
theorem mK (w:World) (kv:Value):Calls Tryz.prog 161 #[kv] w fun e w'=>e = .returned (.int .u32 0)∧w'=w:=by
 go_enter Tryz.func161,Tryz.ntmps161
 go_wp2
 go_ret
 exact ⟨rfl,rfl⟩
theorem Pg.Fw (ps:List Pg.PS) {s:Nat} (h:s<4294967296):Pg.inn ps s<4294967296:=Pg.sM ps _ _ h
namespace Pg
inductive En where
 | nil
 | all (a:Nat)
 | hist (path dest:Nat)
def pU (W:World) (pb b:Nat):En→Value→Prop
 | .nil,v=>v = .func (.func 161) #[] #[]
 | .all a,v=>∃ c,v = .func (.func 199) #[] #[.pointer (some ⟨c,0,none⟩)]∧Boxed W c 139 (.int .u32 a)
 | .hist p t,v=>∃ c3 c7 c6 c5,v = .func (.func 196) #[] #[.pointer (some ⟨c3,0,none⟩),.pointer (some ⟨c7,0,none⟩),.pointer (some ⟨c6,0,none⟩),.pointer (some ⟨c5,0,none⟩)]∧Boxed W c3 137 (.pointer (some ⟨pb,0,none⟩))∧Boxed W c7 139 (.int .u32 p)∧Boxed W c6 307 (.pointer (some ⟨b,t*10,none⟩))∧Boxed W c5 3 (.int .i64 t)
def G8 (ps:List PS) (i:Nat):Nat:=match ps[i]? with | some p=>p.owner.toNat | none=>0
def enters (ps:List PS) (kept:Nat→Nat):En→Nat
 | .nil=>0
 | .all a=>a
 | .hist p t=>complete ps (p|||FK ps (G8 ps t) (kept t))
theorem pU.ay {W W':World} {pb b:Nat} {e:En} {v:Value} (h:pU W pb b e v) (hk:∀ (B:Nat) (t:TypeId) (u:Value),(t=139∨t=137∨t=307∨t=3)→Boxed W B t u→Boxed W' B t u):pU W' pb b e v:=by
 cases e with
 | nil=>exact h
 | all a=>obtain ⟨c,h1,h2⟩:=h;exact ⟨c,h1,hk _ _ _ (by simp) h2⟩
 | hist p t=>obtain ⟨c3,c7,c6,c5,h1,h2,h3,h4,h5⟩:=h;exact ⟨c3,c7,c6,c5,h1,hk _ _ _ (by simp) h2,hk _ _ _ (by simp) h3,hk _ _ _ (by simp) h4,hk _ _ _ (by simp) h5⟩
end Pg
theorem tI {P:Program} {w:World} {a:Addr} {u:Value} (hc:w.cell? a=some u) (hf:w.frozen? a=false) (f:Fn) (x y:Array Value):(store a (.func f x y)).run P w = .ok () (w.setCell a (.func f x y)):=by
 rw [run_store P w _ _ _ rfl];simp [hc,hf]
namespace Pg
def jd (ps:List PS) (own dest:Nat):En:=match ps[dest]? with
 | none => .nil
 | some p=>if isH p.kind then .hist (p.around&&&dom ps own dest) dest else .all (complete ps ((p.around&&&dom ps own dest)|||p.wth))
theorem DN {ps:List PS} (h:Sms ps) (i:Nat):mO ps i<4294967296:=by
 unfold mO
 split
 ·rename_i p hp;exact (h i p hp).hi
 ·decide
theorem Fj {ps:List PS} (h:Sms ps) (hl:ps.length≤24) (i j:Nat):dom ps i j<4294967296:=by
 unfold dom
 split
 ·exact DN h _
 ·have:2 ^ ps.length≤2 ^ 24:=Nat.pow_le_pow_right (by decide) hl
  omega
theorem pV.mo {W W':World} {P:Nat→Prop} {b i:Nat} {p:PS} (h:pV W b i p) (hm:Mo P W W') (hb:b<W.heap.size) (hn:¬ P b):pV W' b i p where
 c0:=(hm.cell (p:=⟨b,_,none⟩) hb hn).trans h.c0
 c1:=(hm.cell (p:=⟨b,_,none⟩) hb hn).trans h.c1
 c2:=(hm.cell (p:=⟨b,_,none⟩) hb hn).trans h.c2
 c3:=(hm.cell (p:=⟨b,_,none⟩) hb hn).trans h.c3
 c4:=(hm.cell (p:=⟨b,_,none⟩) hb hn).trans h.c4
 c5:=(hm.cell (p:=⟨b,_,none⟩) hb hn).trans h.c5
 c6:=(hm.cell (p:=⟨b,_,none⟩) hb hn).trans h.c6
 c7:=(hm.cell (p:=⟨b,_,none⟩) hb hn).trans h.c7
 c8:=(hm.cell (p:=⟨b,_,none⟩) hb hn).trans h.c8
 c9:=(hm.cell (p:=⟨b,_,none⟩) hb hn).trans h.c9
theorem dh.mo {W W':World} {P:Nat→Prop} {pb b cap:Nat} {ps:List PS} (h:dh W pb b cap ps) (hm:Mo P W W') (h1:pb<W.heap.size) (h2:b<W.heap.size) (n1:¬ P pb) (n2:¬ P b):dh W' pb b cap ps where
 row:=(hm.cell (p:=⟨pb,0,none⟩) h1 n1).trans h.row
 at':=fun i p hi=>(h.at' i p hi).mo hm h2 n2
 sm:=h.sm
 len:=h.len
end Pg
theorem BT (w:World) (pb b cap:Nat) (ps:List Pg.PS) (own dest mvb:Nat) (p pd:Pg.PS) (lv:Nat) (av fv:Value) (hpo:ps[own]?=some p) (hpd:ps[dest]?=some pd) (hnh:Pg.isH pd.kind=false) (hin:∀ i,i∈Pg.els (p.around&&&pd.around)→i<ps.length) (hin2:∀ i,i∈Pg.els ((pd.around&&&Pg.dom ps own dest)|||pd.wth)→i<ps.length) (hpts:∀ (i:Nat) (p:Pg.PS),ps[i]?=some p→∀ j∈Pg.els p.parts,j<ps.length)
  (hP:Pg.dh w pb b cap ps) (hpb:pb<w.heap.size) (hb:b<w.heap.size) (n1:pb≠mvb) (n2:b≠mvb) (hg:1<w.heap.size) (hgm:1≠mvb) (hT:TabAt 1 Lib.deBruijn32tab w)
  (hmv:w.heap[mvb]?=some (.cells #[.int .i64 own,.int .u32 lv,av,fv] 319 (0,0))) :
  Calls Tryz.prog 162 #[.pointer (some ⟨pb,0,none⟩),.pointer (some ⟨mvb,0,none⟩),.int .i64 dest] w fun e w'=>e = .returned (.tuple #[])∧Mo (· = mvb) w w'∧∃ fv',w'.heap[mvb]?=some (.cells #[.int .i64 own,.int .u32 (Pg.dom ps own dest),av,fv'] 319 (0,0))∧Pg.pU w' pb b (Pg.jd ps own dest) fv':=by
 have hmvl0:mvb<w.heap.size:=(Array.getElem?_eq_some_iff.1 hmv).1
 have hdl:dest<ps.length:=(List.getElem?_eq_some_iff.1 hpd).1
 have hlen:=hP.len
 have hdml:=Pg.Fj hP.sm hlen own dest
 have hdom:∀ V,Below w.heap.size w V→Calls Tryz.prog 195 #[.pointer (some ⟨pb,0,none⟩),.int .i64 own,.int .i64 dest] V fun e w'=>e = .returned (.int .u32 (Pg.dom ps own dest))∧Below V.heap.size V w':=fun V hV=>by
  have:=hV.size
  exact callsIn_wide.1 (zy 3 (by omega) V pb b cap ps own dest p pd hpo hpd hin (hP.below hV hpb hb) (by omega) (by omega))
 have hcom:∀ V,Mo (· = mvb) w V→Calls Tryz.prog 197 #[.pointer (some ⟨pb,0,none⟩),.int .u32 (((pd.around&&&Pg.dom ps own dest)|||pd.wth:Nat):Int)] V fun e w'=>e = .returned (.int .u32 (Pg.complete ps ((pd.around&&&Pg.dom ps own dest)|||pd.wth)))∧Below V.heap.size V w':=fun V hV=>by
  have:=hV.size
  exact sA V pb b cap ps _ (Pg.Ck (Pg.sh (hP.sm dest pd hpd).ha) (hP.sm dest pd hpd).hw) hin2 hpts (hP.mo hV hpb hb n1 n2) (by omega) (by omega) (by omega) (hV.kpT hg hgm hT)
 have hle:Pg.jd ps own dest=if Pg.isH pd.kind then .hist (pd.around&&&Pg.dom ps own dest) dest else .all (Pg.complete ps ((pd.around&&&Pg.dom ps own dest)|||pd.wth)):=by unfold Pg.jd;rw [hpd]
 obtain ⟨en,hen⟩:∃ en,Pg.jd ps own dest=en:=⟨_,rfl⟩
 rw [hen] at hle ⊢
 obtain ⟨dm,hdm⟩:∃ dm,Pg.dom ps own dest=dm:=⟨_,rfl⟩
 rw [hdm] at hdml hdom hcom hle ⊢
 have HLE:Hid _:=hle
 have hhist:=uN pd.kind
 have a1:=u32_and_nat _ _ (hP.sm dest pd hpd).ha hdml
 have a2:=u32_or_nat _ _ (Pg.sh (b:=dm) (hP.sm dest pd hpd).ha) (hP.sm dest pd hpd).hw
 clear hle hen hdm hin hin2
 go_enter Tryz.func162,Tryz.ntmps162
 go_wp2_with fail
 have c3:=(Boxed.new w 137 (.pointer (some ⟨pb,0,none⟩))).alloc (.cells #[.int .i64 dest] 3)
 have c5:=Boxed.new (w.alloc (.cells #[.pointer (some ⟨pb,0,none⟩)] 137)) 3 (.int .i64 dest)
 simp only [World.size_alloc] at c5
 have hB1:=((Below.refl w.heap.size w).alloc (Nat.le_refl _) (.cells #[.pointer (some ⟨pb,0,none⟩)] 137)).alloc (by simp) (.cells #[.int .i64 dest] 3)
 obtain ⟨W1,hW1⟩:∃ W,(w.alloc (.cells #[.pointer (some ⟨pb,0,none⟩)] 137)).alloc (.cells #[.int .i64 dest] 3)=W:=⟨_,rfl⟩
 rw [hW1] at c3 c5 hB1 ⊢
 clear hW1
 have hmv1:=(hB1.block mvb hmvl0).trans hmv
 have hmvl:mvb<W1.heap.size:=(Array.getElem?_eq_some_iff.1 hmv1).1
 have hm0:W1.cell? ⟨mvb,0,none⟩=some (.int .i64 own):=by rw [cell_of_row W1 _ _ _ _ _ hmv1];rfl
 have hm1:W1.drew.cell? ⟨mvb,1,none⟩=some (.int .u32 lv):=by show W1.cell? _=_;rw [cell_of_row W1 _ _ _ _ _ hmv1];rfl
 have hf1:W1.drew.frozen? ⟨mvb,1,none⟩=false:=by show W1.frozen? _=_;simp [World.frozen?,hmv1]
 have hdom:∀ V,Below W1.heap.size W1 V→_:=fun V hV=>hdom V (hB1.trans (hV.mono hB1.size))
 refine wp_region_held_drew (S:=(fun V=>V.cell? ⟨w.heap.size,0,none⟩=some (.pointer (some ⟨pb,0,none⟩))∧V.cell? ⟨w.heap.size+1,0,none⟩=some (.int .i64 dest)∧V.cell? ⟨mvb,0,none⟩=some (.int .i64 own))) (by kernel_rfl) ⟨c3.cell,c5.cell,hm0⟩ (fun hHeld => ?_)
 refine tH 0 (.pointer (some ⟨mvb,0,none⟩)) rfl hHeld ?_
 refine tH 1 (.pointer (some ⟨pb,0,none⟩)) rfl hHeld ?_
 refine tH 2 (.pointer (some ⟨mvb,0,none⟩)) rfl hHeld ?_
 refine tH 3 (.pointer (some ⟨mvb,0,none⟩)) rfl hHeld ?_
 refine tH 4 (.pointer (some ⟨mvb,0,none⟩)) rfl hHeld ?_
 refine tH 5 (.int .i64 own) rfl hHeld ?_
 refine tH 6 (.int .i64 dest) rfl hHeld ?_
 refine zH 7 rfl fun K hK => ?_
 go_simp
 refine (hdom _ (Below.refl _ W1).drew).mono ?_
 rintro e w9 ⟨rfl,hB9⟩
 refine hK.out _ _ ⟨((hB9).cell (p:=⟨w.heap.size,0,none⟩) c3.lt).trans hHeld.1,((hB9).cell (p:=⟨w.heap.size+1,0,none⟩) c5.lt).trans hHeld.2.1,((hB9).cell (p:=⟨mvb,0,none⟩) hmvl).trans hHeld.2.2⟩ (fun hHeld => ?_)
 clear hK K
 have hm1:w9.cell? ⟨mvb,1,none⟩=_:=(hB9.cell (p:=⟨mvb,1,none⟩) hmvl).trans hm1
 have hf1:w9.frozen? ⟨mvb,1,none⟩=_:=(hB9.frozen (p:=⟨mvb,1,none⟩) hmvl).trans hf1
 refine tH 8 (.pointer (some ⟨mvb,0,none⟩)) rfl hHeld ?_
 refine tH 9 (.pointer (some ⟨mvb,1,none⟩)) rfl hHeld ?_
 refine zH 10 rfl fun K hK => ?_
 go_simp
 refine hK.out _ _ (by
  have e:∀ (a:Addr),a≠⟨mvb,1,none⟩→∀ v,(w9.setCell ⟨mvb,1,none⟩ v).cell? a=w9.cell? a:=fun a ha v=>ax (fun h=>ha h.symm)
  (try dsimp only at hHeld);(try dsimp only)
  rw [e _ (by intro h;injection h with h1 h2;omega),e _ (by intro h;injection h with h1 h2;omega),e _ (by intro h;injection h with h1 h2;omega)]
  exact hHeld) (fun hHeld => ?_)
 clear hK K hHeld
 refine wpAnyH_done (by kernel_rfl) ?_ _
 have hB9:Below W1.heap.size W1 w9:=(Below.refl _ W1).drew.trans hB9
 have hBw9:Below w.heap.size w w9:=hB1.trans (hB9.mono hB1.size)
 have hM2:Mo (· = mvb) w (w9.setCell ⟨mvb,1,none⟩ (.int .u32 dm)):=(aq hBw9).set ⟨mvb,1,none⟩ _ rfl
 have hmv2:=heap_setCell_same w9 mvb 1 _ _ (.int .u32 dm) ((hB9.block mvb hmvl).trans hmv1)
 have hmv2:(w9.setCell ⟨mvb,1,none⟩ (.int .u32 dm)).heap[mvb]?=some (.cells #[.int .i64 own,.int .u32 dm,av,fv] 319 (0,0)):=hmv2
 have c3:=bm (au c3 hB9 c3.lt) (p:=⟨mvb,1,none⟩) (by simp;omega) (.int .u32 dm)
 have c5:=bm (au c5 hB9 c5.lt) (p:=⟨mvb,1,none⟩) (by simp;omega) (.int .u32 dm)
 obtain ⟨W2,hW2⟩:∃ W,w9.setCell ⟨mvb,1,none⟩ (.int .u32 dm)=W:=⟨_,rfl⟩
 rw [hW2] at hM2 hmv2 c3 c5 ⊢
 clear hW2 hHeld hm0 hm1 hf1 hBw9 hB9 hB1 hmv1 hdom hmvl
 have hP2:=hP.mo hM2 hpb hb n1 n2
 have hs2:=hM2.size
 go_wp2_with fail
 have hkS:∀ v:Value,(fun V=>V.cell? ⟨w.heap.size,0,none⟩=some (.pointer (some ⟨pb,0,none⟩))∧V.cell? ⟨pb,0,none⟩=some (.slice (some ⟨b,0,none⟩) ps.length cap)∧V.cell? ⟨w.heap.size+1,0,none⟩=some (.int .i64 dest)) ((W2.alloc (.cells #[v] 307)).drew):=fun v=>by
  have hBa:Below W2.heap.size W2 (W2.alloc (.cells #[v] 307)).drew:=((Below.refl _ W2).alloc (Nat.le_refl _) _).drew
  exact ⟨(hBa.cell (p:=⟨w.heap.size,0,none⟩) c3.lt).trans c3.cell,(hBa.cell (p:=⟨pb,0,none⟩) (show pb<W2.heap.size by omega)).trans hP2.row,(hBa.cell (p:=⟨w.heap.size+1,0,none⟩) c5.lt).trans c5.cell⟩
 refine wp_region_held_drew (S:=(fun V=>V.cell? ⟨w.heap.size,0,none⟩=some (.pointer (some ⟨pb,0,none⟩))∧V.cell? ⟨pb,0,none⟩=some (.slice (some ⟨b,0,none⟩) ps.length cap)∧V.cell? ⟨w.heap.size+1,0,none⟩=some (.int .i64 dest))) (by kernel_rfl) ⟨c3.cell,hP2.row,c5.cell⟩ (fun hHeld => ?_)
 refine tH 0 (.pointer (some ⟨pb,0,none⟩)) rfl hHeld ?_
 refine tH 1 (.pointer (some ⟨pb,0,none⟩)) rfl hHeld ?_
 refine tH 2 (.pointer (some ⟨pb,0,none⟩)) rfl hHeld ?_
 refine tH 3 (.slice (some ⟨b,0,none⟩) ps.length cap) rfl hHeld ?_
 refine tH 4 (.int .i64 dest) rfl hHeld ?_
 refine tH 5 (.pointer (some ⟨b,dest*10,none⟩)) rfl hHeld ?_
 refine zH 6 rfl fun K hK => ?_
 go_simp
 refine hK.out _ _ (hkS _) (fun hHeld => ?_)
 clear hK K
 refine zH 7 rfl fun K hK => ?_
 go_simp
 refine hK.out _ _ (hkS _) (fun hHeld => ?_)
 clear hK K hHeld
 refine wpAnyH_done (by kernel_rfl) ?_ _
 have c6:Boxed (W2.alloc (.cells #[.pointer (some ⟨b,dest*10,none⟩)] 307)).drew W2.heap.size 307 (.pointer (some ⟨b,dest*10,none⟩)):=Boxed.new W2 307 (.pointer (some ⟨b,dest*10,none⟩))
 have hB3:Below W2.heap.size W2 (W2.alloc (.cells #[.pointer (some ⟨b,dest*10,none⟩)] 307)).drew:=((Below.refl _ W2).alloc (Nat.le_refl _) _).drew
 have c3:=au c3 hB3 c3.lt
 have c5:=au c5 hB3 c5.lt
 have hM3:Mo (· = mvb) w (W2.alloc (.cells #[.pointer (some ⟨b,dest*10,none⟩)] 307)).drew:=hM2.trans (aq hB3)
 have hmv3:=(hB3.block mvb (by omega)).trans hmv2
 obtain ⟨B6,hB6⟩:∃ B,W2.heap.size=B:=⟨_,rfl⟩
 obtain ⟨W3,hW3⟩:∃ W,(W2.alloc (.cells #[.pointer (some ⟨b,dest*10,none⟩)] 307)).drew=W:=⟨_,rfl⟩
 rw [hW3] at c3 c5 c6 hM3 hmv3 ⊢
 rw [hB6] at c6 ⊢
 have hB6w:w.heap.size≤B6:=by omega
 clear hW3 hB6 hB3 hkS hP2 hmv2 hM2 hs2
 have hP3:=hP.mo hM3 hpb hb n1 n2
 have hs3:=hM3.size
 have hm3:W3.cell? ⟨mvb,1,none⟩=some (.int .u32 dm):=by rw [cell_of_row W3 _ _ _ _ _ hmv3];rfl
 go_wp2_with fail
 have hkS:∀ v:Value,(fun V=>V.cell? ⟨B6,0,none⟩=some (.pointer (some ⟨b,dest*10,none⟩))∧V.cell? ⟨b,dest*10+6,none⟩=some (.int .u32 pd.around)∧V.cell? ⟨mvb,1,none⟩=some (.int .u32 dm)) ((W3.alloc (.cells #[v] 139)).drew):=fun v=>by
  have hBa:Below W3.heap.size W3 (W3.alloc (.cells #[v] 139)).drew:=((Below.refl _ W3).alloc (Nat.le_refl _) _).drew
  exact ⟨(hBa.cell (p:=⟨B6,0,none⟩) c6.lt).trans c6.cell,(hBa.cell (p:=⟨b,dest*10+6,none⟩) (show b<W3.heap.size by omega)).trans (hP3.at' dest pd hpd).c6,(hBa.cell (p:=⟨mvb,1,none⟩) (show mvb<W3.heap.size by omega)).trans hm3⟩
 refine wp_region_held_drew (S:=(fun V=>V.cell? ⟨B6,0,none⟩=some (.pointer (some ⟨b,dest*10,none⟩))∧V.cell? ⟨b,dest*10+6,none⟩=some (.int .u32 pd.around)∧V.cell? ⟨mvb,1,none⟩=some (.int .u32 dm))) (by kernel_rfl) ⟨c6.cell,(hP3.at' dest pd hpd).c6,hm3⟩ (fun hHeld => ?_)
 refine tH 0 (.pointer (some ⟨b,dest*10,none⟩)) rfl hHeld ?_
 refine tH 1 (.pointer (some ⟨b,dest*10,none⟩)) rfl hHeld ?_
 refine tH 2 (.pointer (some ⟨b,dest*10+6,none⟩)) rfl hHeld ?_
 refine tH 3 (.int .u32 pd.around) rfl hHeld ?_
 refine tH 4 (.pointer (some ⟨mvb,0,none⟩)) rfl hHeld ?_
 refine tH 5 (.pointer (some ⟨mvb,0,none⟩)) rfl hHeld ?_
 refine tH 6 (.pointer (some ⟨mvb,1,none⟩)) rfl hHeld ?_
 refine tH 7 (.int .u32 dm) rfl hHeld ?_
 refine tH 8 (.int .u32 ((pd.around&&&dm:Nat):Int)) rfl hHeld ?_
 refine zH 9 rfl fun K hK => ?_
 go_simp
 refine hK.out _ _ (hkS _) (fun hHeld => ?_)
 clear hK K
 refine zH 10 rfl fun K hK => ?_
 go_simp
 refine hK.out _ _ (hkS _) (fun hHeld => ?_)
 clear hK K hHeld
 refine wpAnyH_done (by kernel_rfl) ?_ _
 obtain ⟨pa,hpa⟩:∃ pa,pd.around&&&dm=pa:=⟨_,rfl⟩
 rw [hpa] at a1 a2 hcom HLE ⊢
 have hpal:pa<4294967296:=by rw [← hpa];exact Pg.sh (hP.sm dest pd hpd).ha
 clear hpa
 have c7:Boxed (W3.alloc (.cells #[.int .u32 pa] 139)).drew W3.heap.size 139 (.int .u32 pa):=Boxed.new W3 139 (.int .u32 pa)
 have hB4:Below W3.heap.size W3 (W3.alloc (.cells #[.int .u32 pa] 139)).drew:=((Below.refl _ W3).alloc (Nat.le_refl _) _).drew
 have c3:=au c3 hB4 c3.lt
 have c5:=au c5 hB4 c5.lt
 have c6:=au c6 hB4 c6.lt
 have hM4:Mo (· = mvb) w (W3.alloc (.cells #[.int .u32 pa] 139)).drew:=hM3.trans (aq hB4)
 have hmv4:=(hB4.block mvb (by omega)).trans hmv3
 obtain ⟨B7,hB7⟩:∃ B,W3.heap.size=B:=⟨_,rfl⟩
 obtain ⟨W4,hW4⟩:∃ W,(W3.alloc (.cells #[.int .u32 pa] 139)).drew=W:=⟨_,rfl⟩
 rw [hW4] at c3 c5 c6 c7 hM4 hmv4 ⊢
 rw [hB7] at c7 ⊢
 have hB7w:w.heap.size≤B7:=by omega
 clear hW4 hB7 hB4 hkS hP3 hmv3 hM3 hs3 hm3
 have hP4:=hP.mo hM4 hpb hb n1 n2
 have hs4:=hM4.size
 have d6:=c6.cell
 have d0:=(hP4.at' dest pd hpd).c0
 have e3:W4.cell? ⟨mvb,3,none⟩=some fv:=by rw [cell_of_row W4 _ _ _ _ _ hmv4];rfl
 have f3:W4.frozen? ⟨mvb,3,none⟩=false:=by simp [World.frozen?,hmv4]
 obtain ⟨hb0,hh⟩:∃ hb0,(decide (pd.kind=3)||decide (pd.kind=4))=hb0:=⟨_,rfl⟩
 have HLE:Hid (en=if hb0 then .hist pa dest else .all (Pg.complete ps (pa|||pd.wth))):=by have:=HLE.out;unfold Pg.isH at this;rw [hh] at this;exact this
 rw [hh] at hhist
 have hnh:hb0=false:=hh.symm.trans hnh
 clear hh
 cases hb0
 ·have HLE:Hid (en = .all (Pg.complete ps (pa|||pd.wth))):=HLE.out
  obtain ⟨z,hz⟩:∃ z,Pg.complete ps (pa|||pd.wth)=z:=⟨_,rfl⟩
  rw [hz] at HLE hcom
  clear hz
  have hcomA:∀ V,Below W4.heap.size W4 V→_:=fun V hV=>hcom V (hM4.trans (aq hV))
  have hBd:=(Below.refl W4.heap.size W4).drew
  have hBd1:∀ v:Value,Below W4.heap.size W4 (W4.alloc (.cells #[v] 139)).drew:=fun v=>((Below.refl _ W4).alloc (Nat.le_refl _) _).drew
  go_upto_region 6 with (go_at_call 156;refine (hhist _).mono ?_;rintro e w9 ⟨rfl,hw9⟩;rw [hw9];clear hw9 w9)
  go_cut [8] from 9 (fun s8 V=>∃ B8,s8 = .pointer (some ⟨B8,0,none⟩)∧Boxed V B8 139 (.int .u32 z)∧Below W4.heap.size W4 V)
  case first =>
   have hkB:∀ V:World,Below W4.heap.size W4 V→(fun V=>V.cell? ⟨w.heap.size,0,none⟩=some (.pointer (some ⟨pb,0,none⟩))∧V.cell? ⟨B7,0,none⟩=some (.int .u32 pa)∧V.cell? ⟨B6,0,none⟩=some (.pointer (some ⟨b,dest*10,none⟩))∧V.cell? ⟨b,dest*10+7,none⟩=some (.int .u32 pd.wth)) V:=fun V hBa=>⟨(hBa.cell (p:=⟨w.heap.size,0,none⟩) c3.lt).trans c3.cell,(hBa.cell (p:=⟨B7,0,none⟩) c7.lt).trans c7.cell,(hBa.cell (p:=⟨B6,0,none⟩) c6.lt).trans c6.cell,(hBa.cell (p:=⟨b,dest*10+7,none⟩) (show b<W4.heap.size by omega)).trans (hP4.at' dest pd hpd).c7⟩
   refine wp_region_held_drew (S:=(fun V=>V.cell? ⟨w.heap.size,0,none⟩=some (.pointer (some ⟨pb,0,none⟩))∧V.cell? ⟨B7,0,none⟩=some (.int .u32 pa)∧V.cell? ⟨B6,0,none⟩=some (.pointer (some ⟨b,dest*10,none⟩))∧V.cell? ⟨b,dest*10+7,none⟩=some (.int .u32 pd.wth))) (by kernel_rfl) ⟨c3.cell,c7.cell,c6.cell,(hP4.at' dest pd hpd).c7⟩ (fun hHeld => ?_)
   refine tH 0 (.pointer (some ⟨pb,0,none⟩)) rfl hHeld ?_
   refine tH 1 (.int .u32 pa) rfl hHeld ?_
   refine tH 2 (.pointer (some ⟨b,dest*10,none⟩)) rfl hHeld ?_
   refine tH 3 (.pointer (some ⟨b,dest*10,none⟩)) rfl hHeld ?_
   refine tH 4 (.pointer (some ⟨b,dest*10+7,none⟩)) rfl hHeld ?_
   refine tH 5 (.int .u32 pd.wth) rfl hHeld ?_
   refine tH 6 (.int .u32 ((pa|||pd.wth:Nat):Int)) rfl hHeld ?_
   refine yH [7,8] ?_
   refine AllReadyH.cons rfl (fun K hK => ?rg7) (AllReadyH.cons rfl (fun K hK => ?rg8) AllReadyH.nil)
   case' rg7 =>
    go_simp
    refine (hcomA _ (by first | exact hBd | exact hBd1 _)).mono ?_
    rintro e w9 ⟨rfl,hB9x⟩
    have hB9:Below W4.heap.size W4 w9:=(by first | exact hBd.trans hB9x | exact (hBd1 _).trans (hB9x.mono (by simp [World.drew])))
    refine hK.out _ _ (hkB w9 hB9) (fun hHeld => ?_)
    clear hK K
    refine zH 8 rfl fun K hK => ?_
    go_simp
    refine hK.out _ _ (hkB _ (by first | exact hBd1 _ | exact hB9.alloc hB9.size _)) (fun hHeld => ?_)
    clear hK K
    refine zH 9 rfl fun K hK => ?_
    go_simp
    refine hK.out _ _ (hkB _ (hB9.alloc hB9.size _)) (fun hHeld => ?_)
    clear hK K hHeld
    refine wpAnyH_done (by kernel_rfl) ?_ _
   case' rg8 =>
    go_simp
    refine hK.out _ _ (hkB _ (by first | exact hBd1 _ | exact hB9.alloc hB9.size _)) (fun hHeld => ?_)
    clear hK K
    refine zH 7 rfl fun K hK => ?_
    go_simp
    refine (hcomA _ (by first | exact hBd | exact hBd1 _)).mono ?_
    rintro e w9 ⟨rfl,hB9x⟩
    have hB9:Below W4.heap.size W4 w9:=(by first | exact hBd.trans hB9x | exact (hBd1 _).trans (hB9x.mono (by simp [World.drew])))
    refine hK.out _ _ (hkB w9 hB9) (fun hHeld => ?_)
    clear hK K
    refine zH 9 rfl fun K hK => ?_
    have hb8:=au (show Boxed (W4.alloc (.cells #[.int .u32 0] 139)).drew W4.heap.size 139 (.int .u32 0) from Boxed.new W4 _ _) hB9x (by show W4.heap.size<(W4.alloc _).heap.size;simp)
    have g8:=hb8.cell
    have g9:=hb8.frozen
    go_simp
    refine hK.out _ _ (hkB _ (hB9.setCell (p:=⟨W4.heap.size,0,none⟩) (Nat.le_refl _) _)) (fun hHeld => ?_)
    clear hK K hHeld
    refine wpAnyH_done (by kernel_rfl) ?_ _
   all_goals
    go_wp2_with fail
    go_meet
   case rel=>exact ⟨_,rfl,hb8.set _,hB9.setCell (p:=⟨W4.heap.size,0,none⟩) (Nat.le_refl _) _⟩
   case rel=>exact ⟨_,rfl,Boxed.new _ _ _,hB9.alloc hB9.size _⟩
  case rest =>
   obtain ⟨B8,rfl,c8,hB5⟩:=hcut
   have hmv5:=(hB5.block mvb (by omega)).trans hmv4
   have hM5:=hM4.trans (aq hB5)
   have e3:wc.cell? ⟨mvb,3,none⟩=some fv:=by rw [cell_of_row wc _ _ _ _ _ hmv5];rfl
   have f3:wc.frozen? ⟨mvb,3,none⟩=false:=by simp [World.frozen?,hmv5]
   have hst:=tI (P:=Tryz.prog) e3 f3
   have h8:B8≠mvb:=by
    intro h
    subst h
    rw [show wc.heap[B8]?=_ from c8] at hmv5
    simp at hmv5
   go_wp2_with fail
   go_end0
   refine ⟨rfl,hM5.set ⟨mvb,3,none⟩ _ rfl,_,heap_setCell_same wc mvb 3 _ _ _ hmv5,?_⟩
   rw [HLE.out]
   exact ⟨B8,rfl,bm c8 (p:=⟨mvb,3,none⟩) h8 _⟩
 ·exact absurd hnh (by decide)
structure Kd (E:TypeId→Prop) (W W':World):Prop where
 size:W.heap.size≤W'.heap.size
 ay:∀ (k:Nat) (c:Array Value) (t:TypeId) (f:Nat×Nat),W.heap[k]?=some (.cells c t f)→¬ E t→W'.heap[k]?=W.heap[k]?
theorem Kd.trans {E:TypeId→Prop} {A B C:World} (h:Kd E A B) (k:Kd E B C):Kd E A C:=⟨Nat.le_trans h.size k.size,fun i c t f hi hn=>by rw [k.ay i c t f ((h.ay i c t f hi hn).trans hi) hn,h.ay i c t f hi hn]⟩
theorem bC {E:TypeId→Prop} {A B:World} (h:Below A.heap.size A B):Kd E A B:=⟨h.size,fun k _ _ _ hk _=>h.block k (Array.getElem?_eq_some_iff.1 hk).1⟩
theorem gE {E:TypeId→Prop} {P:Nat→Prop} {A B:World} (h:Mo P A B) (hP:∀ (k:Nat) (c:Array Value) (t:TypeId) (f:Nat×Nat),P k→A.heap[k]?=some (.cells c t f)→E t):Kd E A B:=⟨h.size,fun k c t f hk hn=>h.block k (Array.getElem?_eq_some_iff.1 hk).1 (fun hp=>hn (hP k c t f hp hk))⟩
theorem Kd.mono {E F:TypeId→Prop} {A B:World} (h:Kd E A B) (hE:∀ t,E t→F t):Kd F A B:=⟨h.size,fun k c t f hk hn=>h.ay k c t f hk (fun he=>hn (hE t he))⟩
theorem Kd.boxed {E:TypeId→Prop} {A B:World} (h:Kd E A B) {k:Nat} {t:TypeId} {v:Value} (hb:Boxed A k t v) (hn:¬ E t):Boxed B k t v:=(h.ay k _ _ _ hb hn).trans hb
namespace Pg
structure HV where
 idx:Nat
 own:Nat
 ay:Value
def HV.cells (h:HV):List Value:=[.int .i64 h.idx,.int .i64 h.own,h.ay]
def mw (W:World) (pb:Nat) (deep:Bool) (po:PS) (v:Value):Prop :=
 ∃ c,W.heap[c]?=some (.cells po.cells.toArray 253 (0,0))∧if deep then ∃ d,v = .func (.func 158) #[] #[.pointer (some ⟨d,0,none⟩),.pointer (some ⟨c,0,none⟩)]∧Boxed W d 137 (.pointer (some ⟨pb,0,none⟩)) else v = .func (.func 157) #[] #[.pointer (some ⟨c,0,none⟩)]
theorem mw.kd {E:TypeId→Prop} {W W':World} {pb:Nat} {deep:Bool} {po:PS} {v:Value} (h:mw W pb deep po v) (hk:Kd E W W') (h1:¬ E 253) (h2:¬ E 137):mw W' pb deep po v:=by
 obtain ⟨c,hc,h⟩:=h
 refine ⟨c,(hk.ay _ _ _ _ hc h1).trans hc,?_⟩
 cases deep
 ·exact h
 ·obtain ⟨d,hd,hb⟩:=h;exact ⟨d,hd,hk.boxed hb h2⟩
end Pg
namespace Pg
def Dc (w w':World) (pb b cap:Nat) (ps:List PS) (i:Nat) (x:MS) (hv:Ref.Sl) (mv:Value) (fin:Nat) (H:List HV):Prop :=
 (isH x.kind=false∧Below w.heap.size w w')∨(isH x.kind=true∧∃ (o:Nat) (po:PS) (kv:Value) (hv':Ref.Sl),x.owner=o∧ps[o]?=some po∧mw w' pb (decide (x.kind=4)) po kv∧di w' pb b ps.length cap (.slice hv'.a hv'.n hv'.c) fin mv∧w'.ownsRow 0 313 3 (.slice hv'.a hv'.n hv'.c) (H.length+1) ((H++[HV.mk i o kv]).flatMap HV.cells)∧Mo (fun k=>k=pb∨hv.v.ownBlock=some k) w w'∧Kd (fun t=>t=258∨t=313) w w'∧∀ g,hv'.v.ownBlock=some g→hv.v.ownBlock=some g∨w.heap.size≤g)
end Pg
theorem ox (w:World) (pb b cap:Nat) (ps:List Pg.PS) (i:Nat) (x:Pg.MS) (hv:Ref.Sl) (mv:Value) (fin:Nat) (H:List Pg.HV) (hnh:Pg.isH x.kind=false) :
  Calls Tryz.prog 117 #[.pointer (some ⟨pb,0,none⟩),.int .i64 i,.agg x.arr] w fun e w'=>e = .returned (.tuple #[])∧Pg.Dc w w' pb b cap ps i x hv mv fin H:=by
 obtain ⟨kind,name,depth,owner,vp,ve,vl,vm⟩:=x
 dsimp only at hnh
 have hhist:=uN kind
 obtain ⟨hb0,hh⟩:∃ hb0,(decide (kind=3)||decide (kind=4))=hb0:=⟨_,rfl⟩
 have HI:Hid (Pg.isH kind=hb0):=hh
 rw [hh] at hhist
 rw [HI.out] at hnh
 unfold Pg.MS.arr
 dsimp only
 have hB1:=((Below.refl w.heap.size w).alloc (Nat.le_refl _) (.cells #[.pointer (some ⟨pb,0,none⟩)] 137)).alloc (by simp) (.cells #[.int .i64 kind,.string name,.int .i64 depth,.int .i64 owner,.slice vp.a vp.n vp.c,.slice ve.a ve.n ve.c,.slice vl.a vl.n vl.c,.slice vm.a vm.n vm.c] 242)
 have c3:Boxed ((w.alloc (.cells #[.pointer (some ⟨pb,0,none⟩)] 137)).alloc (.cells #[.int .i64 kind,.string name,.int .i64 depth,.int .i64 owner,.slice vp.a vp.n vp.c,.slice ve.a ve.n ve.c,.slice vl.a vl.n vl.c,.slice vm.a vm.n vm.c] 242)) w.heap.size 137 (.pointer (some ⟨pb,0,none⟩)):=(Boxed.new w _ _).alloc _
 have s5:=b8 w (.cells #[.pointer (some ⟨pb,0,none⟩)] 137) (.cells #[.int .i64 kind,.string name,.int .i64 depth,.int .i64 owner,.slice vp.a vp.n vp.c,.slice ve.a ve.n ve.c,.slice vl.a vl.n vl.c,.slice vm.a vm.n vm.c] 242)
 clear hh
 cases hb0
 ·go_enter Tryz.func117,Tryz.ntmps117
  go_wp2_with (go_at_call 156;refine (hhist _).mono ?_;rintro e w9 ⟨rfl,hw9⟩;rw [hw9];clear hw9 w9)
  refine bodyPost_ret (results_none rfl _ _ _) rfl ?_
  refine ⟨rfl,?_⟩
  unfold Pg.Dc
  exact .inl ⟨HI.out,hB1⟩
 ·exact absurd hnh (by decide)
end
end Go.Proofs.YtegmoddppafkfaaGreatDoor
