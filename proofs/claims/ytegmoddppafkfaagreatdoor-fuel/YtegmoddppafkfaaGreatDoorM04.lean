import Derived.Test.YtegmoddppafkfaaGreatDoorM00
import Derived.Test.YtegmoddppafkfaaGreatDoorM02
import Derived.Deep.CutRange
set_option maxRecDepth 100000
set_option maxHeartbeats 8000000
namespace Go.Proofs.YtegmoddppafkfaaGreatDoor
section
open Go.RowKit Go.Proofs Go.Shelf
theorem oE (k:Int) (w:World):Calls Tryz.prog 156 #[.int .i64 k] w fun e w'=>e = .returned (.bool (decide (k=3)||decide (k=4)))∧w'=w:=by
 by_cases h3:k=3
 ·subst h3
  go_enter Tryz.func156,Tryz.ntmps156
  go_wp2
  go_ret
  exact ⟨rfl,rfl⟩
 ·by_cases h4:k=4
  ·subst h4
   go_enter Tryz.func156,Tryz.ntmps156
   go_wp2
   go_ret
   exact ⟨rfl,rfl⟩
  ·go_enter Tryz.func156,Tryz.ntmps156
   go_wp2
   go_ret
   exact ⟨by simp [h3,h4],rfl⟩
theorem Mo.cells {P:Nat→Prop} {a b:World} (h:Mo P a b) (g:Nat):∀ (o:Nat) (vs:List Value),P g→Mo P a (b.setCells g o vs):=by
 intro o vs
 induction vs generalizing o b with
 | nil=>intro _;exact h
 | cons v vs ih=>intro hp;exact ih (h.set ⟨g,o,none⟩ v hp) (o+1) hp
namespace Pg
structure MS where
 kind:Int
 name:ByteArray
 depth:Int
 owner:Int
 vp:Ref.Sl
 ve:Ref.Sl
 vl:Ref.Sl
 vm:Ref.Sl
def MS.arr (x:MS):Array Value:=#[.int .i64 x.kind,.string x.name,.int .i64 x.depth,.int .i64 x.owner,.slice x.vp.a x.vp.n x.vp.c,.slice x.ve.a x.ve.n x.ve.c,.slice x.vl.a x.vl.n x.vl.c,.slice x.vm.a x.vm.n x.vm.c]
def yg:ByteArray:=⟨#[100,111,110,101,46]⟩
def BP (x:MS) (ar:Nat):PS:={ kind:=x.kind,name:=x.name,done:=yg++x.name,owner:=x.owner,parts:=0,inside:=0,around:=ar,wth:=0,enter:=x.ve,leave:=x.vl }
def isH (k:Int):Bool:=decide (k=3)||decide (k=4)
def mi (ps:List PS) (i:Nat) (x:MS):List PS:=if x.owner == -1 then ps.set i (BP x 0) else
 match ps[x.owner.toNat]? with
 | none=>ps
 | some q=>(if isH x.kind then ps else ps.set x.owner.toNat { q with parts:=q.parts|||2 ^ i }).set i (BP x (q.around|||2 ^ x.owner.toNat))
def n7 (fin i:Nat) (x:MS):Nat:=if x.kind == 2 then fin|||2 ^ i else fin
def cH (W:World) (pb b n cap:Nat) (hv:Value) (fin:Nat) (mv:Value):Prop:=W.heap[pb]?=some (.cells #[.slice (some ⟨b,0,none⟩) n cap,hv,.int .u32 fin,mv] 258 (0,0))
theorem bh.setRow {W:World} {pb b cap i:Nat} {ps:List PS} (h:bh W pb b cap ps) (hi:i<ps.length) (p':PS):bh (W.setCells b (i*10) p'.cells) pb b cap (ps.set i p') where
 row:=by
  rw [World.cell?_setCells_out b _ _ _ _ (fun e=>absurd e h.ne),List.length_set];exact h.row
 at':=fun i' q hq k' v' hv=>by
  rw [World.frozen?_setCells]
  have hl:∀ r:PS,r.cells.length=10:=fun r=>rfl
  have hk':k'<10:=by have:=(List.getElem?_eq_some_iff.1 hv).1;rwa [hl] at this
  obtain ⟨p,hp⟩:∃ p,ps[i]?=some p:=⟨_,List.getElem?_eq_getElem hi⟩
  have hat:∀ j,j<p'.cells.length→∃ v,W.cell? ⟨b,i*10+j,none⟩=some v∧W.frozen? ⟨b,i*10+j,none⟩=false:=fun j hj=>⟨_,h.at' i p hp j _ (List.getElem?_eq_getElem (by rw [hl] at hj ⊢;exact hj))⟩
  by_cases e:i'=i
  ·subst e
   rw [List.getElem?_set_self hi] at hq
   cases hq
   have hkl:k'<p'.cells.length:=by rw [hl];exact hk'
   have:=World.cell?_setCells_in b p'.cells (i'*10) W (fun j hj=>by obtain ⟨v,hv,_⟩:=hat j hj;rw [hv];rfl) k' hkl
   obtain ⟨_,_,hfz⟩:=hat k' hkl
   refine ⟨?_,hfz⟩
   rw [this,← hv,List.getElem?_eq_getElem hkl]
  ·rw [List.getElem?_set_ne (fun x=>e x.symm)] at hq
   have:=h.at' i' q hq k' v' hv
   refine ⟨(World.cell?_setCells_out b _ _ _ _ (fun _ _ => ?_)).trans this.1,this.2⟩
   rw [hl];show i'*10+k'<i*10∨_≤i'*10+k';omega
 len:=by rw [List.length_set];exact h.len
 ne:=h.ne
theorem bh.Gb {W:World} {pb b cap:Nat} {ps:List PS} (h:bh W pb b cap ps) (k:Nat) (v:Value) (hk:k≠0):bh (W.setCell ⟨pb,k,none⟩ v) pb b cap ps where
 row:=(au (by intro x;injection x with x1 x2;omega)).trans h.row
 at':=fun i p hi j u hu=>by
  have:=h.at' i p hi j u hu
  rw [World.frozen?_setCell]
  exact ⟨(au (by intro x;injection x with x1 x2;exact h.ne x1)).trans this.1,this.2⟩
 len:=h.len
 ne:=h.ne
theorem AO (ps:List PS) (i:Nat) (x:MS):(mi ps i x).length=ps.length:=by
 unfold mi
 split
 ·simp
 ·split
  ·rfl
  ·split <;> simp
theorem bh.GF {p p':PS} {k:Nat} {v:Value} (h:p'.cells=p.cells.set k v) (hk:k<10):∀ j,p'.cells[j]?=if j=k then some v else p.cells[j]?:=fun j=>by
 rw [h,List.getElem?_set]
 by_cases e:k=j
 ·subst e;rw [if_pos rfl,if_pos rfl,if_pos (by simpa [PS.cells] using hk)]
 ·rw [if_neg e,if_neg (fun x=>e x.symm)]
end Pg
theorem Tryz.eD:(Tryz.prog.info? 253).map (·.size)=some 10:=by kernel_rfl
theorem rT (w:World) (pb b cap:Nat) (ps:List Pg.PS) (i:Nat) (x:Pg.MS) (hv mv:Value) (fin:Nat) (hB:Pg.cH w pb b ps.length cap hv fin mv) (hP:Pg.bh w pb b cap ps) (hsm:Pg.Sms ps) (hfl:fin<4294967296) (hil:i<ps.length) (hnm:x.name.size≤1000000) (how:x.owner = -1∨∃ o:Nat,x.owner=o∧o<i) (hb:b<w.heap.size) :
  Calls Tryz.prog 115 #[.pointer (some ⟨pb,0,none⟩),.int .i64 i,.agg x.arr] w fun e w'=>e = .returned (.tuple #[])∧Pg.cH w' pb b ps.length cap hv (Pg.n7 fin i x) mv∧Pg.bh w' pb b cap (Pg.mi ps i x)∧Mo (fun k=>k=b∨k=pb) w w':=by
 have hpb:pb<w.heap.size:=(Array.getElem?_eq_some_iff.1 hB).1
 have hlen:=hP.len
 have hne:=hP.ne
 have hi32:i<32:=by omega
 obtain ⟨t,ht⟩:∃ t,2 ^ i=t:=⟨_,rfl⟩
 have htl:t<4294967296:=by rw [← ht];exact pJ hi32
 have hone:∀ V:World,Calls Tryz.prog 151 #[.int .i64 i] V fun e w'=>e = .returned (.int .u32 t)∧w'=V:=fun V=>by rw [← ht];exact ia i V hi32
 obtain ⟨kind,name,depth,owner,vp,ve,vl,vm⟩:=x
 have hhist:=oE kind
 obtain ⟨fn,hfn⟩:∃ fn,Pg.n7 fin i ⟨kind,name,depth,owner,vp,ve,vl,vm⟩=fn:=⟨_,rfl⟩
 obtain ⟨pz,hpz⟩:∃ pz,Pg.mi ps i ⟨kind,name,depth,owner,vp,ve,vl,vm⟩=pz:=⟨_,rfl⟩
 obtain ⟨mk,hmk⟩:∃ mk,Pg.BP ⟨kind,name,depth,owner,vp,ve,vl,vm⟩=mk:=⟨_,rfl⟩
 have HF:Hid (fn=if kind == 2 then fin|||t else fin):=by rw [← hfn,← ht];rfl
 have HZ:Hid (Pg.mi ps i ⟨kind,name,depth,owner,vp,ve,vl,vm⟩=pz):=hpz
 rw [hfn,hpz]
 clear hfn hpz
 dsimp only at how hnm
 have HOW:Hid (owner = -1∨∃ o:Nat,owner=o∧o<i):=how
 have hB1:=((Below.refl w.heap.size w).alloc (Nat.le_refl _) (.cells #[.int .i64 kind,.string name,.int .i64 depth,.int .i64 owner,.slice vp.a vp.n vp.c,.slice ve.a ve.n ve.c,.slice vl.a vl.n vl.c,.slice vm.a vm.n vm.c] 242)).alloc (by simp) (.cells #[.int .i64 kind,.string name,.string (⟨#[100,111,110,101,46]⟩++name),.int .i64 owner,.int .u32 0,.int .u32 0,.int .u32 0,.int .u32 0,.slice ve.a ve.n ve.c,.slice vl.a vl.n vl.c] 253)
 have s5:=fh w (.cells #[.int .i64 kind,.string name,.int .i64 depth,.int .i64 owner,.slice vp.a vp.n vp.c,.slice ve.a ve.n ve.c,.slice vl.a vl.n vl.c,.slice vm.a vm.n vm.c] 242) (.cells #[.int .i64 kind,.string name,.string (⟨#[100,111,110,101,46]⟩++name),.int .i64 owner,.int .u32 0,.int .u32 0,.int .u32 0,.int .u32 0,.slice ve.a ve.n ve.c,.slice vl.a vl.n vl.c] 253)
 have s6:=bE w (.cells #[.int .i64 kind,.string name,.int .i64 depth,.int .i64 owner,.slice vp.a vp.n vp.c,.slice ve.a ve.n ve.c,.slice vl.a vl.n vl.c,.slice vm.a vm.n vm.c] 242) (.cells #[.int .i64 kind,.string name,.string (⟨#[100,111,110,101,46]⟩++name),.int .i64 owner,.int .u32 0,.int .u32 0,.int .u32 0,.int .u32 0,.slice ve.a ve.n ve.c,.slice vl.a vl.n vl.c] 253)
 unfold Pg.MS.arr
 dsimp only
 clear how
 go_enter Tryz.func115,Tryz.ntmps115
 go_upto_if 24 with (first
  | (refine az rfl 253 (.tmp 6) (.tmp 21) rfl 253 _ _ rfl rfl Tryz.eD rfl rfl ?_)
  | fail)
 obtain ⟨V0,hV⟩:∃ V,(w.alloc (.cells #[.int .i64 kind,.string name,.int .i64 depth,.int .i64 owner,.slice vp.a vp.n vp.c,.slice ve.a ve.n ve.c,.slice vl.a vl.n vl.c,.slice vm.a vm.n vm.c] 242)).alloc (.cells #[.int .i64 kind,.string name,.string (⟨#[100,111,110,101,46]⟩++name),.int .i64 owner,.int .u32 0,.int .u32 0,.int .u32 0,.int .u32 0,.slice ve.a ve.n ve.c,.slice vl.a vl.n vl.c] 253)=V:=⟨_,rfl⟩
 rw [hV] at hB1 s5 s6 ⊢
 clear hV
 have s6:V0.heap[w.heap.size+1]?=some (.cells (mk 0).cells.toArray 253 (0,0)):=by rw [← hmk];exact s6
 have hk5:V0.cell? ⟨w.heap.size,0,none⟩=some (.int .i64 kind):=by rw [cell_of_row V0 _ _ _ _ _ s5];rfl
 have hP0:=hP.below hB1 hpb hb
 have hPB0:Pg.cH V0 pb b ps.length cap hv fin mv:=(hB1.block pb hpb).trans hB
 go_cut [] from 8 (fun V=>(∃ (ps1:List Pg.PS) (ar:Nat),Hid (pz=ps1.set i (mk ar))∧Pg.bh V pb b cap ps1∧ps1.length=ps.length∧V.heap[w.heap.size+1]?=some (.cells (mk ar).cells.toArray 253 (0,0)))∧Pg.cH V pb b ps.length cap hv fin mv∧Mo (fun k=>k=b∨k=pb) w V∧V.cell? ⟨w.heap.size,0,none⟩=some (.int .i64 kind))
 case first =>
  rcases HOW.out with ho | ⟨o,ho,hoi⟩
  ·have hon:(owner != -1)=false:=by rw [ho];rfl
   have HZ:Hid (pz=ps.set i (mk 0)):=by unfold Hid;rw [← HZ.out,← hmk,ho];rfl
   clear ho
   go_wp2_with fail
   go_meet
   case rel=>exact ⟨⟨ps,0,HZ,hP0,rfl,s6⟩,hPB0,aq hB1,hk5⟩
  ·have hol:o<ps.length:=by omega
   have ho32:o<32:=by omega
   obtain ⟨q,hq⟩:∃ q,ps[o]?=some q:=⟨_,List.getElem?_eq_getElem hol⟩
   obtain ⟨tq,hto⟩:∃ t,2 ^ o=t:=⟨_,rfl⟩
   have htol:tq<4294967296:=by rw [← hto];exact pJ ho32
   have honeo:∀ V:World,Calls Tryz.prog 151 #[.int .i64 o] V fun e w'=>e = .returned (.int .u32 tq)∧w'=V:=fun V=>by rw [← hto];exact ia o V ho32
   have hon:(owner != -1)=true:=by rw [ho];simp
   obtain ⟨hb0,hh⟩:∃ hb0,(decide (kind=3)||decide (kind=4))=hb0:=⟨_,rfl⟩
   have HSP:Hid (pz=(if hb0 then ps else ps.set o { q with parts:=q.parts|||t }).set i (mk (q.around|||tq))):=by
    unfold Hid
    rw [← HZ.out,ho]
    unfold Pg.mi Pg.isH
    rw [← hmk,ho,← hh,← hto,← ht]
    simp only [Int.toNat_natCast,hq]
    rw [if_neg (by simp)]
   have hs3:V0.cell? ⟨w.heap.size,3,none⟩=some (.int .i64 o):=by rw [cell_of_row V0 _ _ _ _ _ s5,ho];rfl
   have s6n:(V0.setCell ⟨w.heap.size+1,6,none⟩ (.int .u32 ((q.around|||tq:Nat):Int))).heap[w.heap.size+1]?=some (.cells (mk (q.around|||tq)).cells.toArray 253 (0,0)):=by
    rw [← hmk] at s6 ⊢
    exact heap_setCell_same V0 (w.heap.size+1) 6 _ _ (.int .u32 ((q.around|||tq:Nat):Int)) s6
   have hr0:=hP0.row
   have hq6:=(hP0.ps hq).c6
   have s66:V0.cell? ⟨w.heap.size+1,6,none⟩=some (.int .u32 0):=by rw [cell_of_row V0 _ _ _ _ _ s6,← hmk];rfl
   have f66:V0.frozen? ⟨w.heap.size+1,6,none⟩=false:=by simp [World.frozen?,s6]
   rw [hh] at hhist
   clear ho HOW HZ hmk hh hto
   go_wp2_with fail
   refine wp_region_held_drew (S:=(fun V=>V.cell? ⟨pb,0,none⟩=some (.slice (some ⟨b,0,none⟩) ps.length cap)∧V.cell? ⟨w.heap.size,3,none⟩=some (.int .i64 o))) (by kernel_rfl) ⟨hr0,hs3⟩ (fun hHeld => ?_)
   refine tH 0 (.pointer (some ⟨pb,0,none⟩)) rfl hHeld ?_
   refine tH 1 (.pointer (some ⟨pb,0,none⟩)) rfl hHeld ?_
   refine tH 2 (.pointer (some ⟨pb,0,none⟩)) rfl hHeld ?_
   refine tH 3 (.slice (some ⟨b,0,none⟩) ps.length cap) rfl hHeld ?_
   refine tH 4 (.pointer (some ⟨w.heap.size,3,none⟩)) rfl hHeld ?_
   refine tH 5 (.int .i64 o) rfl hHeld ?_
   refine tH 6 (.pointer (some ⟨b,o*10,none⟩)) rfl hHeld ?_
   refine tH 7 (.pointer (some ⟨b,o*10,none⟩)) rfl hHeld ?_
   refine wpAnyH_done (by kernel_rfl) ?_ _
   clear hHeld hr0
   have hs3:V0.drew.cell? ⟨w.heap.size,3,none⟩=_:=hs3
   have hq6:V0.drew.cell? ⟨b,o*10+6,none⟩=_:=hq6
   have s66:V0.drew.cell? ⟨w.heap.size+1,6,none⟩=_:=s66
   have f66:V0.drew.frozen? ⟨w.heap.size+1,6,none⟩=_:=f66
   have hk5:(V0.drew.setCell ⟨w.heap.size+1,6,none⟩ (.int .u32 ((q.around|||tq:Nat):Int))).drew.cell? ⟨w.heap.size,0,none⟩=_:=(au (w:=V0) (by intro h;injection h with h1 h2;omega)).trans hk5
   have hB2:Below w.heap.size w (V0.drew.setCell ⟨w.heap.size+1,6,none⟩ (.int .u32 ((q.around|||tq:Nat):Int))).drew:=(hB1.drew.setCell (p:=⟨w.heap.size+1,6,none⟩) (by simp) _).drew
   have s6n:(V0.drew.setCell ⟨w.heap.size+1,6,none⟩ (.int .u32 ((q.around|||tq:Nat):Int))).drew.heap[w.heap.size+1]?=_:=s6n
   have o1:=u32_or_nat _ _ (hsm o q hq).ha htol
   clear s6 s5 hP0 hPB0 hB1
   obtain ⟨V0,hV⟩:∃ V,V0.drew=V:=⟨_,rfl⟩
   rw [hV] at hs3 hq6 s66 f66 hk5 hB2 s6n ⊢
   clear hV
   go_wp2_with fail
   refine wp_region_held_drew (S:=(fun V=>V.cell? ⟨b,o*10+6,none⟩=some (.int .u32 q.around)∧V.cell? ⟨w.heap.size,3,none⟩=some (.int .i64 o))) (by kernel_rfl) ⟨hq6,hs3⟩ (fun hHeld => ?_)
   refine tH 0 (.pointer (some ⟨b,o*10,none⟩)) rfl hHeld ?_
   refine tH 1 (.pointer (some ⟨b,o*10,none⟩)) rfl hHeld ?_
   refine tH 2 (.pointer (some ⟨b,o*10+6,none⟩)) rfl hHeld ?_
   refine tH 3 (.int .u32 q.around) rfl hHeld ?_
   refine tH 4 (.pointer (some ⟨w.heap.size,3,none⟩)) rfl hHeld ?_
   refine tH 5 (.int .i64 o) rfl hHeld ?_
   refine zH 6 rfl fun K hK => ?_
   go_simp
   refine (honeo _).mono ?_
   rintro e w9 ⟨rfl,rfl⟩
   refine hK.out _ _ hHeld (fun hHeld => ?_)
   clear hK K
   refine tH 7 (.int .u32 ((q.around|||tq:Nat):Int)) rfl hHeld ?_
   refine tH 8 (.pointer (some ⟨w.heap.size+1,6,none⟩)) rfl hHeld ?_
   refine zH 9 rfl fun K hK => ?_
   go_simp
   refine hK.out _ _ (by
    have e:∀ (a:Addr),a≠⟨w.heap.size+1,6,none⟩→∀ v,(V0.setCell ⟨w.heap.size+1,6,none⟩ v).drew.cell? a=V0.drew.cell? a:=fun a ha v=>au (fun h=>ha h.symm)
    (try dsimp only at hHeld);(try dsimp only)
    rw [e _ (by intro h;injection h with h1 h2;omega),e _ (by intro h;injection h with h1 h2;omega)]
    exact hHeld) (fun hHeld => ?_)
   clear hK K hHeld
   refine wpAnyH_done (by kernel_rfl) ?_ _
   obtain ⟨V1,hV⟩:∃ V,(V0.setCell ⟨w.heap.size+1,6,none⟩ (.int .u32 ((q.around|||tq:Nat):Int))).drew=V:=⟨_,rfl⟩
   rw [hV] at hk5 hB2 s6n ⊢
   clear hV hs3 hq6 s66 f66 o1 honeo
   have hP1:=hP.below hB2 hpb hb
   have hPB1:Pg.cH V1 pb b ps.length cap hv fin mv:=(hB2.block pb hpb).trans hB
   cases hb0
   ·go_wp2_with (go_at_call 156;refine (hhist _).mono ?_;rintro e w9 ⟨rfl,hw9⟩;rw [hw9];clear hw9 w9)
    have kq:=hP1.at' o q hq 4 _ rfl
    have kqc:=kq.1
    have kqf:=kq.2
    have o2:=u32_or_nat _ _ (hsm o q hq).hp htl
    have hP2:=hP1.set hq 4 (.int .u32 ((q.parts|||t:Nat):Int)) { q with parts:=q.parts|||t } (by decide) (Pg.bh.GF rfl (by decide))
    have hP2:Pg.bh (V1.setCell ⟨b,o*10+4,none⟩ (.int .u32 ((q.parts|||t:Nat):Int))).drew pb b cap (ps.set o { q with parts:=q.parts|||t }):=⟨hP2.row,hP2.at',hP2.len,hP2.ne⟩
    have hM:Mo (fun k=>k=b∨k=pb) w (V1.setCell ⟨b,o*10+4,none⟩ (.int .u32 ((q.parts|||t:Nat):Int))).drew:=gX ((aq hB2).set ⟨b,o*10+4,none⟩ _ (.inl rfl))
    have s6:(V1.setCell ⟨b,o*10+4,none⟩ (.int .u32 ((q.parts|||t:Nat):Int))).drew.heap[w.heap.size+1]?=_:=(Below.heap_setCell V1 ⟨b,o*10+4,none⟩ _ _ (by simp;omega)).trans s6n
    have hk5:(V1.setCell ⟨b,o*10+4,none⟩ (.int .u32 ((q.parts|||t:Nat):Int))).drew.cell? ⟨w.heap.size,0,none⟩=_:=(au (by intro h;injection h with h1 h2;omega)).trans hk5
    have hPB:Pg.cH (V1.setCell ⟨b,o*10+4,none⟩ (.int .u32 ((q.parts|||t:Nat):Int))).drew pb b ps.length cap hv fin mv:=(Below.heap_setCell V1 ⟨b,o*10+4,none⟩ _ _ hne).trans hPB1
    refine wp_region_held_drew (S:=(fun _=>True)) (by kernel_rfl) trivial (fun hHeld => ?_)
    refine tH 0 (.pointer (some ⟨b,o*10,none⟩)) rfl hHeld ?_
    refine tH 1 (.pointer (some ⟨b,o*10,none⟩)) rfl hHeld ?_
    refine tH 2 (.pointer (some ⟨b,o*10+4,none⟩)) rfl hHeld ?_
    refine tH 4 (.int .i64 i) rfl hHeld ?_
    refine yH [3,5] ?_
    refine AllReadyH.cons rfl (fun K hK => ?rg3) (AllReadyH.cons rfl (fun K hK => ?rg4) AllReadyH.nil)
    case' rg3 =>
     go_simp
     refine hK.out _ _ hHeld (fun hHeld => ?_)
     clear hK K
     refine zH 5 rfl fun K hK => ?_
     go_simp
     refine (hone _).mono ?_
     rintro e w9 ⟨rfl,rfl⟩
     refine hK.out _ _ hHeld (fun hHeld => ?_)
     clear hK K
     refine tH 6 (.int .u32 ((q.parts|||t:Nat):Int)) rfl hHeld ?_
     refine tH 7 (.pointer (some ⟨b,o*10,none⟩)) rfl hHeld ?_
     refine tH 8 (.pointer (some ⟨b,o*10+4,none⟩)) rfl hHeld ?_
     refine zH 9 rfl fun K hK => ?_
     go_simp
     refine hK.out _ _ (by
      exact trivial) (fun hHeld => ?_)
     clear hK K hHeld
     refine wpAnyH_done (by kernel_rfl) ?_ _
    case' rg4 =>
     go_simp
     refine (hone _).mono ?_
     rintro e w9 ⟨rfl,rfl⟩
     refine hK.out _ _ hHeld (fun hHeld => ?_)
     clear hK K
     refine zH 3 rfl fun K hK => ?_
     go_simp
     refine hK.out _ _ hHeld (fun hHeld => ?_)
     clear hK K
     refine tH 6 (.int .u32 ((q.parts|||t:Nat):Int)) rfl hHeld ?_
     refine tH 7 (.pointer (some ⟨b,o*10,none⟩)) rfl hHeld ?_
     refine tH 8 (.pointer (some ⟨b,o*10+4,none⟩)) rfl hHeld ?_
     refine zH 9 rfl fun K hK => ?_
     go_simp
     refine hK.out _ _ (by
      exact trivial) (fun hHeld => ?_)
     clear hK K hHeld
     refine wpAnyH_done (by kernel_rfl) ?_ _
    all_goals
     go_wp2_with fail
     go_meet
     case rel=>exact ⟨⟨_,_,HSP,hP2,by simp,s6⟩,hPB,hM,hk5⟩
   ·go_wp2_with (go_at_call 156;refine (hhist _).mono ?_;rintro e w9 ⟨rfl,hw9⟩;rw [hw9];clear hw9 w9)
    go_meet
    case rel=>exact ⟨⟨_,_,HSP,hP1,rfl,s6n⟩,hPB1,aq hB2,hk5⟩
 case rest =>
  obtain ⟨⟨ps1,ar,HS,hPW,hl1,s6⟩,hPB,hM,hk5⟩:=hcut
  obtain ⟨pn,hpn⟩:∃ pn,mk ar=pn:=⟨_,rfl⟩
  rw [hpn] at HS s6
  clear hpn hmk hB1 s5 HOW HZ hhist hB hP hP0 hPB0
  have hf2c:wc.cell? ⟨pb,2,none⟩=some (.int .u32 fin):=by rw [cell_of_row wc _ _ _ _ _ hPB];rfl
  have hf2f:wc.frozen? ⟨pb,2,none⟩=false:=by simp [World.frozen?,show wc.heap[pb]?=_ from hPB]
  go_upto_if 56 with fail
  go_cut [] from 8 (fun V=>Pg.bh V pb b cap ps1∧V.heap[w.heap.size+1]?=some (.cells pn.cells.toArray 253 (0,0))∧Pg.cH V pb b ps.length cap hv fn mv∧Mo (fun k=>k=b∨k=pb) w V)
  case first =>
   obtain ⟨k2,hk2⟩:∃ k2,(kind == 2)=k2:=⟨_,rfl⟩
   cases k2
   ·have hPB:Pg.cH wc pb b ps.length cap hv fn mv:=by have:=HF.out;rw [if_neg (by rw [hk2];decide)] at this;rw [this];exact hPB
    go_wp2_with fail
    go_meet
    case rel=>exact ⟨hPW,s6,hPB,hM⟩
   ·have HF:Hid (fn=fin|||t):=by have:=HF.out;rw [if_pos hk2] at this;exact this
    have o3:=u32_or_nat _ _ hfl htl
    have hPB:=heap_setCell_same wc pb 2 _ _ (.int .u32 ((fin|||t:Nat):Int)) hPB
    have hPB:Pg.cH (wc.setCell ⟨pb,2,none⟩ (.int .u32 ((fin|||t:Nat):Int))).drew pb b ps.length cap hv fn mv:=by rw [HF.out];exact hPB
    have hPW:=hPW.Gb 2 (.int .u32 ((fin|||t:Nat):Int)) (by decide)
    have hPW:Pg.bh (wc.setCell ⟨pb,2,none⟩ (.int .u32 ((fin|||t:Nat):Int))).drew pb b cap ps1:=⟨hPW.row,hPW.at',hPW.len,hPW.ne⟩
    have hM:Mo (fun k=>k=b∨k=pb) w (wc.setCell ⟨pb,2,none⟩ (.int .u32 ((fin|||t:Nat):Int))).drew:=gX (hM.set ⟨pb,2,none⟩ _ (.inr rfl))
    have s6:(wc.setCell ⟨pb,2,none⟩ (.int .u32 ((fin|||t:Nat):Int))).drew.heap[w.heap.size+1]?=_:=(Below.heap_setCell wc ⟨pb,2,none⟩ _ _ (by simp;omega)).trans s6
    go_wp2_with fail
    refine wp_region_held_drew (S:=(fun _=>True)) (by kernel_rfl) trivial (fun hHeld => ?_)
    refine tH 0 (.pointer (some ⟨pb,0,none⟩)) rfl hHeld ?_
    refine tH 1 (.pointer (some ⟨pb,0,none⟩)) rfl hHeld ?_
    refine tH 2 (.pointer (some ⟨pb,2,none⟩)) rfl hHeld ?_
    refine tH 4 (.int .i64 i) rfl hHeld ?_
    refine yH [3,5] ?_
    refine AllReadyH.cons rfl (fun K hK => ?rg9) (AllReadyH.cons rfl (fun K hK => ?rg10) AllReadyH.nil)
    case' rg9 =>
     go_simp
     refine hK.out _ _ hHeld (fun hHeld => ?_)
     clear hK K
     refine zH 5 rfl fun K hK => ?_
     go_simp
     refine (hone _).mono ?_
     rintro e w9 ⟨rfl,rfl⟩
     refine hK.out _ _ hHeld (fun hHeld => ?_)
     clear hK K
     refine tH 6 (.int .u32 ((fin|||t:Nat):Int)) rfl hHeld ?_
     refine tH 7 (.pointer (some ⟨pb,0,none⟩)) rfl hHeld ?_
     refine tH 8 (.pointer (some ⟨pb,2,none⟩)) rfl hHeld ?_
     refine zH 9 rfl fun K hK => ?_
     go_simp
     refine hK.out _ _ (by
      exact trivial) (fun hHeld => ?_)
     clear hK K hHeld
     refine wpAnyH_done (by kernel_rfl) ?_ _
    case' rg10 =>
     go_simp
     refine (hone _).mono ?_
     rintro e w9 ⟨rfl,rfl⟩
     refine hK.out _ _ hHeld (fun hHeld => ?_)
     clear hK K
     refine zH 3 rfl fun K hK => ?_
     go_simp
     refine hK.out _ _ hHeld (fun hHeld => ?_)
     clear hK K
     refine tH 6 (.int .u32 ((fin|||t:Nat):Int)) rfl hHeld ?_
     refine tH 7 (.pointer (some ⟨pb,0,none⟩)) rfl hHeld ?_
     refine tH 8 (.pointer (some ⟨pb,2,none⟩)) rfl hHeld ?_
     refine zH 9 rfl fun K hK => ?_
     go_simp
     refine hK.out _ _ (by
      exact trivial) (fun hHeld => ?_)
     clear hK K hHeld
     refine wpAnyH_done (by kernel_rfl) ?_ _
    all_goals
     go_wp2_with fail
     go_meet
     case rel=>exact ⟨hPW,s6,hPB,hM⟩
  case rest =>
   clear hPW s6 hPB hM hk5 hf2c hf2f HF
   obtain ⟨hPW,s6,hPB,hM⟩:=hcut
   have hr9:=hPW.row
   rw [hl1] at hr9
   have hil1:i<ps1.length:=by omega
   have hrg:wc.drew.rangeAt (w.heap.size+1) 0 pn.cells:=by
    have:=jg (w:=wc) s6
    simpa using this
   obtain ⟨p1,hp1⟩:∃ p,ps1[i]?=some p:=⟨_,List.getElem?_eq_getElem hil1⟩
   have hth:wc.drew.there b (i*10) pn.cells.toArray.size:=fun j hj=>by
    have hj:j<10:=by simpa [Pg.PS.cells] using hj
    have:=hPW.at' i p1 hp1 j _ (List.getElem?_eq_getElem (by simpa [Pg.PS.cells] using hj))
    exact ⟨by rw [show wc.drew.cell? ⟨b,i*10+j,none⟩=_ from this.1];rfl,this.2⟩
   have hsz9:(Tryz.prog.info? 253).map (·.size)=some pn.cells.toArray.size:=Tryz.eD
   have hone9:pn.cells.toArray.all (·.oneCell')=true:=by simp [Pg.PS.cells,Value.oneCell',Ref.Sl.v]
   have hlen9:pn.cells.length=10:=rfl
   have hrun:(storeCells ⟨b,i*10,none⟩ pn.cells).run Tryz.prog wc.drew = .ok () (wc.drew.setCells b (i*10) pn.cells) :=
    run_storeCells_cells (P:=Tryz.prog) b (i*10) pn.cells 0 wc.drew (fun j hj=>(hth j (by simpa using hj)).1) (fun j hj=>(hth j (by simpa using hj)).2) (fun v hv=>Array.all_eq_true_iff_forall_mem.1 hone9 v (by simpa using hv))
   have hP9:=(show Pg.bh wc.drew pb b cap ps1 from ⟨hPW.row,hPW.at',hPW.len,hPW.ne⟩).setRow hil1 pn
   rw [← HS.out] at hP9
   have hM9:Mo (fun k=>k=b∨k=pb) w (wc.drew.setCells b (i*10) pn.cells):=(gX hM).cells b (i*10) pn.cells (.inl rfl)
   have hB9:Pg.cH (wc.drew.setCells b (i*10) pn.cells) pb b ps.length cap hv fn mv:=((Mo.refl (· = b) wc.drew).cells b (i*10) pn.cells rfl |>.block pb (by show pb<wc.heap.size;have:=hM.size;omega) hne).trans hPB
   go_wp2_with fail
   refine wp_region_held_drew (S:=(fun V=>V.cell? ⟨pb,0,none⟩=some (.slice (some ⟨b,0,none⟩) ps.length cap)∧V.rangeAt (w.heap.size+1) 0 pn.cells)) (by kernel_rfl) ⟨hr9,hrg⟩ (fun hHeld => ?_)
   refine tH 0 (.pointer (some ⟨pb,0,none⟩)) rfl hHeld ?_
   refine tH 1 (.pointer (some ⟨pb,0,none⟩)) rfl hHeld ?_
   refine tH 2 (.pointer (some ⟨pb,0,none⟩)) rfl hHeld ?_
   refine tH 3 (.slice (some ⟨b,0,none⟩) ps.length cap) rfl hHeld ?_
   refine tH 4 (.int .i64 i) rfl hHeld ?_
   refine wpAnyH_take (i:=5) (v:=(.agg pn.cells.toArray)) rfl (by kernel_rfl) (by kernel_rfl) (by kernel_rfl) (fun _ _ _ h=>h) (yieldsIf_load_mid rfl 253 (.tmp 6) rfl (w.heap.size+1) 0 rfl pn.cells _ (fun w hSw=>hSw.2) Tryz.underlying253 rfl Tryz.eD) hHeld ?_
   refine tH 6 (.pointer (some ⟨b,i*10,none⟩)) rfl hHeld ?_
   refine zH 7 rfl fun K hK => ?_
   go_simp
   refine hK.out _ _ (by
    refine ⟨(World.cell?_setCells_out b pn.cells (i*10) wc.drew _ (fun e=>absurd e hne)).trans hHeld.1,World.rangeAt_setCells_apart hHeld.2 b (i*10) pn.cells (.inl (by omega))⟩) (fun hHeld => ?_)
   clear hK K hHeld
   refine wpAnyH_done (by kernel_rfl) ?_ _
   go_wp2
   go_end0
   exact ⟨rfl,hB9,hP9,hM9⟩
theorem uL (w:World) (c all:Nat) (kv:Value) (hc:w.cell? ⟨c,0,none⟩=some (.int .u32 all)) :
  Calls Tryz.prog 199 #[kv,.pointer (some ⟨c,0,none⟩)] w fun e w'=>e = .returned (.int .u32 all)∧w'=w:=by
 go_enter Tryz.func199,Tryz.ntmps199
 go_wp2
 go_ret
 exact ⟨rfl,rfl⟩
theorem mC (w:World) (kv:Value):Calls Tryz.prog 161 #[kv] w fun e w'=>e = .returned (.int .u32 0)∧w'=w:=by
 go_enter Tryz.func161,Tryz.ntmps161
 go_wp2
 go_ret
 exact ⟨rfl,rfl⟩
theorem Pg.Fo (ps:List Pg.PS) {s:Nat} (h:s<4294967296):Pg.inn ps s<4294967296:=Pg.sA ps _ _ h
namespace Pg
inductive En where
 | nil
 | all (a:Nat)
 | hist (path dest:Nat)
def pN (W:World) (pb b:Nat):En→Value→Prop
 | .nil,v=>v = .func (.func 161) #[] #[]
 | .all a,v=>∃ c,v = .func (.func 199) #[] #[.pointer (some ⟨c,0,none⟩)]∧Boxed W c 139 (.int .u32 a)
 | .hist p t,v=>∃ c3 c7 c6 c5,v = .func (.func 196) #[] #[.pointer (some ⟨c3,0,none⟩),.pointer (some ⟨c7,0,none⟩),.pointer (some ⟨c6,0,none⟩),.pointer (some ⟨c5,0,none⟩)]∧Boxed W c3 137 (.pointer (some ⟨pb,0,none⟩))∧Boxed W c7 139 (.int .u32 p)∧Boxed W c6 307 (.pointer (some ⟨b,t*10,none⟩))∧Boxed W c5 3 (.int .i64 t)
def GC (ps:List PS) (i:Nat):Nat:=match ps[i]? with | some p=>p.owner.toNat | none=>0
def enters (ps:List PS) (kept:Nat→Nat):En→Nat
 | .nil=>0
 | .all a=>a
 | .hist p t=>complete ps (p|||FD ps (GC ps t) (kept t))
theorem pN.ax {W W':World} {pb b:Nat} {e:En} {v:Value} (h:pN W pb b e v) (hk:∀ (B:Nat) (t:TypeId) (u:Value),(t=139∨t=137∨t=307∨t=3)→Boxed W B t u→Boxed W' B t u):pN W' pb b e v:=by
 cases e with
 | nil=>exact h
 | all a=>obtain ⟨c,h1,h2⟩:=h;exact ⟨c,h1,hk _ _ _ (by simp) h2⟩
 | hist p t=>obtain ⟨c3,c7,c6,c5,h1,h2,h3,h4,h5⟩:=h;exact ⟨c3,c7,c6,c5,h1,hk _ _ _ (by simp) h2,hk _ _ _ (by simp) h3,hk _ _ _ (by simp) h4,hk _ _ _ (by simp) h5⟩
end Pg
theorem tg {P:Program} {w:World} {a:Addr} {u:Value} (hc:w.cell? a=some u) (hf:w.frozen? a=false) (f:Fn) (x y:Array Value):(store a (.func f x y)).run P w = .ok () (w.setCell a (.func f x y)):=by
 rw [run_store P w _ _ _ rfl];simp [hc,hf]
namespace Pg
def ja (ps:List PS) (own dest:Nat):En:=match ps[dest]? with
 | none => .nil
 | some p=>if isH p.kind then .hist (p.around&&&dom ps own dest) dest else .all (complete ps ((p.around&&&dom ps own dest)|||p.wth))
theorem DK {ps:List PS} (h:Sms ps) (i:Nat):mG ps i<4294967296:=by
 unfold mG
 split
 ·rename_i p hp;exact (h i p hp).hi
 ·decide
theorem Fe {ps:List PS} (h:Sms ps) (hl:ps.length≤24) (i j:Nat):dom ps i j<4294967296:=by
 unfold dom
 split
 ·exact DK h _
 ·have:2 ^ ps.length≤2 ^ 24:=Nat.pow_le_pow_right (by decide) hl
  omega
theorem pO.mo {W W':World} {P:Nat→Prop} {b i:Nat} {p:PS} (h:pO W b i p) (hm:Mo P W W') (hb:b<W.heap.size) (hn:¬ P b):pO W' b i p where
 c0:=(hm.cell (p:=⟨b,_,none⟩) hb hn).trans h.c0
 c1:=(hm.cell (p:=⟨b,_,none⟩) hb hn).trans h.c1
 c2:=(hm.cell (p:=⟨b,_,none⟩) hb hn).trans h.c2
 c3:=(hm.cell (p:=⟨b,_,none⟩) hb hn).trans h.c3
 c4:=(hm.cell (p:=⟨b,_,none⟩) hb hn).trans h.c4
 c5:=(hm.cell (p:=⟨b,_,none⟩) hb hn).trans h.c5
 c6:=(hm.cell (p:=⟨b,_,none⟩) hb hn).trans h.c6
 c7:=(hm.cell (p:=⟨b,_,none⟩) hb hn).trans h.c7
 c8:=(hm.cell (p:=⟨b,_,none⟩) hb hn).trans h.c8
 c9:=(hm.cell (p:=⟨b,_,none⟩) hb hn).trans h.c9
theorem dq.mo {W W':World} {P:Nat→Prop} {pb b cap:Nat} {ps:List PS} (h:dq W pb b cap ps) (hm:Mo P W W') (h1:pb<W.heap.size) (h2:b<W.heap.size) (n1:¬ P pb) (n2:¬ P b):dq W' pb b cap ps where
 row:=(hm.cell (p:=⟨pb,0,none⟩) h1 n1).trans h.row
 at':=fun i p hi=>(h.at' i p hi).mo hm h2 n2
 sm:=h.sm
 len:=h.len
end Pg
theorem BI (w:World) (pb b cap:Nat) (ps:List Pg.PS) (own dest mvb:Nat) (p pd:Pg.PS) (lv:Nat) (av fv:Value) (hpo:ps[own]?=some p) (hpd:ps[dest]?=some pd) (hnh:Pg.isH pd.kind=false) (hin:∀ i,i∈Pg.els (p.around&&&pd.around)→i<ps.length) (hin2:∀ i,i∈Pg.els ((pd.around&&&Pg.dom ps own dest)|||pd.wth)→i<ps.length) (hpts:∀ (i:Nat) (p:Pg.PS),ps[i]?=some p→∀ j∈Pg.els p.parts,j<ps.length)
  (hP:Pg.dq w pb b cap ps) (hpb:pb<w.heap.size) (hb:b<w.heap.size) (n1:pb≠mvb) (n2:b≠mvb) (hg:1<w.heap.size) (hgm:1≠mvb) (hT:TabAt 1 Lib.deBruijn32tab w)
  (hmv:w.heap[mvb]?=some (.cells #[.int .i64 own,.int .u32 lv,av,fv] 319 (0,0))) :
  Calls Tryz.prog 162 #[.pointer (some ⟨pb,0,none⟩),.pointer (some ⟨mvb,0,none⟩),.int .i64 dest] w fun e w'=>e = .returned (.tuple #[])∧Mo (· = mvb) w w'∧∃ fv',w'.heap[mvb]?=some (.cells #[.int .i64 own,.int .u32 (Pg.dom ps own dest),av,fv'] 319 (0,0))∧Pg.pN w' pb b (Pg.ja ps own dest) fv':=by
 have hmvl0:mvb<w.heap.size:=(Array.getElem?_eq_some_iff.1 hmv).1
 have hdl:dest<ps.length:=(List.getElem?_eq_some_iff.1 hpd).1
 have hlen:=hP.len
 have hdml:=Pg.Fe hP.sm hlen own dest
 have hdom:∀ V,Below w.heap.size w V→Calls Tryz.prog 195 #[.pointer (some ⟨pb,0,none⟩),.int .i64 own,.int .i64 dest] V fun e w'=>e = .returned (.int .u32 (Pg.dom ps own dest))∧Below V.heap.size V w':=fun V hV=>by
  have:=hV.size
  exact callsIn_wide.1 (zg 3 (by omega) V pb b cap ps own dest p pd hpo hpd hin (hP.below hV hpb hb) (by omega) (by omega))
 have hcom:∀ V,Mo (· = mvb) w V→Calls Tryz.prog 197 #[.pointer (some ⟨pb,0,none⟩),.int .u32 (((pd.around&&&Pg.dom ps own dest)|||pd.wth:Nat):Int)] V fun e w'=>e = .returned (.int .u32 (Pg.complete ps ((pd.around&&&Pg.dom ps own dest)|||pd.wth)))∧Below V.heap.size V w':=fun V hV=>by
  have:=hV.size
  exact sg V pb b cap ps _ (Pg.yu (Pg.rV (hP.sm dest pd hpd).ha) (hP.sm dest pd hpd).hw) hin2 hpts (hP.mo hV hpb hb n1 n2) (by omega) (by omega) (by omega) (hV.kpT hg hgm hT)
 have hle:Pg.ja ps own dest=if Pg.isH pd.kind then .hist (pd.around&&&Pg.dom ps own dest) dest else .all (Pg.complete ps ((pd.around&&&Pg.dom ps own dest)|||pd.wth)):=by unfold Pg.ja;rw [hpd]
 obtain ⟨en,hen⟩:∃ en,Pg.ja ps own dest=en:=⟨_,rfl⟩
 rw [hen] at hle ⊢
 obtain ⟨dm,hdm⟩:∃ dm,Pg.dom ps own dest=dm:=⟨_,rfl⟩
 rw [hdm] at hdml hdom hcom hle ⊢
 have HLE:Hid _:=hle
 have hhist:=oE pd.kind
 have a1:=u32_and_nat _ _ (hP.sm dest pd hpd).ha hdml
 have a2:=u32_or_nat _ _ (Pg.rV (b:=dm) (hP.sm dest pd hpd).ha) (hP.sm dest pd hpd).hw
 clear hle hen hdm hin hin2
 go_enter Tryz.func162,Tryz.ntmps162
 go_wp2_with fail
 have c3:=(Boxed.new w 137 (.pointer (some ⟨pb,0,none⟩))).alloc (.cells #[.int .i64 dest] 3)
 have c5:=Boxed.new (w.alloc (.cells #[.pointer (some ⟨pb,0,none⟩)] 137)) 3 (.int .i64 dest)
 simp only [World.size_alloc] at c5
 have hB1:=((Below.refl w.heap.size w).alloc (Nat.le_refl _) (.cells #[.pointer (some ⟨pb,0,none⟩)] 137)).alloc (by simp) (.cells #[.int .i64 dest] 3)
 obtain ⟨W1,hW1⟩:∃ W,(w.alloc (.cells #[.pointer (some ⟨pb,0,none⟩)] 137)).alloc (.cells #[.int .i64 dest] 3)=W:=⟨_,rfl⟩
 rw [hW1] at c3 c5 hB1 ⊢
 clear hW1
 have hmv1:=(hB1.block mvb hmvl0).trans hmv
 have hmvl:mvb<W1.heap.size:=(Array.getElem?_eq_some_iff.1 hmv1).1
 have hm0:W1.cell? ⟨mvb,0,none⟩=some (.int .i64 own):=by rw [cell_of_row W1 _ _ _ _ _ hmv1];rfl
 have hm1:W1.drew.cell? ⟨mvb,1,none⟩=some (.int .u32 lv):=by show W1.cell? _=_;rw [cell_of_row W1 _ _ _ _ _ hmv1];rfl
 have hf1:W1.drew.frozen? ⟨mvb,1,none⟩=false:=by show W1.frozen? _=_;simp [World.frozen?,hmv1]
 have hdom:∀ V,Below W1.heap.size W1 V→_:=fun V hV=>hdom V (hB1.trans (hV.mono hB1.size))
 refine wp_region_held_drew (S:=(fun V=>V.cell? ⟨w.heap.size,0,none⟩=some (.pointer (some ⟨pb,0,none⟩))∧V.cell? ⟨w.heap.size+1,0,none⟩=some (.int .i64 dest)∧V.cell? ⟨mvb,0,none⟩=some (.int .i64 own))) (by kernel_rfl) ⟨c3.cell,c5.cell,hm0⟩ (fun hHeld => ?_)
 refine tH 0 (.pointer (some ⟨mvb,0,none⟩)) rfl hHeld ?_
 refine tH 1 (.pointer (some ⟨pb,0,none⟩)) rfl hHeld ?_
 refine tH 2 (.pointer (some ⟨mvb,0,none⟩)) rfl hHeld ?_
 refine tH 3 (.pointer (some ⟨mvb,0,none⟩)) rfl hHeld ?_
 refine tH 4 (.pointer (some ⟨mvb,0,none⟩)) rfl hHeld ?_
 refine tH 5 (.int .i64 own) rfl hHeld ?_
 refine tH 6 (.int .i64 dest) rfl hHeld ?_
 refine zH 7 rfl fun K hK => ?_
 go_simp
 refine (hdom _ (Below.refl _ W1).drew).mono ?_
 rintro e w9 ⟨rfl,hB9⟩
 refine hK.out _ _ ⟨((hB9).cell (p:=⟨w.heap.size,0,none⟩) c3.lt).trans hHeld.1,((hB9).cell (p:=⟨w.heap.size+1,0,none⟩) c5.lt).trans hHeld.2.1,((hB9).cell (p:=⟨mvb,0,none⟩) hmvl).trans hHeld.2.2⟩ (fun hHeld => ?_)
 clear hK K
 have hm1:w9.cell? ⟨mvb,1,none⟩=_:=(hB9.cell (p:=⟨mvb,1,none⟩) hmvl).trans hm1
 have hf1:w9.frozen? ⟨mvb,1,none⟩=_:=(hB9.frozen (p:=⟨mvb,1,none⟩) hmvl).trans hf1
 refine tH 8 (.pointer (some ⟨mvb,0,none⟩)) rfl hHeld ?_
 refine tH 9 (.pointer (some ⟨mvb,1,none⟩)) rfl hHeld ?_
 refine zH 10 rfl fun K hK => ?_
 go_simp
 refine hK.out _ _ (by
  have e:∀ (a:Addr),a≠⟨mvb,1,none⟩→∀ v,(w9.setCell ⟨mvb,1,none⟩ v).cell? a=w9.cell? a:=fun a ha v=>au (fun h=>ha h.symm)
  (try dsimp only at hHeld);(try dsimp only)
  rw [e _ (by intro h;injection h with h1 h2;omega),e _ (by intro h;injection h with h1 h2;omega),e _ (by intro h;injection h with h1 h2;omega)]
  exact hHeld) (fun hHeld => ?_)
 clear hK K hHeld
 refine wpAnyH_done (by kernel_rfl) ?_ _
 have hB9:Below W1.heap.size W1 w9:=(Below.refl _ W1).drew.trans hB9
 have hBw9:Below w.heap.size w w9:=hB1.trans (hB9.mono hB1.size)
 have hM2:Mo (· = mvb) w (w9.setCell ⟨mvb,1,none⟩ (.int .u32 dm)):=(aq hBw9).set ⟨mvb,1,none⟩ _ rfl
 have hmv2:=heap_setCell_same w9 mvb 1 _ _ (.int .u32 dm) ((hB9.block mvb hmvl).trans hmv1)
 have hmv2:(w9.setCell ⟨mvb,1,none⟩ (.int .u32 dm)).heap[mvb]?=some (.cells #[.int .i64 own,.int .u32 dm,av,fv] 319 (0,0)):=hmv2
 have c3:=bP (aB c3 hB9 c3.lt) (p:=⟨mvb,1,none⟩) (by simp;omega) (.int .u32 dm)
 have c5:=bP (aB c5 hB9 c5.lt) (p:=⟨mvb,1,none⟩) (by simp;omega) (.int .u32 dm)
 obtain ⟨W2,hW2⟩:∃ W,w9.setCell ⟨mvb,1,none⟩ (.int .u32 dm)=W:=⟨_,rfl⟩
 rw [hW2] at hM2 hmv2 c3 c5 ⊢
 clear hW2 hHeld hm0 hm1 hf1 hBw9 hB9 hB1 hmv1 hdom hmvl
 have hP2:=hP.mo hM2 hpb hb n1 n2
 have hs2:=hM2.size
 go_wp2_with fail
 have hkS:∀ v:Value,(fun V=>V.cell? ⟨w.heap.size,0,none⟩=some (.pointer (some ⟨pb,0,none⟩))∧V.cell? ⟨pb,0,none⟩=some (.slice (some ⟨b,0,none⟩) ps.length cap)∧V.cell? ⟨w.heap.size+1,0,none⟩=some (.int .i64 dest)) ((W2.alloc (.cells #[v] 307)).drew):=fun v=>by
  have hBa:Below W2.heap.size W2 (W2.alloc (.cells #[v] 307)).drew:=((Below.refl _ W2).alloc (Nat.le_refl _) _).drew
  exact ⟨(hBa.cell (p:=⟨w.heap.size,0,none⟩) c3.lt).trans c3.cell,(hBa.cell (p:=⟨pb,0,none⟩) (show pb<W2.heap.size by omega)).trans hP2.row,(hBa.cell (p:=⟨w.heap.size+1,0,none⟩) c5.lt).trans c5.cell⟩
 refine wp_region_held_drew (S:=(fun V=>V.cell? ⟨w.heap.size,0,none⟩=some (.pointer (some ⟨pb,0,none⟩))∧V.cell? ⟨pb,0,none⟩=some (.slice (some ⟨b,0,none⟩) ps.length cap)∧V.cell? ⟨w.heap.size+1,0,none⟩=some (.int .i64 dest))) (by kernel_rfl) ⟨c3.cell,hP2.row,c5.cell⟩ (fun hHeld => ?_)
 refine tH 0 (.pointer (some ⟨pb,0,none⟩)) rfl hHeld ?_
 refine tH 1 (.pointer (some ⟨pb,0,none⟩)) rfl hHeld ?_
 refine tH 2 (.pointer (some ⟨pb,0,none⟩)) rfl hHeld ?_
 refine tH 3 (.slice (some ⟨b,0,none⟩) ps.length cap) rfl hHeld ?_
 refine tH 4 (.int .i64 dest) rfl hHeld ?_
 refine tH 5 (.pointer (some ⟨b,dest*10,none⟩)) rfl hHeld ?_
 refine zH 6 rfl fun K hK => ?_
 go_simp
 refine hK.out _ _ (hkS _) (fun hHeld => ?_)
 clear hK K
 refine zH 7 rfl fun K hK => ?_
 go_simp
 refine hK.out _ _ (hkS _) (fun hHeld => ?_)
 clear hK K hHeld
 refine wpAnyH_done (by kernel_rfl) ?_ _
 have c6:Boxed (W2.alloc (.cells #[.pointer (some ⟨b,dest*10,none⟩)] 307)).drew W2.heap.size 307 (.pointer (some ⟨b,dest*10,none⟩)):=Boxed.new W2 307 (.pointer (some ⟨b,dest*10,none⟩))
 have hB3:Below W2.heap.size W2 (W2.alloc (.cells #[.pointer (some ⟨b,dest*10,none⟩)] 307)).drew:=((Below.refl _ W2).alloc (Nat.le_refl _) _).drew
 have c3:=aB c3 hB3 c3.lt
 have c5:=aB c5 hB3 c5.lt
 have hM3:Mo (· = mvb) w (W2.alloc (.cells #[.pointer (some ⟨b,dest*10,none⟩)] 307)).drew:=hM2.trans (aq hB3)
 have hmv3:=(hB3.block mvb (by omega)).trans hmv2
 obtain ⟨B6,hB6⟩:∃ B,W2.heap.size=B:=⟨_,rfl⟩
 obtain ⟨W3,hW3⟩:∃ W,(W2.alloc (.cells #[.pointer (some ⟨b,dest*10,none⟩)] 307)).drew=W:=⟨_,rfl⟩
 rw [hW3] at c3 c5 c6 hM3 hmv3 ⊢
 rw [hB6] at c6 ⊢
 have hB6w:w.heap.size≤B6:=by omega
 clear hW3 hB6 hB3 hkS hP2 hmv2 hM2 hs2
 have hP3:=hP.mo hM3 hpb hb n1 n2
 have hs3:=hM3.size
 have hm3:W3.cell? ⟨mvb,1,none⟩=some (.int .u32 dm):=by rw [cell_of_row W3 _ _ _ _ _ hmv3];rfl
 go_wp2_with fail
 have hkS:∀ v:Value,(fun V=>V.cell? ⟨B6,0,none⟩=some (.pointer (some ⟨b,dest*10,none⟩))∧V.cell? ⟨b,dest*10+6,none⟩=some (.int .u32 pd.around)∧V.cell? ⟨mvb,1,none⟩=some (.int .u32 dm)) ((W3.alloc (.cells #[v] 139)).drew):=fun v=>by
  have hBa:Below W3.heap.size W3 (W3.alloc (.cells #[v] 139)).drew:=((Below.refl _ W3).alloc (Nat.le_refl _) _).drew
  exact ⟨(hBa.cell (p:=⟨B6,0,none⟩) c6.lt).trans c6.cell,(hBa.cell (p:=⟨b,dest*10+6,none⟩) (show b<W3.heap.size by omega)).trans (hP3.at' dest pd hpd).c6,(hBa.cell (p:=⟨mvb,1,none⟩) (show mvb<W3.heap.size by omega)).trans hm3⟩
 refine wp_region_held_drew (S:=(fun V=>V.cell? ⟨B6,0,none⟩=some (.pointer (some ⟨b,dest*10,none⟩))∧V.cell? ⟨b,dest*10+6,none⟩=some (.int .u32 pd.around)∧V.cell? ⟨mvb,1,none⟩=some (.int .u32 dm))) (by kernel_rfl) ⟨c6.cell,(hP3.at' dest pd hpd).c6,hm3⟩ (fun hHeld => ?_)
 refine tH 0 (.pointer (some ⟨b,dest*10,none⟩)) rfl hHeld ?_
 refine tH 1 (.pointer (some ⟨b,dest*10,none⟩)) rfl hHeld ?_
 refine tH 2 (.pointer (some ⟨b,dest*10+6,none⟩)) rfl hHeld ?_
 refine tH 3 (.int .u32 pd.around) rfl hHeld ?_
 refine tH 4 (.pointer (some ⟨mvb,0,none⟩)) rfl hHeld ?_
 refine tH 5 (.pointer (some ⟨mvb,0,none⟩)) rfl hHeld ?_
 refine tH 6 (.pointer (some ⟨mvb,1,none⟩)) rfl hHeld ?_
 refine tH 7 (.int .u32 dm) rfl hHeld ?_
 refine tH 8 (.int .u32 ((pd.around&&&dm:Nat):Int)) rfl hHeld ?_
 refine zH 9 rfl fun K hK => ?_
 go_simp
 refine hK.out _ _ (hkS _) (fun hHeld => ?_)
 clear hK K
 refine zH 10 rfl fun K hK => ?_
 go_simp
 refine hK.out _ _ (hkS _) (fun hHeld => ?_)
 clear hK K hHeld
 refine wpAnyH_done (by kernel_rfl) ?_ _
 obtain ⟨pa,hpa⟩:∃ pa,pd.around&&&dm=pa:=⟨_,rfl⟩
 rw [hpa] at a1 a2 hcom HLE ⊢
 have hpal:pa<4294967296:=by rw [← hpa];exact Pg.rV (hP.sm dest pd hpd).ha
 clear hpa
 have c7:Boxed (W3.alloc (.cells #[.int .u32 pa] 139)).drew W3.heap.size 139 (.int .u32 pa):=Boxed.new W3 139 (.int .u32 pa)
 have hB4:Below W3.heap.size W3 (W3.alloc (.cells #[.int .u32 pa] 139)).drew:=((Below.refl _ W3).alloc (Nat.le_refl _) _).drew
 have c3:=aB c3 hB4 c3.lt
 have c5:=aB c5 hB4 c5.lt
 have c6:=aB c6 hB4 c6.lt
 have hM4:Mo (· = mvb) w (W3.alloc (.cells #[.int .u32 pa] 139)).drew:=hM3.trans (aq hB4)
 have hmv4:=(hB4.block mvb (by omega)).trans hmv3
 obtain ⟨B7,hB7⟩:∃ B,W3.heap.size=B:=⟨_,rfl⟩
 obtain ⟨W4,hW4⟩:∃ W,(W3.alloc (.cells #[.int .u32 pa] 139)).drew=W:=⟨_,rfl⟩
 rw [hW4] at c3 c5 c6 c7 hM4 hmv4 ⊢
 rw [hB7] at c7 ⊢
 have hB7w:w.heap.size≤B7:=by omega
 clear hW4 hB7 hB4 hkS hP3 hmv3 hM3 hs3 hm3
 have hP4:=hP.mo hM4 hpb hb n1 n2
 have hs4:=hM4.size
 have d6:=c6.cell
 have d0:=(hP4.at' dest pd hpd).c0
 have e3:W4.cell? ⟨mvb,3,none⟩=some fv:=by rw [cell_of_row W4 _ _ _ _ _ hmv4];rfl
 have f3:W4.frozen? ⟨mvb,3,none⟩=false:=by simp [World.frozen?,hmv4]
 obtain ⟨hb0,hh⟩:∃ hb0,(decide (pd.kind=3)||decide (pd.kind=4))=hb0:=⟨_,rfl⟩
 have HLE:Hid (en=if hb0 then .hist pa dest else .all (Pg.complete ps (pa|||pd.wth))):=by have:=HLE.out;unfold Pg.isH at this;rw [hh] at this;exact this
 rw [hh] at hhist
 have hnh:hb0=false:=hh.symm.trans hnh
 clear hh
 cases hb0
 ·have HLE:Hid (en = .all (Pg.complete ps (pa|||pd.wth))):=HLE.out
  obtain ⟨z,hz⟩:∃ z,Pg.complete ps (pa|||pd.wth)=z:=⟨_,rfl⟩
  rw [hz] at HLE hcom
  clear hz
  have hcomA:∀ V,Below W4.heap.size W4 V→_:=fun V hV=>hcom V (hM4.trans (aq hV))
  have hBd:=(Below.refl W4.heap.size W4).drew
  have hBd1:∀ v:Value,Below W4.heap.size W4 (W4.alloc (.cells #[v] 139)).drew:=fun v=>((Below.refl _ W4).alloc (Nat.le_refl _) _).drew
  go_upto_region 6 with (go_at_call 156;refine (hhist _).mono ?_;rintro e w9 ⟨rfl,hw9⟩;rw [hw9];clear hw9 w9)
  go_cut [8] from 9 (fun s8 V=>∃ B8,s8 = .pointer (some ⟨B8,0,none⟩)∧Boxed V B8 139 (.int .u32 z)∧Below W4.heap.size W4 V)
  case first =>
   have hkB:∀ V:World,Below W4.heap.size W4 V→(fun V=>V.cell? ⟨w.heap.size,0,none⟩=some (.pointer (some ⟨pb,0,none⟩))∧V.cell? ⟨B7,0,none⟩=some (.int .u32 pa)∧V.cell? ⟨B6,0,none⟩=some (.pointer (some ⟨b,dest*10,none⟩))∧V.cell? ⟨b,dest*10+7,none⟩=some (.int .u32 pd.wth)) V:=fun V hBa=>⟨(hBa.cell (p:=⟨w.heap.size,0,none⟩) c3.lt).trans c3.cell,(hBa.cell (p:=⟨B7,0,none⟩) c7.lt).trans c7.cell,(hBa.cell (p:=⟨B6,0,none⟩) c6.lt).trans c6.cell,(hBa.cell (p:=⟨b,dest*10+7,none⟩) (show b<W4.heap.size by omega)).trans (hP4.at' dest pd hpd).c7⟩
   refine wp_region_held_drew (S:=(fun V=>V.cell? ⟨w.heap.size,0,none⟩=some (.pointer (some ⟨pb,0,none⟩))∧V.cell? ⟨B7,0,none⟩=some (.int .u32 pa)∧V.cell? ⟨B6,0,none⟩=some (.pointer (some ⟨b,dest*10,none⟩))∧V.cell? ⟨b,dest*10+7,none⟩=some (.int .u32 pd.wth))) (by kernel_rfl) ⟨c3.cell,c7.cell,c6.cell,(hP4.at' dest pd hpd).c7⟩ (fun hHeld => ?_)
   refine tH 0 (.pointer (some ⟨pb,0,none⟩)) rfl hHeld ?_
   refine tH 1 (.int .u32 pa) rfl hHeld ?_
   refine tH 2 (.pointer (some ⟨b,dest*10,none⟩)) rfl hHeld ?_
   refine tH 3 (.pointer (some ⟨b,dest*10,none⟩)) rfl hHeld ?_
   refine tH 4 (.pointer (some ⟨b,dest*10+7,none⟩)) rfl hHeld ?_
   refine tH 5 (.int .u32 pd.wth) rfl hHeld ?_
   refine tH 6 (.int .u32 ((pa|||pd.wth:Nat):Int)) rfl hHeld ?_
   refine yH [7,8] ?_
   refine AllReadyH.cons rfl (fun K hK => ?rg7) (AllReadyH.cons rfl (fun K hK => ?rg8) AllReadyH.nil)
   case' rg7 =>
    go_simp
    refine (hcomA _ (by first | exact hBd | exact hBd1 _)).mono ?_
    rintro e w9 ⟨rfl,hB9x⟩
    have hB9:Below W4.heap.size W4 w9:=(by first | exact hBd.trans hB9x | exact (hBd1 _).trans (hB9x.mono (by simp [World.drew])))
    refine hK.out _ _ (hkB w9 hB9) (fun hHeld => ?_)
    clear hK K
    refine zH 8 rfl fun K hK => ?_
    go_simp
    refine hK.out _ _ (hkB _ (by first | exact hBd1 _ | exact hB9.alloc hB9.size _)) (fun hHeld => ?_)
    clear hK K
    refine zH 9 rfl fun K hK => ?_
    go_simp
    refine hK.out _ _ (hkB _ (hB9.alloc hB9.size _)) (fun hHeld => ?_)
    clear hK K hHeld
    refine wpAnyH_done (by kernel_rfl) ?_ _
   case' rg8 =>
    go_simp
    refine hK.out _ _ (hkB _ (by first | exact hBd1 _ | exact hB9.alloc hB9.size _)) (fun hHeld => ?_)
    clear hK K
    refine zH 7 rfl fun K hK => ?_
    go_simp
    refine (hcomA _ (by first | exact hBd | exact hBd1 _)).mono ?_
    rintro e w9 ⟨rfl,hB9x⟩
    have hB9:Below W4.heap.size W4 w9:=(by first | exact hBd.trans hB9x | exact (hBd1 _).trans (hB9x.mono (by simp [World.drew])))
    refine hK.out _ _ (hkB w9 hB9) (fun hHeld => ?_)
    clear hK K
    refine zH 9 rfl fun K hK => ?_
    have hb8:=aB (show Boxed (W4.alloc (.cells #[.int .u32 0] 139)).drew W4.heap.size 139 (.int .u32 0) from Boxed.new W4 _ _) hB9x (by show W4.heap.size<(W4.alloc _).heap.size;simp)
    have g8:=hb8.cell
    have g9:=hb8.frozen
    go_simp
    refine hK.out _ _ (hkB _ (hB9.setCell (p:=⟨W4.heap.size,0,none⟩) (Nat.le_refl _) _)) (fun hHeld => ?_)
    clear hK K hHeld
    refine wpAnyH_done (by kernel_rfl) ?_ _
   all_goals
    go_wp2_with fail
    go_meet
   case rel=>exact ⟨_,rfl,hb8.set _,hB9.setCell (p:=⟨W4.heap.size,0,none⟩) (Nat.le_refl _) _⟩
   case rel=>exact ⟨_,rfl,Boxed.new _ _ _,hB9.alloc hB9.size _⟩
  case rest =>
   obtain ⟨B8,rfl,c8,hB5⟩:=hcut
   have hmv5:=(hB5.block mvb (by omega)).trans hmv4
   have hM5:=hM4.trans (aq hB5)
   have e3:wc.cell? ⟨mvb,3,none⟩=some fv:=by rw [cell_of_row wc _ _ _ _ _ hmv5];rfl
   have f3:wc.frozen? ⟨mvb,3,none⟩=false:=by simp [World.frozen?,hmv5]
   have hst:=tg (P:=Tryz.prog) e3 f3
   have h8:B8≠mvb:=by
    intro h
    subst h
    rw [show wc.heap[B8]?=_ from c8] at hmv5
    simp at hmv5
   go_wp2_with fail
   go_end0
   refine ⟨rfl,hM5.set ⟨mvb,3,none⟩ _ rfl,_,heap_setCell_same wc mvb 3 _ _ _ hmv5,?_⟩
   rw [HLE.out]
   exact ⟨B8,rfl,bP c8 (p:=⟨mvb,3,none⟩) h8 _⟩
 ·exact absurd hnh (by decide)
end
end Go.Proofs.YtegmoddppafkfaaGreatDoor
