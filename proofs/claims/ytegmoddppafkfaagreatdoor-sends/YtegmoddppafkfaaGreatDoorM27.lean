import Derived.Test.YtegmoddppafkfaaGreatDoorM00
import Derived.Test.YtegmoddppafkfaaGreatDoorM26
import Derived.Defers
import Derived.Recover
import Derived.Stop.Asserts
set_option maxRecDepth 100000
set_option maxHeartbeats 8000000
namespace Go.Proofs.YtegmoddppafkfaaGreatDoor
section
open Go.RowKit
theorem Tryz.D4 (a:Value) (w:World):(method 599 435 (.agg #[a]) "Names").run Tryz.prog w = .ok (348,.agg #[a]) w:=by kernel_rfl
theorem Tryz.D3 (a:Value) (w:World):(method 599 333 (.agg #[a]) "Names").run Tryz.prog w = .ok (348,.agg #[a]) w:=by kernel_rfl
theorem Tryz.D5 (a b:Value) (w:World):(method 599 329 (.agg #[a, b]) "Names").run Tryz.prog w = .ok (348,.agg #[a]) w:=by kernel_rfl
theorem Tryz.D2 (a b c:Value) (w:World):(method 599 331 (.agg #[a,b, c]) "Names").run Tryz.prog w = .ok (354,.agg #[a,b,c]) w:=by kernel_rfl
theorem zj (x:Ref.Act):(bp x = .iface 435 (.agg #[.string x.event])∧Pro.ie x=[x.event])∨(bp x = .iface 333 (.agg #[.string x.id])∧Pro.ie x=[x.id])∨(bp x = .iface 329 (.agg #[.string x.event,.int .u64 x.delay])∧Pro.ie x=[x.event])∨(bp x = .iface 331 (.agg #[.string x.event,.int .u64 x.delay,.string x.id])∧Pro.ie x=[x.event,x.id]):=by
 unfold bp Pro.ie
 cases h1:(x.how.toList == Ref.eh)
 ·cases h2:(x.how.toList == Ref.eG)
  ·simp only [Bool.false_eq_true,if_false]
   by_cases h3:x.id.size=0
   ·rw [if_pos h3,if_pos h3];exact .inr (.inr (.inl ⟨rfl,rfl⟩))
   ·rw [if_neg h3,if_neg h3];exact .inr (.inr (.inr ⟨rfl,rfl⟩))
  ·simp only [Bool.false_eq_true,if_false,if_true]
   exact .inr (.inl ⟨by first | rfl | trivial,by first | rfl | trivial⟩)
 ·simp only [if_true]
  exact .inl ⟨by first | rfl | trivial,by first | rfl | trivial⟩
def eH (tm:Bool) (num:Int) (A:List Ref.Act) (w:World) (e:Ending) (w':World):Prop:=if tm&&Ref.dH A then aY 4 num w e w' else e = .returned (.tuple #[])∧Below w.heap.size w w'
theorem mD (db:Nat) (num dep:Int) (tm:Bool) (A:List Ref.Act) (a:Option Addr) (n c:Nat) (w:World) (hd:w.cell? ⟨db,4,none⟩=some (.bool tm)) (hA:w.ownsRow 0 324 1 (.slice a n c) A.length (A.map bp)) (hS:∀ x∈A,Pro.Shape x) (hl:A.length≤100000) :
  Calls Tryz.prog 366 #[.pointer (some ⟨db,0,none⟩),.agg #[.int .i64 num,.int .i64 dep],.slice a n c] w (eH tm num A w):=by
 have hdl:=World.block_lt_of_cell? _ _ hd
 have hn:n=A.length:=by
  rcases hA.2 with ⟨h,h0⟩ | ⟨g,cap,cur,h,_⟩
  ·simp at h;rw [h0];exact h.2.1
  ·simp at h;exact h.2.1
 subst hn
 have HC:Hid (∀ k (hk:k<A.length),∃ ab,a=some ⟨ab,0,none⟩∧w.cell? ⟨ab,k,none⟩=some (bp A[k])∧A.length≤c):=fun k hk=>by
  rcases hA.2 with ⟨_,h0⟩ | ⟨g,cap,cur,h,_,hg,hle,_,_,h4⟩
  ·omega
  ·simp at h
   refine ⟨g,h.1,?_,by rw [h.2];exact hle⟩
   rw [cell_of_row w g k _ _ _ hg]
   have h5:(cur.toList.take (A.length*1))[k]?=(A.map bp)[k]?:=by rw [h4]
   rw [List.getElem?_take,if_pos (by omega)] at h5
   rw [← Array.getElem?_toList,h5]
   simp [List.getElem?_eq_getElem hk]
 have HSh:Hid _:=hS
 clear hA hS
 go_enter Tryz.func366,Tryz.ntmps366
 go_wp2
 go_loopg [10] A.length (fun q i wr=>∃ k:Nat,q=A.length-k∧k≤A.length∧i = .int .i64 k∧(tm&&Ref.dH (A.take k))=false∧Below w.heap.size w wr∧wr.heap[w.heap.size]?=some (.cells #[.int .i64 num,.int .i64 dep] 286 (0,0)))
 case atStart=>exact ⟨0,rfl,Nat.zero_le _,rfl,by cases tm <;> rfl,(Below.refl _ _).alloc (Nat.le_refl _) _,heap_alloc_new _ _⟩
 case round =>
  obtain ⟨k,hq,hk,rfl,hno,hbr,hbx⟩:=hrel
  have hbs:=hbr.size
  have hlw:=(Array.getElem?_eq_some_iff.1 hbx).1
  by_cases hkn:k<A.length
  ·obtain ⟨ab,ha,ck,hcc⟩:=HC.out k hkn
   subst ha
   have hab:=World.block_lt_of_cell? _ _ ck
   obtain ⟨x,hx⟩:∃ x,x=A[k]:=⟨_,rfl⟩
   have cr:wr.cell? ⟨ab,k,none⟩=some (bp x):=by rw [hx];exact (World.cell?_of_block (w:=w) (hbr.block ab hab)).trans ck
   have b0:wr.cell? ⟨w.heap.size,0,none⟩=some (.int .i64 num):=by rw [cell_of_row wr _ _ _ _ _ hbx];rfl
   have b1:wr.cell? ⟨w.heap.size,1,none⟩=some (.int .i64 dep):=by rw [cell_of_row wr _ _ _ _ _ hbx];rfl
   have HN:Hid (Ref.dH (A.take (k+1))=(Ref.dH (A.take k)||Pro.fh (Pro.ie x))):=by
    unfold Hid Ref.dH
    rw [List.take_add_one,List.getElem?_eq_getElem hkn,List.any_append,← hx,Pro.xP (HSh.out x (by rw [hx];exact List.getElem_mem hkn))]
    simp
   have HT:Hid (Ref.dH (A.take (k+1))=true→Ref.dH A=true):=by
    intro h
    unfold Ref.dH at h ⊢
    rw [List.any_eq_true] at h ⊢
    obtain ⟨y,hy,hy2⟩:=h
    exact ⟨y,List.mem_of_mem_take hy,hy2⟩
   have HNo:Hid _:=hno
   have HD:Hid (∀ w2,Below wr.heap.size wr w2→w2.cell? ⟨db,4,none⟩=some (.bool tm)∧w2.heap[w.heap.size]?=some (.cells #[.int .i64 num,.int .i64 dep] 286 (0,0))∧w2.cell? ⟨w.heap.size,0,none⟩=some (.int .i64 num)∧w2.cell? ⟨w.heap.size,1,none⟩=some (.int .i64 dep)∧Below w.heap.size w w2):=by
    intro w2 hb2
    have hx2:=(hb2.block _ hlw).trans hbx
    have hb3:=hbr.trans (hb2.mono hbs)
    exact ⟨(World.cell?_of_block (w:=w) (hb3.block db hdl)).trans hd,hx2,by rw [cell_of_row w2 _ _ _ _ _ hx2];rfl,by rw [cell_of_row w2 _ _ _ _ _ hx2];rfl,hb3⟩
   clear hno hx ck
   rcases zj x with ⟨hv,hnm⟩ | ⟨hv,hnm⟩ | ⟨hv,hnm⟩ | ⟨hv,hnm⟩
   ·rw [hv] at cr
    rw [hnm] at HN
    clear hv hnm
    have hmN:=Tryz.D4
    go_upto_region 4 with fail
    refine wp_region_any (by kernel_rfl) ?_
    change wpAny _ _ _ _ _ _ _ (World.drew _)
    refine tA 0 (.pointer (some ⟨db,0,none⟩)) rfl ?_
    refine tA 2 (.iface 435 (.agg #[.string x.event])) rfl ?_
    refine yA [1,3] ?_
    refine AllReady.cons rfl (fun K hK => ?_) (AllReady.cons rfl (fun K hK => ?_) AllReady.nil)
    ·go_simp
     refine hK _ _ ?_
     clear hK K
     refine zA 3 rfl fun K hK => ?_
     go_simp
     refine Calls.mono (eQ x.event _) ?_
     rintro e w2 ⟨nb,c2,rfl,hown,hb2⟩
     have hb2':Below wr.heap.size wr w2:=((Below.refl _ _).drew).trans hb2
     obtain ⟨e4,hx2,e0,e1,hbw2⟩:=HD.out w2 hb2'
     obtain ⟨hst,hnbl,_⟩:=fK (l:=[x.event]) hown
     dsimp only
     refine hK _ _ ?_
     clear hK K
     refine zA 4 rfl fun K hK => ?_
     go_simp
     have hq4:=aU db num dep tm [x.event] nb c2 w2 e4 hst hnbl (by simp)
     refine Calls.mono hq4 ?_
     rintro e w3 h3
     unfold dJ at h3
     cases hr:(tm&&Pro.fh [x.event]) with
     | true =>
      rw [hr,if_pos rfl] at h3
      have HM:Hid ((tm&&Ref.dH A)=true):=by
       rw [Bool.and_eq_true] at hr
       unfold Hid
       rw [hr.1,HT.out (by rw [HN.out,hr.2];simp)];rfl
      obtain ⟨hb,b,h5,h6,rfl⟩:=h3
      dsimp only
      refine ⟨rfl,?_⟩
      unfold eH
      rw [if_pos HM.out]
      exact ⟨hbw2.trans (hb.mono hbw2.size),b,Nat.le_trans hbw2.size h5,h6,rfl⟩
     | false =>
      rw [hr,if_neg (by simp)] at h3
      obtain ⟨rfl,hb3⟩:=h3
      have HM:Hid ((tm&&Ref.dH (A.take (k+1)))=false):=by
       unfold Hid
       have h1:=HNo.out
       rw [HN.out]
       cases tm with
       | false=>rfl
       | true=>simp only [Bool.true_and] at h1 hr ⊢;rw [h1,hr];rfl
      have hbw3:=hbw2.trans (hb3.mono hbw2.size)
      have hbx3:=(hb3.block _ (Array.getElem?_eq_some_iff.1 hx2).1).trans hx2
      clear hr
      dsimp only
      refine hK _ _ ?_
      clear hK K
      refine wpAny_done (by kernel_rfl) ?_ _
      go_wp2
      go_roundg (A.length-(k+1))
      case measure=>omega
      case rel=>exact ⟨k+1,rfl,by omega,by go_num,HM.out,hbw3,hbx3⟩
    ·go_simp
     refine Calls.mono (eQ x.event _) ?_
     rintro e w2 ⟨nb,c2,rfl,hown,hb2⟩
     have hb2':Below wr.heap.size wr w2:=((Below.refl _ _).drew).trans hb2
     obtain ⟨e4,hx2,e0,e1,hbw2⟩:=HD.out w2 hb2'
     obtain ⟨hst,hnbl,_⟩:=fK (l:=[x.event]) hown
     dsimp only
     refine hK _ _ ?_
     clear hK K
     refine zA 1 rfl fun K hK => ?_
     go_simp
     refine hK _ _ ?_
     clear hK K
     refine zA 4 rfl fun K hK => ?_
     go_simp
     have hq4:=aU db num dep tm [x.event] nb c2 w2 e4 hst hnbl (by simp)
     refine Calls.mono hq4 ?_
     rintro e w3 h3
     unfold dJ at h3
     cases hr:(tm&&Pro.fh [x.event]) with
     | true =>
      rw [hr,if_pos rfl] at h3
      have HM:Hid ((tm&&Ref.dH A)=true):=by
       rw [Bool.and_eq_true] at hr
       unfold Hid
       rw [hr.1,HT.out (by rw [HN.out,hr.2];simp)];rfl
      obtain ⟨hb,b,h5,h6,rfl⟩:=h3
      dsimp only
      refine ⟨rfl,?_⟩
      unfold eH
      rw [if_pos HM.out]
      exact ⟨hbw2.trans (hb.mono hbw2.size),b,Nat.le_trans hbw2.size h5,h6,rfl⟩
     | false =>
      rw [hr,if_neg (by simp)] at h3
      obtain ⟨rfl,hb3⟩:=h3
      have HM:Hid ((tm&&Ref.dH (A.take (k+1)))=false):=by
       unfold Hid
       have h1:=HNo.out
       rw [HN.out]
       cases tm with
       | false=>rfl
       | true=>simp only [Bool.true_and] at h1 hr ⊢;rw [h1,hr];rfl
      have hbw3:=hbw2.trans (hb3.mono hbw2.size)
      have hbx3:=(hb3.block _ (Array.getElem?_eq_some_iff.1 hx2).1).trans hx2
      clear hr
      dsimp only
      refine hK _ _ ?_
      clear hK K
      refine wpAny_done (by kernel_rfl) ?_ _
      go_wp2
      go_roundg (A.length-(k+1))
      case measure=>omega
      case rel=>exact ⟨k+1,rfl,by omega,by go_num,HM.out,hbw3,hbx3⟩
   ·rw [hv] at cr
    rw [hnm] at HN
    clear hv hnm
    have hmN:=Tryz.D3
    go_upto_region 4 with fail
    refine wp_region_any (by kernel_rfl) ?_
    change wpAny _ _ _ _ _ _ _ (World.drew _)
    refine tA 0 (.pointer (some ⟨db,0,none⟩)) rfl ?_
    refine tA 2 (.iface 333 (.agg #[.string x.id])) rfl ?_
    refine yA [1,3] ?_
    refine AllReady.cons rfl (fun K hK => ?_) (AllReady.cons rfl (fun K hK => ?_) AllReady.nil)
    ·go_simp
     refine hK _ _ ?_
     clear hK K
     refine zA 3 rfl fun K hK => ?_
     go_simp
     refine Calls.mono (eQ x.id _) ?_
     rintro e w2 ⟨nb,c2,rfl,hown,hb2⟩
     have hb2':Below wr.heap.size wr w2:=((Below.refl _ _).drew).trans hb2
     obtain ⟨e4,hx2,e0,e1,hbw2⟩:=HD.out w2 hb2'
     obtain ⟨hst,hnbl,_⟩:=fK (l:=[x.id]) hown
     dsimp only
     refine hK _ _ ?_
     clear hK K
     refine zA 4 rfl fun K hK => ?_
     go_simp
     have hq4:=aU db num dep tm [x.id] nb c2 w2 e4 hst hnbl (by simp)
     refine Calls.mono hq4 ?_
     rintro e w3 h3
     unfold dJ at h3
     cases hr:(tm&&Pro.fh [x.id]) with
     | true =>
      rw [hr,if_pos rfl] at h3
      have HM:Hid ((tm&&Ref.dH A)=true):=by
       rw [Bool.and_eq_true] at hr
       unfold Hid
       rw [hr.1,HT.out (by rw [HN.out,hr.2];simp)];rfl
      obtain ⟨hb,b,h5,h6,rfl⟩:=h3
      dsimp only
      refine ⟨rfl,?_⟩
      unfold eH
      rw [if_pos HM.out]
      exact ⟨hbw2.trans (hb.mono hbw2.size),b,Nat.le_trans hbw2.size h5,h6,rfl⟩
     | false =>
      rw [hr,if_neg (by simp)] at h3
      obtain ⟨rfl,hb3⟩:=h3
      have HM:Hid ((tm&&Ref.dH (A.take (k+1)))=false):=by
       unfold Hid
       have h1:=HNo.out
       rw [HN.out]
       cases tm with
       | false=>rfl
       | true=>simp only [Bool.true_and] at h1 hr ⊢;rw [h1,hr];rfl
      have hbw3:=hbw2.trans (hb3.mono hbw2.size)
      have hbx3:=(hb3.block _ (Array.getElem?_eq_some_iff.1 hx2).1).trans hx2
      clear hr
      dsimp only
      refine hK _ _ ?_
      clear hK K
      refine wpAny_done (by kernel_rfl) ?_ _
      go_wp2
      go_roundg (A.length-(k+1))
      case measure=>omega
      case rel=>exact ⟨k+1,rfl,by omega,by go_num,HM.out,hbw3,hbx3⟩
    ·go_simp
     refine Calls.mono (eQ x.id _) ?_
     rintro e w2 ⟨nb,c2,rfl,hown,hb2⟩
     have hb2':Below wr.heap.size wr w2:=((Below.refl _ _).drew).trans hb2
     obtain ⟨e4,hx2,e0,e1,hbw2⟩:=HD.out w2 hb2'
     obtain ⟨hst,hnbl,_⟩:=fK (l:=[x.id]) hown
     dsimp only
     refine hK _ _ ?_
     clear hK K
     refine zA 1 rfl fun K hK => ?_
     go_simp
     refine hK _ _ ?_
     clear hK K
     refine zA 4 rfl fun K hK => ?_
     go_simp
     have hq4:=aU db num dep tm [x.id] nb c2 w2 e4 hst hnbl (by simp)
     refine Calls.mono hq4 ?_
     rintro e w3 h3
     unfold dJ at h3
     cases hr:(tm&&Pro.fh [x.id]) with
     | true =>
      rw [hr,if_pos rfl] at h3
      have HM:Hid ((tm&&Ref.dH A)=true):=by
       rw [Bool.and_eq_true] at hr
       unfold Hid
       rw [hr.1,HT.out (by rw [HN.out,hr.2];simp)];rfl
      obtain ⟨hb,b,h5,h6,rfl⟩:=h3
      dsimp only
      refine ⟨rfl,?_⟩
      unfold eH
      rw [if_pos HM.out]
      exact ⟨hbw2.trans (hb.mono hbw2.size),b,Nat.le_trans hbw2.size h5,h6,rfl⟩
     | false =>
      rw [hr,if_neg (by simp)] at h3
      obtain ⟨rfl,hb3⟩:=h3
      have HM:Hid ((tm&&Ref.dH (A.take (k+1)))=false):=by
       unfold Hid
       have h1:=HNo.out
       rw [HN.out]
       cases tm with
       | false=>rfl
       | true=>simp only [Bool.true_and] at h1 hr ⊢;rw [h1,hr];rfl
      have hbw3:=hbw2.trans (hb3.mono hbw2.size)
      have hbx3:=(hb3.block _ (Array.getElem?_eq_some_iff.1 hx2).1).trans hx2
      clear hr
      dsimp only
      refine hK _ _ ?_
      clear hK K
      refine wpAny_done (by kernel_rfl) ?_ _
      go_wp2
      go_roundg (A.length-(k+1))
      case measure=>omega
      case rel=>exact ⟨k+1,rfl,by omega,by go_num,HM.out,hbw3,hbx3⟩
   ·rw [hv] at cr
    rw [hnm] at HN
    clear hv hnm
    have hmN:=Tryz.D5
    go_upto_region 4 with fail
    refine wp_region_any (by kernel_rfl) ?_
    change wpAny _ _ _ _ _ _ _ (World.drew _)
    refine tA 0 (.pointer (some ⟨db,0,none⟩)) rfl ?_
    refine tA 2 (.iface 329 (.agg #[.string x.event,.int .u64 x.delay])) rfl ?_
    refine yA [1,3] ?_
    refine AllReady.cons rfl (fun K hK => ?_) (AllReady.cons rfl (fun K hK => ?_) AllReady.nil)
    ·go_simp
     refine hK _ _ ?_
     clear hK K
     refine zA 3 rfl fun K hK => ?_
     go_simp
     refine Calls.mono (eQ x.event _) ?_
     rintro e w2 ⟨nb,c2,rfl,hown,hb2⟩
     have hb2':Below wr.heap.size wr w2:=((Below.refl _ _).drew).trans hb2
     obtain ⟨e4,hx2,e0,e1,hbw2⟩:=HD.out w2 hb2'
     obtain ⟨hst,hnbl,_⟩:=fK (l:=[x.event]) hown
     dsimp only
     refine hK _ _ ?_
     clear hK K
     refine zA 4 rfl fun K hK => ?_
     go_simp
     have hq4:=aU db num dep tm [x.event] nb c2 w2 e4 hst hnbl (by simp)
     refine Calls.mono hq4 ?_
     rintro e w3 h3
     unfold dJ at h3
     cases hr:(tm&&Pro.fh [x.event]) with
     | true =>
      rw [hr,if_pos rfl] at h3
      have HM:Hid ((tm&&Ref.dH A)=true):=by
       rw [Bool.and_eq_true] at hr
       unfold Hid
       rw [hr.1,HT.out (by rw [HN.out,hr.2];simp)];rfl
      obtain ⟨hb,b,h5,h6,rfl⟩:=h3
      dsimp only
      refine ⟨rfl,?_⟩
      unfold eH
      rw [if_pos HM.out]
      exact ⟨hbw2.trans (hb.mono hbw2.size),b,Nat.le_trans hbw2.size h5,h6,rfl⟩
     | false =>
      rw [hr,if_neg (by simp)] at h3
      obtain ⟨rfl,hb3⟩:=h3
      have HM:Hid ((tm&&Ref.dH (A.take (k+1)))=false):=by
       unfold Hid
       have h1:=HNo.out
       rw [HN.out]
       cases tm with
       | false=>rfl
       | true=>simp only [Bool.true_and] at h1 hr ⊢;rw [h1,hr];rfl
      have hbw3:=hbw2.trans (hb3.mono hbw2.size)
      have hbx3:=(hb3.block _ (Array.getElem?_eq_some_iff.1 hx2).1).trans hx2
      clear hr
      dsimp only
      refine hK _ _ ?_
      clear hK K
      refine wpAny_done (by kernel_rfl) ?_ _
      go_wp2
      go_roundg (A.length-(k+1))
      case measure=>omega
      case rel=>exact ⟨k+1,rfl,by omega,by go_num,HM.out,hbw3,hbx3⟩
    ·go_simp
     refine Calls.mono (eQ x.event _) ?_
     rintro e w2 ⟨nb,c2,rfl,hown,hb2⟩
     have hb2':Below wr.heap.size wr w2:=((Below.refl _ _).drew).trans hb2
     obtain ⟨e4,hx2,e0,e1,hbw2⟩:=HD.out w2 hb2'
     obtain ⟨hst,hnbl,_⟩:=fK (l:=[x.event]) hown
     dsimp only
     refine hK _ _ ?_
     clear hK K
     refine zA 1 rfl fun K hK => ?_
     go_simp
     refine hK _ _ ?_
     clear hK K
     refine zA 4 rfl fun K hK => ?_
     go_simp
     have hq4:=aU db num dep tm [x.event] nb c2 w2 e4 hst hnbl (by simp)
     refine Calls.mono hq4 ?_
     rintro e w3 h3
     unfold dJ at h3
     cases hr:(tm&&Pro.fh [x.event]) with
     | true =>
      rw [hr,if_pos rfl] at h3
      have HM:Hid ((tm&&Ref.dH A)=true):=by
       rw [Bool.and_eq_true] at hr
       unfold Hid
       rw [hr.1,HT.out (by rw [HN.out,hr.2];simp)];rfl
      obtain ⟨hb,b,h5,h6,rfl⟩:=h3
      dsimp only
      refine ⟨rfl,?_⟩
      unfold eH
      rw [if_pos HM.out]
      exact ⟨hbw2.trans (hb.mono hbw2.size),b,Nat.le_trans hbw2.size h5,h6,rfl⟩
     | false =>
      rw [hr,if_neg (by simp)] at h3
      obtain ⟨rfl,hb3⟩:=h3
      have HM:Hid ((tm&&Ref.dH (A.take (k+1)))=false):=by
       unfold Hid
       have h1:=HNo.out
       rw [HN.out]
       cases tm with
       | false=>rfl
       | true=>simp only [Bool.true_and] at h1 hr ⊢;rw [h1,hr];rfl
      have hbw3:=hbw2.trans (hb3.mono hbw2.size)
      have hbx3:=(hb3.block _ (Array.getElem?_eq_some_iff.1 hx2).1).trans hx2
      clear hr
      dsimp only
      refine hK _ _ ?_
      clear hK K
      refine wpAny_done (by kernel_rfl) ?_ _
      go_wp2
      go_roundg (A.length-(k+1))
      case measure=>omega
      case rel=>exact ⟨k+1,rfl,by omega,by go_num,HM.out,hbw3,hbx3⟩
   ·rw [hv] at cr
    rw [hnm] at HN
    clear hv hnm
    have hmN:=Tryz.D2
    go_upto_region 4 with fail
    refine wp_region_any (by kernel_rfl) ?_
    change wpAny _ _ _ _ _ _ _ (World.drew _)
    refine tA 0 (.pointer (some ⟨db,0,none⟩)) rfl ?_
    refine tA 2 (.iface 331 (.agg #[.string x.event,.int .u64 x.delay,.string x.id])) rfl ?_
    refine yA [1,3] ?_
    refine AllReady.cons rfl (fun K hK => ?_) (AllReady.cons rfl (fun K hK => ?_) AllReady.nil)
    ·go_simp
     refine hK _ _ ?_
     clear hK K
     refine zA 3 rfl fun K hK => ?_
     go_simp
     refine Calls.mono (qW x.event x.id x.delay _) ?_
     rintro e w2 ⟨nb,c2,rfl,hown,hb2⟩
     have hb2':Below wr.heap.size wr w2:=((Below.refl _ _).drew).trans hb2
     obtain ⟨e4,hx2,e0,e1,hbw2⟩:=HD.out w2 hb2'
     obtain ⟨hst,hnbl,_⟩:=fK (l:=[x.event,x.id]) hown
     dsimp only
     refine hK _ _ ?_
     clear hK K
     refine zA 4 rfl fun K hK => ?_
     go_simp
     have hq4:=aU db num dep tm [x.event,x.id] nb c2 w2 e4 hst hnbl (by simp)
     refine Calls.mono hq4 ?_
     rintro e w3 h3
     unfold dJ at h3
     cases hr:(tm&&Pro.fh [x.event,x.id]) with
     | true =>
      rw [hr,if_pos rfl] at h3
      have HM:Hid ((tm&&Ref.dH A)=true):=by
       rw [Bool.and_eq_true] at hr
       unfold Hid
       rw [hr.1,HT.out (by rw [HN.out,hr.2];simp)];rfl
      obtain ⟨hb,b,h5,h6,rfl⟩:=h3
      dsimp only
      refine ⟨rfl,?_⟩
      unfold eH
      rw [if_pos HM.out]
      exact ⟨hbw2.trans (hb.mono hbw2.size),b,Nat.le_trans hbw2.size h5,h6,rfl⟩
     | false =>
      rw [hr,if_neg (by simp)] at h3
      obtain ⟨rfl,hb3⟩:=h3
      have HM:Hid ((tm&&Ref.dH (A.take (k+1)))=false):=by
       unfold Hid
       have h1:=HNo.out
       rw [HN.out]
       cases tm with
       | false=>rfl
       | true=>simp only [Bool.true_and] at h1 hr ⊢;rw [h1,hr];rfl
      have hbw3:=hbw2.trans (hb3.mono hbw2.size)
      have hbx3:=(hb3.block _ (Array.getElem?_eq_some_iff.1 hx2).1).trans hx2
      clear hr
      dsimp only
      refine hK _ _ ?_
      clear hK K
      refine wpAny_done (by kernel_rfl) ?_ _
      go_wp2
      go_roundg (A.length-(k+1))
      case measure=>omega
      case rel=>exact ⟨k+1,rfl,by omega,by go_num,HM.out,hbw3,hbx3⟩
    ·go_simp
     refine Calls.mono (qW x.event x.id x.delay _) ?_
     rintro e w2 ⟨nb,c2,rfl,hown,hb2⟩
     have hb2':Below wr.heap.size wr w2:=((Below.refl _ _).drew).trans hb2
     obtain ⟨e4,hx2,e0,e1,hbw2⟩:=HD.out w2 hb2'
     obtain ⟨hst,hnbl,_⟩:=fK (l:=[x.event,x.id]) hown
     dsimp only
     refine hK _ _ ?_
     clear hK K
     refine zA 1 rfl fun K hK => ?_
     go_simp
     refine hK _ _ ?_
     clear hK K
     refine zA 4 rfl fun K hK => ?_
     go_simp
     have hq4:=aU db num dep tm [x.event,x.id] nb c2 w2 e4 hst hnbl (by simp)
     refine Calls.mono hq4 ?_
     rintro e w3 h3
     unfold dJ at h3
     cases hr:(tm&&Pro.fh [x.event,x.id]) with
     | true =>
      rw [hr,if_pos rfl] at h3
      have HM:Hid ((tm&&Ref.dH A)=true):=by
       rw [Bool.and_eq_true] at hr
       unfold Hid
       rw [hr.1,HT.out (by rw [HN.out,hr.2];simp)];rfl
      obtain ⟨hb,b,h5,h6,rfl⟩:=h3
      dsimp only
      refine ⟨rfl,?_⟩
      unfold eH
      rw [if_pos HM.out]
      exact ⟨hbw2.trans (hb.mono hbw2.size),b,Nat.le_trans hbw2.size h5,h6,rfl⟩
     | false =>
      rw [hr,if_neg (by simp)] at h3
      obtain ⟨rfl,hb3⟩:=h3
      have HM:Hid ((tm&&Ref.dH (A.take (k+1)))=false):=by
       unfold Hid
       have h1:=HNo.out
       rw [HN.out]
       cases tm with
       | false=>rfl
       | true=>simp only [Bool.true_and] at h1 hr ⊢;rw [h1,hr];rfl
      have hbw3:=hbw2.trans (hb3.mono hbw2.size)
      have hbx3:=(hb3.block _ (Array.getElem?_eq_some_iff.1 hx2).1).trans hx2
      clear hr
      dsimp only
      refine hK _ _ ?_
      clear hK K
      refine wpAny_done (by kernel_rfl) ?_ _
      go_wp2
      go_roundg (A.length-(k+1))
      case measure=>omega
      case rel=>exact ⟨k+1,rfl,by omega,by go_num,HM.out,hbw3,hbx3⟩
  ·have hkl:k=A.length:=by omega
   have HF:Hid ((tm&&Ref.dH A)=false):=by
    have h:=hno
    rw [hkl,List.take_length] at h;exact h
   clear hno
   go_wp2
   go_end0
   unfold eH
   rw [HF.out]
   exact ⟨rfl,hbr⟩
variable {w0 w:World} {db mb nm:Nat} {sv pv ov:Ref.Sl} {tm:Bool} {X:List Pro.DS} {SP:List (Int×Int)} {O:List Nat} {PT:Nat→List Nat} {D:DataW Nat}
def nX (D:DataW Nat) (n:ByteArray):Option Int:=match D.atKey (.string n.data.toList) (.lit (.int .i64 0)) with
 | .lit (.int .i64 c)=>some c
 | _=>none
def r8 (D:DataW Nat) (nme:ByteArray) (num:Int) (w:World) (e:Ending) (w':World):Prop:=if nX D nme=some num then e = .returned (.tuple #[])∧Below w.heap.size w w' else aY 4 num w e w'
theorem pH (num dep kd:Int) (nme:ByteArray) (G:al w0 w db sv pv ov mb tm X SP O PT nm D) (hs:nme.size≤1000000) :
  Calls Tryz.prog 358 #[.agg #[.int .i64 num,.int .i64 dep,.int .i64 kd,.string nme],.pointer (some ⟨db,0,none⟩)] w (r8 D nme num w):=by
 have hdl:=G.dlt
 have hb1:Below w.heap.size w (w.alloc (.cells #[.int .i64 num,.int .i64 dep,.int .i64 kd,.string nme] 376)):=(Below.refl _ _).alloc (Nat.le_refl _) _
 obtain ⟨_,_,_,c3,_⟩:=(G.ay hb1).cells
 obtain ⟨W1,hW1⟩:∃ y,y=w.alloc (.cells #[.int .i64 num,.int .i64 dep,.int .i64 kd,.string nme] 376):=⟨_,rfl⟩
 have b0:W1.cell? ⟨w.heap.size,0,none⟩=some (.int .i64 num):=by rw [hW1];simp
 have b1:W1.cell? ⟨w.heap.size,1,none⟩=some (.int .i64 dep):=by rw [hW1];simp
 have b3:W1.cell? ⟨w.heap.size,3,none⟩=some (.string nme):=by rw [hW1];simp
 have law:Go.Maps.Keyed Tryz.prog 9:=Go.Maps.string_keyed Tryz.underlying9
 have zeroE:∀ w:World,(zeroValue 3).run Tryz.prog w = .ok (.int .i64 0) w:=fun w=>by kernel_rfl
 have hkey:keyOf Tryz.prog 9 (.string nme)=some (.string nme.data.toList):=Go.WideMaps.keyOf_string_mk Tryz.underlying9 (by unfold maxLen;omega)
 have hmapd:iI W1.drew mb nm D:=by rw [hW1];exact bn (e:=0) (G.ay hb1).map (bO (Below.refl _ _).drew)
 obtain ⟨cc,hrun,hat,_⟩:=hmapd.lookup_int law Tryz.underlying228 Tryz.underlying3 (zeroE _) hkey
 have HF:Hid (nX D nme=some cc):=by unfold Hid nX;rw [hat]
 rw [← hW1] at c3 hb1
 go_enter Tryz.func358,Tryz.ntmps358
 go_upto_region 1 with fail
 change Code.wp _ _ _ _ (w.alloc (.cells #[.int .i64 num,.int .i64 dep,.int .i64 kd,.string nme] 376))
 rw [← hW1]
 clear hW1 hat
 have hbs:=hb1.size
 refine wp_region_held_drew (S:=(fun W=>W.cell? ⟨db,3,none⟩=some (.map (some mb))∧W.cell? ⟨w.heap.size,0,none⟩=some (.int .i64 num)∧W.cell? ⟨w.heap.size,3,none⟩=some (.string nme))) (by kernel_rfl) ⟨c3,b0,b3⟩ (fun hHeld => ?_)
 refine tH 0 (.pointer (some ⟨db,0,none⟩)) rfl hHeld ?_
 refine tH 1 (.pointer (some ⟨db,0,none⟩)) rfl hHeld ?_
 refine tH 2 (.pointer (some ⟨db,3,none⟩)) rfl hHeld ?_
 refine tH 3 (.map (some mb)) rfl hHeld ?_
 refine tH 4 (.pointer (some ⟨w.heap.size,3,none⟩)) rfl hHeld ?_
 refine tH 5 (.string nme) rfl hHeld ?_
 refine tH 7 (.pointer (some ⟨w.heap.size,0,none⟩)) rfl hHeld ?_
 refine tH 8 (.pointer (some ⟨w.heap.size,0,none⟩)) rfl hHeld ?_
 refine tH 9 (.int .i64 num) rfl hHeld ?_
 refine zH 6 rfl fun K hK => ?_
 go_simp
 refine hK.out _ _ hHeld (fun hHeld => ?_)
 clear hK K hrun
 by_cases hcc:cc=num
 ·subst hcc
  refine zH 10 rfl fun K hK => ?_
  go_simp
  refine hK.out _ _ hHeld (fun hHeld => ?_)
  clear hK K
  refine wpAnyH_done (by kernel_rfl) ?_ _
  go_wp2
  go_end0
  unfold r8
  rw [HF.out,if_pos rfl]
  exact ⟨rfl,hb1.drew⟩
 ·have hne:(cc != num)=true:=by simpa using hcc
  refine zH 10 rfl fun K hK => ?_
  go_simp
  refine hK.out _ _ hHeld (fun hHeld => ?_)
  clear hK K
  refine wpAnyH_done (by kernel_rfl) ?_ _
  go_wp2_with fail
  refine (aL num dep 4 _).mono ?_
  rintro e w2 ⟨hb,b,h5,h6,rfl⟩
  dsimp only
  refine ⟨rfl,?_⟩
  unfold r8
  rw [HF.out,if_neg (by simpa using hcc)]
  exact ⟨hb1.drew.trans (hb.mono hbs),b,Nat.le_trans hbs h5,h6,rfl⟩
def kL (D:DataW Nat) (tm:Bool) (m:Ref.Move):Bool:=(!m.to.toList.isEmpty && !Go.Maps.has D (.string m.to.data.toList))||(tm&&(Ref.dH m.aj||(!m.after&&Ref.bJ m.event Ref.bB)))
def fl (D:DataW Nat) (tm:Bool) (m:Ref.Move) (num:Int) (w:World) (e:Ending) (w':World):Prop:=if kL D tm m then aY 4 num w e w' else e = .returned (.tuple #[])∧Below w.heap.size w w'
theorem qd (num:Int) (dep:Nat) (y:Pro.PV) (G:al w0 w db sv pv ov mb tm X SP O PT nm D) (hs:y.m.to.size≤1000000) (hA:w0.ownsRow 0 324 1 y.v.v y.m.aj.length (y.m.aj.map bp)) (hS:∀ x∈y.m.aj,Pro.Shape x) (hl:y.m.aj.length≤100000) :
  Calls Tryz.prog 363 #[.agg (cA num dep y),.pointer (some ⟨db,0,none⟩)] w (fl D tm y.m num w):=by
 have hdl:=G.dlt
 have hb1:Below w.heap.size w (w.alloc (.cells (cA num dep y) 380)):=(Below.refl _ _).alloc (Nat.le_refl _) _
 obtain ⟨_,_,_,c3,_⟩:=(G.ay hb1).cells
 obtain ⟨W1,hW1⟩:∃ z,z=w.alloc (.cells (cA num dep y) 380):=⟨_,rfl⟩
 have hbx:W1.heap[w.heap.size]?=some (.cells (cA num dep y) 380 (0,0)):=by rw [hW1];exact heap_alloc_new _ _
 have HBx:Hid (∀ W2,Below W1.heap.size W1 W2→W2.cell? ⟨w.heap.size,0,none⟩=some (.int .i64 num)∧W2.cell? ⟨w.heap.size,1,none⟩=some (.int .i64 dep)∧W2.cell? ⟨w.heap.size,2,none⟩=some (.string y.m.event)∧W2.cell? ⟨w.heap.size,3,none⟩=some (.bool y.m.after)∧W2.cell? ⟨w.heap.size,5,none⟩=some (.string y.m.to)∧W2.cell? ⟨w.heap.size,6,none⟩=some (.slice y.v.a y.v.n y.v.c)):=by
  intro W2 hb2
  have h2:=(hb2.block _ (Array.getElem?_eq_some_iff.1 hbx).1).trans hbx
  refine ⟨?_,?_,?_,?_,?_,?_⟩ <;> rw [cell_of_row W2 _ _ _ _ _ h2] <;> rfl
 have HA:Hid (∀ W2,Below W1.heap.size W1 W2→Calls Tryz.prog 366 #[.pointer (some ⟨db,0,none⟩),.agg #[.int .i64 num,.int .i64 dep],.slice y.v.a y.v.n y.v.c] W2 (eH tm num y.m.aj W2)):=by
  intro W2 hb2
  have G2:=(G.ay hb1).ay (by rw [← hW1];exact hb2)
  obtain ⟨_,_,_,_,c4⟩:=G2.cells
  exact mD db num dep tm y.m.aj _ _ _ _ c4 (aR hA G2.bel) hS hl
 have HR:Hid (∀ W2,Below W1.heap.size W1 W2→Calls Tryz.prog 365 #[.pointer (some ⟨db,0,none⟩),.agg #[.int .i64 num,.int .i64 dep],.slice (some ⟨W2.heap.size,0,none⟩) 1 1] (W2.alloc (.cells #[.string y.m.event] 9)) (dJ tm num [y.m.event] (W2.alloc (.cells #[.string y.m.event] 9)))):=by
  intro W2 hb2
  have G2:=((G.ay hb1).ay (by rw [← hW1];exact hb2)).ay ((Below.refl _ W2).alloc (Nat.le_refl _) (.cells #[.string y.m.event] 9))
  obtain ⟨_,_,_,_,c4⟩:=G2.cells
  exact aU db num dep tm [y.m.event] W2.heap.size 1 _ c4 (pK (l:=[y.m.event]) (heap_alloc_new W2 _)) (by simp) (by simp)
 have law:Go.Maps.Keyed Tryz.prog 9:=Go.Maps.string_keyed Tryz.underlying9
 have zeroE:∀ w:World,(zeroValue 3).run Tryz.prog w = .ok (.int .i64 0) w:=fun w=>by kernel_rfl
 have hkey:keyOf Tryz.prog 9 (.string y.m.to)=some (.string y.m.to.data.toList):=Go.WideMaps.keyOf_string_mk Tryz.underlying9 (by unfold maxLen;omega)
 have hmapd:iI W1.drew mb nm D:=by rw [hW1];exact bn (e:=0) (G.ay hb1).map (bO (Below.refl _ _).drew)
 obtain ⟨vv,ps,hrun,hvv⟩:=hmapd.look_ok law Tryz.underlying228 (zeroE _) (plainElem_int Tryz.underlying3 (by decide)) hkey
 obtain ⟨cc,rfl,_,_⟩:=plainElem_int_inv Tryz.underlying3 hvv
 clear hvv hA hS
 rw [← hW1] at c3 hb1
 obtain ⟨b0,b1,b2,b3,b5,b6⟩:=HBx.out W1 (Below.refl _ _)
 have hbs:=hb1.size
 unfold cA at hW1 ⊢
 go_enter Tryz.func363,Tryz.ntmps363
 go_upto_region 1 with fail
 change Code.wp _ _ _ _ (w.alloc (.cells #[.int .i64 num,.int .i64 dep,.string y.m.event,.bool y.m.after,.int .u64 y.m.delay,.string y.m.to,.slice y.v.a y.v.n y.v.c] 380))
 rw [← hW1]
 clear hW1 G hbx
 refine wp_region_held_drew (S:=(fun W=>W.cell? ⟨db,3,none⟩=some (.map (some mb))∧W.cell? ⟨w.heap.size,5,none⟩=some (.string y.m.to))) (by kernel_rfl) ⟨c3,b5⟩ (fun hHeld => ?_)
 refine tH 0 (.pointer (some ⟨db,0,none⟩)) rfl hHeld ?_
 refine tH 1 (.pointer (some ⟨db,0,none⟩)) rfl hHeld ?_
 refine tH 2 (.pointer (some ⟨db,3,none⟩)) rfl hHeld ?_
 refine tH 3 (.map (some mb)) rfl hHeld ?_
 refine tH 4 (.pointer (some ⟨w.heap.size,2,none⟩)) rfl hHeld ?_
 refine tH 5 (.pointer (some ⟨w.heap.size,5,none⟩)) rfl hHeld ?_
 refine tH 6 (.string y.m.to) rfl hHeld ?_
 refine zH 7 rfl fun K hK => ?_
 go_simp
 refine hK.out _ _ hHeld (fun hHeld => ?_)
 clear hK K
 refine tH 8 (.tuple #[.int .i64 cc,.bool (Go.Maps.has D (.string y.m.to.data.toList))]) rfl hHeld ?_
 refine tH 9 (.int .i64 cc) rfl hHeld ?_
 refine tH 10 (.bool (Go.Maps.has D (.string y.m.to.data.toList))) rfl hHeld ?_
 refine tH 11 (.int .i64 cc) rfl hHeld ?_
 refine tH 12 (.bool (Go.Maps.has D (.string y.m.to.data.toList))) rfl hHeld ?_
 refine wpAnyH_done (by kernel_rfl) ?_ _
 clear hrun
 obtain ⟨hs0,hhs⟩:∃ h,h=Go.Maps.has D (.string y.m.to.data.toList):=⟨_,rfl⟩
 obtain ⟨te,hte⟩:∃ h,h=y.m.to.toList.isEmpty:=⟨_,rfl⟩
 have HBad:Hid (kL D tm y.m=((!te && !hs0)||(tm&&(Ref.dH y.m.aj||(!y.m.after&&Ref.bJ y.m.event Ref.bB))))):=by unfold Hid kL;rw [hhs,hte]
 rw [← hhs]
 have HTe:Hid _:=hte
 clear hhs hte hHeld
 have hbd:Below W1.heap.size W1 W1.drew:=(Below.refl _ _).drew
 cases hs0 with
 | true =>
  cases haf:y.m.after with
  | true =>
   have b3t:=b3
   rw [haf] at b3t
   have HAf:Hid _:=haf
   clear haf b3
   go_wp2_with fail
   refine Calls.mono (HA.out _ hbd) ?_
   rintro e w3 h3
   unfold eH at h3
   have hbw:=hb1.trans (Below.mono hbd hbs)
   cases hm:(tm&&Ref.dH y.m.aj) with
   | true =>
    rw [hm,if_pos rfl] at h3
    have HM:Hid (kL D tm y.m=true):=by
     rw [Bool.and_eq_true] at hm
     unfold Hid
     rw [HBad.out,hm.1,hm.2];simp
    obtain ⟨hb,b,h5,h6,rfl⟩:=h3
    dsimp only
    refine ⟨rfl,?_⟩
    unfold fl
    rw [HM.out,if_pos rfl]
    exact ⟨hbw.trans (hb.mono hbw.size),b,Nat.le_trans hbw.size h5,h6,rfl⟩
   | false =>
    rw [hm,if_neg (by simp)] at h3
    obtain ⟨rfl,hb3⟩:=h3
    have HM:Hid (kL D tm y.m=false):=by
     unfold Hid
     rw [HBad.out]
     rw [HAf.out];cases tm with
      | false=>simp
      | true=>simp only [Bool.true_and] at hm;rw [hm];simp
    clear hm
    dsimp only
    go_wp2
    go_end0
    unfold fl
    rw [HM.out,if_neg (by simp)]
    exact ⟨rfl,hbw.trans (hb3.mono hbw.size)⟩
  | false =>
   have b3t:=b3
   rw [haf] at b3t
   have HAf:Hid _:=haf
   clear haf b3
   go_wp2_with fail
   refine Calls.mono (HR.out _ hbd) ?_
   rintro e w4 h4
   unfold dJ at h4
   have hbe:Below W1.heap.size W1 ((W1.drew).alloc (.cells #[.string y.m.event] 9)):=hbd.alloc (Nat.le_refl _) _
   have hresv:Pro.fh [y.m.event]=Ref.bJ y.m.event Ref.bB:=by simp [Pro.fh]
   rw [hresv] at h4
   cases hr:(tm&&Ref.bJ y.m.event Ref.bB) with
   | true =>
    rw [hr,if_pos rfl] at h4
    have HM:Hid (kL D tm y.m=true):=by
     rw [Bool.and_eq_true] at hr
     unfold Hid
     rw [HBad.out,HAf.out,hr.1,hr.2];simp
    have hbw:=hb1.trans (hbe.mono hbs)
    obtain ⟨hb,b,h5,h6,rfl⟩:=h4
    dsimp only
    refine ⟨rfl,?_⟩
    unfold fl
    rw [HM.out,if_pos rfl]
    exact ⟨hbw.trans (hb.mono hbw.size),b,Nat.le_trans hbw.size h5,h6,rfl⟩
   | false =>
    rw [hr,if_neg (by simp)] at h4
    obtain ⟨rfl,hb4⟩:=h4
    have hbd4:Below W1.heap.size W1 w4:=hbe.trans (hb4.mono hbe.size)
    obtain ⟨a0,a1,a2,a3,a5,a6⟩:=HBx.out w4 hbd4
    have HRr:Hid _:=hr
    clear hr hresv
    dsimp only
    go_wp2_with fail
    refine Calls.mono (HA.out _ hbd4) ?_
    rintro e w3 h3
    unfold eH at h3
    have hbw:=hb1.trans (Below.mono hbd4 hbs)
    cases hm:(tm&&Ref.dH y.m.aj) with
    | true =>
     rw [hm,if_pos rfl] at h3
     have HM:Hid (kL D tm y.m=true):=by
      rw [Bool.and_eq_true] at hm
      unfold Hid
      rw [HBad.out,hm.1,hm.2];simp
     obtain ⟨hb,b,h5,h6,rfl⟩:=h3
     dsimp only
     refine ⟨rfl,?_⟩
     unfold fl
     rw [HM.out,if_pos rfl]
     exact ⟨hbw.trans (hb.mono hbw.size),b,Nat.le_trans hbw.size h5,h6,rfl⟩
    | false =>
     rw [hm,if_neg (by simp)] at h3
     obtain ⟨rfl,hb3⟩:=h3
     have HM:Hid (kL D tm y.m=false):=by
      unfold Hid
      rw [HBad.out]
      have hr:=HRr.out
      rw [HAf.out];cases tm with
       | false=>simp
       | true=>simp only [Bool.true_and] at hm hr;rw [hm,hr];simp
     clear hm
     dsimp only
     go_wp2
     go_end0
     unfold fl
     rw [HM.out,if_neg (by simp)]
     exact ⟨rfl,hbw.trans (hb3.mono hbw.size)⟩
 | false =>
  cases te with
  | true =>
   have hte':y.m.to.toList=[]:=List.isEmpty_iff.1 HTe.out.symm
   have hte2:y.m.to.toList.isEmpty=true:=HTe.out.symm
   cases haf:y.m.after with
   | true =>
    have b3t:=b3
    rw [haf] at b3t
    have HAf:Hid _:=haf
    clear haf b3
    go_wp2_with fail
    refine Calls.mono (HA.out _ hbd) ?_
    rintro e w3 h3
    unfold eH at h3
    have hbw:=hb1.trans (Below.mono hbd hbs)
    cases hm:(tm&&Ref.dH y.m.aj) with
    | true =>
     rw [hm,if_pos rfl] at h3
     have HM:Hid (kL D tm y.m=true):=by
      rw [Bool.and_eq_true] at hm
      unfold Hid
      rw [HBad.out,hm.1,hm.2];simp
     obtain ⟨hb,b,h5,h6,rfl⟩:=h3
     dsimp only
     refine ⟨rfl,?_⟩
     unfold fl
     rw [HM.out,if_pos rfl]
     exact ⟨hbw.trans (hb.mono hbw.size),b,Nat.le_trans hbw.size h5,h6,rfl⟩
    | false =>
     rw [hm,if_neg (by simp)] at h3
     obtain ⟨rfl,hb3⟩:=h3
     have HM:Hid (kL D tm y.m=false):=by
      unfold Hid
      rw [HBad.out]
      rw [HAf.out];cases tm with
       | false=>simp
       | true=>simp only [Bool.true_and] at hm;rw [hm];simp
     clear hm
     dsimp only
     go_wp2
     go_end0
     unfold fl
     rw [HM.out,if_neg (by simp)]
     exact ⟨rfl,hbw.trans (hb3.mono hbw.size)⟩
   | false =>
    have b3t:=b3
    rw [haf] at b3t
    have HAf:Hid _:=haf
    clear haf b3
    go_wp2_with fail
    refine Calls.mono (HR.out _ hbd) ?_
    rintro e w4 h4
    unfold dJ at h4
    have hbe:Below W1.heap.size W1 ((W1.drew).alloc (.cells #[.string y.m.event] 9)):=hbd.alloc (Nat.le_refl _) _
    have hresv:Pro.fh [y.m.event]=Ref.bJ y.m.event Ref.bB:=by simp [Pro.fh]
    rw [hresv] at h4
    cases hr:(tm&&Ref.bJ y.m.event Ref.bB) with
    | true =>
     rw [hr,if_pos rfl] at h4
     have HM:Hid (kL D tm y.m=true):=by
      rw [Bool.and_eq_true] at hr
      unfold Hid
      rw [HBad.out,HAf.out,hr.1,hr.2];simp
     have hbw:=hb1.trans (hbe.mono hbs)
     obtain ⟨hb,b,h5,h6,rfl⟩:=h4
     dsimp only
     refine ⟨rfl,?_⟩
     unfold fl
     rw [HM.out,if_pos rfl]
     exact ⟨hbw.trans (hb.mono hbw.size),b,Nat.le_trans hbw.size h5,h6,rfl⟩
    | false =>
     rw [hr,if_neg (by simp)] at h4
     obtain ⟨rfl,hb4⟩:=h4
     have hbd4:Below W1.heap.size W1 w4:=hbe.trans (hb4.mono hbe.size)
     obtain ⟨a0,a1,a2,a3,a5,a6⟩:=HBx.out w4 hbd4
     have HRr:Hid _:=hr
     clear hr hresv
     dsimp only
     go_wp2_with fail
     refine Calls.mono (HA.out _ hbd4) ?_
     rintro e w3 h3
     unfold eH at h3
     have hbw:=hb1.trans (Below.mono hbd4 hbs)
     cases hm:(tm&&Ref.dH y.m.aj) with
     | true =>
      rw [hm,if_pos rfl] at h3
      have HM:Hid (kL D tm y.m=true):=by
       rw [Bool.and_eq_true] at hm
       unfold Hid
       rw [HBad.out,hm.1,hm.2];simp
      obtain ⟨hb,b,h5,h6,rfl⟩:=h3
      dsimp only
      refine ⟨rfl,?_⟩
      unfold fl
      rw [HM.out,if_pos rfl]
      exact ⟨hbw.trans (hb.mono hbw.size),b,Nat.le_trans hbw.size h5,h6,rfl⟩
     | false =>
      rw [hm,if_neg (by simp)] at h3
      obtain ⟨rfl,hb3⟩:=h3
      have HM:Hid (kL D tm y.m=false):=by
       unfold Hid
       rw [HBad.out]
       have hr:=HRr.out
       rw [HAf.out];cases tm with
        | false=>simp
        | true=>simp only [Bool.true_and] at hm hr;rw [hm,hr];simp
      clear hm
      dsimp only
      go_wp2
      go_end0
      unfold fl
      rw [HM.out,if_neg (by simp)]
      exact ⟨rfl,hbw.trans (hb3.mono hbw.size)⟩
  | false =>
   have hte2:y.m.to.toList.isEmpty=false:=HTe.out.symm
   have hne:(y.m.to.toList == [])=false:=by
    cases h:y.m.to.toList with
    | nil=>rw [h] at hte2;cases hte2
    | cons a b=>rfl
   have HM:Hid (kL D tm y.m=true):=by unfold Hid;rw [HBad.out];rfl
   go_wp2_with fail
   refine (aL num dep 4 _).mono ?_
   rintro e w2 ⟨hb,b,h5,h6,rfl⟩
   have hbw:=hb1.trans (hbd.mono hbs)
   dsimp only
   refine ⟨rfl,?_⟩
   unfold fl
   rw [HM.out,if_pos rfl]
   exact ⟨hbw.trans (hb.mono hbw.size),b,Nat.le_trans hbw.size h5,h6,rfl⟩
theorem wI (p q:Addr) (w:World) :
  CallsD Tryz.prog 105 #[.pointer (some p),.pointer (some q)] .returning w fun e u' w'=>e = .returned (.tuple #[])∧u' = .returning∧w'=w:=by
 refine callsD_of_wpS Tryz.func105 rfl fun c₀ cs hu => ?_
 apply wpS_seq
 apply wpS_region
 simp [wpOpsS,go_sem,recoverD,hu,Tryz.ntmps105,Exit.thenS]
 refine wpS_of_wp ?_
 go_wp2
 cases c₀
 simp_all [bodyPostS,results,Tryz.results105]
end
end Go.Proofs.YtegmoddppafkfaaGreatDoor
