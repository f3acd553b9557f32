import Derived.Test.YtegmoddppafkfaaGreatDoorM00
import Derived.Test.YtegmoddppafkfaaGreatDoorM12
set_option maxRecDepth 100000
set_option maxHeartbeats 8000000
namespace Go.Proofs.YtegmoddppafkfaaGreatDoor
section
open Go.RowKit Go.Proofs Go.Shelf
namespace Pg
def PA.sz:PA→Prop
 | .raise ev=>ev.size≤1000000
 | .send ev _=>ev.size≤1000000
 | .sendAs ev _ _=>ev.size≤1000000
 | _=>True
def TOK (now:Nat) (T:List Tn):Prop:=now<18446744073709551616∧∀ x∈T,now≤x.t∧x.ev.size≤1000000
structure QOK (r:RSt):Prop where
 q:∀ e∈r.q,e.size≤1000000
 fin:r.fin=0∨r.fin=5∨r.fin=6
 tm:TOK r.now r.tm
structure SzP (ps:List PS) (EN LV:Nat→List PA):Prop where
 en:∀ i,∀ a∈EN i,a.sz
 lv:∀ i,∀ a∈LV i,a.sz
 done:∀ (i:Nat) (p:PS),ps[i]?=some p→p.done.size≤1000000
theorem QOK.snoc {r:RSt} (h:QOK r) {ev:ByteArray} (he:ev.size≤1000000):QOK { r with q:=r.q++[ev] }:=⟨fun e hx=>by
 rcases List.mem_append.1 hx with hx | hx
 ·exact h.q e hx
 ·rw [List.mem_singleton.1 hx];exact he,h.fin,h.tm⟩
theorem C1 {r:RSt} (h:QOK r) {a:PA} (ha:a.sz):QOK (iT r a):=by
 have hs:∀ (ev:ByteArray) nm d,ev.size≤1000000→QOK (ig r ev nm d):=fun ev nm d he=>by
  unfold ig
  split
  ·exact h.snoc (by decide)
  ·refine ⟨h.q,h.fin,h.tm.1,fun x hx => ?_⟩
   rcases List.mem_append.1 hx with hx | hx
   ·exact h.tm.2 x hx
   ·rw [List.mem_singleton.1 hx]
    refine ⟨?_,he⟩
    have:=h.tm.1
    show r.now≤atF r.now d
    unfold atF
    split <;> omega
 cases a with
 | raise ev=>exact h.snoc ha
 | send ev d=>exact hs _ _ _ ha
 | sendAs ev d id=>exact hs _ _ _ ha
 | cancel id=>exact ⟨h.q,h.fin,h.tm.1,fun x hx=>h.tm.2 x (List.mem_filter.1 hx).1⟩
theorem sj:∀ (L:List PA) (r:RSt),QOK r→(∀ a∈L,a.sz)→QOK (doL r L)
 | [],_,h,_=>h
 | x::L,r,h,hL=>sj L (iT r x) (C1 h (hL x (List.mem_cons_self ..))) (fun a ha=>hL a (List.mem_cons_of_mem _ ha))
theorem DE {ps:List PS} {EN LV:Nat→List PA} (hz:SzP ps EN LV) {fin:Nat} {r:RSt} (h:QOK r) (i:Nat):QOK (oz ps fin r i):=by
 unfold oz
 split
 ·exact h
 ·split
  ·exact ⟨h.q,.inr (.inl rfl),h.tm⟩
  ·split
   ·exact h
   ·rename_i q hq
    have h1:=h.snoc (hz.done _ q hq)
    split
    ·exact h1
    ·split
     ·exact h1
     ·rename_i s hs
      split
      ·exact h1.snoc (hz.done _ s hs)
      ·exact h1
theorem Dy {ps:List PS} {EN LV:Nat→List PA} (hz:SzP ps EN LV) {fin:Nat} {r:RSt} (h:QOK r) (i:Nat):QOK (iX ps fin EN r i):=by
 have h1:QOK { r with act:=r.act|||2 ^ i }:=⟨h.q,h.fin,h.tm⟩
 have h2:=sj (EN i) _ h1 (hz.en i)
 unfold iX
 dsimp only
 split
 ·split
  ·exact DE hz h2 i
  ·exact h2
 ·exact h2
theorem mB {ps:List PS} {EN LV:Nat→List PA} (hz:SzP ps EN LV) {fin:Nat}:∀ (l:List Nat) (r:RSt),QOK r→QOK (bY ps fin EN r l)
 | [],_,h=>h
 | i::l,r,h=>mB hz l (iX ps fin EN r i) (Dy hz h i)
theorem qQ {ps:List PS} {EN LV:Nat→List PA} (hz:SzP ps EN LV):∀ (l:List Nat) (r:RSt),QOK r→QOK (cW LV r l)
 | [],_,h=>h
 | i::l,r,h=>qQ hz l (pY LV r i) (by
  have h1:=sj (LV i) r h (hz.lv i)
  exact ⟨h1.q,h1.fin,h1.tm⟩)
theorem xU {ps:List PS} {pmF:Nat→PM} {acF:Nat→List PA}:∀ (C:List Nat) (z:RSt×Nat),QOK z.1→(∀ m∈C,∀ a∈acF m,a.sz)→QOK (gu ps pmF acF z C).1
 | [],_,h,_=>h
 | m::C,z,h,hC=>xU C (rW ps pmF acF z m) (sj _ _ h (hC m (List.mem_cons_self ..))) (fun x hx=>hC x (List.mem_cons_of_mem _ hx))
theorem xW {ps:List PS} {EN LV:Nat→List PA} (hz:SzP ps EN LV) {fin:Nat} {H:List HV} {D:Nat→Bool} {pmF:Nat→PM} {acF:Nat→List PA} {r:RSt} {C:List Nat} (h:QOK r) (hC:∀ m∈C,∀ a∈acF m,a.sz):QOK (tR ps fin EN LV H D pmF acF r C):=by
 obtain ⟨_,h2,h3,h4,h5⟩:=i6 ps (eZ r.act pmF C) D H r H.length
 exact mB hz _ _ (xU C _ (qQ hz _ _ ⟨by rw [h2];exact h.q,by rw [h5];exact h.fin,by rw [h3,h4];exact h.tm⟩) hC)
theorem AR {ps:List PS} {pmF:Nat→PM} {acF:Nat→List PA}:∀ (C:List Nat) (z:RSt×Nat),(∀ m∈C,(acF m).length≤1048576)→(gu ps pmF acF z C).1.q.length≤z.1.q.length+C.length*1048576
 | [],_,_=>by simp [gu]
 | m::C,z,hC=>by
  have h1:=AR (ps:=ps) (pmF:=pmF) (acF:=acF) C (rW ps pmF acF z m) (fun x hx=>hC x (List.mem_cons_of_mem _ hx))
  have h2:=qI z.1 (acF m)
  have h3:=hC m (List.mem_cons_self ..)
  have h4:(rW ps pmF acF z m).1.q=(doL z.1 (acF m)).q:=rfl
  rw [h4] at h1
  show (gu ps pmF acF (rW ps pmF acF z m) C).1.q.length≤_
  rw [List.length_cons]
  omega
theorem nL (s:Nat):(els s).length≤32:=by
 have:=List.length_filter_le s.testBit (List.range 32)
 rw [List.length_range] at this
 exact this
theorem yP {w:World} {lo pb b cap:Nat} {ps:List PS} {fin:Nat} {EN LV:Nat→List PA} {hvs:Ref.Sl} {H:List HV} {D:Nat→Bool} {mbm n:Nat} {T:ByteArray→Option (List (Option PM))} {M:ByteArray→Option Nat} {Lr:Nat→List (Option Nat)} {pmF:Nat→PM} {acF:Nat→List PA} (h:mh w lo pb b cap ps fin EN LV hvs H D mbm n T M Lr pmF acF) {r:RSt} (hr:ROK ps r) (ev:ByteArray):(aQ ps fin EN LV H D M Lr pmF acF r ev).q.length≤r.q.length+200000000:=by
 have hw:=h.want ev (els (inn ps r.act))
 obtain ⟨c1,c2⟩:=fg ps r.act (fun m=>(pmF m).lv) (fun m=>(pmF m).own) (eV M Lr ev (els (inn ps r.act))) _ (Nat.le_refl _)
 rw [List.take_length] at c1 c2
 have hwl:(eV M Lr ev (els (inn ps r.act))).length≤32:=by
  unfold eV
  split
  ·simp
  ·have h1:=kf (L:=Lr ‹_›) (els (inn ps r.act)) []
   have h2:=nL (inn ps r.act)
   unfold dj
   simp at h1
   omega
 unfold aQ
 generalize gx ps r.act (fun m=>(pmF m).lv) (fun m=>(pmF m).own) (eV M Lr ev (els (inn ps r.act)))=C at *
 have hLl:eZ r.act pmF C<2 ^ ps.length:=lB pmF hr.act _ 0 (Nat.two_pow_pos _)
 unfold tR
 dsimp only
 generalize eZ r.act pmF C=left at *
 obtain ⟨_,k2,_⟩:=i6 ps left D H r H.length
 have kk:=lz (left:=left) (D:=D) (H:=H) h.inn hr H.length
 generalize fB ps left D H r H.length=r2 at *
 have l1:=lA h.cX (els left).reverse r2 (fun i hi=>gV hLl i (List.mem_reverse.1 hi))
 have l2:=nL left
 have lk:=j3 LV (els left).reverse r2 kk
 rw [List.length_reverse,k2] at l1
 generalize cW LV r2 (els left).reverse=r3 at *
 have a1:=AR (ps:=ps) (pmF:=pmF) (acF:=acF) C (r3,0) (fun m hm=>(hw m (c1 m hm)).ak.len)
 have a2:=nG (pmF:=pmF) (acF:=acF) C (r3,0) lk (Nat.two_pow_pos _) (fun m hm=>(hw m (c1 m hm)).en)
 dsimp only at a1
 generalize gu ps pmF acF (r3,0) C=z at *
 have e1:=lr h.cX (els z.2) z.1 (gV a2.2)
 have e2:=nL z.2
 omega
def di (step:RSt→ByteArray→RSt):Nat→RSt→RSt
 | 0,r=>match r.q with | []=>r | _::_=>if r.fin=0 then { r with fin:=6 } else r
 | n+1,r=>match r.q with | []=>r | ev::q'=>if r.fin=0 then di step n (step { r with q:=q' } ev) else r
theorem j8 {step:RSt→ByteArray→RSt} {r:RSt} (h:r.q=[]):∀ n,di step n r=r
 | 0=>by unfold di;rw [h]
 | n+1=>by unfold di;rw [h]
theorem pj {step:RSt→ByteArray→RSt} {r:RSt} {x:ByteArray} {qs:List ByteArray} (h:r.q=x::qs) (hf:r.fin=0):di step 0 r={ r with fin:=6 }:=by
 unfold di
 rw [h]
 dsimp only
 rw [if_pos hf]
theorem ph {step:RSt→ByteArray→RSt} {r:RSt} {x:ByteArray} {qs:List ByteArray} (h:r.q=x::qs) (hf:r.fin=0) (n:Nat):di step (n+1) r=di step n (step { r with q:=qs } x):=by
 conv=>lhs;unfold di
 rw [h]
 dsimp only
 rw [if_pos hf]
theorem mM {step:RSt→ByteArray→RSt} {r:RSt} (h:r.fin≠0):∀ n,di step n r=r
 | 0=>by
  unfold di
  split
  ·rfl
  ·rw [if_neg h]
 | n+1=>by
  unfold di
  split
  ·rfl
  ·rw [if_neg h]
end Pg
theorem Pg.MT.Gf {W:World} {lo mb pb:Nat} {r:Pg.RSt} (h:Pg.MT W lo mb pb r) (hl:Pg.Lw lo) (qv':Value) (L:List ByteArray) (hq:QAt W lo qv' L):Pg.MT (W.setCell ⟨mb,26,none⟩ qv') lo mb pb { r with q:=L }∧Pg.Rf lo W (W.setCell ⟨mb,26,none⟩ qv'):=by
 obtain ⟨qv,wh,m,b⟩:=h.ex
 obtain ⟨arr,a1,a2,a3⟩:=m.blk
 have hmo:Mo (· = mb) W (W.setCell ⟨mb,26,none⟩ qv'):=(Mo.refl _ _).set _ _ rfl
 have hM:Pg.aw (W.setCell ⟨mb,26,none⟩ qv') lo mb pb qv' (({ r with q:=L }:Pg.RSt).m wh):=by
  refine ⟨⟨arr.setIfInBounds 26 qv',heap_setCell_same W mb 26 _ _ _ a1,by simp [a2],fun j hj => ?_⟩,hq.mo hmo (fun g hg e => ?_),m.lo'⟩
  ·by_cases e:j=26
   ·subst e
    rw [Array.getElem?_setIfInBounds_self_of_lt (by omega)]
    rfl
   ·rw [Array.getElem?_setIfInBounds_ne (fun x=>e x.symm),a3 j hj]
    simp [Pg.fE,e]
    rfl
  ·obtain ⟨c,hc⟩:=hq.kind g hg
   rw [show g=mb from e,a1] at hc
   simp at hc
 have hR:Pg.Rq lo W (W.setCell ⟨mb,26,none⟩ qv'):=Pg.RfE.mo (P:=(· = mb)) hmo (fun k hk=>by
  subst hk
  exact ⟨m.lo',arr,_,_,a1,.inl rfl⟩) h.lo'
 exact ⟨h.rq hl b hM hR rfl rfl h.act,Pg.pq hR⟩
theorem Pg.MT.Ct {W:World} {lo mb pb:Nat} {r:Pg.RSt} (h:Pg.MT W lo mb pb r) (hl:Pg.Lw lo) (e:Nat):Pg.MT (W.setCell ⟨mb,419,none⟩ (Pg.eP e)) lo mb pb { r with fin:=e }∧Pg.Rf lo W (W.setCell ⟨mb,419,none⟩ (Pg.eP e)):=by
 obtain ⟨qv,wh,m,b⟩:=h.ex
 have hM:Pg.aw (W.setCell ⟨mb,419,none⟩ (Pg.eP e)) lo mb pb qv (({ r with fin:=e }:Pg.RSt).m wh):=m.set 419 _ _ (by decide) rfl (fun j hj=>by
  by_cases e:j=419
  ·subst e;rfl
  ·rw [if_neg e]
   have hj:j<419:=by omega
   simp [Pg.fE,hj]
   rfl)
 have hR:Pg.Rq lo W (W.setCell ⟨mb,419,none⟩ (Pg.eP e)):=Pg.RfE.mo (P:=(· = mb)) ((Mo.refl _ _).set _ _ rfl) (fun k hk=>by
  obtain ⟨arr,a1,_⟩:=m.blk
  subst hk
  exact ⟨m.lo',arr,_,_,a1,.inl rfl⟩) h.lo'
 exact ⟨h.rq hl b hM hR rfl rfl h.act,Pg.pq hR⟩
theorem Pg.MT.cq {W:World} {lo mb pb:Nat} {r:Pg.RSt} (h:Pg.MT W lo mb pb r):∃ qv,W.cell? ⟨mb,26,none⟩=some qv∧QAt W lo qv r.q∧W.cell? ⟨mb,419,none⟩=some (Pg.eP r.fin):=by
 obtain ⟨qv,wh,m,b⟩:=h.ex
 exact ⟨qv,m.cell 26 (by decide),m.que,m.cell 419 (by decide)⟩
namespace Pg
def dV (step:RSt→ByteArray→RSt) (r:RSt):RSt:={ di step 60 r with q:=[] }
end Pg
theorem iH (w:World) (lo mb pb b cap:Nat) (r:Pg.RSt) (ps:List Pg.PS) (fin:Nat) (EN LV:Nat→List Pg.PA) (hvs:Ref.Sl) (H:List Pg.HV) (D:Nat→Bool) (mbm n:Nat) (T:ByteArray→Option (List (Option Pg.PM))) (M:ByteArray→Option Nat) (Lr:Nat→List (Option Nat)) (pmF:Nat→Pg.PM) (acF:Nat→List Pg.PA) (hP:Pg.mh w lo pb b cap ps fin EN LV hvs H D mbm n T M Lr pmF acF) (hz:Pg.SzP ps EN LV) (hza:∀ m,∀ a∈acF m,Pg.PA.sz a) (h:Pg.MT w lo mb pb r) (hr:Pg.ROK ps r) (hqk:Pg.QOK r) (hql:r.q.length≤4300000000000) :
  Calls Tryz.prog 113 #[.pointer (some ⟨mb,0,none⟩)] w fun e w'=>e = .returned (.tuple #[])∧Pg.MT w' lo mb pb (Pg.dV (Pg.aQ ps fin EN LV H D M Lr pmF acF) r)∧Pg.Rf lo w w':=by
 have hlw:=hP.cX.lw
 obtain ⟨step,hstep⟩:∃ step,Pg.aQ ps fin EN LV H D M Lr pmF acF=step:=⟨_,rfl⟩
 have HST:Hid _:=hstep
 rw [hstep]
 clear hstep
 have q0:∀ w:World,(binOp .eql 101 .nilIface .nilIface).run Tryz.prog w = .ok (.bool true) w:=fun w=>by kernel_rfl
 have q5:∀ w:World,(binOp .eql 101 (.iface 47 (.int .i64 5)) .nilIface).run Tryz.prog w = .ok (.bool false) w:=fun w=>by kernel_rfl
 have q6:∀ w:World,(binOp .eql 101 (.iface 47 (.int .i64 6)) .nilIface).run Tryz.prog w = .ok (.bool false) w:=fun w=>by kernel_rfl
 have HEND:Hid (∀ (V:World) (rz:Pg.RSt),Pg.MT V lo mb pb rz→Pg.Rf lo w V→{ rz with q:=[] }=Pg.dV step r→(∃ u,V.cell? ⟨mb,26,none⟩=some u)∧V.frozen? ⟨mb,26,none⟩=false∧Pg.MT (V.setCell ⟨mb,26,none⟩ (.slice none 0 0)) lo mb pb (Pg.dV step r)∧Pg.Rf lo w (V.setCell ⟨mb,26,none⟩ (.slice none 0 0))):=fun V rz hM hR e=>by
  obtain ⟨qv,c1,_⟩:=hM.cq
  obtain ⟨x1,x2⟩:=hM.Gf hlw (.slice none 0 0) [] (QAt.nil _ _)
  rw [e] at x1
  exact ⟨⟨_,c1⟩,hM.c0.2.2 26,x1,hR.trans x2⟩
 have HP:Hid _:=hP
 have HI0:Hid (Pg.MT w lo mb pb r∧Pg.ROK ps r∧Pg.QOK r):=⟨h,hr,hqk⟩
 clear h hr hqk hP
 go_enter Tryz.func113,Tryz.ntmps113
 go_wp2
 go_loopw [2] (fun a wr=>∃ k:Nat,a = .int .i64 k∧k≤60∧Hid (∃ rk,Pg.MT wr lo mb pb rk∧Pg.ROK ps rk∧Pg.QOK rk∧Pg.Rf lo w wr∧Pg.di step (60-k) rk=Pg.di step 60 r∧rk.q.length≤r.q.length+k*200000000)) (fun a _=>61-(intOf a).toNat)
 case atStart=>exact ⟨0,rfl,by omega,r,HI0.out.1,HI0.out.2.1,HI0.out.2.2,Pg.RfE.refl _ _,rfl,by omega⟩
 case round =>
  obtain ⟨k,rfl,hk60,HK⟩:=hrel
  obtain ⟨rk,hM,hrk,hqk,hR,hrest,hqb⟩:=HK.out
  clear HK HI0
  obtain ⟨qv,c26,hQ,c419⟩:=hM.cq
  have hfz:=hM.c0.2.2
  have HF26:=hfz 26
  have HF419:=hfz 419
  clear hfz
  by_cases hq:rk.q=[]
  ·have hend:=HEND.out wr rk hM hR (by unfold Pg.dV;rw [← hrest,Pg.j8 hq])
   obtain ⟨a0,c0,hv0⟩:=hQ.form
   rw [hq] at hv0
   subst hv0
   obtain ⟨_,e2,e3,e4⟩:=hend
   have E3:Hid _:=e3
   have E4:Hid _:=e4
   clear e3 e4 hQ hM hrest hqk hrk
   simp only [List.length_nil] at c26
   go_wp2
   go_end0
   exact ⟨rfl,E3.out,E4.out⟩
  ·by_cases hf:rk.fin=0
   ·obtain ⟨x,qs,hxq⟩:∃ x qs,rk.q=x::qs:=by
     cases hc:rk.q with
     | nil=>exact absurd hc hq
     | cons x qs=>exact ⟨x,qs,rfl⟩
    rw [hxq] at hQ
    obtain ⟨g,off,cp,hv,hqc,hcm,hcx,hpop⟩:=hQ.head
    subst hv
    rw [hf] at c419
    unfold Pg.eP at c419
    rw [if_pos rfl] at c419
    have hx1:=hqk.q x (by rw [hxq];exact List.mem_cons_self ..)
    have hlen1:((qs.length:Int)+1>0):=by omega
    by_cases h60:k=60
    ·subst h60
     have HRS:Hid ({ ({ rk with fin:=6 }:Pg.RSt) with q:=[] }=Pg.dV step r):=by
      unfold Hid Pg.dV
      rw [← hrest,Nat.sub_self,Pg.pj hxq hf]
     obtain ⟨x1,x2⟩:=hM.Ct hlw 6
     have hend:=HEND.out _ _ x1 (hR.trans x2) HRS.out
     unfold Pg.eP at hend
     rw [if_neg (by decide)] at hend
     obtain ⟨⟨u,e1⟩,e2,e3,e4⟩:=hend
     have E3:Hid _:=e3
     have E4:Hid _:=e4
     clear e3 e4 hQ hM hrest hqk hrk x1 x2 hpop
     go_wp2
     go_end0
     exact ⟨rfl,E3.out,E4.out⟩
    ·have hk1:((k:Int) == 60)=false:=by simp;omega
     have HN:Hid (Pg.di step (60-(k+1)) (step { rk with q:=qs } x)=Pg.di step 60 r):=by
      unfold Hid
      rw [← hrest,show 60-k=(60-(k+1))+1 by omega,Pg.ph hxq hf]
     have HANS:Hid (∀ V,Pg.MT V lo mb pb { rk with q:=qs }→Pg.Rf lo wr V→Calls Tryz.prog 154 #[.pointer (some ⟨mb,0,none⟩),.string x] V fun e w'=>e = .returned (.tuple #[])∧∃ rk',Pg.MT w' lo mb pb rk'∧Pg.ROK ps rk'∧Pg.QOK rk'∧Pg.Rf lo w w'∧Pg.di step (60-(k+1)) rk'=Pg.di step 60 r∧rk'.q.length≤r.q.length+(k+1)*200000000):=fun V hMV hRV=>by
      have hRw:=hR.trans hRV
      have hPV:=HP.out.rf hRw
      have hrk2:Pg.ROK ps { rk with q:=qs }:=⟨hrk.act,hrk.kept⟩
      have hqk2:Pg.QOK { rk with q:=qs }:=⟨fun e he=>hqk.q e (by rw [hxq];exact List.mem_cons_of_mem _ he),hqk.fin,hqk.tm⟩
      have hl2:({ rk with q:=qs }:Pg.RSt).q.length+1=rk.q.length:=by rw [hxq];rfl
      refine (vY V lo mb pb b cap { rk with q:=qs } ps fin EN LV hvs H D mbm n T M Lr pmF acF x hPV hMV hrk2 hx1 (by omega)).mono ?_
      rintro e w' ⟨rfl,a,c⟩
      have hq3:=Pg.yP hPV hrk2 x
      have e:=HN.out
      rw [← HST.out] at e ⊢
      refine ⟨rfl,_,a,?_,?_,hRw.trans c,e,by omega⟩
      ·refine Pg.xV HP.out.inn hrk2 (fun m hm => ?_)
       obtain ⟨c1,_⟩:=Pg.fg ps rk.act (fun m=>(pmF m).lv) (fun m=>(pmF m).own) (Pg.eV M Lr x (Pg.els (Pg.inn ps rk.act))) _ (Nat.le_refl _)
       rw [List.take_length] at c1
       exact (HP.out.want x _ m (c1 m hm)).en
      ·exact Pg.xW hz hqk2 (fun m _=>hza m)
     have HPOP:Hid (∀ off',(off'=off+1∨cp=0)→Pg.MT (wr.setCell ⟨mb,26,none⟩ (.slice (some ⟨g,off',none⟩) qs.length cp)) lo mb pb { rk with q:=qs }∧Pg.Rf lo wr (wr.setCell ⟨mb,26,none⟩ (.slice (some ⟨g,off',none⟩) qs.length cp))):=fun off' ho=>hM.Gf hlw _ qs (hpop off' ho)
     clear hQ hM hrest hqk hrk hpop HEND
     by_cases hcap:cp=0
     ·obtain ⟨y1,y2⟩:=HPOP.out off (.inr hcap)
      have hans:=HANS.out _ y1 y2
      subst hcap
      have hql0:qs.length=0:=by omega
      rw [hql0] at hans
      clear HANS HPOP y1 y2
      go_wp2_with (go_at_call 154;refine hans.mono ?_;intro e w9 h9;obtain ⟨rfl,h9⟩:=h9;have H9:Hid _:=h9;clear h9)
      go_roundw
      case rel=>exact ⟨k+1,by simp,by omega,H9⟩
      case measure=>simp only [intOf];omega
     ·obtain ⟨y1,y2⟩:=HPOP.out (off+1) (.inl rfl)
      have hans:=HANS.out _ y1 y2
      clear HANS HPOP y1 y2
      go_wp2_with (go_at_call 154;refine hans.mono ?_;intro e w9 h9;obtain ⟨rfl,h9⟩:=h9;have H9:Hid _:=h9;clear h9)
      go_roundw
      case rel=>exact ⟨k+1,by simp,by omega,H9⟩
      case measure=>simp only [intOf];omega
   ·have hend:=HEND.out wr rk hM hR (by unfold Pg.dV;rw [← hrest,Pg.mM hf])
    obtain ⟨a0,c0,hv0⟩:=hQ.form
    subst hv0
    have hqp:0<rk.q.length:=List.length_pos_iff.2 hq
    have hqp':((rk.q.length:Int)>0):=by omega
    obtain ⟨_,e2,e3,e4⟩:=hend
    have E3:Hid _:=e3
    have E4:Hid _:=e4
    have hfin:=hqk.fin
    clear e3 e4 hQ hM hrest hqk hrk
    generalize rk.q.length=ql at *
    rcases hfin with hx | hx | hx
    ·exact absurd hx hf
    ·rw [hx] at c419
     unfold Pg.eP at c419
     rw [if_neg (by decide)] at c419
     go_wp2
     go_end0
     exact ⟨rfl,E3.out,E4.out⟩
    ·rw [hx] at c419
     unfold Pg.eP at c419
     rw [if_neg (by decide)] at c419
     go_wp2
     go_end0
     exact ⟨rfl,E3.out,E4.out⟩
theorem B0 (s:Nat) (w:World) (hs:s<4294967296):Calls Tryz.prog 194 #[.int .u32 s] w fun e w'=>(∃ n:Nat,n≤255∧e = .returned (.int .i64 n))∧w'=w.drew:=by
 have e1:(s:Int) / 16777216=((s / 16777216:Nat):Int):=by omega
 have h1:s / 16777216<256:=by omega
 have e2:bits BinOp.and IntKind.u32 ((s:Int) / 65536) 255=((s / 65536&&&255:Nat):Int):=by
  rw [show (s:Int) / 65536=((s / 65536:Nat):Int) by omega];exact bits_and_u32_nat _ 255 (by omega) (by omega)
 have h2:s / 65536&&&255<256:=Nat.lt_of_le_of_lt Nat.and_le_right (by omega)
 have e3:bits BinOp.and IntKind.u32 ((s:Int) / 256) 255=((s / 256&&&255:Nat):Int):=by
  rw [show (s:Int) / 256=((s / 256:Nat):Int) by omega];exact bits_and_u32_nat _ 255 (by omega) (by omega)
 have h3:s / 256&&&255<256:=Nat.lt_of_le_of_lt Nat.and_le_right (by omega)
 have e4:bits BinOp.and IntKind.u32 (s:Int) 255=((s&&&255:Nat):Int):=bits_and_u32_nat _ 255 (by omega) (by omega)
 have h4:s&&&255<256:=Nat.lt_of_le_of_lt Nat.and_le_right (by omega)
 generalize s / 16777216=a1 at *
 generalize s / 65536&&&255=a2 at *
 generalize s / 256&&&255=a3 at *
 generalize s&&&255=a4 at *
 have h1:a1<Lib.pop8tab.size:=h1
 have h2:a2<Lib.pop8tab.size:=h2
 have h3:a3<Lib.pop8tab.size:=h3
 have h4:a4<Lib.pop8tab.size:=h4
 go_enter Tryz.func194,Tryz.ntmps194
 go_wp2
 go_region
 go_wp2
 go_ret
 generalize Lib.pop8tab[a1].toNat=b1
 generalize Lib.pop8tab[a2].toNat=b2
 generalize Lib.pop8tab[a3].toNat=b3
 generalize Lib.pop8tab[a4].toNat=b4
 exact ⟨⟨(b1+b2+b3+b4) % 256,by omega,congrArg (fun x=>Ending.returned (.int .i64 x)) (by omega)⟩,rfl⟩
theorem DU (s:Nat) (w:World) (hs:s<4294967296):Calls Tryz.prog 155 #[.int .u32 s] w fun e w'=>(∃ n:Nat,n≤255∧e = .returned (.int .i64 n))∧w'=w.drew:=by
 go_enter Tryz.func155,Tryz.ntmps155
 go_wp2_with (go_at_call 194;refine (B0 s _ hs).mono ?_;rintro e w9 ⟨⟨n,hn,rfl⟩,hw9⟩;rw [hw9];clear hw9 w9)
 go_ret
 exact ⟨⟨n,hn,rfl⟩,rfl⟩
end
end Go.Proofs.YtegmoddppafkfaaGreatDoor
