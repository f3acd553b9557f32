import Derived.Test.YtegmoddppafkfaaGreatDoorM00
import Derived.Test.YtegmoddppafkfaaGreatDoorM13
set_option maxRecDepth 100000
set_option maxHeartbeats 8000000
namespace Go.Proofs.YtegmoddppafkfaaGreatDoor
section
open Go.RowKit Go.Proofs Go.Shelf
namespace Pg
def AT (ps:List PS):En→Prop
 | .nil=>True
 | .all a=>a<2 ^ ps.length
 | .hist _ _=>False
theorem qP {ps:List PS} {e:En} (h:AT ps e) {kept:Nat→Nat}:enters ps kept e<2 ^ ps.length:=by
 cases e with
 | nil=>exact Nat.two_pow_pos _
 | all a=>exact h
 | hist p t=>exact False.elim h
structure ROK (ps:List PS) (r:RSt):Prop where
 act:r.act<2 ^ ps.length
 kept:∀ i,r.kept i<2 ^ ps.length
theorem qb {N s:Nat} (hN:N≤24) (h:s<2 ^ N):s<4294967296:=Nat.lt_of_lt_of_le h (Nat.le_trans (Nat.pow_le_pow_right (by decide) hN) (by decide))
structure MvA (w:World) (lo pb b:Nat) (ps:List PS) (m:Nat) (x:PM) (A:List PA):Prop where
 at':dF w pb b m x
 own:x.own<ps.length
 lv:x.lv<2 ^ ps.length
 aj:du w lo x.aj A
 en:AT ps x.en
theorem MvA.rf {w w':World} {lo pb b:Nat} {ps:List PS} {m:Nat} {x:PM} {A:List PA} (h:MvA w lo pb b ps m x A) (hR:Rf lo w w'):MvA w' lo pb b ps m x A :=
 ⟨h.at'.kd hR.kd (fun t ht=>by rcases ht with rfl | rfl | rfl | rfl | rfl <;> (unfold cG;decide)),h.own,h.lv,h.aj.below hR.bel,h.en⟩
theorem MvA.mvb {w:World} {lo pb b:Nat} {ps:List PS} {m:Nat} {x:PM} {A:List PA} (h:MvA w lo pb b ps m x A) (hN:ps.length≤24):MvB w m x.own x.lv:=by
 obtain ⟨fv,hm,_⟩:=h.at'
 exact ⟨by rw [cell_of_row w _ _ _ _ _ hm];rfl,by rw [cell_of_row w _ _ _ _ _ hm];rfl,qb hN h.lv,_,hm⟩
theorem ia {N s:Nat} (h:s<2 ^ N):∀ i,i∈els s→i<N:=fun _ hi=>sI h hi
end Pg
namespace Pg
def fj (act:Nat) (pmF:Nat→PM) (C:List Nat):Nat:=C.foldl (fun a m=>a|||((pmF m).lv&&&act)) 0
theorem xq (act:Nat) (pmF:Nat→PM) (C:List Nat) (m:Nat):fj act pmF (C++[m])=fj act pmF C|||((pmF m).lv&&&act):=by unfold fj;rw [List.foldl_append];rfl
theorem lG {N act:Nat} (pmF:Nat→PM) (h:act<2 ^ N):∀ (C:List Nat) (a:Nat),a<2 ^ N→C.foldl (fun a m=>a|||((pmF m).lv&&&act)) a<2 ^ N
 | [],_,ha=>ha
 | _::C,_,ha=>lG pmF h C _ (Nat.or_lt_two_pow ha (Nat.lt_of_le_of_lt Nat.and_le_right h))
def si (ps:List PS) (pmF:Nat→PM) (acF:Nat→List PA) (z:RSt×Nat) (m:Nat):RSt×Nat:=(doL z.1 (acF m),z.2|||enters ps (doL z.1 (acF m)).kept (pmF m).en)
def gy (ps:List PS) (pmF:Nat→PM) (acF:Nat→List PA) (z:RSt×Nat) (C:List Nat):RSt×Nat:=C.foldl (si ps pmF acF) z
theorem zl (ps:List PS) (pmF:Nat→PM) (acF:Nat→List PA) (z:RSt×Nat) (C:List Nat) (m:Nat):gy ps pmF acF z (C++[m])=si ps pmF acF (gy ps pmF acF z C) m:=by unfold gy;rw [List.foldl_append];rfl
theorem zh (r:RSt) (a:PA):(fY r a).kept=r.kept:=by
 cases a <;> simp only [fY,iq] <;> (try split) <;> rfl
theorem uy:∀ (L:List PA) (r:RSt),(doL r L).kept=r.kept
 | [],_=>rfl
 | x::L,r=>(uy L (fY r x)).trans (zh r x)
theorem sD {ps:List PS} {r:RSt} (h:ROK ps r) (L:List PA):ROK ps (doL r L):=⟨by rw [nV];exact h.act,by rw [uy];exact h.kept⟩
def ue (ps:List PS) (fin:Nat) (EN LV:Nat→List PA) (H:List HV) (D:Nat→Bool) (pmF:Nat→PM) (acF:Nat→List PA) (r:RSt) (C:List Nat):RSt :=
 let left:=fj r.act pmF C
 let z:=gy ps pmF acF (cI LV (fH ps left D H r H.length) (els left).reverse,0) C
 bX ps fin EN z.1 (els z.2)
theorem j4 {ps:List PS} (LV:Nat→List PA):∀ (l:List Nat) (r:RSt),ROK ps r→ROK ps (cI LV r l)
 | [],_,h=>h
 | i::l,r,h=>j4 LV l (oY LV r i) (by
  have h1:=sD h (LV i)
  exact ⟨Nat.lt_of_le_of_lt Nat.and_le_left h1.act,h1.kept⟩)
theorem DQ {ps:List PS} {left:Nat} {D:Nat→Bool} {H:List HV} {r:RSt} (hi:∀ a,a<2 ^ ps.length→inn ps a<2 ^ ps.length) (h:ROK ps r) (k:Nat):ROK ps (p8 ps left D H r k):=by
 unfold p8
 split
 ·exact h
 ·split
  ·exact h
  ·split
   ·refine ⟨h.act,fun i => ?_⟩
    rename_i y _ _ po _ _
    by_cases e:i=y.idx
    ·subst e
     show upd r.kept _ _ _<_
     rw [aw]
     unfold EL
     split
     ·exact Nat.lt_of_le_of_lt Nat.and_le_left (hi _ h.act)
     ·exact Nat.lt_of_le_of_lt Nat.and_le_left h.act
    ·show upd r.kept _ _ _<_
     rw [aB _ _ e]
     exact h.kept i
   ·exact h
theorem lC {ps:List PS} {left:Nat} {D:Nat→Bool} {H:List HV} {r:RSt} (hi:∀ a,a<2 ^ ps.length→inn ps a<2 ^ ps.length) (h:ROK ps r):∀ n,ROK ps (fH ps left D H r n)
 | 0=>h
 | n+1=>by rw [oU];exact DQ hi (lC hi h n) n
theorem DG {ps:List PS} {fin:Nat} {r:RSt} (h:ROK ps r) (i:Nat):ROK ps (kG ps fin r i):=by
 obtain ⟨a,_,_,b,_⟩:=mM ps fin r i
 exact ⟨by rw [a];exact h.act,by rw [b];exact h.kept⟩
theorem DB {ps:List PS} {fin:Nat} {EN:Nat→List PA} {r:RSt} (h:ROK ps r) {i:Nat} (hi:i<ps.length):ROK ps (iM ps fin EN r i):=by
 have h1:ROK ps { r with act:=r.act|||2 ^ i }:=⟨Nat.or_lt_two_pow h.act (Nat.pow_lt_pow_right (by decide) hi),h.kept⟩
 have h2:=sD h1 (EN i)
 unfold iM
 dsimp only
 split
 ·split
  ·exact DG h2 i
  ·exact h2
 ·exact h2
theorem mI {ps:List PS} {fin:Nat} {EN:Nat→List PA}:∀ (l:List Nat) (r:RSt),ROK ps r→(∀ i∈l,i<ps.length)→ROK ps (bX ps fin EN r l)
 | [],_,h,_=>h
 | i::l,r,h,hl=>mI l (iM ps fin EN r i) (DB h (hl i (List.mem_cons_self ..))) (fun j hj=>hl j (List.mem_cons_of_mem _ hj))
theorem nP {ps:List PS} {pmF:Nat→PM} {acF:Nat→List PA}:∀ (C:List Nat) (z:RSt×Nat),ROK ps z.1→z.2<2 ^ ps.length→(∀ m∈C,AT ps (pmF m).en)→ROK ps (gy ps pmF acF z C).1∧(gy ps pmF acF z C).2<2 ^ ps.length
 | [],_,h,h2,_=>⟨h,h2⟩
 | m::C,z,h,h2,hC=>nP C (si ps pmF acF z m) (sD h _) (Nat.or_lt_two_pow h2 (qP (hC m (List.mem_cons_self ..)))) (fun x hx=>hC x (List.mem_cons_of_mem _ hx))
theorem yu {ps:List PS} {fin:Nat} {EN LV:Nat→List PA} {H:List HV} {D:Nat→Bool} {pmF:Nat→PM} {acF:Nat→List PA} {r:RSt} {C:List Nat} (hi:∀ a,a<2 ^ ps.length→inn ps a<2 ^ ps.length) (h:ROK ps r) (hC:∀ m∈C,AT ps (pmF m).en):ROK ps (ue ps fin EN LV H D pmF acF r C):=by
 have h1:=nP (pmF:=pmF) (acF:=acF) C (cI LV (fH ps (fj r.act pmF C) D H r H.length) (els (fj r.act pmF C)).reverse,0) (j4 LV _ _ (lC hi h _)) (Nat.two_pow_pos _) hC
 exact mI _ _ h1.1 (ia h1.2)
structure mx (w:World) (lo pb b cap:Nat) (ps:List PS) (fin:Nat) (EN LV:Nat→List PA) (hvs:Ref.Sl) (H:List HV) (D:Nat→Bool) (mbm n:Nat) (T:ByteArray→Option (List (Option PM))) (M:ByteArray→Option Nat) (Lr:Nat→List (Option Nat)) (pmF:Nat→PM) (acF:Nat→List PA):Prop where
 dc:fi w lo pb b cap ps fin EN LV
 hist:tX w pb ps hvs H D
 mov:zg w lo pb b ps.length cap hvs.v fin mbm n T M Lr
 mva:∀ (ev:ByteArray) (g i m:Nat),M ev=some g→(Lr g)[i]?=some (some m)→MvA w lo pb b ps m (pmF m) (acF m)
 N:ps.length≤24
 inn:∀ a,a<2 ^ ps.length→inn ps a<2 ^ ps.length
theorem mx.rf {w w':World} {lo pb b cap:Nat} {ps:List PS} {fin:Nat} {EN LV:Nat→List PA} {hvs:Ref.Sl} {H:List HV} {D:Nat→Bool} {mbm n:Nat} {T:ByteArray→Option (List (Option PM))} {M:ByteArray→Option Nat} {Lr:Nat→List (Option Nat)} {pmF:Nat→PM} {acF:Nat→List PA} (h:mx w lo pb b cap ps fin EN LV hvs H D mbm n T M Lr pmF acF) (hR:Rf lo w w'):mx w' lo pb b cap ps fin EN LV hvs H D mbm n T M Lr pmF acF :=
 ⟨h.dc.below hR.bel,h.hist.rf hR h.dc.pb',h.mov.rf hR h.dc.pb',fun ev g i m a b=>(h.mva ev g i m a b).rf hR,h.N,h.inn⟩
theorem mx.want {w:World} {lo pb b cap:Nat} {ps:List PS} {fin:Nat} {EN LV:Nat→List PA} {hvs:Ref.Sl} {H:List HV} {D:Nat→Bool} {mbm n:Nat} {T:ByteArray→Option (List (Option PM))} {M:ByteArray→Option Nat} {Lr:Nat→List (Option Nat)} {pmF:Nat→PM} {acF:Nat→List PA} (h:mx w lo pb b cap ps fin EN LV hvs H D mbm n T M Lr pmF acF) (ev:ByteArray) (l:List Nat):∀ m∈ff M Lr ev l,MvA w lo pb b ps m (pmF m) (acF m):=fun m hm=>by
 unfold ff at hm
 split at hm
 ·cases hm
 ·rename_i g hg
  obtain ⟨i,hi⟩:=rS hm
  exact h.mva ev g i m hg hi
def aP (ps:List PS) (fin:Nat) (EN LV:Nat→List PA) (H:List HV) (D:Nat→Bool) (M:ByteArray→Option Nat) (Lr:Nat→List (Option Nat)) (pmF:Nat→PM) (acF:Nat→List PA) (r:RSt) (ev:ByteArray):RSt :=
 ue ps fin EN LV H D pmF acF r (gA ps r.act (fun m=>(pmF m).lv) (fun m=>(pmF m).own) (ff M Lr ev (els (inn ps r.act))))
end Pg
theorem wD (w:World) (lo mb pb b cap:Nat) (r:Pg.RSt) (ps:List Pg.PS) (fin:Nat) (EN LV:Nat→List Pg.PA) (hvs:Ref.Sl) (H:List Pg.HV) (D:Nat→Bool) (mbm n:Nat) (T:ByteArray→Option (List (Option Pg.PM))) (M:ByteArray→Option Nat) (Lr:Nat→List (Option Nat)) (pmF:Nat→Pg.PM) (acF:Nat→List Pg.PA) (ev:ByteArray) (hP:Pg.mx w lo pb b cap ps fin EN LV hvs H D mbm n T M Lr pmF acF) (h:Pg.MT w lo mb pb r) (hr:Pg.ROK ps r) (hev:ev.size≤1000000) (hql:r.q.length≤4390000000000) :
  Calls Tryz.prog 154 #[.pointer (some ⟨mb,0,none⟩),.string ev] w fun e w'=>e = .returned (.tuple #[])∧Pg.MT w' lo mb pb (Pg.aP ps fin EN LV H D M Lr pmF acF r ev)∧Pg.Rf lo w w':=by
 have hlw:=hP.dc.lw
 have hlo:=h.lo'
 have hN:=hP.N
 have hwm:=hP.want ev (Pg.els (Pg.inn ps r.act))
 have hch:=wJ w lo mb pb b cap r ps fin EN LV hvs.v mbm n T M Lr ev (fun m=>(pmF m).lv) (fun m=>(pmF m).own) _ rfl hP.dc hP.mov h hev (Pg.ia hr.act) (Pg.ia (hP.inn _ hr.act)) (fun x hx=>⟨(hwm x hx).mvb hN,(hwm x hx).own⟩)
 obtain ⟨c1,c2⟩:=Pg.fq ps r.act (fun m=>(pmF m).lv) (fun m=>(pmF m).own) (Pg.ff M Lr ev (Pg.els (Pg.inn ps r.act))) _ (Nat.le_refl _)
 rw [List.take_length] at c1 c2
 have hwl:(Pg.ff M Lr ev (Pg.els (Pg.inn ps r.act))).length≤32:=by
  unfold Pg.ff
  split
  ·simp
  ·have h1:=Pg.kh (L:=Lr ‹_›) (Pg.els (Pg.inn ps r.act)) []
   have h2:(Pg.els (Pg.inn ps r.act)).length≤32:=by
    have:=List.length_filter_le (Pg.inn ps r.act).testBit (List.range 32)
    rw [List.length_range] at this
    exact this
   unfold Pg.dw
   simp at h1
   omega
 have HAN:Hid (Pg.aP ps fin EN LV H D M Lr pmF acF r ev=Pg.ue ps fin EN LV H D pmF acF r (Pg.gA ps r.act (fun m=>(pmF m).lv) (fun m=>(pmF m).own) (Pg.ff M Lr ev (Pg.els (Pg.inn ps r.act))))):=rfl
 generalize Pg.gA ps r.act (fun m=>(pmF m).lv) (fun m=>(pmF m).own) (Pg.ff M Lr ev (Pg.els (Pg.inn ps r.act)))=C at *
 have hCm:∀ m∈C,Pg.MvA w lo pb b ps m (pmF m) (acF m):=fun m hm=>hwm m (c1 m hm)
 have hCl:C.length≤32:=by omega
 clear hwm c1 c2 hwl
 have HV:Hid (∀ V,Pg.Rf lo w V→Pg.mx V lo pb b cap ps fin EN LV hvs H D mbm n T M Lr pmF acF∧∀ m∈C,Pg.MvA V lo pb b ps m (pmF m) (acF m)):=fun V hV=>⟨hP.rf hV,fun m hm=>(hCm m hm).rf hV⟩
 have H0:Hid _:=h
 have HR0:Hid _:=hr
 have hinn:=hP.inn
 have hhl:=hP.hist.len
 have HIN:Hid _:=hinn
 clear h hP hCm hr hinn
 go_enter Tryz.func154,Tryz.ntmps154
 go_wp2_with (go_at_call 190;refine hch.mono ?_;intro e w1 h1;obtain ⟨sv,rfl,hT1,hb1⟩:=h1;obtain ⟨sa,sc,rfl⟩:=hT1.n;have HT1:Hid _:=hT1;clear hT1)
 have HC:Hid (∀ (k x:Nat) (V:World),Pg.Rf lo w1 V→C[k]?=some x→∃ g,sa=some ⟨g,0,none⟩∧V.cell? ⟨g,k,none⟩=some (.pointer (some ⟨x,0,none⟩))):=fun k x V hV hx=>by
  have hTV:Pg.TkS V w.heap.size (.slice sa C.length sc) C:=Kd.row hV.kd HT1.out (by unfold Pg.cG;decide)
  rcases hTV.form with ⟨_,e2⟩ | ⟨g,cp,cu,e1,e2,e3,e4⟩
  ·subst e2
   simp at hx
  ·simp only [Value.slice.injEq] at e1
   obtain ⟨rfl,_,rfl⟩:=e1
   exact ⟨g,rfl,e4.cell hx⟩
 have hlo1:lo≤w1.heap.size:=Nat.le_trans hlo hb1.size
 have HRF1:Hid (Pg.Rf lo w w1):=Pg.RfE.of hb1 hlo
 have HM1:Hid (Pg.MT w1 lo mb pb r):=H0.out.below hlw hb1
 clear hch
 go_loopw [16,5] (fun i t wr=>∃ (k:Nat),i = .int .i64 k∧t = .int .u32 ((Pg.fj r.act pmF (C.take k):Nat):Int)∧k≤C.length∧Hid (Below w1.heap.size w1 wr)) (fun i _ _=>C.length-(intOf i).toNat)
 case atStart=>exact ⟨0,rfl,rfl,by omega,Below.refl _ _⟩
 case round =>
  obtain ⟨k,rfl,rfl,hkl,HB⟩:=hrel
  by_cases hk:k<C.length
  ·obtain ⟨x,hx⟩:∃ x,C[k]?=some x:=⟨_,List.getElem?_eq_getElem hk⟩
   have hRr:Pg.Rf lo w1 wr:=Pg.RfE.of HB.out hlo1
   obtain ⟨g,ha,hcx⟩:=HC.out k x wr hRr hx
   subst ha
   have hmx:=(HV.out wr (HRF1.out.trans hRr)).2 x (List.mem_of_getElem? hx)
   have hle:=jK wr lo mb pb r x (pmF x).own (pmF x).lv (HM1.out.below hlw HB.out) (hmx.mvb hN)
   have hsn:Pg.fj r.act pmF (C.take (k+1))=Pg.fj r.act pmF (C.take k)|||((pmF x).lv&&&r.act):=by rw [← Pg.xq,List.take_add_one,hx];rfl
   have l1:Pg.fj r.act pmF (C.take k)<4294967296:=Pg.qb hN (Pg.lG pmF HR0.out.act _ 0 (Nat.two_pow_pos _))
   have l2:(pmF x).lv&&&r.act<4294967296:=Nat.lt_of_le_of_lt Nat.and_le_right (Pg.qb hN HR0.out.act)
   have hor:=u32_or_nat _ _ l1 l2
   rw [← hsn] at hor
   have hki:((k:Int)<(C.length:Int)):=by omega
   clear hmx hx hsn
   generalize Pg.fj r.act pmF (C.take k)=a1 at *
   obtain ⟨a2,ha2⟩:∃ a2,Pg.fj r.act pmF (C.take (k+1))=a2:=⟨_,rfl⟩
   rw [ha2] at hor
   have HA2:Hid _:=ha2
   clear ha2
   generalize (pmF x).lv&&&r.act=a3 at *
   go_wp2_with (go_at_call 191;refine hle.mono ?_;rintro e w9 ⟨rfl,hb9⟩)
   go_roundw
   case rel=>exact ⟨k+1,by simp,by rw [HA2.out],by omega,HB.out.trans (hb9.mono HB.out.size)⟩
   case measure=>simp only [intOf];omega
  ·obtain rfl:k=C.length:=by omega
   rw [List.take_length]
   have hLl:Pg.fj r.act pmF C<2 ^ ps.length:=Pg.lG pmF HR0.out.act _ 0 (Nat.two_pow_pos _)
   have HAN2:=HAN.out
   unfold Pg.ue at HAN2
   dsimp only at HAN2
   obtain ⟨left,hleft⟩:∃ left,Pg.fj r.act pmF C=left:=⟨_,rfl⟩
   rw [hleft] at hLl HAN2 ⊢
   have HANS:Hid _:=HAN2
   clear hleft HAN2 HAN
   have hRr:Pg.Rf lo w1 wr:=Pg.RfE.of HB.out hlo1
   obtain ⟨hPr,_⟩:=HV.out wr (HRF1.out.trans hRr)
   have hke:=BK wr lo mb pb b cap r ps fin left EN LV hvs H D hPr.dc hPr.hist (HM1.out.below hlw HB.out) (Pg.qb hN hLl) (Pg.ia HR0.out.act)
   obtain ⟨r2,hr2⟩:∃ r2,Pg.fH ps left D H r H.length=r2:=⟨_,rfl⟩
   have hr2k:Pg.ROK ps r2:=hr2 ▸ Pg.lC HIN.out HR0.out _
   have hr2q:r2.q=r.q:=hr2 ▸ (Pg.jb ps left D H r H.length).2.1
   rw [hr2] at hke
   have HANS2:=HANS.out
   rw [hr2] at HANS2
   obtain ⟨r3,hr3⟩:∃ r3,Pg.cI LV r2 (Pg.els left).reverse=r3:=⟨_,rfl⟩
   rw [hr3] at HANS2
   have hr3k:Pg.ROK ps r3:=hr3 ▸ Pg.j4 LV _ _ hr2k
   have hr3q:r3.q.length≤4390100000000:=by
    have h1:=Pg.lD hPr.dc (Pg.els left).reverse r2 (fun i hi=>Pg.ia hLl i (List.mem_reverse.1 hi))
    have h2:(Pg.els left).length≤32:=by
     have:=List.length_filter_le left.testBit (List.range 32)
     rw [List.length_range] at this
     exact this
    rw [hr3,hr2q,List.length_reverse] at h1
    omega
   have HANS3:Hid _:=HANS2
   have HLV:Hid (∀ w2,Pg.MT w2 lo mb pb r2→Pg.Rf lo wr w2→Calls Tryz.prog 193 #[.pointer (some ⟨mb,0,none⟩),.int .u32 left] w2 fun e w'=>e = .returned (.tuple #[])∧Pg.MT w' lo mb pb r3∧Pg.Rf lo w1 w'):=fun w2 hM2 hR2=>by
    refine (zZ w2 lo mb pb b cap r2 ps fin left EN LV (hPr.rf hR2).dc hM2 (Pg.qb hN hLl) (Pg.ia hLl) (by rw [hr2q];omega)).mono ?_
    rintro e w' ⟨rfl,a,c⟩
    rw [hr3] at a
    exact ⟨rfl,a,hRr.trans (hR2.trans c)⟩
   clear HANS2 hr2 hr3 HANS HB hPr
   go_wp2_with (first
    | (go_at_call 192;refine hke.mono ?_;intro e w2 h2;obtain ⟨rfl,m2,c2⟩:=h2;have hlv:=HLV.out w2 m2 c2;clear m2 c2)
    | (go_at_call 193;refine hlv.mono ?_;intro e w3 h3;obtain ⟨rfl,m3,c3⟩:=h3;have HM3:Hid (Pg.MT w3 lo mb pb r3):=m3;have HC3:Hid (Pg.Rf lo w1 w3):=c3;clear m3 c3))
   clear hke
   go_loopw [34,6] (fun i t wr=>∃ (k:Nat),i = .int .i64 k∧t = .int .u32 (((Pg.gy ps pmF acF (r3,0) (C.take k)).2:Nat):Int)∧k≤C.length∧Hid (Pg.MT wr lo mb pb (Pg.gy ps pmF acF (r3,0) (C.take k)).1∧Pg.Rf lo w1 wr∧(Pg.gy ps pmF acF (r3,0) (C.take k)).1.q.length≤r3.q.length+k*1048576)) (fun i _ _=>C.length-(intOf i).toNat)
   case atStart=>exact ⟨0,rfl,rfl,by omega,HM3.out,HC3.out,by simp [Pg.gy]⟩
   case round =>
    obtain ⟨k,rfl,rfl,hkl,HI⟩:=hrel
    have hok:=Pg.nP (pmF:=pmF) (acF:=acF) (C.take k) (r3,0) hr3k (Nat.two_pow_pos _) (fun m hm=>((HV.out w1 HRF1.out).2 m (List.mem_of_mem_take hm)).en)
    by_cases hk:k<C.length
    ·obtain ⟨x,hx⟩:∃ x,C[k]?=some x:=⟨_,List.getElem?_eq_getElem hk⟩
     have hsn:Pg.gy ps pmF acF (r3,0) (C.take (k+1))=Pg.si ps pmF acF (Pg.gy ps pmF acF (r3,0) (C.take k)) x:=by rw [← Pg.zl,List.take_add_one,hx];rfl
     obtain ⟨⟨rk,ek⟩,hz⟩:∃ z,Pg.gy ps pmF acF (r3,0) (C.take k)=z:=⟨_,rfl⟩
     have HI2:=HI.out
     rw [hz] at hok hsn HI2 ⊢
     obtain ⟨hM,hR,hq⟩:=HI2
     dsimp only at hok hM hq ⊢
     have HSN:Hid _:=hsn
     clear hsn hz HI
     obtain ⟨g,ha,hcx⟩:=HC.out k x wr hR hx
     subst ha
     obtain ⟨hPr,hmr⟩:=HV.out wr (HRF1.out.trans hR)
     have hmx:=hmr x (List.mem_of_getElem? hx)
     clear hmr
     have hEn:=hmx.en
     have hdo:=wP wr lo mb pb rk (pmF x).aj (acF x) hlw hM hmx.aj (by omega)
     have hrdk:Pg.ROK ps (Pg.doL rk (acF x)):=Pg.sD hok.1 _
     have hrdq:=Pg.qM rk (acF x)
     have hacl:=hmx.aj.len
     obtain ⟨rd,hrd⟩:∃ rd,Pg.doL rk (acF x)=rd:=⟨_,rfl⟩
     have HS2:Hid (Pg.gy ps pmF acF (r3,0) (C.take (k+1))=(rd,ek|||Pg.enters ps rd.kept (pmF x).en)):=by
      unfold Hid
      rw [HSN.out]
      unfold Pg.si
      dsimp only
      rw [hrd]
     rw [hrd] at hdo hrdk hrdq
     clear hrd HSN
     have e1l:ek<4294967296:=Pg.qb hN hok.2
     have e2l:Pg.enters ps rd.kept (pmF x).en<4294967296:=Pg.qb hN (Pg.qP hEn)
     have hor:=u32_or_nat _ _ e1l e2l
     obtain ⟨fv,hmb,hea⟩:=hmx.at'
     have ca:wr.cell? ⟨x,2,none⟩=some (.slice (pmF x).aj.a (pmF x).aj.n (pmF x).aj.c):=by rw [cell_of_row wr _ _ _ _ _ hmb];rfl
     unfold Ref.Sl.v at hdo
     have hki:((k:Int)<(C.length:Int)):=by omega
     have HFIN:Hid (∀ w9 V,Pg.MT w9 lo mb pb rd→Pg.Rf lo wr w9→Below w9.heap.size w9 V→Pg.MT V lo mb pb (Pg.gy ps pmF acF (r3,0) (C.take (k+1))).1∧Pg.Rf lo w1 V∧(Pg.gy ps pmF acF (r3,0) (C.take (k+1))).1.q.length≤r3.q.length+(k+1)*1048576):=fun w9 V hM9 hR9 hV=>by
      rw [HS2.out]
      exact ⟨hM9.below hlw hV,hR.trans (hR9.trans (Pg.RfE.of hV hM9.lo')),by dsimp only;omega⟩
     have HC9:Hid (∀ w9 V,Pg.MT w9 lo mb pb rd→Pg.Rf lo wr w9→Below w9.heap.size w9 V→V.heap[x]?=some (.cells #[.int .i64 (pmF x).own,.int .u32 (pmF x).lv,.slice (pmF x).aj.a (pmF x).aj.n (pmF x).aj.c,fv] 319 (0,0))∧Pg.pU V pb b (pmF x).en fv∧Pg.fi V lo pb b cap ps fin EN LV∧Pg.MT V lo mb pb rd):=fun w9 V hM9 hR9 hV=>by
      have hRV:Pg.Rf lo wr V:=hR9.trans (Pg.RfE.of hV hM9.lo')
      exact ⟨(hRV.kd.ay _ _ _ _ hmb (by unfold Pg.cG;decide)).trans hmb,hea.ay (fun B t u ht hb=>Kd.boxed hRV.kd hb (by rcases ht with rfl | rfl | rfl | rfl <;> (unfold Pg.cG;decide))),hPr.dc.below hRV.bel,hM9.below hlw hV⟩
     obtain ⟨e2,he2⟩:∃ e2,Pg.enters ps rd.kept (pmF x).en=e2:=⟨_,rfl⟩
     obtain ⟨e3,he3⟩:∃ e3,ek|||e2=e3:=⟨_,rfl⟩
     rw [he2,he3] at hor
     rw [he2,he3] at HS2
     have HE2:Hid _:=he2
     clear hmx hPr hM hx hacl hrdq e2l he2 he3 hmb
     obtain ⟨en,hen⟩:∃ en,(pmF x).en=en:=⟨_,rfl⟩
     rw [hen] at hea hEn HE2 HC9
     clear hen
     cases en with
     | nil =>
      have hfv:fv = .func (.func 161) #[] #[]:=hea
      subst hfv
      clear hea
      have HCL:Hid (∀ w9 V,Pg.MT w9 lo mb pb rd→Pg.Rf lo wr w9→Below w9.heap.size w9 V→V.cell? ⟨x,3,none⟩=some (.func (.func 161) #[] #[])∧Calls Tryz.prog 161 #[.pointer (some ⟨mb,2,none⟩)] V fun e w'=>e = .returned (.int .u32 (e2:Int))∧Below w9.heap.size w9 w'):=fun w9 V hM9 hR9 hV=>by
       obtain ⟨x1,x2,x3,x4⟩:=HC9.out w9 V hM9 hR9 hV
       refine ⟨by rw [cell_of_row V _ _ _ _ _ x1];rfl,?_⟩
       refine (mK V (.pointer (some ⟨mb,2,none⟩))).mono (fun e w' y=>⟨?_,by rw [y.2];exact hV⟩)
       rw [y.1,← HE2.out]
       rfl
      go_wp2_with (go_at_call 152;refine hdo.mono ?_;intro e w9 h9;obtain ⟨rfl,m9,c9⟩:=h9;have M9:Hid (Pg.MT w9 lo mb pb rd):=m9;have C9:Hid (Pg.Rf lo wr w9):=c9;clear m9 c9)
      have hBd:=(Below.refl w9.heap.size w9).drew
      have hkB:∀ V:World,Below w9.heap.size w9 V→(fun V=>V.cell? ⟨x,3,none⟩=some ((.func (.func 161) #[] #[]))) V:=fun V hV=>(HCL.out w9 V M9.out C9.out hV).1
      have hcl:∀ V:World,Below w9.heap.size w9 V→Calls Tryz.prog 161 #[.pointer (some ⟨mb,2,none⟩)] V fun e w'=>e = .returned (.int .u32 (e2:Int))∧Below w9.heap.size w9 w':=fun V hV=>(HCL.out w9 V M9.out C9.out hV).2
      refine wp_region_held_drew (S:=(fun V=>V.cell? ⟨x,3,none⟩=some ((.func (.func 161) #[] #[])))) (by kernel_rfl) (hkB _ hBd) (fun hHeld => ?_)
      refine tD (some 44) 0 (.int .u32 ek) rfl hHeld ?_
      refine tD (some 45) 1 (.pointer (some ⟨x,0,none⟩)) rfl hHeld ?_
      refine tD (some 46) 2 (.pointer (some ⟨x,0,none⟩)) rfl hHeld ?_
      refine tD (some 47) 3 (.pointer (some ⟨x,3,none⟩)) rfl hHeld ?_
      refine tD (some 48) 4 (.func (.func 161) #[] #[]) rfl hHeld ?_
      refine tD (some 49) 5 (.pointer (some ⟨mb,0,none⟩)) rfl hHeld ?_
      refine tD (some 50) 6 (.pointer (some ⟨mb,0,none⟩)) rfl hHeld ?_
      refine tD (some 51) 7 (.pointer (some ⟨mb,2,none⟩)) rfl hHeld ?_
      refine zH 8 rfl fun K hK => ?_
      go_simp
      refine (hcl _ (by assumption)).mono ?_
      rintro e wA ⟨rfl,hA⟩
      refine hK.out _ _ (hkB wA hA) (fun hHeld => ?_)
      clear hK K
      refine tD (some 53) 9 (.int .u32 e3) rfl hHeld ?_
      refine tD (some 6) 10 (.int .u32 e3) rfl hHeld ?_
      refine wpAnyH_done (by kernel_rfl) ?_ _
      clear hHeld
      go_wp2
      go_roundw
      case rel=>exact ⟨k+1,by simp,by rw [HS2.out],by omega,HFIN.out w9 wA M9.out C9.out hA⟩
      case measure=>simp only [intOf];omega
     | all a =>
      obtain ⟨c,hfv,hcb⟩:=hea
      subst hfv
      clear hcb
      have HCL:Hid (∀ w9 V,Pg.MT w9 lo mb pb rd→Pg.Rf lo wr w9→Below w9.heap.size w9 V→V.cell? ⟨x,3,none⟩=some (.func (.func 199) #[] #[.pointer (some ⟨c,0,none⟩)])∧Calls Tryz.prog 199 #[.pointer (some ⟨mb,2,none⟩),.pointer (some ⟨c,0,none⟩)] V fun e w'=>e = .returned (.int .u32 (e2:Int))∧Below w9.heap.size w9 w'):=fun w9 V hM9 hR9 hV=>by
       obtain ⟨x1,x2,x3,x4⟩:=HC9.out w9 V hM9 hR9 hV
       refine ⟨by rw [cell_of_row V _ _ _ _ _ x1];rfl,?_⟩
       obtain ⟨c',hc',hcb⟩:=x2
       have ec:c=c':=by simpa using hc'
       subst ec
       refine (vf V c a (.pointer (some ⟨mb,2,none⟩)) hcb.cell).mono (fun e w' y=>⟨?_,by rw [y.2];exact hV⟩)
       rw [y.1,← HE2.out]
       rfl
      go_wp2_with (go_at_call 152;refine hdo.mono ?_;intro e w9 h9;obtain ⟨rfl,m9,c9⟩:=h9;have M9:Hid (Pg.MT w9 lo mb pb rd):=m9;have C9:Hid (Pg.Rf lo wr w9):=c9;clear m9 c9)
      have hBd:=(Below.refl w9.heap.size w9).drew
      have hkB:∀ V:World,Below w9.heap.size w9 V→(fun V=>V.cell? ⟨x,3,none⟩=some ((.func (.func 199) #[] #[.pointer (some ⟨c,0,none⟩)]))) V:=fun V hV=>(HCL.out w9 V M9.out C9.out hV).1
      have hcl:∀ V:World,Below w9.heap.size w9 V→Calls Tryz.prog 199 #[.pointer (some ⟨mb,2,none⟩),.pointer (some ⟨c,0,none⟩)] V fun e w'=>e = .returned (.int .u32 (e2:Int))∧Below w9.heap.size w9 w':=fun V hV=>(HCL.out w9 V M9.out C9.out hV).2
      refine wp_region_held_drew (S:=(fun V=>V.cell? ⟨x,3,none⟩=some ((.func (.func 199) #[] #[.pointer (some ⟨c,0,none⟩)])))) (by kernel_rfl) (hkB _ hBd) (fun hHeld => ?_)
      refine tD (some 44) 0 (.int .u32 ek) rfl hHeld ?_
      refine tD (some 45) 1 (.pointer (some ⟨x,0,none⟩)) rfl hHeld ?_
      refine tD (some 46) 2 (.pointer (some ⟨x,0,none⟩)) rfl hHeld ?_
      refine tD (some 47) 3 (.pointer (some ⟨x,3,none⟩)) rfl hHeld ?_
      refine tD (some 48) 4 (.func (.func 199) #[] #[.pointer (some ⟨c,0,none⟩)]) rfl hHeld ?_
      refine tD (some 49) 5 (.pointer (some ⟨mb,0,none⟩)) rfl hHeld ?_
      refine tD (some 50) 6 (.pointer (some ⟨mb,0,none⟩)) rfl hHeld ?_
      refine tD (some 51) 7 (.pointer (some ⟨mb,2,none⟩)) rfl hHeld ?_
      refine zH 8 rfl fun K hK => ?_
      go_simp
      refine (hcl _ (by assumption)).mono ?_
      rintro e wA ⟨rfl,hA⟩
      refine hK.out _ _ (hkB wA hA) (fun hHeld => ?_)
      clear hK K
      refine tD (some 53) 9 (.int .u32 e3) rfl hHeld ?_
      refine tD (some 6) 10 (.int .u32 e3) rfl hHeld ?_
      refine wpAnyH_done (by kernel_rfl) ?_ _
      clear hHeld
      go_wp2
      go_roundw
      case rel=>exact ⟨k+1,by simp,by rw [HS2.out],by omega,HFIN.out w9 wA M9.out C9.out hA⟩
      case measure=>simp only [intOf];omega
     | hist p t=>exact False.elim hEn
    ·obtain rfl:k=C.length:=by omega
     have HI2:=HI.out
     rw [List.take_length] at HI2 hok ⊢
     obtain ⟨⟨rk,ek⟩,hz⟩:∃ z,Pg.gy ps pmF acF (r3,0) C=z:=⟨_,rfl⟩
     have HANS4:=HANS3.out
     rw [hz] at hok HI2 HANS4 ⊢
     dsimp only at hok HI2 HANS4 ⊢
     obtain ⟨hM,hR,hq⟩:=HI2
     have hen:=qO wr lo mb pb b cap rk ps fin ek EN LV (HV.out wr (HRF1.out.trans hR)).1.dc hM (Pg.qb hN hok.2) (Pg.ia hok.2) (by omega)
     rw [← HANS4] at hen
     have HRW:Hid _:=hR
     clear HANS4 HANS3 hM hR hq HI hz hok
     go_wp2_with (go_at_call 112;refine hen.mono ?_;intro e w9 h9;obtain ⟨rfl,m9,c9⟩:=h9)
     go_end0
     exact ⟨rfl,m9,HRF1.out.trans (HRW.out.trans c9)⟩
namespace Pg
def PA.sz:PA→Prop
 | .raise ev=>ev.size≤1000000
 | .send ev _=>ev.size≤1000000
 | .sendAs ev _ _=>ev.size≤1000000
 | _=>True
def TOK (now:Nat) (T:List Tn):Prop:=now<18446744073709551616∧∀ x∈T,now≤x.t∧x.ev.size≤1000000
structure QOK (r:RSt):Prop where
 q:∀ e∈r.q,e.size≤1000000
 fin:r.fin=0∨r.fin=5∨r.fin=6
 tm:TOK r.now r.tm
structure SzP (ps:List PS) (EN LV:Nat→List PA):Prop where
 en:∀ i,∀ a∈EN i,a.sz
 lv:∀ i,∀ a∈LV i,a.sz
 done:∀ (i:Nat) (p:PS),ps[i]?=some p→p.done.size≤1000000
theorem QOK.snoc {r:RSt} (h:QOK r) {ev:ByteArray} (he:ev.size≤1000000):QOK { r with q:=r.q++[ev] }:=⟨fun e hx=>by
 rcases List.mem_append.1 hx with hx | hx
 ·exact h.q e hx
 ·rw [List.mem_singleton.1 hx];exact he,h.fin,h.tm⟩
theorem Dj {r:RSt} (h:QOK r) {a:PA} (ha:a.sz):QOK (fY r a):=by
 have hs:∀ (ev:ByteArray) nm d,ev.size≤1000000→QOK (iq r ev nm d):=fun ev nm d he=>by
  unfold iq
  split
  ·exact h.snoc (by decide)
  ·refine ⟨h.q,h.fin,h.tm.1,fun x hx => ?_⟩
   rcases List.mem_append.1 hx with hx | hx
   ·exact h.tm.2 x hx
   ·rw [List.mem_singleton.1 hx]
    refine ⟨?_,he⟩
    have:=h.tm.1
    show r.now≤atF r.now d
    unfold atF
    split <;> omega
 cases a with
 | raise ev=>exact h.snoc ha
 | send ev d=>exact hs _ _ _ ha
 | sendAs ev d id=>exact hs _ _ _ ha
 | cancel id=>exact ⟨h.q,h.fin,h.tm.1,fun x hx=>h.tm.2 x (List.mem_filter.1 hx).1⟩
theorem sE:∀ (L:List PA) (r:RSt),QOK r→(∀ a∈L,a.sz)→QOK (doL r L)
 | [],_,h,_=>h
 | x::L,r,h,hL=>sE L (fY r x) (Dj h (hL x (List.mem_cons_self ..))) (fun a ha=>hL a (List.mem_cons_of_mem _ ha))
theorem DH {ps:List PS} {fin:Nat} {r:RSt} (h:QOK r) (i:Nat):QOK (kG ps fin r i):=by
 unfold kG
 split
 ·exact h
 ·split
  ·exact ⟨h.q,.inr (.inl rfl),h.tm⟩
  ·exact h
theorem DC {ps:List PS} {EN LV:Nat→List PA} (hz:SzP ps EN LV) {fin:Nat} {r:RSt} (h:QOK r) (i:Nat):QOK (iM ps fin EN r i):=by
 have h1:QOK { r with act:=r.act|||2 ^ i }:=⟨h.q,h.fin,h.tm⟩
 have h2:=sE (EN i) _ h1 (hz.en i)
 unfold iM
 dsimp only
 split
 ·split
  ·exact DH h2 i
  ·exact h2
 ·exact h2
theorem mJ {ps:List PS} {EN LV:Nat→List PA} (hz:SzP ps EN LV) {fin:Nat}:∀ (l:List Nat) (r:RSt),QOK r→QOK (bX ps fin EN r l)
 | [],_,h=>h
 | i::l,r,h=>mJ hz l (iM ps fin EN r i) (DC hz h i)
theorem qR {ps:List PS} {EN LV:Nat→List PA} (hz:SzP ps EN LV):∀ (l:List Nat) (r:RSt),QOK r→QOK (cI LV r l)
 | [],_,h=>h
 | i::l,r,h=>qR hz l (oY LV r i) (by
  have h1:=sE (LV i) r h (hz.lv i)
  exact ⟨h1.q,h1.fin,h1.tm⟩)
theorem yt {ps:List PS} {pmF:Nat→PM} {acF:Nat→List PA}:∀ (C:List Nat) (z:RSt×Nat),QOK z.1→(∀ m∈C,∀ a∈acF m,a.sz)→QOK (gy ps pmF acF z C).1
 | [],_,h,_=>h
 | m::C,z,h,hC=>yt C (si ps pmF acF z m) (sE _ _ h (hC m (List.mem_cons_self ..))) (fun x hx=>hC x (List.mem_cons_of_mem _ hx))
theorem yv {ps:List PS} {EN LV:Nat→List PA} (hz:SzP ps EN LV) {fin:Nat} {H:List HV} {D:Nat→Bool} {pmF:Nat→PM} {acF:Nat→List PA} {r:RSt} {C:List Nat} (h:QOK r) (hC:∀ m∈C,∀ a∈acF m,a.sz):QOK (ue ps fin EN LV H D pmF acF r C):=by
 obtain ⟨_,h2,h3,h4,h5⟩:=jb ps (fj r.act pmF C) D H r H.length
 exact mJ hz _ _ (yt C _ (qR hz _ _ ⟨by rw [h2];exact h.q,by rw [h5];exact h.fin,by rw [h3,h4];exact h.tm⟩) hC)
theorem Bc {ps:List PS} {pmF:Nat→PM} {acF:Nat→List PA}:∀ (C:List Nat) (z:RSt×Nat),(∀ m∈C,(acF m).length≤1048576)→(gy ps pmF acF z C).1.q.length≤z.1.q.length+C.length*1048576
 | [],_,_=>by simp [gy]
 | m::C,z,hC=>by
  have h1:=Bc (ps:=ps) (pmF:=pmF) (acF:=acF) C (si ps pmF acF z m) (fun x hx=>hC x (List.mem_cons_of_mem _ hx))
  have h2:=qM z.1 (acF m)
  have h3:=hC m (List.mem_cons_self ..)
  have h4:(si ps pmF acF z m).1.q=(doL z.1 (acF m)).q:=rfl
  rw [h4] at h1
  show (gy ps pmF acF (si ps pmF acF z m) C).1.q.length≤_
  rw [List.length_cons]
  omega
theorem nW (s:Nat):(els s).length≤32:=by
 have:=List.length_filter_le s.testBit (List.range 32)
 rw [List.length_range] at this
 exact this
theorem zm {w:World} {lo pb b cap:Nat} {ps:List PS} {fin:Nat} {EN LV:Nat→List PA} {hvs:Ref.Sl} {H:List HV} {D:Nat→Bool} {mbm n:Nat} {T:ByteArray→Option (List (Option PM))} {M:ByteArray→Option Nat} {Lr:Nat→List (Option Nat)} {pmF:Nat→PM} {acF:Nat→List PA} (h:mx w lo pb b cap ps fin EN LV hvs H D mbm n T M Lr pmF acF) {r:RSt} (hr:ROK ps r) (ev:ByteArray):(aP ps fin EN LV H D M Lr pmF acF r ev).q.length≤r.q.length+200000000:=by
 have hw:=h.want ev (els (inn ps r.act))
 obtain ⟨c1,c2⟩:=fq ps r.act (fun m=>(pmF m).lv) (fun m=>(pmF m).own) (ff M Lr ev (els (inn ps r.act))) _ (Nat.le_refl _)
 rw [List.take_length] at c1 c2
 have hwl:(ff M Lr ev (els (inn ps r.act))).length≤32:=by
  unfold ff
  split
  ·simp
  ·have h1:=kh (L:=Lr ‹_›) (els (inn ps r.act)) []
   have h2:=nW (inn ps r.act)
   unfold dw
   simp at h1
   omega
 unfold aP
 generalize gA ps r.act (fun m=>(pmF m).lv) (fun m=>(pmF m).own) (ff M Lr ev (els (inn ps r.act)))=C at *
 have hLl:fj r.act pmF C<2 ^ ps.length:=lG pmF hr.act _ 0 (Nat.two_pow_pos _)
 unfold ue
 dsimp only
 generalize fj r.act pmF C=left at *
 obtain ⟨_,k2,_⟩:=jb ps left D H r H.length
 have kk:=lC (left:=left) (D:=D) (H:=H) h.inn hr H.length
 generalize fH ps left D H r H.length=r2 at *
 have l1:=lD h.dc (els left).reverse r2 (fun i hi=>ia hLl i (List.mem_reverse.1 hi))
 have l2:=nW left
 have lk:=j4 LV (els left).reverse r2 kk
 rw [List.length_reverse,k2] at l1
 generalize cI LV r2 (els left).reverse=r3 at *
 have a1:=Bc (ps:=ps) (pmF:=pmF) (acF:=acF) C (r3,0) (fun m hm=>(hw m (c1 m hm)).aj.len)
 have a2:=nP (pmF:=pmF) (acF:=acF) C (r3,0) lk (Nat.two_pow_pos _) (fun m hm=>(hw m (c1 m hm)).en)
 dsimp only at a1
 generalize gy ps pmF acF (r3,0) C=z at *
 have e1:=lu h.dc (els z.2) z.1 (ia a2.2)
 have e2:=nW z.2
 omega
def dv (step:RSt→ByteArray→RSt):Nat→RSt→RSt
 | 0,r=>match r.q with | []=>r | _::_=>if r.fin=0 then { r with fin:=6 } else r
 | n+1,r=>match r.q with | []=>r | ev::q'=>if r.fin=0 then dv step n (step { r with q:=q' } ev) else r
theorem kc {step:RSt→ByteArray→RSt} {r:RSt} (h:r.q=[]):∀ n,dv step n r=r
 | 0=>by unfold dv;rw [h]
 | n+1=>by unfold dv;rw [h]
theorem pB {step:RSt→ByteArray→RSt} {r:RSt} {x:ByteArray} {qs:List ByteArray} (h:r.q=x::qs) (hf:r.fin=0):dv step 0 r={ r with fin:=6 }:=by
 unfold dv
 rw [h]
 dsimp only
 rw [if_pos hf]
theorem pA {step:RSt→ByteArray→RSt} {r:RSt} {x:ByteArray} {qs:List ByteArray} (h:r.q=x::qs) (hf:r.fin=0) (n:Nat):dv step (n+1) r=dv step n (step { r with q:=qs } x):=by
 conv=>lhs;unfold dv
 rw [h]
 dsimp only
 rw [if_pos hf]
theorem mT {step:RSt→ByteArray→RSt} {r:RSt} (h:r.fin≠0):∀ n,dv step n r=r
 | 0=>by
  unfold dv
  split
  ·rfl
  ·rw [if_neg h]
 | n+1=>by
  unfold dv
  split
  ·rfl
  ·rw [if_neg h]
end Pg
theorem Pg.MT.Gu {W:World} {lo mb pb:Nat} {r:Pg.RSt} (h:Pg.MT W lo mb pb r) (hl:Pg.Lw lo) (qv':Value) (L:List ByteArray) (hq:QAt W lo qv' L):Pg.MT (W.setCell ⟨mb,26,none⟩ qv') lo mb pb { r with q:=L }∧Pg.Rf lo W (W.setCell ⟨mb,26,none⟩ qv'):=by
 obtain ⟨qv,wh,m,b⟩:=h.ex
 obtain ⟨arr,a1,a2,a3⟩:=m.blk
 have hmo:Mo (· = mb) W (W.setCell ⟨mb,26,none⟩ qv'):=(Mo.refl _ _).set _ _ rfl
 have hM:Pg.ak (W.setCell ⟨mb,26,none⟩ qv') lo mb pb qv' (({ r with q:=L }:Pg.RSt).m wh):=by
  refine ⟨⟨arr.setIfInBounds 26 qv',heap_setCell_same W mb 26 _ _ _ a1,by simp [a2],fun j hj => ?_⟩,hq.mo hmo (fun g hg e => ?_),m.lo'⟩
  ·by_cases e:j=26
   ·subst e
    rw [Array.getElem?_setIfInBounds_self_of_lt (by omega)]
    rfl
   ·rw [Array.getElem?_setIfInBounds_ne (fun x=>e x.symm),a3 j hj]
    simp [Pg.e8,e]
    rfl
  ·obtain ⟨c,hc⟩:=hq.kind g hg
   rw [show g=mb from e,a1] at hc
   simp at hc
 have hR:Pg.Rq lo W (W.setCell ⟨mb,26,none⟩ qv'):=Pg.RfE.mo (P:=(· = mb)) hmo (fun k hk=>by
  subst hk
  exact ⟨m.lo',arr,_,_,a1,.inl rfl⟩) h.lo'
 exact ⟨h.rq hl b hM hR rfl rfl h.act,Pg.vL hR⟩
theorem Pg.MT.CH {W:World} {lo mb pb:Nat} {r:Pg.RSt} (h:Pg.MT W lo mb pb r) (hl:Pg.Lw lo) (e:Nat):Pg.MT (W.setCell ⟨mb,419,none⟩ (Pg.eJ e)) lo mb pb { r with fin:=e }∧Pg.Rf lo W (W.setCell ⟨mb,419,none⟩ (Pg.eJ e)):=by
 obtain ⟨qv,wh,m,b⟩:=h.ex
 have hM:Pg.ak (W.setCell ⟨mb,419,none⟩ (Pg.eJ e)) lo mb pb qv (({ r with fin:=e }:Pg.RSt).m wh):=m.set 419 _ _ (by decide) rfl (fun j hj=>by
  by_cases e:j=419
  ·subst e;rfl
  ·rw [if_neg e]
   have hj:j<419:=by omega
   simp [Pg.e8,hj]
   rfl)
 have hR:Pg.Rq lo W (W.setCell ⟨mb,419,none⟩ (Pg.eJ e)):=Pg.RfE.mo (P:=(· = mb)) ((Mo.refl _ _).set _ _ rfl) (fun k hk=>by
  obtain ⟨arr,a1,_⟩:=m.blk
  subst hk
  exact ⟨m.lo',arr,_,_,a1,.inl rfl⟩) h.lo'
 exact ⟨h.rq hl b hM hR rfl rfl h.act,Pg.vL hR⟩
theorem Pg.MT.cq {W:World} {lo mb pb:Nat} {r:Pg.RSt} (h:Pg.MT W lo mb pb r):∃ qv,W.cell? ⟨mb,26,none⟩=some qv∧QAt W lo qv r.q∧W.cell? ⟨mb,419,none⟩=some (Pg.eJ r.fin):=by
 obtain ⟨qv,wh,m,b⟩:=h.ex
 exact ⟨qv,m.cell 26 (by decide),m.que,m.cell 419 (by decide)⟩
namespace Pg
def dZ (step:RSt→ByteArray→RSt) (r:RSt):RSt:={ dv step 60 r with q:=[] }
end Pg
theorem iJ (w:World) (lo mb pb b cap:Nat) (r:Pg.RSt) (ps:List Pg.PS) (fin:Nat) (EN LV:Nat→List Pg.PA) (hvs:Ref.Sl) (H:List Pg.HV) (D:Nat→Bool) (mbm n:Nat) (T:ByteArray→Option (List (Option Pg.PM))) (M:ByteArray→Option Nat) (Lr:Nat→List (Option Nat)) (pmF:Nat→Pg.PM) (acF:Nat→List Pg.PA) (hP:Pg.mx w lo pb b cap ps fin EN LV hvs H D mbm n T M Lr pmF acF) (hz:Pg.SzP ps EN LV) (hza:∀ m,∀ a∈acF m,Pg.PA.sz a) (h:Pg.MT w lo mb pb r) (hr:Pg.ROK ps r) (hqk:Pg.QOK r) (hql:r.q.length≤4300000000000) :
  Calls Tryz.prog 113 #[.pointer (some ⟨mb,0,none⟩)] w fun e w'=>e = .returned (.tuple #[])∧Pg.MT w' lo mb pb (Pg.dZ (Pg.aP ps fin EN LV H D M Lr pmF acF) r)∧Pg.Rf lo w w':=by
 have hlw:=hP.dc.lw
 obtain ⟨step,hstep⟩:∃ step,Pg.aP ps fin EN LV H D M Lr pmF acF=step:=⟨_,rfl⟩
 have HST:Hid _:=hstep
 rw [hstep]
 clear hstep
 have q0:∀ w:World,(binOp .eql 101 .nilIface .nilIface).run Tryz.prog w = .ok (.bool true) w:=fun w=>by kernel_rfl
 have q5:∀ w:World,(binOp .eql 101 (.iface 47 (.int .i64 5)) .nilIface).run Tryz.prog w = .ok (.bool false) w:=fun w=>by kernel_rfl
 have q6:∀ w:World,(binOp .eql 101 (.iface 47 (.int .i64 6)) .nilIface).run Tryz.prog w = .ok (.bool false) w:=fun w=>by kernel_rfl
 have HEND:Hid (∀ (V:World) (rz:Pg.RSt),Pg.MT V lo mb pb rz→Pg.Rf lo w V→{ rz with q:=[] }=Pg.dZ step r→(∃ u,V.cell? ⟨mb,26,none⟩=some u)∧V.frozen? ⟨mb,26,none⟩=false∧Pg.MT (V.setCell ⟨mb,26,none⟩ (.slice none 0 0)) lo mb pb (Pg.dZ step r)∧Pg.Rf lo w (V.setCell ⟨mb,26,none⟩ (.slice none 0 0))):=fun V rz hM hR e=>by
  obtain ⟨qv,c1,_⟩:=hM.cq
  obtain ⟨x1,x2⟩:=hM.Gu hlw (.slice none 0 0) [] (QAt.nil _ _)
  rw [e] at x1
  exact ⟨⟨_,c1⟩,hM.c0.2.2 26,x1,hR.trans x2⟩
 have HP:Hid _:=hP
 have HI0:Hid (Pg.MT w lo mb pb r∧Pg.ROK ps r∧Pg.QOK r):=⟨h,hr,hqk⟩
 clear h hr hqk hP
 go_enter Tryz.func113,Tryz.ntmps113
 go_wp2
 go_loopw [2] (fun a wr=>∃ k:Nat,a = .int .i64 k∧k≤60∧Hid (∃ rk,Pg.MT wr lo mb pb rk∧Pg.ROK ps rk∧Pg.QOK rk∧Pg.Rf lo w wr∧Pg.dv step (60-k) rk=Pg.dv step 60 r∧rk.q.length≤r.q.length+k*200000000)) (fun a _=>61-(intOf a).toNat)
 case atStart=>exact ⟨0,rfl,by omega,r,HI0.out.1,HI0.out.2.1,HI0.out.2.2,Pg.RfE.refl _ _,rfl,by omega⟩
 case round =>
  obtain ⟨k,rfl,hk60,HK⟩:=hrel
  obtain ⟨rk,hM,hrk,hqk,hR,hrest,hqb⟩:=HK.out
  clear HK HI0
  obtain ⟨qv,c26,hQ,c419⟩:=hM.cq
  have hfz:=hM.c0.2.2
  have HF26:=hfz 26
  have HF419:=hfz 419
  clear hfz
  by_cases hq:rk.q=[]
  ·have hend:=HEND.out wr rk hM hR (by unfold Pg.dZ;rw [← hrest,Pg.kc hq])
   obtain ⟨a0,c0,hv0⟩:=hQ.form
   rw [hq] at hv0
   subst hv0
   obtain ⟨_,e2,e3,e4⟩:=hend
   have E3:Hid _:=e3
   have E4:Hid _:=e4
   clear e3 e4 hQ hM hrest hqk hrk
   simp only [List.length_nil] at c26
   go_wp2
   go_end0
   exact ⟨rfl,E3.out,E4.out⟩
  ·by_cases hf:rk.fin=0
   ·obtain ⟨x,qs,hxq⟩:∃ x qs,rk.q=x::qs:=by
     cases hc:rk.q with
     | nil=>exact absurd hc hq
     | cons x qs=>exact ⟨x,qs,rfl⟩
    rw [hxq] at hQ
    obtain ⟨g,off,cp,hv,hqc,hcm,hcx,hpop⟩:=hQ.head
    subst hv
    rw [hf] at c419
    unfold Pg.eJ at c419
    rw [if_pos rfl] at c419
    have hx1:=hqk.q x (by rw [hxq];exact List.mem_cons_self ..)
    have hlen1:((qs.length:Int)+1>0):=by omega
    by_cases h60:k=60
    ·subst h60
     have HRS:Hid ({ ({ rk with fin:=6 }:Pg.RSt) with q:=[] }=Pg.dZ step r):=by
      unfold Hid Pg.dZ
      rw [← hrest,Nat.sub_self,Pg.pB hxq hf]
     obtain ⟨x1,x2⟩:=hM.CH hlw 6
     have hend:=HEND.out _ _ x1 (hR.trans x2) HRS.out
     unfold Pg.eJ at hend
     rw [if_neg (by decide)] at hend
     obtain ⟨⟨u,e1⟩,e2,e3,e4⟩:=hend
     have E3:Hid _:=e3
     have E4:Hid _:=e4
     clear e3 e4 hQ hM hrest hqk hrk x1 x2 hpop
     go_wp2
     go_end0
     exact ⟨rfl,E3.out,E4.out⟩
    ·have hk1:((k:Int) == 60)=false:=by simp;omega
     have HN:Hid (Pg.dv step (60-(k+1)) (step { rk with q:=qs } x)=Pg.dv step 60 r):=by
      unfold Hid
      rw [← hrest,show 60-k=(60-(k+1))+1 by omega,Pg.pA hxq hf]
     have HANS:Hid (∀ V,Pg.MT V lo mb pb { rk with q:=qs }→Pg.Rf lo wr V→Calls Tryz.prog 154 #[.pointer (some ⟨mb,0,none⟩),.string x] V fun e w'=>e = .returned (.tuple #[])∧∃ rk',Pg.MT w' lo mb pb rk'∧Pg.ROK ps rk'∧Pg.QOK rk'∧Pg.Rf lo w w'∧Pg.dv step (60-(k+1)) rk'=Pg.dv step 60 r∧rk'.q.length≤r.q.length+(k+1)*200000000):=fun V hMV hRV=>by
      have hRw:=hR.trans hRV
      have hPV:=HP.out.rf hRw
      have hrk2:Pg.ROK ps { rk with q:=qs }:=⟨hrk.act,hrk.kept⟩
      have hqk2:Pg.QOK { rk with q:=qs }:=⟨fun e he=>hqk.q e (by rw [hxq];exact List.mem_cons_of_mem _ he),hqk.fin,hqk.tm⟩
      have hl2:({ rk with q:=qs }:Pg.RSt).q.length+1=rk.q.length:=by rw [hxq];rfl
      refine (wD V lo mb pb b cap { rk with q:=qs } ps fin EN LV hvs H D mbm n T M Lr pmF acF x hPV hMV hrk2 hx1 (by omega)).mono ?_
      rintro e w' ⟨rfl,a,c⟩
      have hq3:=Pg.zm hPV hrk2 x
      have e:=HN.out
      rw [← HST.out] at e ⊢
      refine ⟨rfl,_,a,?_,?_,hRw.trans c,e,by omega⟩
      ·refine Pg.yu HP.out.inn hrk2 (fun m hm => ?_)
       obtain ⟨c1,_⟩:=Pg.fq ps rk.act (fun m=>(pmF m).lv) (fun m=>(pmF m).own) (Pg.ff M Lr x (Pg.els (Pg.inn ps rk.act))) _ (Nat.le_refl _)
       rw [List.take_length] at c1
       exact (HP.out.want x _ m (c1 m hm)).en
      ·exact Pg.yv hz hqk2 (fun m _=>hza m)
     have HPOP:Hid (∀ off',(off'=off+1∨cp=0)→Pg.MT (wr.setCell ⟨mb,26,none⟩ (.slice (some ⟨g,off',none⟩) qs.length cp)) lo mb pb { rk with q:=qs }∧Pg.Rf lo wr (wr.setCell ⟨mb,26,none⟩ (.slice (some ⟨g,off',none⟩) qs.length cp))):=fun off' ho=>hM.Gu hlw _ qs (hpop off' ho)
     clear hQ hM hrest hqk hrk hpop HEND
     by_cases hcap:cp=0
     ·obtain ⟨y1,y2⟩:=HPOP.out off (.inr hcap)
      have hans:=HANS.out _ y1 y2
      subst hcap
      have hql0:qs.length=0:=by omega
      rw [hql0] at hans
      clear HANS HPOP y1 y2
      go_wp2_with (go_at_call 154;refine hans.mono ?_;intro e w9 h9;obtain ⟨rfl,h9⟩:=h9;have H9:Hid _:=h9;clear h9)
      go_roundw
      case rel=>exact ⟨k+1,by simp,by omega,H9⟩
      case measure=>simp only [intOf];omega
     ·obtain ⟨y1,y2⟩:=HPOP.out (off+1) (.inl rfl)
      have hans:=HANS.out _ y1 y2
      clear HANS HPOP y1 y2
      go_wp2_with (go_at_call 154;refine hans.mono ?_;intro e w9 h9;obtain ⟨rfl,h9⟩:=h9;have H9:Hid _:=h9;clear h9)
      go_roundw
      case rel=>exact ⟨k+1,by simp,by omega,H9⟩
      case measure=>simp only [intOf];omega
   ·have hend:=HEND.out wr rk hM hR (by unfold Pg.dZ;rw [← hrest,Pg.mT hf])
    obtain ⟨a0,c0,hv0⟩:=hQ.form
    subst hv0
    have hqp:0<rk.q.length:=List.length_pos_iff.2 hq
    have hqp':((rk.q.length:Int)>0):=by omega
    obtain ⟨_,e2,e3,e4⟩:=hend
    have E3:Hid _:=e3
    have E4:Hid _:=e4
    have hfin:=hqk.fin
    clear e3 e4 hQ hM hrest hqk hrk
    generalize rk.q.length=ql at *
    rcases hfin with hx | hx | hx
    ·exact absurd hx hf
    ·rw [hx] at c419
     unfold Pg.eJ at c419
     rw [if_neg (by decide)] at c419
     go_wp2
     go_end0
     exact ⟨rfl,E3.out,E4.out⟩
    ·rw [hx] at c419
     unfold Pg.eJ at c419
     rw [if_neg (by decide)] at c419
     go_wp2
     go_end0
     exact ⟨rfl,E3.out,E4.out⟩
theorem Ch (s:Nat) (w:World) (hs:s<4294967296):Calls Tryz.prog 194 #[.int .u32 s] w fun e w'=>(∃ n:Nat,n≤255∧e = .returned (.int .i64 n))∧w'=w.drew:=by
 have e1:(s:Int) / 16777216=((s / 16777216:Nat):Int):=by omega
 have h1:s / 16777216<256:=by omega
 have e2:bits BinOp.and IntKind.u32 ((s:Int) / 65536) 255=((s / 65536&&&255:Nat):Int):=by
  rw [show (s:Int) / 65536=((s / 65536:Nat):Int) by omega];exact bits_and_u32_nat _ 255 (by omega) (by omega)
 have h2:s / 65536&&&255<256:=Nat.lt_of_le_of_lt Nat.and_le_right (by omega)
 have e3:bits BinOp.and IntKind.u32 ((s:Int) / 256) 255=((s / 256&&&255:Nat):Int):=by
  rw [show (s:Int) / 256=((s / 256:Nat):Int) by omega];exact bits_and_u32_nat _ 255 (by omega) (by omega)
 have h3:s / 256&&&255<256:=Nat.lt_of_le_of_lt Nat.and_le_right (by omega)
 have e4:bits BinOp.and IntKind.u32 (s:Int) 255=((s&&&255:Nat):Int):=bits_and_u32_nat _ 255 (by omega) (by omega)
 have h4:s&&&255<256:=Nat.lt_of_le_of_lt Nat.and_le_right (by omega)
 generalize s / 16777216=a1 at *
 generalize s / 65536&&&255=a2 at *
 generalize s / 256&&&255=a3 at *
 generalize s&&&255=a4 at *
 have h1:a1<Lib.pop8tab.size:=h1
 have h2:a2<Lib.pop8tab.size:=h2
 have h3:a3<Lib.pop8tab.size:=h3
 have h4:a4<Lib.pop8tab.size:=h4
 go_enter Tryz.func194,Tryz.ntmps194
 go_wp2
 go_region
 go_wp2
 go_ret
 generalize Lib.pop8tab[a1].toNat=b1
 generalize Lib.pop8tab[a2].toNat=b2
 generalize Lib.pop8tab[a3].toNat=b3
 generalize Lib.pop8tab[a4].toNat=b4
 exact ⟨⟨(b1+b2+b3+b4) % 256,by omega,congrArg (fun x=>Ending.returned (.int .i64 x)) (by omega)⟩,rfl⟩
theorem DX (s:Nat) (w:World) (hs:s<4294967296):Calls Tryz.prog 155 #[.int .u32 s] w fun e w'=>(∃ n:Nat,n≤255∧e = .returned (.int .i64 n))∧w'=w.drew:=by
 go_enter Tryz.func155,Tryz.ntmps155
 go_wp2_with (go_at_call 194;refine (Ch s _ hs).mono ?_;rintro e w9 ⟨⟨n,hn,rfl⟩,hw9⟩;rw [hw9];clear hw9 w9)
 go_ret
 exact ⟨⟨n,hn,rfl⟩,rfl⟩
end
end Go.Proofs.YtegmoddppafkfaaGreatDoor
