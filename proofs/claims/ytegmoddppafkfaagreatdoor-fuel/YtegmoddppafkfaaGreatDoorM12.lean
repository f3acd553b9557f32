import Derived.Test.YtegmoddppafkfaaGreatDoorM00
import Derived.Test.YtegmoddppafkfaaGreatDoorM11
set_option maxRecDepth 100000
set_option maxHeartbeats 8000000
namespace Go.Proofs.YtegmoddppafkfaaGreatDoor
section
open Go.RowKit Go.Proofs Go.Shelf
namespace Pg
structure yJ (w:World) (lo pb b N cap:Nat) (hv:Value) (fin mbm n:Nat) (T:ByteArray→Option (List (Option PM))) (M:ByteArray→Option Nat) (L:Nat→List (Option Nat)):Prop where
 pl:cH w pb b N cap hv fin (.map (some mbm))
 tab:Tab w pb b N mbm n T M L
theorem yJ.rf {w w':World} {lo pb b N cap:Nat} {hv:Value} {fin mbm n:Nat} {T:ByteArray→Option (List (Option PM))} {M:ByteArray→Option Nat} {L:Nat→List (Option Nat)} (h:yJ w lo pb b N cap hv fin mbm n T M L) (hR:Rf lo w w') (hpb:pb<lo):yJ w' lo pb b N cap hv fin mbm n T M L:=by
 refine ⟨(hR.bel.block pb hpb).trans h.pl,h.tab.kd (P:=(· ≠ mbm)) hR.kd (fun t ht => ?_) (by unfold b8;decide) ⟨hR.bel.os,hR.bel.tape,hR.bel.output,hR.bel.size,fun k hk hn => ?_⟩ (fun h=>h rfl)⟩
 ·rcases ht with rfl | rfl | rfl | rfl | rfl <;> (unfold b8;decide)
 ·have:k=mbm:=Classical.byContradiction hn
  subst this
  obtain ⟨es,cl,hm⟩:=h.tab.map.kind
  exact (hR.oth.same k _ hm rfl).trans hm.symm
def eV (M:ByteArray→Option Nat) (L:Nat→List (Option Nat)) (ev:ByteArray) (l:List Nat):List Nat:=match M ev with
 | none=>[]
 | some g=>dj (L g) l
theorem kf {L:List (Option Nat)}:∀ (l:List Nat) (acc:List Nat),(l.foldl (et L) acc).length≤acc.length+l.length
 | [],acc=>Nat.le_refl _
 | i::l,acc=>by
  have h1:=kf (L:=L) l (et L acc i)
  have h2:=rI L acc i
  show (l.foldl (et L) (et L acc i)).length≤_
  rw [List.length_cons]
  omega
def arA (ps:List PS) (i:Nat):Nat:=match ps[i]? with | some p=>p.around | none=>0
def gx (ps:List PS) (act:Nat) (lF oF:Nat→Nat) (WL:List Nat):List Nat:=WL.foldl (fun acc v=>tv act lF oF (arA ps (oF v)) acc v) []
theorem oh (ps:List PS) (act:Nat) (lF oF:Nat→Nat) (WL:List Nat) (v:Nat):gx ps act lF oF (WL++[v])=tv act lF oF (arA ps (oF v)) (gx ps act lF oF WL) v:=by unfold gx;rw [List.foldl_append];rfl
theorem CI {act:Nat} {lF oF:Nat→Nat} {ar v x:Nat} {L:List Nat} (h:x∈tv act lF oF ar L v):x=v∨x∈L:=by
 unfold tv at h
 split at h
 ·exact .inr h
 ·rcases List.mem_append.1 h with h | h
  ·exact .inr (List.mem_filter.1 h).1
  ·exact .inl (List.mem_singleton.1 h)
theorem CH (act:Nat) (lF oF:Nat→Nat) (ar v:Nat) (L:List Nat):(tv act lF oF ar L v).length≤L.length+1:=by
 unfold tv
 split
 ·omega
 ·rw [List.length_append,List.length_singleton]
  have:(flt (fun x=>fA act (lF x) (lF v)) L).length≤L.length:=List.length_filter_le _ _
  omega
theorem fg (ps:List PS) (act:Nat) (lF oF:Nat→Nat) (WL:List Nat):∀ k,k≤WL.length→(∀ x∈gx ps act lF oF (WL.take k),x∈WL)∧(gx ps act lF oF (WL.take k)).length≤k
 | 0,_=>⟨fun x hx=>by simp [gx] at hx,by simp [gx]⟩
 | k+1,hk=>by
  obtain ⟨h1,h2⟩:=fg ps act lF oF WL k (by omega)
  obtain ⟨v,hv⟩:∃ v,WL[k]?=some v:=⟨_,List.getElem?_eq_getElem (by omega)⟩
  have e:WL.take (k+1)=WL.take k++[v]:=by rw [List.take_add_one,hv];rfl
  rw [e,oh]
  refine ⟨fun x hx => ?_,Nat.le_trans (CH ..) (by omega)⟩
  rcases CI hx with rfl | hx
  ·exact List.mem_of_getElem? hv
  ·exact h1 x hx
end Pg
theorem Au (w:World) (lo pb b N cap:Nat) (hv:Value) (fin mbm n:Nat) (T:ByteArray→Option (List (Option Pg.PM))) (M:ByteArray→Option Nat) (L:Nat→List (Option Nat)) (ev:ByteArray) (s:Nat) (h:Pg.yJ w lo pb b N cap hv fin mbm n T M L) (hev:ev.size≤1000000) (hs:s<4294967296) (hin:∀ i,i∈Pg.els s→i<N) (hg:1<w.heap.size) (hT:TabAt 1 Lib.deBruijn32tab w) :
  Calls Tryz.prog 234 #[.pointer (some ⟨pb,0,none⟩),.string ev,.int .u32 s] w fun e w'=>∃ v:Ref.Sl,e = .returned (.slice v.a v.n v.c)∧Pg.TkS w' w.heap.size (.slice v.a v.n v.c) (Pg.eV M L ev (Pg.els s))∧Below w.heap.size w w':=by
 unfold Pg.eV
 cases hM:M ev with
 | none =>
  refine (vN w pb b cap N hv fin mbm n M ev s h.pl h.tab.map hev hM).mono ?_
  rintro e w' ⟨rfl,hb⟩
  exact ⟨⟨none,0,0⟩,rfl,⟨rfl,.inl ⟨rfl,rfl⟩⟩,hb⟩
 | some g =>
  obtain ⟨h1,h2,row,h3,h4,h5⟩:=h.tab.row ev g hM
  refine (xM w pb b cap N hv fin mbm n M ev s g (L g) h.pl h.tab.map hev hM h1 h2 hs hin (fun i q hq => ?_) hg hT).mono ?_
  ·have:=h5 i
   rw [hq] at this
   cases hr:row[i]? with
   | none=>rw [hr] at this;exact this.elim
   | some z =>
    rw [hr] at this
    cases z with
    | none=>exact this.elim
    | some z =>
     obtain ⟨fv,hm,_⟩:=(this:Pg.dD w pb b q z)
     exact ⟨_,hm⟩
  ·rintro e w' ⟨v,rfl,hr,hb⟩
   exact ⟨v,rfl,hr,hb⟩
theorem wb (w:World) (lo mb pb b cap:Nat) (r:Pg.RSt) (ps:List Pg.PS) (fin:Nat) (EN LV:Nat→List Pg.PA) (hv:Value) (mbm n:Nat) (T:ByteArray→Option (List (Option Pg.PM))) (M:ByteArray→Option Nat) (Lr:Nat→List (Option Nat)) (ev:ByteArray) (lF oF:Nat→Nat) (WL:List Nat) (hWL:WL=Pg.eV M Lr ev (Pg.els (Pg.inn ps r.act))) (hP:Pg.fw w lo pb b cap ps fin EN LV) (hMv:Pg.yJ w lo pb b ps.length cap hv fin mbm n T M Lr) (h:Pg.MT w lo mb pb r) (hev:ev.size≤1000000) (hin:∀ i,i∈Pg.els r.act→i<ps.length) (hin2:∀ i,i∈Pg.els (Pg.inn ps r.act)→i<ps.length) (hMB:∀ x∈WL,Pg.MvB w x (oF x) (lF x)∧oF x<ps.length) :
  Calls Tryz.prog 190 #[.pointer (some ⟨mb,0,none⟩),.string ev] w fun e w'=>∃ sv,e = .returned sv∧Pg.TkS w' w.heap.size sv (Pg.gx ps r.act lF oF WL)∧Below w.heap.size w w':=by
 have hlw:=hP.lw
 have hlo:=h.lo'
 have hps:=hP.cX.len
 have hinl:Pg.inn ps r.act<4294967296:=Pg.Fo ps h.act
 have hwl:WL.length≤32:=by
  rw [hWL]
  unfold Pg.eV
  split
  ·simp
  ·have h1:=Pg.kf (L:=Lr ‹_›) (Pg.els (Pg.inn ps r.act)) []
   have h2:(Pg.els (Pg.inn ps r.act)).length≤32:=by
    have:=List.length_filter_le (Pg.inn ps r.act).testBit (List.range 32)
    rw [List.length_range] at this
    exact this
   unfold Pg.dj
   simp at h1
   omega
 have hRo:∀ V,Below w.heap.size w V→Pg.Rf lo w V:=fun V hV=>Pg.RfE.of hV hlo
 have hin0:∀ V,Below w.heap.size w V→Calls Tryz.prog 159 #[.pointer (some ⟨pb,0,none⟩),.int .u32 r.act] V fun e w'=>e = .returned (.int .u32 (Pg.inn ps r.act))∧Below w.heap.size w w':=fun V hV=>(pU V pb b cap ps r.act h.act hin (hP.below (hV.mono hlo)).cX (by have:=hV.size;have:=hP.pb';omega) (by have:=hV.size;have:=hP.b';omega) (by have:=hV.size;have:=hlw.g5;omega) (Pg.bT hlw (hV.mono hlo) h.tab5)).mono (fun e w' x=>⟨x.1,hV.trans (x.2.mono hV.size)⟩)
 have hwa:∀ V,Below w.heap.size w V→Calls Tryz.prog 234 #[.pointer (some ⟨pb,0,none⟩),.string ev,.int .u32 (Pg.inn ps r.act)] V fun e w'=>∃ v:Ref.Sl,e = .returned (.slice v.a v.n v.c)∧Pg.TkS w' w.heap.size (.slice v.a v.n v.c) WL∧Below w.heap.size w w':=fun V hV=>(Au V lo pb b ps.length cap hv fin mbm n T M Lr ev _ (hMv.rf (hRo V hV) hP.pb') hev hinl hin2 (by have:=hV.size;have:=hlw.g5;omega) (Pg.bT hlw (hV.mono hlo) h.tab5)).mono (fun e w' x=>by
  obtain ⟨v,x1,x2,x3⟩:=x
  exact ⟨v,x1,by rw [hWL];exact aD x2 hV.size,hV.trans (x3.mono hV.size)⟩)
 have hkB:∀ V:World,Below w.heap.size w V→V.cell? ⟨mb,0,none⟩=some (.pointer (some ⟨pb,0,none⟩))∧V.cell? ⟨mb,1,none⟩=some (.int .u32 r.act):=fun V hV=>⟨(h.below hlw hV).c0.1,(h.below hlw hV).c0.2.1⟩
 have hBd:=(Below.refl w.heap.size w).drew
 obtain ⟨k1,k2⟩:=hkB _ hBd
 obtain ⟨inn,hinn⟩:∃ i,Pg.inn ps r.act=i:=⟨_,rfl⟩
 rw [hinn] at hin0 hwa
 have HTK:Hid (∀ (w3 V:World) (sv:Value) (k x:Nat),Below w.heap.size w w3→Below w3.heap.size w3 V→WL[k]?=some x→Pg.TkS V w3.heap.size sv (Pg.gx ps r.act lF oF (WL.take k))→Calls Tryz.prog 235 #[.pointer (some ⟨mb,0,none⟩),sv,.pointer (some ⟨x,0,none⟩)] V fun e w'=>∃ sv',e = .returned sv'∧Pg.TkS w' w3.heap.size sv' (Pg.gx ps r.act lF oF (WL.take (k+1)))∧Below w3.heap.size w3 w'):=fun w3 V sv k x h3 hV hx hT=>by
  have hwV:=h3.trans (hV.mono h3.size)
  obtain ⟨c1,c2⟩:=Pg.fg ps r.act lF oF WL k (by have:=(List.getElem?_eq_some_iff.1 hx).1;omega)
  have hxl:x∈WL:=List.mem_of_getElem? hx
  obtain ⟨pv,hpv⟩:∃ pv,ps[oF x]?=some pv:=⟨_,List.getElem?_eq_getElem (hMB x hxl).2⟩
  have hkl:=(List.getElem?_eq_some_iff.1 hx).1
  refine (CJ V lo mb pb b cap w3.heap.size r ps fin EN LV sv _ x pv lF oF (hP.below (hwV.mono hlo)) (h.below hlw hwV) hT (by have:=h3.size;omega) hV.size (by omega) (fun y hy => ?_) hpv).mono ?_
  ·have hyl:y∈WL:=by
    rcases hy with rfl | hy
    ·exact hxl
    ·exact c1 y hy
   exact ⟨(hMB y hyl).1.below hwV,by have:=(hMB y hyl).2;omega⟩
  ·rintro e w' ⟨sv',rfl,a,m⟩
   refine ⟨sv',rfl,?_,m.below hV hV.size (fun i hi e=>by have:=(hT.kind i e).1;omega)⟩
   have e1:WL.take (k+1)=WL.take k++[x]:=by rw [List.take_add_one,hx];rfl
   have e2:Pg.arA ps (oF x)=pv.around:=by unfold Pg.arA;rw [hpv]
   rw [e1,Pg.oh,e2]
   exact a
 clear h hP hMv hRo hMB hWL hin hin2 hinn
 go_enter Tryz.func190,Tryz.ntmps190
 go_upto_region 2 with fail
 refine wp_region_held_drew (S:=(fun V=>V.cell? ⟨mb,0,none⟩=some (.pointer (some ⟨pb,0,none⟩))∧V.cell? ⟨mb,1,none⟩=some (.int .u32 r.act))) (by kernel_rfl) ⟨k1,k2⟩ (fun hHeld => ?_)
 refine tD (some 8) 0 (.pointer (some ⟨mb,0,none⟩)) rfl hHeld ?_
 refine tD (some 9) 1 (.pointer (some ⟨mb,0,none⟩)) rfl hHeld ?_
 refine tD (some 10) 2 (.pointer (some ⟨mb,0,none⟩)) rfl hHeld ?_
 refine tD (some 11) 3 (.pointer (some ⟨pb,0,none⟩)) rfl hHeld ?_
 refine tD (some 12) 4 (.string ev) rfl hHeld ?_
 refine tD (some 13) 5 (.pointer (some ⟨mb,0,none⟩)) rfl hHeld ?_
 refine tD (some 14) 6 (.pointer (some ⟨mb,0,none⟩)) rfl hHeld ?_
 refine tD (some 15) 7 (.pointer (some ⟨mb,0,none⟩)) rfl hHeld ?_
 refine tD (some 16) 8 (.pointer (some ⟨pb,0,none⟩)) rfl hHeld ?_
 refine tD (some 17) 9 (.pointer (some ⟨mb,0,none⟩)) rfl hHeld ?_
 refine tD (some 18) 10 (.pointer (some ⟨mb,0,none⟩)) rfl hHeld ?_
 refine tD (some 19) 11 (.pointer (some ⟨mb,1,none⟩)) rfl hHeld ?_
 refine tD (some 20) 12 (.int .u32 r.act) rfl hHeld ?_
 refine tD (some 24) 16 (.int .i64 0) rfl hHeld ?_
 refine zH 13 rfl fun K hK => ?_
 go_simp
 refine (hin0 _ (by assumption)).mono ?_
 rintro e wA ⟨rfl,hA⟩
 refine hK.out _ _ (hkB wA hA) (fun hHeld => ?_)
 clear hK K
 refine zH 14 rfl fun K hK => ?_
 go_simp
 refine (hwa _ (by assumption)).mono ?_
 rintro e w3 ⟨v3,rfl,hT3,hB3⟩
 obtain ⟨va,vn,vc⟩:=v3
 dsimp only at hT3
 obtain ⟨a3,c3,hv3⟩:=hT3.n
 simp only [Value.slice.injEq] at hv3
 obtain ⟨rfl,rfl,rfl⟩:=hv3
 refine hK.out _ _ (hkB w3 hB3) (fun hHeld => ?_)
 clear hK K
 refine tD (some 23) 15 (.int .i64 WL.length) rfl hHeld ?_
 refine wpAnyH_done (by kernel_rfl) ?_ _
 clear hHeld
 go_wp2
 (try simp only [Act.put,List.setIfInBounds_toArray,List.set_cons_succ,List.set_cons_zero])
 have HC:Hid (∀ (k x:Nat) (V:World),Below w3.heap.size w3 V→WL[k]?=some x→∃ g,va=some ⟨g,0,none⟩∧V.cell? ⟨g,k,none⟩=some (.pointer (some ⟨x,0,none⟩))):=fun k x V hV hx=>by
  rcases hT3.form with ⟨_,e2⟩ | ⟨g,cp,cu,e1,e2,e3,e4⟩
  ·subst e2
   simp at hx
  ·simp only [Value.slice.injEq] at e1
   obtain ⟨rfl,_,rfl⟩:=e1
   exact ⟨g,rfl,(hV.cell (p:=⟨g,k,none⟩) (Array.getElem?_eq_some_iff.1 e4.blk).1).trans (e4.cell hx)⟩
 go_loopw [24,5] (fun i t wr=>∃ (k:Nat),i = .int .i64 k∧k≤WL.length∧Hid (Pg.TkS wr w3.heap.size t (Pg.gx ps r.act lF oF (WL.take k))∧Below w3.heap.size w3 wr)) (fun i _ _=>WL.length-(intOf i).toNat)
 case atStart=>exact ⟨0,rfl,by omega,⟨rfl,.inl ⟨rfl,rfl⟩⟩,Below.refl _ _⟩
 case round =>
  obtain ⟨k,rfl,hkl,HI⟩:=hrel
  by_cases hk:k<WL.length
  ·obtain ⟨x,hx⟩:∃ x,WL[k]?=some x:=⟨_,List.getElem?_eq_getElem hk⟩
   obtain ⟨g,ha,hcx⟩:=HC.out k x wr HI.out.2 hx
   subst ha
   have hcall:=HTK.out w3 wr u5 k x hB3 HI.out.2 hx HI.out.1
   have hki:((k:Int)<(WL.length:Int)):=by omega
   clear hT3 hx
   go_wp2_with (go_at_call 235;refine hcall.mono ?_;intro e w9 h9;obtain ⟨sv9,rfl,t9,b9⟩:=h9;have T9:Hid _:=t9;clear t9)
   go_roundw
   case rel=>exact ⟨k+1,by simp,by omega,T9.out,b9⟩
   case measure=>simp only [intOf];omega
  ·obtain rfl:k=WL.length:=by omega
   have HF:=HI.out
   rw [List.take_length] at HF
   have HF2:Hid _:=HF
   clear HF
   go_wp2
   go_ret
   exact ⟨_,rfl,aD HF2.out.1 hB3.size,hB3.trans (HF2.out.2.mono hB3.size)⟩
namespace Pg
def Az (ps:List PS):En→Prop
 | .nil=>True
 | .all a=>a<2 ^ ps.length
 | .hist _ _=>False
theorem qL {ps:List PS} {e:En} (h:Az ps e) {kept:Nat→Nat}:enters ps kept e<2 ^ ps.length:=by
 cases e with
 | nil=>exact Nat.two_pow_pos _
 | all a=>exact h
 | hist p t=>exact False.elim h
structure ROK (ps:List PS) (r:RSt):Prop where
 act:r.act<2 ^ ps.length
 kept:∀ i,r.kept i<2 ^ ps.length
theorem p6 {N s:Nat} (hN:N≤24) (h:s<2 ^ N):s<4294967296:=Nat.lt_of_lt_of_le h (Nat.le_trans (Nat.pow_le_pow_right (by decide) hN) (by decide))
structure MvA (w:World) (lo pb b:Nat) (ps:List PS) (m:Nat) (x:PM) (A:List PA):Prop where
 at':dD w pb b m x
 own:x.own<ps.length
 lv:x.lv<2 ^ ps.length
 ak:dx w lo x.ak A
 en:Az ps x.en
theorem MvA.rf {w w':World} {lo pb b:Nat} {ps:List PS} {m:Nat} {x:PM} {A:List PA} (h:MvA w lo pb b ps m x A) (hR:Rf lo w w'):MvA w' lo pb b ps m x A :=
 ⟨h.at'.kd hR.kd (fun t ht=>by rcases ht with rfl | rfl | rfl | rfl | rfl <;> (unfold b8;decide)),h.own,h.lv,h.ak.below hR.bel,h.en⟩
theorem MvA.mvb {w:World} {lo pb b:Nat} {ps:List PS} {m:Nat} {x:PM} {A:List PA} (h:MvA w lo pb b ps m x A) (hN:ps.length≤24):MvB w m x.own x.lv:=by
 obtain ⟨fv,hm,_⟩:=h.at'
 exact ⟨by rw [cell_of_row w _ _ _ _ _ hm];rfl,by rw [cell_of_row w _ _ _ _ _ hm];rfl,p6 hN h.lv,_,hm⟩
theorem MT.kept {W:World} {lo mb pb:Nat} {r:RSt} (h:MT W lo mb pb r) {t:Nat} (ht:t<24):W.cell? ⟨mb,2+t,none⟩=some (.int .u32 (r.kept t)):=by
 obtain ⟨qv,wh,m,b⟩:=h.ex
 rw [m.cell (2+t) (by omega)]
 unfold fE
 rw [if_neg (by omega),if_neg (by omega),if_pos (by omega),show 2+t-2=t by omega]
 rfl
theorem gV {N s:Nat} (h:s<2 ^ N):∀ i,i∈els s→i<N:=fun _ hi=>su h hi
end Pg
namespace Pg
def eZ (act:Nat) (pmF:Nat→PM) (C:List Nat):Nat:=C.foldl (fun a m=>a|||((pmF m).lv&&&act)) 0
theorem wO (act:Nat) (pmF:Nat→PM) (C:List Nat) (m:Nat):eZ act pmF (C++[m])=eZ act pmF C|||((pmF m).lv&&&act):=by unfold eZ;rw [List.foldl_append];rfl
theorem lB {N act:Nat} (pmF:Nat→PM) (h:act<2 ^ N):∀ (C:List Nat) (a:Nat),a<2 ^ N→C.foldl (fun a m=>a|||((pmF m).lv&&&act)) a<2 ^ N
 | [],_,ha=>ha
 | _::C,_,ha=>lB pmF h C _ (Nat.or_lt_two_pow ha (Nat.lt_of_le_of_lt Nat.and_le_right h))
def rW (ps:List PS) (pmF:Nat→PM) (acF:Nat→List PA) (z:RSt×Nat) (m:Nat):RSt×Nat:=(doL z.1 (acF m),z.2|||enters ps (doL z.1 (acF m)).kept (pmF m).en)
def gu (ps:List PS) (pmF:Nat→PM) (acF:Nat→List PA) (z:RSt×Nat) (C:List Nat):RSt×Nat:=C.foldl (rW ps pmF acF) z
theorem yO (ps:List PS) (pmF:Nat→PM) (acF:Nat→List PA) (z:RSt×Nat) (C:List Nat) (m:Nat):gu ps pmF acF z (C++[m])=rW ps pmF acF (gu ps pmF acF z C) m:=by unfold gu;rw [List.foldl_append];rfl
theorem yK (r:RSt) (a:PA):(iT r a).kept=r.kept:=by
 cases a <;> simp only [iT,ig] <;> (try split) <;> rfl
theorem ui:∀ (L:List PA) (r:RSt),(doL r L).kept=r.kept
 | [],_=>rfl
 | x::L,r=>(ui L (iT r x)).trans (yK r x)
theorem si {ps:List PS} {r:RSt} (h:ROK ps r) (L:List PA):ROK ps (doL r L):=⟨by rw [nK];exact h.act,by rw [ui];exact h.kept⟩
def tR (ps:List PS) (fin:Nat) (EN LV:Nat→List PA) (H:List HV) (D:Nat→Bool) (pmF:Nat→PM) (acF:Nat→List PA) (r:RSt) (C:List Nat):RSt :=
 let left:=eZ r.act pmF C
 let z:=gu ps pmF acF (cW LV (fB ps left D H r H.length) (els left).reverse,0) C
 bY ps fin EN z.1 (els z.2)
theorem j3 {ps:List PS} (LV:Nat→List PA):∀ (l:List Nat) (r:RSt),ROK ps r→ROK ps (cW LV r l)
 | [],_,h=>h
 | i::l,r,h=>j3 LV l (pY LV r i) (by
  have h1:=si h (LV i)
  exact ⟨Nat.lt_of_le_of_lt Nat.and_le_left h1.act,h1.kept⟩)
theorem DN {ps:List PS} {left:Nat} {D:Nat→Bool} {H:List HV} {r:RSt} (hi:∀ a,a<2 ^ ps.length→inn ps a<2 ^ ps.length) (h:ROK ps r) (k:Nat):ROK ps (pW ps left D H r k):=by
 unfold pW
 split
 ·exact h
 ·split
  ·exact h
  ·split
   ·refine ⟨h.act,fun i => ?_⟩
    rename_i y _ _ po _ _
    by_cases e:i=y.idx
    ·subst e
     show upd r.kept _ _ _<_
     rw [aJ]
     unfold EG
     split
     ·exact Nat.lt_of_le_of_lt Nat.and_le_left (hi _ h.act)
     ·exact Nat.lt_of_le_of_lt Nat.and_le_left h.act
    ·show upd r.kept _ _ _<_
     rw [aL _ _ e]
     exact h.kept i
   ·exact h
theorem lz {ps:List PS} {left:Nat} {D:Nat→Bool} {H:List HV} {r:RSt} (hi:∀ a,a<2 ^ ps.length→inn ps a<2 ^ ps.length) (h:ROK ps r):∀ n,ROK ps (fB ps left D H r n)
 | 0=>h
 | n+1=>by rw [oO];exact DN hi (lz hi h n) n
theorem DD {ps:List PS} {fin:Nat} {r:RSt} (h:ROK ps r) (i:Nat):ROK ps (oz ps fin r i):=by
 obtain ⟨a,_,_,b,_⟩:=qN ps fin r i
 exact ⟨by rw [a];exact h.act,by rw [b];exact h.kept⟩
theorem Dx {ps:List PS} {fin:Nat} {EN:Nat→List PA} {r:RSt} (h:ROK ps r) {i:Nat} (hi:i<ps.length):ROK ps (iX ps fin EN r i):=by
 have h1:ROK ps { r with act:=r.act|||2 ^ i }:=⟨Nat.or_lt_two_pow h.act (Nat.pow_lt_pow_right (by decide) hi),h.kept⟩
 have h2:=si h1 (EN i)
 unfold iX
 dsimp only
 split
 ·split
  ·exact DD h2 i
  ·exact h2
 ·exact h2
theorem mA {ps:List PS} {fin:Nat} {EN:Nat→List PA}:∀ (l:List Nat) (r:RSt),ROK ps r→(∀ i∈l,i<ps.length)→ROK ps (bY ps fin EN r l)
 | [],_,h,_=>h
 | i::l,r,h,hl=>mA l (iX ps fin EN r i) (Dx h (hl i (List.mem_cons_self ..))) (fun j hj=>hl j (List.mem_cons_of_mem _ hj))
theorem nG {ps:List PS} {pmF:Nat→PM} {acF:Nat→List PA}:∀ (C:List Nat) (z:RSt×Nat),ROK ps z.1→z.2<2 ^ ps.length→(∀ m∈C,Az ps (pmF m).en)→ROK ps (gu ps pmF acF z C).1∧(gu ps pmF acF z C).2<2 ^ ps.length
 | [],_,h,h2,_=>⟨h,h2⟩
 | m::C,z,h,h2,hC=>nG C (rW ps pmF acF z m) (si h _) (Nat.or_lt_two_pow h2 (qL (hC m (List.mem_cons_self ..)))) (fun x hx=>hC x (List.mem_cons_of_mem _ hx))
theorem xV {ps:List PS} {fin:Nat} {EN LV:Nat→List PA} {H:List HV} {D:Nat→Bool} {pmF:Nat→PM} {acF:Nat→List PA} {r:RSt} {C:List Nat} (hi:∀ a,a<2 ^ ps.length→inn ps a<2 ^ ps.length) (h:ROK ps r) (hC:∀ m∈C,Az ps (pmF m).en):ROK ps (tR ps fin EN LV H D pmF acF r C):=by
 have h1:=nG (pmF:=pmF) (acF:=acF) C (cW LV (fB ps (eZ r.act pmF C) D H r H.length) (els (eZ r.act pmF C)).reverse,0) (j3 LV _ _ (lz hi h _)) (Nat.two_pow_pos _) hC
 exact mA _ _ h1.1 (gV h1.2)
structure mh (w:World) (lo pb b cap:Nat) (ps:List PS) (fin:Nat) (EN LV:Nat→List PA) (hvs:Ref.Sl) (H:List HV) (D:Nat→Bool) (mbm n:Nat) (T:ByteArray→Option (List (Option PM))) (M:ByteArray→Option Nat) (Lr:Nat→List (Option Nat)) (pmF:Nat→PM) (acF:Nat→List PA):Prop where
 cX:fw w lo pb b cap ps fin EN LV
 hist:tJ w pb ps hvs H D
 mov:yJ w lo pb b ps.length cap hvs.v fin mbm n T M Lr
 mva:∀ (ev:ByteArray) (g i m:Nat),M ev=some g→(Lr g)[i]?=some (some m)→MvA w lo pb b ps m (pmF m) (acF m)
 N:ps.length≤24
 inn:∀ a,a<2 ^ ps.length→inn ps a<2 ^ ps.length
theorem mh.rf {w w':World} {lo pb b cap:Nat} {ps:List PS} {fin:Nat} {EN LV:Nat→List PA} {hvs:Ref.Sl} {H:List HV} {D:Nat→Bool} {mbm n:Nat} {T:ByteArray→Option (List (Option PM))} {M:ByteArray→Option Nat} {Lr:Nat→List (Option Nat)} {pmF:Nat→PM} {acF:Nat→List PA} (h:mh w lo pb b cap ps fin EN LV hvs H D mbm n T M Lr pmF acF) (hR:Rf lo w w'):mh w' lo pb b cap ps fin EN LV hvs H D mbm n T M Lr pmF acF :=
 ⟨h.cX.below hR.bel,h.hist.rf hR h.cX.pb',h.mov.rf hR h.cX.pb',fun ev g i m a b=>(h.mva ev g i m a b).rf hR,h.N,h.inn⟩
theorem mh.want {w:World} {lo pb b cap:Nat} {ps:List PS} {fin:Nat} {EN LV:Nat→List PA} {hvs:Ref.Sl} {H:List HV} {D:Nat→Bool} {mbm n:Nat} {T:ByteArray→Option (List (Option PM))} {M:ByteArray→Option Nat} {Lr:Nat→List (Option Nat)} {pmF:Nat→PM} {acF:Nat→List PA} (h:mh w lo pb b cap ps fin EN LV hvs H D mbm n T M Lr pmF acF) (ev:ByteArray) (l:List Nat):∀ m∈eV M Lr ev l,MvA w lo pb b ps m (pmF m) (acF m):=fun m hm=>by
 unfold eV at hm
 split at hm
 ·cases hm
 ·rename_i g hg
  obtain ⟨i,hi⟩:=rH hm
  exact h.mva ev g i m hg hi
def aQ (ps:List PS) (fin:Nat) (EN LV:Nat→List PA) (H:List HV) (D:Nat→Bool) (M:ByteArray→Option Nat) (Lr:Nat→List (Option Nat)) (pmF:Nat→PM) (acF:Nat→List PA) (r:RSt) (ev:ByteArray):RSt :=
 tR ps fin EN LV H D pmF acF r (gx ps r.act (fun m=>(pmF m).lv) (fun m=>(pmF m).own) (eV M Lr ev (els (inn ps r.act))))
end Pg
theorem vY (w:World) (lo mb pb b cap:Nat) (r:Pg.RSt) (ps:List Pg.PS) (fin:Nat) (EN LV:Nat→List Pg.PA) (hvs:Ref.Sl) (H:List Pg.HV) (D:Nat→Bool) (mbm n:Nat) (T:ByteArray→Option (List (Option Pg.PM))) (M:ByteArray→Option Nat) (Lr:Nat→List (Option Nat)) (pmF:Nat→Pg.PM) (acF:Nat→List Pg.PA) (ev:ByteArray) (hP:Pg.mh w lo pb b cap ps fin EN LV hvs H D mbm n T M Lr pmF acF) (h:Pg.MT w lo mb pb r) (hr:Pg.ROK ps r) (hev:ev.size≤1000000) (hql:r.q.length≤4390000000000) :
  Calls Tryz.prog 154 #[.pointer (some ⟨mb,0,none⟩),.string ev] w fun e w'=>e = .returned (.tuple #[])∧Pg.MT w' lo mb pb (Pg.aQ ps fin EN LV H D M Lr pmF acF r ev)∧Pg.Rf lo w w':=by
 have hlw:=hP.cX.lw
 have hlo:=h.lo'
 have hN:=hP.N
 have hwm:=hP.want ev (Pg.els (Pg.inn ps r.act))
 have hch:=wb w lo mb pb b cap r ps fin EN LV hvs.v mbm n T M Lr ev (fun m=>(pmF m).lv) (fun m=>(pmF m).own) _ rfl hP.cX hP.mov h hev (Pg.gV hr.act) (Pg.gV (hP.inn _ hr.act)) (fun x hx=>⟨(hwm x hx).mvb hN,(hwm x hx).own⟩)
 obtain ⟨c1,c2⟩:=Pg.fg ps r.act (fun m=>(pmF m).lv) (fun m=>(pmF m).own) (Pg.eV M Lr ev (Pg.els (Pg.inn ps r.act))) _ (Nat.le_refl _)
 rw [List.take_length] at c1 c2
 have hwl:(Pg.eV M Lr ev (Pg.els (Pg.inn ps r.act))).length≤32:=by
  unfold Pg.eV
  split
  ·simp
  ·have h1:=Pg.kf (L:=Lr ‹_›) (Pg.els (Pg.inn ps r.act)) []
   have h2:(Pg.els (Pg.inn ps r.act)).length≤32:=by
    have:=List.length_filter_le (Pg.inn ps r.act).testBit (List.range 32)
    rw [List.length_range] at this
    exact this
   unfold Pg.dj
   simp at h1
   omega
 have HAN:Hid (Pg.aQ ps fin EN LV H D M Lr pmF acF r ev=Pg.tR ps fin EN LV H D pmF acF r (Pg.gx ps r.act (fun m=>(pmF m).lv) (fun m=>(pmF m).own) (Pg.eV M Lr ev (Pg.els (Pg.inn ps r.act))))):=rfl
 generalize Pg.gx ps r.act (fun m=>(pmF m).lv) (fun m=>(pmF m).own) (Pg.eV M Lr ev (Pg.els (Pg.inn ps r.act)))=C at *
 have hCm:∀ m∈C,Pg.MvA w lo pb b ps m (pmF m) (acF m):=fun m hm=>hwm m (c1 m hm)
 have hCl:C.length≤32:=by omega
 clear hwm c1 c2 hwl
 have HV:Hid (∀ V,Pg.Rf lo w V→Pg.mh V lo pb b cap ps fin EN LV hvs H D mbm n T M Lr pmF acF∧∀ m∈C,Pg.MvA V lo pb b ps m (pmF m) (acF m)):=fun V hV=>⟨hP.rf hV,fun m hm=>(hCm m hm).rf hV⟩
 have H0:Hid _:=h
 have HR0:Hid _:=hr
 have hinn:=hP.inn
 have hhl:=hP.hist.len
 have HIN:Hid _:=hinn
 clear h hP hCm hr hinn
 go_enter Tryz.func154,Tryz.ntmps154
 go_wp2_with (go_at_call 190;refine hch.mono ?_;intro e w1 h1;obtain ⟨sv,rfl,hT1,hb1⟩:=h1;obtain ⟨sa,sc,rfl⟩:=hT1.n;have HT1:Hid _:=hT1;clear hT1)
 have HC:Hid (∀ (k x:Nat) (V:World),Pg.Rf lo w1 V→C[k]?=some x→∃ g,sa=some ⟨g,0,none⟩∧V.cell? ⟨g,k,none⟩=some (.pointer (some ⟨x,0,none⟩))):=fun k x V hV hx=>by
  have hTV:Pg.TkS V w.heap.size (.slice sa C.length sc) C:=Kd.row hV.kd HT1.out (by unfold Pg.b8;decide)
  rcases hTV.form with ⟨_,e2⟩ | ⟨g,cp,cu,e1,e2,e3,e4⟩
  ·subst e2
   simp at hx
  ·simp only [Value.slice.injEq] at e1
   obtain ⟨rfl,_,rfl⟩:=e1
   exact ⟨g,rfl,e4.cell hx⟩
 have hlo1:lo≤w1.heap.size:=Nat.le_trans hlo hb1.size
 have HRF1:Hid (Pg.Rf lo w w1):=Pg.RfE.of hb1 hlo
 have HM1:Hid (Pg.MT w1 lo mb pb r):=H0.out.below hlw hb1
 clear hch
 go_loopw [16,5] (fun i t wr=>∃ (k:Nat),i = .int .i64 k∧t = .int .u32 ((Pg.eZ r.act pmF (C.take k):Nat):Int)∧k≤C.length∧Hid (Below w1.heap.size w1 wr)) (fun i _ _=>C.length-(intOf i).toNat)
 case atStart=>exact ⟨0,rfl,rfl,by omega,Below.refl _ _⟩
 case round =>
  obtain ⟨k,rfl,rfl,hkl,HB⟩:=hrel
  by_cases hk:k<C.length
  ·obtain ⟨x,hx⟩:∃ x,C[k]?=some x:=⟨_,List.getElem?_eq_getElem hk⟩
   have hRr:Pg.Rf lo w1 wr:=Pg.RfE.of HB.out hlo1
   obtain ⟨g,ha,hcx⟩:=HC.out k x wr hRr hx
   subst ha
   have hmx:=(HV.out wr (HRF1.out.trans hRr)).2 x (List.mem_of_getElem? hx)
   have hle:=jI wr lo mb pb r x (pmF x).own (pmF x).lv (HM1.out.below hlw HB.out) (hmx.mvb hN)
   have hsn:Pg.eZ r.act pmF (C.take (k+1))=Pg.eZ r.act pmF (C.take k)|||((pmF x).lv&&&r.act):=by rw [← Pg.wO,List.take_add_one,hx];rfl
   have l1:Pg.eZ r.act pmF (C.take k)<4294967296:=Pg.p6 hN (Pg.lB pmF HR0.out.act _ 0 (Nat.two_pow_pos _))
   have l2:(pmF x).lv&&&r.act<4294967296:=Nat.lt_of_le_of_lt Nat.and_le_right (Pg.p6 hN HR0.out.act)
   have hor:=u32_or_nat _ _ l1 l2
   rw [← hsn] at hor
   have hki:((k:Int)<(C.length:Int)):=by omega
   clear hmx hx hsn
   generalize Pg.eZ r.act pmF (C.take k)=a1 at *
   obtain ⟨a2,ha2⟩:∃ a2,Pg.eZ r.act pmF (C.take (k+1))=a2:=⟨_,rfl⟩
   rw [ha2] at hor
   have HA2:Hid _:=ha2
   clear ha2
   generalize (pmF x).lv&&&r.act=a3 at *
   go_wp2_with (go_at_call 191;refine hle.mono ?_;rintro e w9 ⟨rfl,hb9⟩)
   go_roundw
   case rel=>exact ⟨k+1,by simp,by rw [HA2.out],by omega,HB.out.trans (hb9.mono HB.out.size)⟩
   case measure=>simp only [intOf];omega
  ·obtain rfl:k=C.length:=by omega
   rw [List.take_length]
   have hLl:Pg.eZ r.act pmF C<2 ^ ps.length:=Pg.lB pmF HR0.out.act _ 0 (Nat.two_pow_pos _)
   have HAN2:=HAN.out
   unfold Pg.tR at HAN2
   dsimp only at HAN2
   obtain ⟨left,hleft⟩:∃ left,Pg.eZ r.act pmF C=left:=⟨_,rfl⟩
   rw [hleft] at hLl HAN2 ⊢
   have HANS:Hid _:=HAN2
   clear hleft HAN2 HAN
   have hRr:Pg.Rf lo w1 wr:=Pg.RfE.of HB.out hlo1
   obtain ⟨hPr,_⟩:=HV.out wr (HRF1.out.trans hRr)
   have hke:=Bz wr lo mb pb b cap r ps fin left EN LV hvs H D hPr.cX hPr.hist (HM1.out.below hlw HB.out) (Pg.p6 hN hLl) (Pg.gV HR0.out.act)
   obtain ⟨r2,hr2⟩:∃ r2,Pg.fB ps left D H r H.length=r2:=⟨_,rfl⟩
   have hr2k:Pg.ROK ps r2:=hr2 ▸ Pg.lz HIN.out HR0.out _
   have hr2q:r2.q=r.q:=hr2 ▸ (Pg.i6 ps left D H r H.length).2.1
   rw [hr2] at hke
   have HANS2:=HANS.out
   rw [hr2] at HANS2
   obtain ⟨r3,hr3⟩:∃ r3,Pg.cW LV r2 (Pg.els left).reverse=r3:=⟨_,rfl⟩
   rw [hr3] at HANS2
   have hr3k:Pg.ROK ps r3:=hr3 ▸ Pg.j3 LV _ _ hr2k
   have hr3q:r3.q.length≤4390100000000:=by
    have h1:=Pg.lA hPr.cX (Pg.els left).reverse r2 (fun i hi=>Pg.gV hLl i (List.mem_reverse.1 hi))
    have h2:(Pg.els left).length≤32:=by
     have:=List.length_filter_le left.testBit (List.range 32)
     rw [List.length_range] at this
     exact this
    rw [hr3,hr2q,List.length_reverse] at h1
    omega
   have HANS3:Hid _:=HANS2
   have HLV:Hid (∀ w2,Pg.MT w2 lo mb pb r2→Pg.Rf lo wr w2→Calls Tryz.prog 193 #[.pointer (some ⟨mb,0,none⟩),.int .u32 left] w2 fun e w'=>e = .returned (.tuple #[])∧Pg.MT w' lo mb pb r3∧Pg.Rf lo w1 w'):=fun w2 hM2 hR2=>by
    refine (zG w2 lo mb pb b cap r2 ps fin left EN LV (hPr.rf hR2).cX hM2 (Pg.p6 hN hLl) (Pg.gV hLl) (by rw [hr2q];omega)).mono ?_
    rintro e w' ⟨rfl,a,c⟩
    rw [hr3] at a
    exact ⟨rfl,a,hRr.trans (hR2.trans c)⟩
   clear HANS2 hr2 hr3 HANS HB hPr
   go_wp2_with (first
    | (go_at_call 192;refine hke.mono ?_;intro e w2 h2;obtain ⟨rfl,m2,c2⟩:=h2;have hlv:=HLV.out w2 m2 c2;clear m2 c2)
    | (go_at_call 193;refine hlv.mono ?_;intro e w3 h3;obtain ⟨rfl,m3,c3⟩:=h3;have HM3:Hid (Pg.MT w3 lo mb pb r3):=m3;have HC3:Hid (Pg.Rf lo w1 w3):=c3;clear m3 c3))
   clear hke
   go_loopw [34,6] (fun i t wr=>∃ (k:Nat),i = .int .i64 k∧t = .int .u32 (((Pg.gu ps pmF acF (r3,0) (C.take k)).2:Nat):Int)∧k≤C.length∧Hid (Pg.MT wr lo mb pb (Pg.gu ps pmF acF (r3,0) (C.take k)).1∧Pg.Rf lo w1 wr∧(Pg.gu ps pmF acF (r3,0) (C.take k)).1.q.length≤r3.q.length+k*1048576)) (fun i _ _=>C.length-(intOf i).toNat)
   case atStart=>exact ⟨0,rfl,rfl,by omega,HM3.out,HC3.out,by simp [Pg.gu]⟩
   case round =>
    obtain ⟨k,rfl,rfl,hkl,HI⟩:=hrel
    have hok:=Pg.nG (pmF:=pmF) (acF:=acF) (C.take k) (r3,0) hr3k (Nat.two_pow_pos _) (fun m hm=>((HV.out w1 HRF1.out).2 m (List.mem_of_mem_take hm)).en)
    by_cases hk:k<C.length
    ·obtain ⟨x,hx⟩:∃ x,C[k]?=some x:=⟨_,List.getElem?_eq_getElem hk⟩
     have hsn:Pg.gu ps pmF acF (r3,0) (C.take (k+1))=Pg.rW ps pmF acF (Pg.gu ps pmF acF (r3,0) (C.take k)) x:=by rw [← Pg.yO,List.take_add_one,hx];rfl
     obtain ⟨⟨rk,ek⟩,hz⟩:∃ z,Pg.gu ps pmF acF (r3,0) (C.take k)=z:=⟨_,rfl⟩
     have HI2:=HI.out
     rw [hz] at hok hsn HI2 ⊢
     obtain ⟨hM,hR,hq⟩:=HI2
     dsimp only at hok hM hq ⊢
     have HSN:Hid _:=hsn
     clear hsn hz HI
     obtain ⟨g,ha,hcx⟩:=HC.out k x wr hR hx
     subst ha
     obtain ⟨hPr,hmr⟩:=HV.out wr (HRF1.out.trans hR)
     have hmx:=hmr x (List.mem_of_getElem? hx)
     clear hmr
     have hEn:=hmx.en
     have hdo:=wo wr lo mb pb rk (pmF x).ak (acF x) hlw hM hmx.ak (by omega)
     have hrdk:Pg.ROK ps (Pg.doL rk (acF x)):=Pg.si hok.1 _
     have hrdq:=Pg.qI rk (acF x)
     have hacl:=hmx.ak.len
     obtain ⟨rd,hrd⟩:∃ rd,Pg.doL rk (acF x)=rd:=⟨_,rfl⟩
     have HS2:Hid (Pg.gu ps pmF acF (r3,0) (C.take (k+1))=(rd,ek|||Pg.enters ps rd.kept (pmF x).en)):=by
      unfold Hid
      rw [HSN.out]
      unfold Pg.rW
      dsimp only
      rw [hrd]
     rw [hrd] at hdo hrdk hrdq
     clear hrd HSN
     have e1l:ek<4294967296:=Pg.p6 hN hok.2
     have e2l:Pg.enters ps rd.kept (pmF x).en<4294967296:=Pg.p6 hN (Pg.qL hEn)
     have hor:=u32_or_nat _ _ e1l e2l
     obtain ⟨fv,hmb,hea⟩:=hmx.at'
     have ca:wr.cell? ⟨x,2,none⟩=some (.slice (pmF x).ak.a (pmF x).ak.n (pmF x).ak.c):=by rw [cell_of_row wr _ _ _ _ _ hmb];rfl
     unfold Ref.Sl.v at hdo
     have hki:((k:Int)<(C.length:Int)):=by omega
     have HFIN:Hid (∀ w9 V,Pg.MT w9 lo mb pb rd→Pg.Rf lo wr w9→Below w9.heap.size w9 V→Pg.MT V lo mb pb (Pg.gu ps pmF acF (r3,0) (C.take (k+1))).1∧Pg.Rf lo w1 V∧(Pg.gu ps pmF acF (r3,0) (C.take (k+1))).1.q.length≤r3.q.length+(k+1)*1048576):=fun w9 V hM9 hR9 hV=>by
      rw [HS2.out]
      exact ⟨hM9.below hlw hV,hR.trans (hR9.trans (Pg.RfE.of hV hM9.lo')),by dsimp only;omega⟩
     have HC9:Hid (∀ w9 V,Pg.MT w9 lo mb pb rd→Pg.Rf lo wr w9→Below w9.heap.size w9 V→V.heap[x]?=some (.cells #[.int .i64 (pmF x).own,.int .u32 (pmF x).lv,.slice (pmF x).ak.a (pmF x).ak.n (pmF x).ak.c,fv] 319 (0,0))∧Pg.pN V pb b (pmF x).en fv∧Pg.fw V lo pb b cap ps fin EN LV∧Pg.MT V lo mb pb rd):=fun w9 V hM9 hR9 hV=>by
      have hRV:Pg.Rf lo wr V:=hR9.trans (Pg.RfE.of hV hM9.lo')
      exact ⟨(hRV.kd.ax _ _ _ _ hmb (by unfold Pg.b8;decide)).trans hmb,hea.ax (fun B t u ht hb=>Kd.boxed hRV.kd hb (by rcases ht with rfl | rfl | rfl | rfl <;> (unfold Pg.b8;decide))),hPr.cX.below hRV.bel,hM9.below hlw hV⟩
     obtain ⟨e2,he2⟩:∃ e2,Pg.enters ps rd.kept (pmF x).en=e2:=⟨_,rfl⟩
     obtain ⟨e3,he3⟩:∃ e3,ek|||e2=e3:=⟨_,rfl⟩
     rw [he2,he3] at hor
     rw [he2,he3] at HS2
     have HE2:Hid _:=he2
     clear hmx hPr hM hx hacl hrdq e2l he2 he3 hmb
     obtain ⟨en,hen⟩:∃ en,(pmF x).en=en:=⟨_,rfl⟩
     rw [hen] at hea hEn HE2 HC9
     clear hen
     cases en with
     | nil =>
      have hfv:fv = .func (.func 161) #[] #[]:=hea
      subst hfv
      clear hea
      have HCL:Hid (∀ w9 V,Pg.MT w9 lo mb pb rd→Pg.Rf lo wr w9→Below w9.heap.size w9 V→V.cell? ⟨x,3,none⟩=some (.func (.func 161) #[] #[])∧Calls Tryz.prog 161 #[.pointer (some ⟨mb,2,none⟩)] V fun e w'=>e = .returned (.int .u32 (e2:Int))∧Below w9.heap.size w9 w'):=fun w9 V hM9 hR9 hV=>by
       obtain ⟨x1,x2,x3,x4⟩:=HC9.out w9 V hM9 hR9 hV
       refine ⟨by rw [cell_of_row V _ _ _ _ _ x1];rfl,?_⟩
       refine (mC V (.pointer (some ⟨mb,2,none⟩))).mono (fun e w' y=>⟨?_,by rw [y.2];exact hV⟩)
       rw [y.1,← HE2.out]
       rfl
      go_wp2_with (go_at_call 152;refine hdo.mono ?_;intro e w9 h9;obtain ⟨rfl,m9,c9⟩:=h9;have M9:Hid (Pg.MT w9 lo mb pb rd):=m9;have C9:Hid (Pg.Rf lo wr w9):=c9;clear m9 c9)
      have hBd:=(Below.refl w9.heap.size w9).drew
      have hkB:∀ V:World,Below w9.heap.size w9 V→(fun V=>V.cell? ⟨x,3,none⟩=some ((.func (.func 161) #[] #[]))) V:=fun V hV=>(HCL.out w9 V M9.out C9.out hV).1
      have hcl:∀ V:World,Below w9.heap.size w9 V→Calls Tryz.prog 161 #[.pointer (some ⟨mb,2,none⟩)] V fun e w'=>e = .returned (.int .u32 (e2:Int))∧Below w9.heap.size w9 w':=fun V hV=>(HCL.out w9 V M9.out C9.out hV).2
      refine wp_region_held_drew (S:=(fun V=>V.cell? ⟨x,3,none⟩=some ((.func (.func 161) #[] #[])))) (by kernel_rfl) (hkB _ hBd) (fun hHeld => ?_)
      refine tD (some 44) 0 (.int .u32 ek) rfl hHeld ?_
      refine tD (some 45) 1 (.pointer (some ⟨x,0,none⟩)) rfl hHeld ?_
      refine tD (some 46) 2 (.pointer (some ⟨x,0,none⟩)) rfl hHeld ?_
      refine tD (some 47) 3 (.pointer (some ⟨x,3,none⟩)) rfl hHeld ?_
      refine tD (some 48) 4 (.func (.func 161) #[] #[]) rfl hHeld ?_
      refine tD (some 49) 5 (.pointer (some ⟨mb,0,none⟩)) rfl hHeld ?_
      refine tD (some 50) 6 (.pointer (some ⟨mb,0,none⟩)) rfl hHeld ?_
      refine tD (some 51) 7 (.pointer (some ⟨mb,2,none⟩)) rfl hHeld ?_
      refine zH 8 rfl fun K hK => ?_
      go_simp
      refine (hcl _ (by assumption)).mono ?_
      rintro e wA ⟨rfl,hA⟩
      refine hK.out _ _ (hkB wA hA) (fun hHeld => ?_)
      clear hK K
      refine tD (some 53) 9 (.int .u32 e3) rfl hHeld ?_
      refine tD (some 6) 10 (.int .u32 e3) rfl hHeld ?_
      refine wpAnyH_done (by kernel_rfl) ?_ _
      clear hHeld
      go_wp2
      go_roundw
      case rel=>exact ⟨k+1,by simp,by rw [HS2.out],by omega,HFIN.out w9 wA M9.out C9.out hA⟩
      case measure=>simp only [intOf];omega
     | all a =>
      obtain ⟨c,hfv,hcb⟩:=hea
      subst hfv
      clear hcb
      have HCL:Hid (∀ w9 V,Pg.MT w9 lo mb pb rd→Pg.Rf lo wr w9→Below w9.heap.size w9 V→V.cell? ⟨x,3,none⟩=some (.func (.func 199) #[] #[.pointer (some ⟨c,0,none⟩)])∧Calls Tryz.prog 199 #[.pointer (some ⟨mb,2,none⟩),.pointer (some ⟨c,0,none⟩)] V fun e w'=>e = .returned (.int .u32 (e2:Int))∧Below w9.heap.size w9 w'):=fun w9 V hM9 hR9 hV=>by
       obtain ⟨x1,x2,x3,x4⟩:=HC9.out w9 V hM9 hR9 hV
       refine ⟨by rw [cell_of_row V _ _ _ _ _ x1];rfl,?_⟩
       obtain ⟨c',hc',hcb⟩:=x2
       have ec:c=c':=by simpa using hc'
       subst ec
       refine (uL V c a (.pointer (some ⟨mb,2,none⟩)) hcb.cell).mono (fun e w' y=>⟨?_,by rw [y.2];exact hV⟩)
       rw [y.1,← HE2.out]
       rfl
      go_wp2_with (go_at_call 152;refine hdo.mono ?_;intro e w9 h9;obtain ⟨rfl,m9,c9⟩:=h9;have M9:Hid (Pg.MT w9 lo mb pb rd):=m9;have C9:Hid (Pg.Rf lo wr w9):=c9;clear m9 c9)
      have hBd:=(Below.refl w9.heap.size w9).drew
      have hkB:∀ V:World,Below w9.heap.size w9 V→(fun V=>V.cell? ⟨x,3,none⟩=some ((.func (.func 199) #[] #[.pointer (some ⟨c,0,none⟩)]))) V:=fun V hV=>(HCL.out w9 V M9.out C9.out hV).1
      have hcl:∀ V:World,Below w9.heap.size w9 V→Calls Tryz.prog 199 #[.pointer (some ⟨mb,2,none⟩),.pointer (some ⟨c,0,none⟩)] V fun e w'=>e = .returned (.int .u32 (e2:Int))∧Below w9.heap.size w9 w':=fun V hV=>(HCL.out w9 V M9.out C9.out hV).2
      refine wp_region_held_drew (S:=(fun V=>V.cell? ⟨x,3,none⟩=some ((.func (.func 199) #[] #[.pointer (some ⟨c,0,none⟩)])))) (by kernel_rfl) (hkB _ hBd) (fun hHeld => ?_)
      refine tD (some 44) 0 (.int .u32 ek) rfl hHeld ?_
      refine tD (some 45) 1 (.pointer (some ⟨x,0,none⟩)) rfl hHeld ?_
      refine tD (some 46) 2 (.pointer (some ⟨x,0,none⟩)) rfl hHeld ?_
      refine tD (some 47) 3 (.pointer (some ⟨x,3,none⟩)) rfl hHeld ?_
      refine tD (some 48) 4 (.func (.func 199) #[] #[.pointer (some ⟨c,0,none⟩)]) rfl hHeld ?_
      refine tD (some 49) 5 (.pointer (some ⟨mb,0,none⟩)) rfl hHeld ?_
      refine tD (some 50) 6 (.pointer (some ⟨mb,0,none⟩)) rfl hHeld ?_
      refine tD (some 51) 7 (.pointer (some ⟨mb,2,none⟩)) rfl hHeld ?_
      refine zH 8 rfl fun K hK => ?_
      go_simp
      refine (hcl _ (by assumption)).mono ?_
      rintro e wA ⟨rfl,hA⟩
      refine hK.out _ _ (hkB wA hA) (fun hHeld => ?_)
      clear hK K
      refine tD (some 53) 9 (.int .u32 e3) rfl hHeld ?_
      refine tD (some 6) 10 (.int .u32 e3) rfl hHeld ?_
      refine wpAnyH_done (by kernel_rfl) ?_ _
      clear hHeld
      go_wp2
      go_roundw
      case rel=>exact ⟨k+1,by simp,by rw [HS2.out],by omega,HFIN.out w9 wA M9.out C9.out hA⟩
      case measure=>simp only [intOf];omega
     | hist p t=>exact False.elim hEn
    ·obtain rfl:k=C.length:=by omega
     have HI2:=HI.out
     rw [List.take_length] at HI2 hok ⊢
     obtain ⟨⟨rk,ek⟩,hz⟩:∃ z,Pg.gu ps pmF acF (r3,0) C=z:=⟨_,rfl⟩
     have HANS4:=HANS3.out
     rw [hz] at hok HI2 HANS4 ⊢
     dsimp only at hok HI2 HANS4 ⊢
     obtain ⟨hM,hR,hq⟩:=HI2
     have hen:=qK wr lo mb pb b cap rk ps fin ek EN LV (HV.out wr (HRF1.out.trans hR)).1.cX hM (Pg.p6 hN hok.2) (Pg.gV hok.2) (by omega)
     rw [← HANS4] at hen
     have HRW:Hid _:=hR
     clear HANS4 HANS3 hM hR hq HI hz hok
     go_wp2_with (go_at_call 112;refine hen.mono ?_;intro e w9 h9;obtain ⟨rfl,m9,c9⟩:=h9)
     go_end0
     exact ⟨rfl,m9,HRF1.out.trans (HRW.out.trans c9)⟩
end
end Go.Proofs.YtegmoddppafkfaaGreatDoor
