import Derived.Test.YtkgklodamkkpgaaGreatDoorM06
set_option maxRecDepth 100000
set_option maxHeartbeats 8000000
namespace Go.Proofs.YtkgklodamkkpgaaGreatDoor
variable {zp:Prop}
theorem zcE (h:zp:=by
 refine tD (some 27) 5 mb rfl u0 ?_;refine tD (some 28) 6 mb rfl u0 ?_;refine tD (some 29) 7 (.pointer (some ⟨mb,1,none⟩)) rfl u0 ?_;refine tD (some 30) 8 (.int .u32 Rk.act) rfl u0 ?_;refine tD (some 32) 10 mb rfl u0 ?_;refine tD (some 33) 11 (.pointer (some ⟨mb,2,none⟩)) rfl u0 ?_;refine zH 9 rfl fun K hK => ?_;go_simp;refine hca.mono ?_;rintro e w9 ⟨rfl,hb9⟩;obtain ⟨x1,x2,x3,u,x4⟩:=HC.out w9 kv (hB1.drew.trans (hb9.mono zad));have X1:Hid _:=x1;have X2:Hid _:=x2;clear x1 x2;refine hK.out _ _ (hkB w9 hb9) (fun u0 => ?_);clear hK K;refine tD (some 34) 12 (.pointer (some ⟨mb,2+hx,none⟩)) rfl u0 ?_;refine zH 13 rfl fun K hK => ?_;go_simp;refine hK.out _ _ (by
  have e:∀ (a:Addr),a≠⟨mb,2+hx,none⟩->∀ v,(w9.setCell ⟨mb,2+hx,none⟩ v).cell? a=w9.cell? a:=fun a ha v=>az (fun h=>ha h.symm)
  (try dsimp only at u0);(try dsimp only)
  rw [e _ zak,e _ zak,e _ zak];exact u0) (fun u0 => ?_)
 clear hK K u0;refine Nt zab ?_ _
 (try simp only [Act.put,List.setIfInBounds_toArray,List.set_cons_succ,List.set_cons_zero])
 go_wp2
 go_roundw
 case rel=>exact ⟨k+1,zad,zaa,by rw [HN.out,if_pos trivial];exact X1.out,X2.out⟩
 case measure=>simp only [intOf];omega):zp:=h
theorem zc5 (h:zp:=by
 have h0:Mo (fun k=>Value.ownBlock (.slice sa L.length sc)=some k) w w2.drew:=ay (hB.trans (hbd.mono hB.size));have hal:∀ W:World,Mo (fun k=>Value.ownBlock (.slice sa L.length sc)=some k) W (W.alloc (.cells #[v] 242)):=fun W=>ay ((MY _ W).alloc (MR _) _)
 first
  | exact ((h0.trans hm9).trans (hal _)).trans hg5
  | exact ((h0.trans (hal _)).trans hm9).trans hg5):zp:=h
theorem zdk (h:zp:=by
 unfold Pg.gh;split
 ·simp
 ·have h1:=Pg.mA (L:=Lr ‹_›) (Pg.els (Pg.inn ps r.act)) [];have h2:(Pg.els (Pg.inn ps r.act)).length<=32:=by
   have:=Ob (Pg.inn ps r.act).testBit (List.range 32);exact zfL
  unfold Pg.dE;simp at h1;omega):zp:=h
theorem zdp (h:zp:=by
 go_wp2_with (go_at_call 194;refine hha.mono ?_;rintro e w9 ⟨rfl,hw9⟩;rw [hw9];clear hw9 w9)
 go_roundw
 case rel=>exact ⟨k+1,zad,zaa,zcg,HRF.out.trans (Pg.RfE.of hB1 hlr)⟩
 case measure=>simp only [intOf];omega):zp:=h
theorem zds (h:zp:=by
 go_roundw
 case rel=>exact ⟨k+1,zad,zaa,fun j y hj hy=>by
  by_cases e:j=k
  ·subst e;rw [HX.out] at hy;cases hy
   exact HB.out
  ·exact HK.out.1 j y zaa hy,hb9⟩
 case measure=>simp only [intOf];omega):zp:=h
theorem zdw (h:zp:=by
 obtain rfl:k=L.length:=zaa;have HN:Hid (Pg.ixF p L = -1):=Pg.r8 fun y hy=>by
  obtain ⟨j,hj⟩:=Nu.1 hy;exact HK.out.1 j y (MZ.1 hj).1 hj
 go_wp2;go_ret;exact ⟨by rw [HN.out];rfl,HK.out.2⟩):zp:=h
theorem zdI (h:zp:=by
 refine Nt zab ?_ _;clear u0
 (try simp only [Act.put,List.setIfInBounds_toArray,List.set_cons_succ,List.set_cons_zero])
 go_wp2;go_ret;exact ⟨rfl,zal⟩):zp:=h
theorem zdT (h:zp:=by
 rcases h.2 with ⟨a,b⟩ | ⟨g,cap,cur,a,b,c,_⟩
 ·subst a;cases hk
 ·subst a;cases hk
  exact ⟨b,(MQ.1 c).1,cur,c⟩):zp:=h
theorem zea (h:zp:=by
 rcases h.2 with ⟨a,b⟩ | ⟨g,cap,cur,a,_⟩
 ·exact ⟨none,0,by rw [a,b]⟩
 ·exact ⟨_,_,a⟩):zp:=h
theorem zeK (h:zp:=by
 go_ret;exact ⟨by rw [Pg.BA HX.out HB.out HK.out.1];rfl,hb9⟩):zp:=h
theorem zav (h:zp:=by unfold cJ;decide):zp:=h
theorem zaH (h:zp:=by cases hx):zp:=h
theorem zaK (h:zp:=by simp at hu;subst hu;rfl):zp:=h
theorem zbb (h:zp:=by first | exact hbd | exact hBa):zp:=h
theorem zbF (h:zp:=by have:=hV.size;have:=hlw.g5;omega):zp:=h
theorem zbR (h:zp:=by have:=(hk _ e).2.1;omega):zp:=h
theorem zbT (h:zp:=by have:=(hP k hp).1;omega):zp:=h
theorem zb6 (h:zp:=by have:=(HKD.out _ e).2.1;have:w2.drew.heap.size=w2.heap.size:=rfl;have:=hb2.size;omega):zp:=h
theorem zcg (h:zp:=by rw [HN.out,if_neg (by decide)];exact hMk.below hlw hB1):zp:=h
open Tryz
variable {W W' w w':World} {base pb mb m o l g cap j x:Nat} {lo:Pg.Lo} {r:Pg.RSt} {P:Nat->Prop} {L:List Nat} {cur:Array Value} {sv:Value}
section
open Go.RowKit Go.Proofs Go.Shelf
theorem Kd.row {E:TypeId->Prop} {size n:Nat} {e:TypeId} {v:Value} {xs:List Value} (hk:Kd E W W') (h:W.ownsRow base e size v n xs) (hE:¬ E e):W'.ownsRow base e size v n xs:=by
 refine ⟨h.1,?_⟩
 rcases h.2 with h' | ⟨k,cap,cur,hv,hb,hk',r⟩
 ·exact .inl h'
 ·exact .inr ⟨k,cap,cur,hv,hb,(hk.ao _ _ _ _ hk' hE).trans hk',r⟩
namespace Pg
def mL (ps:List PS) (act:Nat) (deep:Bool) (po:PS):Nat:=if deep then inn ps act&&&po.inside else act&&&po.parts
structure yh (w:World) (pb:Nat) (ps:List PS) (hv:Ref.Sl) (H:List HV) (D:Nat->Bool):Prop where
 c1:w.cell? ⟨pb,1,none⟩=some hv.v
 row:w.ownsRow 0 237 3 hv.v H.length (H.flatMap HV.cells)
 ao:∀ (k:Nat) (h:HV),H[k]?=some h->h.idx<24/\h.own<ps.length/\∃ po,ps[h.own]?=some po/\jY w pb (D k) po h.ao
 len:H.length<=24
theorem yh.rf {ps:List PS} {hv:Ref.Sl} {H:List HV} {D:Nat->Bool} (h:yh w pb ps hv H D) (hR:Rf lo w w') (hpb:pb<lo):yh w' pb ps hv H D :=
 ⟨(hR.bel.cell (p:=⟨pb,1,none⟩) hpb).trans h.c1,Kd.row hR.kd h.row zav,fun k y hy=>by
  obtain ⟨a,b,po,c,d⟩:=h.ao k y hy;exact ⟨a,b,po,c,d.kd hR.kd zav zav⟩,h.len⟩
def mD (ps:List PS) (left:Nat) (D:Nat->Bool) (H:List HV) (r:RSt) (k:Nat):RSt:=match H[k]? with
 | none=>r
 | some h=>match ps[h.own]? with
  | none=>r
  | some po=>if left.testBit h.own then { r with kept:=upd r.kept h.idx (mL ps r.act (D k) po) } else r
def eQ (ps:List PS) (left:Nat) (D:Nat->Bool) (H:List HV) (r:RSt) (n:Nat):RSt:=(List.range n).foldl (mD ps left D H) r
theorem ni (ps:List PS) (left:Nat) (D:Nat->Bool) (H:List HV) (r:RSt) (n:Nat):eQ ps left D H r (n+1)=mD ps left D H (eQ ps left D H r n) n:=by unfold eQ;rw [QO,Ot];rfl
theorem uW (ps:List PS) (left:Nat) (D:Nat->Bool) (H:List HV) (r:RSt) (k:Nat):(mD ps left D H r k).act=r.act/\(mD ps left D H r k).q=r.q/\(mD ps left D H r k).tm=r.tm/\(mD ps left D H r k).now=r.now/\(mD ps left D H r k).fin=r.fin:=by
 unfold mD;split
 ·simp
 ·split
  ·simp
  ·split <;> simp
theorem iO (ps:List PS) (left:Nat) (D:Nat->Bool) (H:List HV) (r:RSt):∀ n,(eQ ps left D H r n).act=r.act/\(eQ ps left D H r n).q=r.q/\(eQ ps left D H r n).tm=r.tm/\(eQ ps left D H r n).now=r.now/\(eQ ps left D H r n).fin=r.fin
 | 0=>⟨rfl,rfl,rfl,rfl,rfl⟩
 | n+1=>by
  obtain ⟨a,b,c,d,e⟩:=iO ps left D H r n;obtain ⟨a',b',c',d',e'⟩:=uW ps left D H (eQ ps left D H r n) n;rw [ni];exact ⟨a'.trans a,b'.trans b,c'.trans c,d'.trans d,e'.trans e⟩
end Pg
theorem Pg.MT.Kj (h:Pg.MT W lo mb pb r) (hl:Pg.Lw lo) (i a:Nat) (hi:i<24):Pg.MT (W.setCell ⟨mb,2+i,none⟩ (.int .u32 a)) lo mb pb { r with kept:=Pg.upd r.kept i a }/\Pg.Rf lo W (W.setCell ⟨mb,2+i,none⟩ (.int .u32 a)):=by
 obtain ⟨qv,wh,m,b⟩:=h.ex;have hM:Pg.au (W.setCell ⟨mb,2+i,none⟩ (.int .u32 a)) lo mb pb qv (({ r with kept:=Pg.upd r.kept i a }:Pg.RSt).m wh):=m.set (2+i) _ _ zaa rfl (fun j hj=>by
  by_cases e:j=2+i
  ·subst e;rw [M6 rfl];unfold Pg.eR;rw [M4 zaa,M4 zaa,M6 zaa,show 2+i-2=i by omega];show Value.int .u32 ((Pg.upd r.kept i a i:Nat):Int)=_;rw [Pg.aC]
  ·rw [M4 e];unfold Pg.eR;by_cases h2:j<26/\2<=j
   ·rw [M4 zaa,M4 zaa,M6 zaa,M4 zaa,M4 zaa,M6 zaa];show Value.int .u32 ((Pg.upd r.kept i a (j-2):Nat):Int)=_;rw [Pg.aG _ _ zaa];rfl
   ·by_cases h0:j=0
    ·subst h0;rfl
    ·by_cases h1:j=1
     ·subst h1;rfl
     ·simp only [if_neg h0,if_neg h1,if_neg (show ¬ j<26 by omega)];rfl)
 have hR:Pg.Rq lo W (W.setCell ⟨mb,2+i,none⟩ (.int .u32 a)):=Pg.RfE.mo (P:=(· = mb)) ((Mo.refl _ _).set _ _ rfl) (fun k hk=>by
  obtain ⟨arr,a1,_⟩:=m.blk;subst hk;exact ⟨m.lo',arr,_,_,a1,.inl rfl⟩) h.lo'
 exact ⟨h.rq hl b hM hR rfl rfl h.act,Pg.vI hR⟩
theorem GB (w:World) (lo:Pg.Lo) (mb pb b cap:Nat) (r:Pg.RSt) (ps:List Pg.PS) (fin left:Nat) (EN LV:Nat->List Pg.PA) (hv:Ref.Sl) (H:List Pg.HV) (D:Nat->Bool) (hP:Pg.fT w lo pb b cap ps fin EN LV) (hH:Pg.yh w pb ps hv H D) (h:Pg.MT w lo mb pb r) (hs:left<4294967296) (hin:∀ i∈Pg.els r.act,i<ps.length) :
  () 149 #[mb,.int .u32 left] w fun e w'=>e = .returned (.tuple #[])/\Pg.MT w' lo mb pb (Pg.eQ ps left D H r H.length)/\Pg.Rf lo w w':=by
 have hlw:=hP.lw;obtain ⟨m0,_,_⟩:=h.c0;have hc1:=hH.c1;have hHl:=hH.len;have hnH:hv.n=H.length:=by
  rcases hH.row.2 with ⟨h0,h1⟩ | ⟨g,cap,cur,hv,_⟩
  ·unfold Ref.Sl.v at h0;simp at h0;omega
  ·unfold Ref.Sl.v at hv;simp at hv;exact hv.2.1
 obtain ⟨ha,hn,hc⟩:=hv;dsimp only at hnH;subst hnH;unfold Ref.Sl.v at hc1;have H0:Hid _:=h;have HP:Hid _:=hP;have HH:Hid _:=hH;clear h hP hH;go_enter func149,ntmps149;go_wp2
 go_loopw [14] (fun i wr=>∃ k:Nat,i = .int .i64 k/\k<=H.length/\Hid (Pg.MT wr lo mb pb (Pg.eQ ps left D H r k)/\Pg.Rf lo w wr)) (fun i _=>H.length-(intOf i).toNat)
 case atStart=>exact ⟨0,rfl,zaa,H0.out,Pg.RfE.refl _ _⟩
 case round =>
  obtain ⟨k,rfl,hkl,HM⟩:=hrel;clear m0 hc1;by_cases hk:k<H.length
  ·have hki:((k:Int)<(H.length:Int)):=zaa;obtain ⟨hh,hhk⟩:∃ hh,H[k]?=some hh:=⟨_,MU hk⟩;have HR0:=HH.out.rf HM.out.2 HP.out.pb';obtain ⟨jL,hown,po,hpo,hka⟩:=HR0.ao k hh hhk;obtain ⟨g,cap',hgv⟩:=Ref.eZ HR0.row zaa;unfold Ref.Sl.v at hgv;simp only [Value.slice.injEq] at hgv;obtain ⟨rfl,_,rfl⟩:=hgv;have hrow:=HR0.row;unfold Ref.Sl.v at hrow;dsimp only at hrow;have hHk:H[k]=hh:=by rw [MU hk] at hhk;exact NO hhk
   have cc:∀ j,j<3->wr.cell? ⟨g,k*3+j,none⟩=hh.cells[j]?:=fun j hj=>by
    have:=Row.cell (f:=Pg.HV.cells) (n:=3) (fun _=>rfl) (show Row wr 237 3 Pg.HV.cells (.slice g H.length hc) H from hrow) hj hk;rw [hHk] at this;exact this
   have c0:wr.cell? ⟨g,k*3,none⟩=some ↑(hh.idx:Int):=cc 0 zac;have c1:wr.cell? ⟨g,k*3+1,none⟩=some ↑(hh.own:Int):=cc 1 zac;have c2:wr.cell? ⟨g,k*3+2,none⟩=some hh.ao:=cc 2 zac;have ho32:hh.own<32:=by have:=HP.out.bC.len;omega
   have hPW:=HP.out.below HM.out.2.bel;obtain ⟨Rk,hRk⟩:∃ Rk,Pg.eQ ps left D H r k=Rk:=⟨_,rfl⟩;have hMk:Pg.MT wr lo mb pb Rk:=hRk ▸ HM.out.1;have hact:=hMk.act;have hina:∀ i,i∈Pg.els Rk.act->i<ps.length:=fun i hi=>hin i (by rw [<- hRk,(Pg.iO ps left D H r k).1] at hi;exact hi);have HN:Hid (Pg.eQ ps left D H r (k+1)=if left.testBit hh.own then { Rk with kept:=Pg.upd Rk.kept hh.idx (Pg.mL ps Rk.act (D k) po) } else Rk):=by
    unfold Hid;rw [Pg.ni,hRk];unfold Pg.mD;rw [hhk];dsimp only;rw [hpo]
   have HRF:Hid (Pg.Rf lo w wr):=HM.out.2;have hlr:=hMk.lo';clear HM hRk HR0 cc hrow hHk hhk;have hha:=wU left hh.own (wr.alloc (.cells #[(hh.idx:Int),(hh.own:Int),hh.ao] 237)) ho32 hs;have hB1:Below wr wr (wr.alloc (.cells #[(hh.idx:Int),(hh.own:Int),hh.ao] 237)):=(MY _ wr).alloc (MR _) _;have hgl:=iu c0;have hmbl:=hMk.lt;obtain ⟨bt,hbt⟩:∃ bt,left.testBit hh.own=bt:=⟨_,rfl⟩;rw [hbt] at hha HN;obtain ⟨m0,m1,mf⟩:=hMk.c0;have HC:Hid (∀ (V:World) (a:Nat),Below wr wr V->Pg.MT (V.setCell ⟨mb,2+hh.idx,none⟩ (.int .u32 a)) lo mb pb { Rk with kept:=Pg.upd Rk.kept hh.idx a }/\Pg.Rf lo w (V.setCell ⟨mb,2+hh.idx,none⟩ (.int .u32 a))/\V.frozen? ⟨mb,2+hh.idx,none⟩=false/\∃ u,V.cell? ⟨mb,2+hh.idx,none⟩=some u):=fun V a hV=>by
    have h9:=hMk.below hlw hV;obtain ⟨x1,x2⟩:=h9.Kj hlw hh.idx a jL;obtain ⟨_,_,xf⟩:=h9.c0;obtain ⟨qv,wh,m,_⟩:=h9.ex;exact ⟨x1,HRF.out.trans ((Pg.RfE.of hV hlr).trans x2),xf _,_,m.cell (2+hh.idx) zaa⟩
   obtain ⟨hx,hy,hkp⟩:=hh;dsimp only at *;have hidx':((hx:Int)<24):=zaa;cases hD:D k
   ·rw [hD] at hka HN;obtain ⟨c,hcb,hkv⟩:=hka;simp only [Bool.false_eq_true,if_false] at hkv;subst hkv;have hcl:c<wr.heap.size:=(MQ.1 hcb).1;have HCALL:Hid (∀ V:World,Below wr wr V->() 99 #[.int .u32 Rk.act,c] V fun e w'=>e = .returned (.int .u32 ((Pg.mL ps Rk.act false po:Nat):Int))/\Below V.heap.size V w'):=fun V hV=>by
     unfold Pg.mL;refine (xd V c Rk.act po.parts hact (hPW.bC.sm hy po hpo).hp ((hV.cell (p:=⟨c,4,none⟩) hcl).trans (by rw [M0 wr _ _ _ _ _ hcb];rfl))).mono ?_;rintro e w' ⟨rfl,rfl⟩;exact ⟨by rw [M4 zac],MY _ _⟩
    have hst:∀ (W:World) (a:Addr),(store a (.func (.func 99) #[] #[c])).run prog W=stored prog W a (.func (.func 99) #[] #[c]) .plain:=fun W a=>RV _ W a _ _ rfl;obtain ⟨kv,hkv⟩:∃ kv,Pg.mL ps Rk.act false po=kv:=⟨_,rfl⟩;rw [hkv] at HCALL HN;cases bt
    ·exact zdp
    ·go_wp2_with (go_at_call 194;refine hha.mono ?_;rintro e w9 ⟨rfl,hw9⟩;rw [hw9];clear hw9 w9);have v0:(wr.alloc (.cells #[(hx:Int),(hy:Int),(.func (.func 99) #[] #[c])] 237)).drew.cell? wr=some ↑(hx:Int):=M0 _ _ 0 _ _ (0,0) (show (wr.alloc _).heap[wr.heap.size]?=some _ from Na wr _);have v2:(wr.alloc (.cells #[(hx:Int),(hy:Int),(.func (.func 99) #[] #[c])] 237)).drew.cell? ⟨wr,2,none⟩=some (.func (.func 99) #[] #[c]):=M0 _ _ 2 _ _ (0,0) (show (wr.alloc _).heap[wr.heap.size]?=some _ from Na wr _);have v1:(wr.alloc (.cells #[(hx:Int),(hy:Int),(.func (.func 99) #[] #[c])] 237)).drew.cell? ⟨mb,1,none⟩=some (.int .u32 Rk.act):=(hB1.drew.cell (p:=⟨mb,1,none⟩) hmbl).trans m1;have hca:=HCALL.out _ hB1.drew;clear hha hst c0 c1 c2;have hkB:∀ V:World,Below (wr.alloc (.cells #[(hx:Int),(hy:Int),(.func (.func 99) #[] #[c])] 237)).drew.heap.size (wr.alloc (.cells #[(hx:Int),(hy:Int),(.func (.func 99) #[] #[c])] 237)).drew V->(fun V=>V.cell? wr=some ↑(hx:Int)/\V.cell? ⟨wr,2,none⟩=some (.func (.func 99) #[] #[c])/\V.cell? ⟨mb,1,none⟩=some (.int .u32 Rk.act)) V:=fun V hV=>⟨(hV.cell (p:=⟨wr,0,none⟩) zad).trans v0,(hV.cell (p:=⟨wr,2,none⟩) zad).trans v2,(hV.cell (p:=⟨mb,1,none⟩) (by show mb<_;simp;omega)).trans v1⟩;refine No (S:=(fun V=>V.cell? wr=some ↑(hx:Int)/\V.cell? ⟨wr,2,none⟩=some (.func (.func 99) #[] #[c])/\V.cell? ⟨mb,1,none⟩=some (.int .u32 Rk.act))) zab ⟨v0,v2,v1⟩ (fun u0 => ?_);refine tD (some 22) 0 mb rfl u0 ?_;refine tD (some 23) 1 wr rfl u0 ?_;refine tD (some 24) 2 (.int .i64 hx) rfl u0 ?_;refine tD (some 25) 3 (.pointer (some ⟨wr,2,none⟩)) rfl u0 ?_;refine tD (some 26) 4 (.func (.func 99) #[] #[c]) rfl u0 ?_;exact zcE
   ·rw [hD] at hka HN;obtain ⟨c,hcb,hkv⟩:=hka;simp only [if_true] at hkv;obtain ⟨d,hkv,hdb⟩:=hkv;subst hkv;have hcl:c<wr.heap.size:=(MQ.1 hcb).1;have HCALL:Hid (∀ V:World,Below wr wr V->() 100 #[.int .u32 Rk.act,d,c] V fun e w'=>e = .returned (.int .u32 ((Pg.mL ps Rk.act true po:Nat):Int))/\Below V.heap.size V w'):=fun V hV=>by
     unfold Pg.mL;refine (wZ V pb b cap ps c d Rk.act po.inside hact (hPW.bC.sm hy po hpo).hi hina (hPW.below (hV.mono hlr)).bC (by have:=hV.size;have:=hPW.pb';omega) (by have:=hV.size;have:=hPW.b';omega) zbF (Pg.bU hlw (hV.mono hlr) hMk.tab5) (aB hdb hV hdb.lt) (by have:=hV.size;omega) ((hV.cell (p:=⟨c,5,none⟩) hcl).trans (by rw [M0 wr _ _ _ _ _ hcb];rfl))).mono ?_;rintro e w' ⟨rfl,hb⟩;exact ⟨by rw [M6 rfl],hb⟩
    have hst:∀ (W:World) (a:Addr),(store a (.func (.func 100) #[] #[d,c])).run prog W=stored prog W a (.func (.func 100) #[] #[d,c]) .plain:=fun W a=>RV _ W a _ _ rfl;obtain ⟨kv,hkv⟩:∃ kv,Pg.mL ps Rk.act true po=kv:=⟨_,rfl⟩;rw [hkv] at HCALL HN;cases bt
    ·exact zdp
    ·go_wp2_with (go_at_call 194;refine hha.mono ?_;rintro e w9 ⟨rfl,hw9⟩;rw [hw9];clear hw9 w9);have v0:(wr.alloc (.cells #[(hx:Int),(hy:Int),(.func (.func 100) #[] #[d,c])] 237)).drew.cell? wr=some ↑(hx:Int):=M0 _ _ 0 _ _ (0,0) (show (wr.alloc _).heap[wr.heap.size]?=some _ from Na wr _);have v2:(wr.alloc (.cells #[(hx:Int),(hy:Int),(.func (.func 100) #[] #[d,c])] 237)).drew.cell? ⟨wr,2,none⟩=some (.func (.func 100) #[] #[d,c]):=M0 _ _ 2 _ _ (0,0) (show (wr.alloc _).heap[wr.heap.size]?=some _ from Na wr _);have v1:(wr.alloc (.cells #[(hx:Int),(hy:Int),(.func (.func 100) #[] #[d,c])] 237)).drew.cell? ⟨mb,1,none⟩=some (.int .u32 Rk.act):=(hB1.drew.cell (p:=⟨mb,1,none⟩) hmbl).trans m1;have hca:=HCALL.out _ hB1.drew;clear hha hst c0 c1 c2;have hkB:∀ V:World,Below (wr.alloc (.cells #[(hx:Int),(hy:Int),(.func (.func 100) #[] #[d,c])] 237)).drew.heap.size (wr.alloc (.cells #[(hx:Int),(hy:Int),(.func (.func 100) #[] #[d,c])] 237)).drew V->(fun V=>V.cell? wr=some ↑(hx:Int)/\V.cell? ⟨wr,2,none⟩=some (.func (.func 100) #[] #[d,c])/\V.cell? ⟨mb,1,none⟩=some (.int .u32 Rk.act)) V:=fun V hV=>⟨(hV.cell (p:=⟨wr,0,none⟩) zad).trans v0,(hV.cell (p:=⟨wr,2,none⟩) zad).trans v2,(hV.cell (p:=⟨mb,1,none⟩) (by show mb<_;simp;omega)).trans v1⟩;refine No (S:=(fun V=>V.cell? wr=some ↑(hx:Int)/\V.cell? ⟨wr,2,none⟩=some (.func (.func 100) #[] #[d,c])/\V.cell? ⟨mb,1,none⟩=some (.int .u32 Rk.act))) zab ⟨v0,v2,v1⟩ (fun u0 => ?_);refine tD (some 22) 0 mb rfl u0 ?_;refine tD (some 23) 1 wr rfl u0 ?_;refine tD (some 24) 2 (.int .i64 hx) rfl u0 ?_;refine tD (some 25) 3 (.pointer (some ⟨wr,2,none⟩)) rfl u0 ?_;refine tD (some 26) 4 (.func (.func 100) #[] #[d,c]) rfl u0 ?_;exact zcE
  ·obtain rfl:k=H.length:=zaa;go_wp2;go_end0;exact ⟨rfl,HM.out⟩
namespace Pg
structure MvB (W:World) (m o l:Nat):Prop where
 c0:W.cell? m=some ↑(o:Int)
 c1:W.cell? ⟨m,1,none⟩=some (.int .u32 l)
 hl:l<4294967296
 ty:∃ c,W.heap[m]?=some (.cells c 245 (0,0))
theorem MvB.lt (h:MvB W m o l):m<W.heap.size:=iu h.c0
theorem MvB.below (h:MvB W m o l) (hb:Below W W W'):MvB W' m o l:=⟨(hb.cell (p:=⟨m,0,none⟩) h.lt).trans h.c0,(hb.cell (p:=⟨m,1,none⟩) h.lt).trans h.c1,h.hl,by
 obtain ⟨c,hc⟩:=h.ty;exact ⟨c,(hb.block m h.lt).trans hc⟩⟩
theorem MvB.mo (h:MvB W m o l) (hm:Mo P W W') (hn:¬ P m):MvB W' m o l:=⟨(hm.cell (p:=⟨m,0,none⟩) h.lt hn).trans h.c0,(hm.cell (p:=⟨m,1,none⟩) h.lt hn).trans h.c1,h.hl,by
 obtain ⟨c,hc⟩:=h.ty;exact ⟨c,(hm.block m h.lt hn).trans hc⟩⟩
def fC (act l1 l2:Nat):Bool:=((l1&&&act)&&&(l2&&&act):Nat) != 0
structure TkB (W:World) (mb v B3 B5:Nat):Prop where
 b3:Boxed W B3 48 mb
 b5:Boxed W B5 242 v
theorem TkB.below {v B3 B5:Nat} (h:TkB W mb v B3 B5) (hb:Below W W W'):TkB W' mb v B3 B5:=⟨aB h.b3 hb h.b3.lt,aB h.b5 hb h.b5.lt⟩
end Pg
theorem lx (w:World) (lo:Pg.Lo) (mb pb:Nat) (r:Pg.RSt) (m o l:Nat) (h:Pg.MT w lo mb pb r) (hm:Pg.MvB w m o l) :
  () 148 #[mb,m] w fun e w'=>e = .returned (.int .u32 ((l&&&r.act:Nat):Int))/\Below w w w':=by
 obtain ⟨qv,wh,a,b⟩:=h.ex;exact BI w lo mb pb qv (r.m wh) m l a h.act hm.hl hm.c1
theorem pV (w:World) (lo:Pg.Lo) (mb pb:Nat) (r:Pg.RSt) (t ot lt v ov lv B3 B5:Nat) (hl:Pg.Lw lo) (h:Pg.MT w lo mb pb r) (ht:Pg.MvB w t ot lt) (hv:Pg.MvB w v ov lv) (hb:Pg.TkB w mb v B3 B5) :
  () 226 #[t,B3,B5] w fun e w'=>e = .returned (.bool (Pg.fC r.act lt lv))/\Below w w w':=by
 have hlt:∀ V,Below w w V->() 148 #[mb,t] V fun e w'=>e = .returned (.int .u32 ((lt&&&r.act:Nat):Int))/\Below w w w':=fun V hV=>(lx V lo mb pb r t ot lt (h.below hl hV) (ht.below hV)).mono (fun e w' x=>⟨x.1,hV.trans (x.2.mono hV.size)⟩);have hlv:∀ V,Below w w V->() 148 #[mb,v] V fun e w'=>e = .returned (.int .u32 ((lv&&&r.act:Nat):Int))/\Below w w w':=fun V hV=>(lx V lo mb pb r v ov lv (h.below hl hV) (hv.below hV)).mono (fun e w' x=>⟨x.1,hV.trans (x.2.mono hV.size)⟩);have l1:lt&&&r.act<4294967296:=NT OQ ht.hl;have l2:lv&&&r.act<4294967296:=NT OQ hv.hl;have hand:=Qg _ _ l1 l2;have hcl:Pg.fC r.act lt lv=(((((lt&&&r.act)&&&(lv&&&r.act):Nat):Nat):Int) != 0):=by
  unfold Pg.fC;cases hx:((lt&&&r.act)&&&(lv&&&r.act):Nat) with
  | zero=>rfl
  | succ n=>simp;omega
 generalize lt&&&r.act=a1 at *;generalize lv&&&r.act=a2 at *;have HCL:Hid _:=hcl;clear hcl;have hne:((((a1&&&a2:Nat):Nat):Int) != 0)=Pg.fC r.act lt lv:=HCL.out.symm;generalize Pg.fC r.act lt lv=cb at *;generalize a1&&&a2=a3 at *;have hkB:∀ V:World,Below w w V->V.cell? B3=some ↑mb/\V.cell? B5=some ↑v:=fun V hV=>⟨(hb.below hV).b3.cell,(hb.below hV).b5.cell⟩;have hBd:=(MY w w).drew;obtain ⟨k1,k2⟩:=hkB _ hBd;clear h ht hv hb l1 l2 HCL;go_enter func226,ntmps226
 go_upto_region 1 with fail
 refine No (S:=(fun V=>V.cell? B3=some ↑mb/\V.cell? B5=some ↑v)) zab ⟨k1,k2⟩ (fun u0 => ?_);refine tD (some 5) 0 mb rfl u0 ?_;refine tD (some 6) 1 t rfl u0 ?_;refine tD (some 8) 3 mb rfl u0 ?_;refine tD (some 9) 4 v rfl u0 ?_;refine zH 2 rfl fun K hK => ?_;go_simp;refine (hlt _ zal).mono ?_;rintro e wA ⟨rfl,hA⟩;refine hK.out _ _ (hkB wA hA) (fun u0 => ?_);clear hK K;refine zH 5 rfl fun K hK => ?_;go_simp;refine (hlv _ zal).mono ?_;rintro e wA ⟨rfl,hA⟩;refine hK.out _ _ (hkB wA hA) (fun u0 => ?_);clear hK K;refine tD (some 11) 6 (.int .u32 a3) rfl u0 ?_;refine tD (some 12) 7 (.bool cb) rfl u0 ?_;refine tD (some 4) 8 (.bool cb) rfl u0 ?_;refine Nt zab ?_ _;clear u0
 (try simp only [Act.put,List.setIfInBounds_toArray,List.set_cons_succ,List.set_cons_zero])
 go_wp2;go_ret;exact ⟨rfl,zal⟩
theorem Cs (w:World) (lo:Pg.Lo) (mb pb b cap:Nat) (r:Pg.RSt) (ps:List Pg.PS) (fin:Nat) (EN LV:Nat->List Pg.PA) (t ot lt v ov lv B3 B5 B7:Nat) (pv:Pg.PS) (hP:Pg.fT w lo pb b cap ps fin EN LV) (h:Pg.MT w lo mb pb r) (ht:Pg.MvB w t ot lt) (hv:Pg.MvB w v ov lv) (hb:Pg.TkB w mb v B3 B5) (hpv:ps[ov]?=some pv) (hot:ot<32)
  (h7:Boxed w B7 391 (.func (.func 226) #[] #[B3,B5])) :
  () 227 #[t,B7,B3,B5] w fun e w'=>e = .returned (.bool (Pg.fC r.act lt lv && !pv.around.testBit ot))/\Below w w w':=by
 have hlw:=hP.lw;have hlo:=h.lo';have hcl:∀ V,Below w w V->() 226 #[t,B3,B5] V fun e w'=>e = .returned (.bool (Pg.fC r.act lt lv))/\Below w w w':=fun V hV=>(pV V lo mb pb r t ot lt v ov lv B3 B5 hlw (h.below hlw hV) (ht.below hV) (hv.below hV) (hb.below hV)).mono (fun e w' x=>⟨x.1,hV.trans (x.2.mono hV.size)⟩);have hii:∀ V,Below w w V->() 228 #[pb,(ov:Int),(ot:Int)] V fun e w'=>e = .returned (.bool (pv.around.testBit ot))/\Below w w w':=fun V hV=>(Gy V pb b cap ps ov ot pv (hP.below (hV.mono hlo)).bC hpv hot).mono (fun e w' x=>⟨x.1,by rw [x.2];exact hV⟩);have hkB:∀ V:World,Below w w V->V.cell? B7=some (.func (.func 226) #[] #[B3,B5])/\V.cell? B3=some ↑mb/\V.cell? B5=some ↑v/\V.cell? mb=some ↑pb/\V.cell? v=some ↑(ov:Int)/\V.cell? t=some ↑(ot:Int):=fun V hV=>⟨(aB h7 hV h7.lt).cell,(hb.below hV).b3.cell,(hb.below hV).b5.cell,(h.below hlw hV).c0.1,(hv.below hV).c0,(ht.below hV).c0⟩;have hBd:=(MY w w).drew;obtain ⟨k1,k2,k3,k4,k5,k6⟩:=hkB _ hBd;generalize Pg.fC r.act lt lv=cb at *;generalize pv.around.testBit ot=ab at *;clear h ht hv hb h7 hP;cases cb
 ·go_enter func227,ntmps227
  go_upto_region 1 with fail
  refine No (S:=(fun V=>V.cell? B7=some (.func (.func 226) #[] #[B3,B5])/\V.cell? B3=some ↑mb/\V.cell? B5=some ↑v/\V.cell? mb=some ↑pb/\V.cell? v=some ↑(ov:Int)/\V.cell? t=some ↑(ot:Int))) zab ⟨k1,k2,k3,k4,k5,k6⟩ (fun u0 => ?_);refine tD (some 6) 0 (.func (.func 226) #[] #[B3,B5]) rfl u0 ?_;refine tD (some 7) 1 t rfl u0 ?_;refine zH 2 rfl fun K hK => ?_;go_simp;refine (hcl _ zal).mono ?_;rintro e wA ⟨rfl,hA⟩;refine hK.out _ _ (hkB wA hA) (fun u0 => ?_);clear hK K;refine tD (some 9) 3 (.bool false) rfl u0 ?_;refine tU (some 10) 4 rfl u0 ?_;refine tU (some 11) 5 rfl u0 ?_;refine tU (some 12) 6 rfl u0 ?_;refine tU (some 13) 7 rfl u0 ?_;refine tU (some 14) 8 rfl u0 ?_;refine tU (some 15) 9 rfl u0 ?_;refine tU (some 16) 10 rfl u0 ?_;refine tU (some 17) 11 rfl u0 ?_;refine tU (some 18) 12 rfl u0 ?_;refine tU (some 19) 13 rfl u0 ?_;refine tU (some 20) 14 rfl u0 ?_;refine tU (some 21) 15 rfl u0 ?_;refine tU (some 22) 16 rfl u0 ?_;refine tU (some 23) 17 rfl u0 ?_;refine tD (some 24) 18 (.bool false) rfl u0 ?_;refine tD (some 5) 19 (.bool false) rfl u0 ?_;exact zdI
 ·go_enter func227,ntmps227
  go_upto_region 1 with fail
  refine No (S:=(fun V=>V.cell? B7=some (.func (.func 226) #[] #[B3,B5])/\V.cell? B3=some ↑mb/\V.cell? B5=some ↑v/\V.cell? mb=some ↑pb/\V.cell? v=some ↑(ov:Int)/\V.cell? t=some ↑(ot:Int))) zab ⟨k1,k2,k3,k4,k5,k6⟩ (fun u0 => ?_);refine tD (some 6) 0 (.func (.func 226) #[] #[B3,B5]) rfl u0 ?_;refine tD (some 7) 1 t rfl u0 ?_;refine zH 2 rfl fun K hK => ?_;go_simp;refine (hcl _ zal).mono ?_;rintro e wA ⟨rfl,hA⟩;refine hK.out _ _ (hkB wA hA) (fun u0 => ?_);clear hK K;refine tD (some 9) 3 (.bool true) rfl u0 ?_;refine dR (d:=some 10) (i:=4) (v:=(.pointer (some ⟨mb,0,none⟩))) rfl rfl zab zab zab (fun _ _ _ h=>h) (Or.inl ⟨zab,fun w hSw=>zai⟩) u0 ?_;refine dR (d:=some 11) (i:=5) (v:=(.pointer (some ⟨mb,0,none⟩))) rfl rfl zab zab zab (fun _ _ _ h=>h) (Or.inl ⟨zab,fun w hSw=>zai⟩) u0 ?_;refine dR (d:=some 12) (i:=6) (v:=(.pointer (some ⟨mb,0,none⟩))) rfl rfl zab zab zab (fun _ _ _ h=>h) (Or.inl ⟨zab,fun w hSw=>zai⟩) u0 ?_;refine dR (d:=some 13) (i:=7) (v:=(.pointer (some ⟨pb,0,none⟩))) rfl rfl zab zab zab (fun _ _ _ h=>h) (Or.inl ⟨zab,fun w hSw=>zai⟩) u0 ?_;refine dR (d:=some 14) (i:=8) (v:=(.pointer (some ⟨v,0,none⟩))) rfl rfl zab zab zab (fun _ _ _ h=>h) (Or.inl ⟨zab,fun w hSw=>zai⟩) u0 ?_;refine dR (d:=some 15) (i:=9) (v:=(.pointer (some ⟨v,0,none⟩))) rfl rfl zab zab zab (fun _ _ _ h=>h) (Or.inl ⟨zab,fun w hSw=>zai⟩) u0 ?_;refine dR (d:=some 16) (i:=10) (v:=(.pointer (some ⟨v,0,none⟩))) rfl rfl zab zab zab (fun _ _ _ h=>h) (Or.inl ⟨zab,fun w hSw=>zai⟩) u0 ?_;refine dR (d:=some 17) (i:=11) (v:=(.int .i64 ov)) rfl rfl zab zab zab (fun _ _ _ h=>h) (Or.inl ⟨zab,fun w hSw=>zai⟩) u0 ?_;refine dR (d:=some 18) (i:=12) (v:=(.pointer (some ⟨t,0,none⟩))) rfl rfl zab zab zab (fun _ _ _ h=>h) (Or.inl ⟨zab,fun w hSw=>zai⟩) u0 ?_;refine dR (d:=some 19) (i:=13) (v:=(.pointer (some ⟨t,0,none⟩))) rfl rfl zab zab zab (fun _ _ _ h=>h) (Or.inl ⟨zab,fun w hSw=>zai⟩) u0 ?_;refine dR (d:=some 20) (i:=14) (v:=(.pointer (some ⟨t,0,none⟩))) rfl rfl zab zab zab (fun _ _ _ h=>h) (Or.inl ⟨zab,fun w hSw=>zai⟩) u0 ?_;refine dR (d:=some 21) (i:=15) (v:=(.int .i64 ot)) rfl rfl zab zab zab (fun _ _ _ h=>h) (Or.inl ⟨zab,fun w hSw=>zai⟩) u0 ?_;refine yH [16] ?_;refine oC rfl zab (fun K hK => ?_) Ou;go_simp;refine (hii _ zal).mono ?_;rintro e wA ⟨rfl,hA⟩;refine hK.out _ _ (hkB wA hA) (fun u0 => ?_);clear hK K;refine dR (d:=some 23) (i:=17) (v:=(.bool (!ab))) rfl rfl zab zab zab (fun _ _ _ h=>h) (Or.inl ⟨zab,fun w hSw=>zai⟩) u0 ?_;refine tD (some 24) 18 (.bool (!ab)) rfl u0 ?_;refine tD (some 5) 19 (.bool (!ab)) rfl u0 ?_;exact zdI
namespace Pg
def ixF (p:Nat->Bool):List Nat->Int
 | [] => -1
 | x::l=>if p x then 0 else if ixF p l = -1 then -1 else ixF p l+1
theorem r8 {p:Nat->Bool}:∀ {l:List Nat},(∀ x∈l,p x=false)->ixF p l = -1
 | [],_=>rfl
 | x::l,h=>by
  unfold ixF;rw [M4 (by rw [h x (NK ..)];decide),M6 (r8 fun y hy=>h y (NL _ hy))]
theorem BA {p:Nat->Bool}:∀ {l:List Nat} {k x:Nat},l[k]?=some x->p x=true->(∀ (j y:Nat),j<k->l[j]?=some y->p y=false)->ixF p l=k
 | [],k,x,h,_,_=>by simp at h
 | y::l,0,x,h,hp,_=>by
  simp at h;subst h;unfold ixF;rw [M6 hp];rfl
 | y::l,k+1,x,h,hp,hb=>by
  simp at h;have h0:=hb 0 y zaa rfl;have ih:=BA (l:=l) h hp (fun j z hj hz=>hb (j+1) z zaa (by simpa using hz));unfold ixF;rw [M4 (by rw [h0];decide),ih,M4 zaa];omega
structure MvR (W:World) (g cap:Nat) (L:List Nat) (cur:Array Value):Prop where
 blk:W.heap[g]?=some (.cells cur 242 (0,0))
 size:cur.size=cap
 le:L.length<=cap
 at':∀ (j x:Nat),L[j]?=some x->cur[j]?=some ↑x
theorem MvR.cell (h:MvR W g cap L cur) (hx:L[j]?=some x):W.cell? ⟨g,j,none⟩=some ↑x:=by
 rw [M0 W _ _ _ _ _ h.blk];exact h.at' j x hx
theorem MvR.mo (h:MvR W g cap L cur) (hm:Mo P W W') (hn:¬ P g):MvR W' g cap L cur:=⟨(hm.block g (MQ.1 h.blk).1 hn).trans h.blk,h.size,h.le,h.at'⟩
end Pg
theorem uo (n:Nat):(Builtin.zeroCells #[Value.pointer none] n).toList=List.replicate n (.pointer none):=by
 unfold Builtin.zeroCells;simp only [List.size_toArray,List.length_cons,List.length_nil,Nat.zero_add,Nat.mul_one,Nat.mod_one,Array.toList_map,Array.toList_range];rw [List.eq_replicate_iff];refine ⟨zad,fun b hb => ?_⟩;obtain ⟨_,_,rfl⟩:=NI.1 hb;rfl
theorem xL (W:World) (g i n c:Nat) (cur:Array Value) (ty:TypeId) (hg:W.heap[g]?=some (.cells cur 242 (0,0))) (hn:0<n) (hfit:i+n<=cur.size) :
  (Builtin.clear_ #[240] ty #[.slice (some ⟨g,i,none⟩) n c]).run prog W = .ok (.tuple #[]) (W.setRow g (cur.toList.take i++List.replicate n (Value.pointer none)++cur.toList.drop (i+n)).toArray):=by
 obtain ⟨m,rfl⟩:∃ m,n=m+1:=⟨n-1,zaa⟩;obtain ⟨i0,hi,hz0,hz1,hz2⟩:=OB l7;have hst:=run_storeCells_at prog g i 242 (List.replicate (m+1) (.pointer none)) 0 cur W hg (by simpa using hfit) (fun v hv=>by rw [(List.mem_replicate.1 hv).2];rfl);simp only [Nat.add_zero,List.length_replicate] at hst;unfold Builtin.clear_;simp [run_underlying underlying240,zeroValue,typeInfo,hi,hz0,Value.cells,uo,hst,Result.andThen]
theorem qq (w:World) (a:Option Addr) (c:Nat) (L:List Nat) (p:Nat->Bool) (B7 B3 B5:Nat) (hl:L.length<=1000) (hc:∀ (j x:Nat),L[j]?=some x->∃ g,a=some ⟨g,0,none⟩/\g<w.heap.size/\w.cell? ⟨g,j,none⟩=some ↑x)
  (hf:∀ (V:World) (x:Nat),Below w w V->x∈L->() 227 #[x,B7,B3,B5] V fun e w'=>e = .returned (.bool (p x))/\Below w w w') :
  () 255 #[.slice a L.length c,.func (.func 227) #[] #[B7,B3,B5]] w fun e w'=>e = .returned (.int .i64 (Pg.ixF p L))/\Below w w w':=by
 have HC:Hid _:=hc;have HF:Hid _:=hf;clear hc hf;go_enter func255,ntmps255;go_wp2
 go_loopw [8] (fun i wr=>∃ k:Nat,i = .int .i64 k/\k<=L.length/\Hid ((∀ (j y:Nat),j<k->L[j]?=some y->p y=false)/\Below w w wr)) (fun i _=>L.length-(intOf i).toNat)
 case atStart=>exact ⟨0,rfl,zaa,fun j y hj=>zaa,MY _ _⟩
 case round =>
  obtain ⟨k,rfl,hkl,HK⟩:=hrel;by_cases hk:k<L.length
  ·obtain ⟨x,hx⟩:∃ x,L[k]?=some x:=⟨_,MU hk⟩;obtain ⟨g,ha,hg,hcx⟩:=HC.out k x hx;subst ha;have hcr:wr.cell? ⟨g,k,none⟩=some ↑x:=(HK.out.2.cell (p:=⟨g,k,none⟩) hg).trans hcx;have hcall:=HF.out wr x HK.out.2 (Nc hx);have hki:((k:Int)<(L.length:Int)):=zaa;have HX:Hid _:=hx;clear hcx hx;obtain ⟨b,hb⟩:∃ b,p x=b:=⟨_,rfl⟩;rw [hb] at hcall;have HB:Hid _:=hb;clear hb;cases b
   ·go_wp2_with (go_at_call 227;refine hcall.mono ?_;rintro e w9 ⟨rfl,hb9⟩);exact zds
   ·go_wp2_with (go_at_call 227;refine hcall.mono ?_;rintro e w9 ⟨rfl,hb9⟩);exact zeK
  ·exact zdw
theorem jM (w:World) (a:Option Addr) (c:Nat) (L:List Nat) (p:Nat->Bool) (B3 B5:Nat) (hl:L.length<=1000) (hc:∀ (j x:Nat),L[j]?=some x->∃ g,a=some ⟨g,0,none⟩/\g<w.heap.size/\w.cell? ⟨g,j,none⟩=some ↑x)
  (hf:∀ (V:World) (x:Nat),Below w w V->x∈L->() 226 #[x,B3,B5] V fun e w'=>e = .returned (.bool (p x))/\Below w w w') :
  () 255 #[.slice a L.length c,.func (.func 226) #[] #[B3,B5]] w fun e w'=>e = .returned (.int .i64 (Pg.ixF p L))/\Below w w w':=by
 have HC:Hid _:=hc;have HF:Hid _:=hf;clear hc hf;go_enter func255,ntmps255;go_wp2
 go_loopw [8] (fun i wr=>∃ k:Nat,i = .int .i64 k/\k<=L.length/\Hid ((∀ (j y:Nat),j<k->L[j]?=some y->p y=false)/\Below w w wr)) (fun i _=>L.length-(intOf i).toNat)
 case atStart=>exact ⟨0,rfl,zaa,fun j y hj=>zaa,MY _ _⟩
 case round =>
  obtain ⟨k,rfl,hkl,HK⟩:=hrel;by_cases hk:k<L.length
  ·obtain ⟨x,hx⟩:∃ x,L[k]?=some x:=⟨_,MU hk⟩;obtain ⟨g,ha,hg,hcx⟩:=HC.out k x hx;subst ha;have hcr:wr.cell? ⟨g,k,none⟩=some ↑x:=(HK.out.2.cell (p:=⟨g,k,none⟩) hg).trans hcx;have hcall:=HF.out wr x HK.out.2 (Nc hx);have hki:((k:Int)<(L.length:Int)):=zaa;have HX:Hid _:=hx;clear hcx hx;obtain ⟨b,hb⟩:∃ b,p x=b:=⟨_,rfl⟩;rw [hb] at hcall;have HB:Hid _:=hb;clear hb;cases b
   ·go_wp2_with (go_at_call 226;refine hcall.mono ?_;rintro e w9 ⟨rfl,hb9⟩);exact zds
   ·go_wp2_with (go_at_call 226;refine hcall.mono ?_;rintro e w9 ⟨rfl,hb9⟩);exact zeK
  ·exact zdw
theorem tO (w:World) (a:Option Addr) (c:Nat) (L:List Nat) (p:Nat->Bool) (B7 B3 B5:Nat) (hl:L.length<=1000) (hc:∀ (j x:Nat),L[j]?=some x->∃ g,a=some ⟨g,0,none⟩/\g<w.heap.size/\w.cell? ⟨g,j,none⟩=some ↑x)
  (hf:∀ (V:World) (x:Nat),Below w w V->x∈L->() 227 #[x,B7,B3,B5] V fun e w'=>e = .returned (.bool (p x))/\Below w w w') :
  () 229 #[.slice a L.length c,.func (.func 227) #[] #[B7,B3,B5]] w fun e w'=>e = .returned (.bool (L.any p))/\Below w w w':=by
 have hix:=qq w a c L p B7 B3 B5 hl hc hf;have hge:(decide ((Pg.ixF p L)>=0))=L.any p:=by
  clear hix hf hc hl
  induction L with
  | nil=>rfl
  | cons x L ih =>
   unfold Pg.ixF;rw [List.any_cons];cases hp:p x
   ·rw [M4 zac,Q5,<- ih];split
    ·rename_i h;rw [h]
    ·rename_i h;have:Pg.ixF p L>=0\/Pg.ixF p L = -1:=by
      clear ih h hp
      induction L with
      | nil=>exact .inr rfl
      | cons y L ih2 =>
       unfold Pg.ixF;split
       ·exact .inl zaa
       ·split
        ·exact .inr rfl
        ·rename_i h2
         rcases ih2 with h3 | h3
         ·exact .inl zaa
         ·exact absurd h3 h2
     have h4:Pg.ixF p L>=0:=this.resolve_right h;simp [h4];omega
   ·rw [M6 rfl,PQ];rfl
 generalize L.any p=bb at *;generalize Pg.ixF p L=ix at *;have hge2:decide (0<=ix)=bb:=hge;clear hc hf hge;go_enter func229,ntmps229;go_wp2_with (go_at_call 255;refine hix.mono ?_;rintro e w9 ⟨rfl,hb9⟩);go_ret;exact ⟨by rw [<- hge2];rfl,hb9⟩
namespace Pg
def flt (p:Nat->Bool) (L:List Nat):List Nat:=L.filter fun x => !p x
theorem Gl (p:Nat->Bool) (L:List Nat) (x:Nat):flt p (L++[x])=if p x then flt p L else flt p L++[x]:=by
 unfold flt;rw [ON];cases h:p x <;> simp [h]
theorem ze (p:Nat->Bool) (h:L[j]?=some x):flt p (L.take (j+1))=if p x then flt p (L.take j) else flt p (L.take j)++[x]:=by
 rw [<- Gl,OH,h];rfl
theorem zc {p:Nat->Bool} (h:∀ x∈L,p x=false):flt p L=L:=List.filter_eq_self.2 fun x hx=>by rw [h x hx];rfl
structure DlI (w:World) (g cap:Nat) (p:Nat->Bool) (L:List Nat) (i j:Nat) (V:World):Prop where
 ik:i=(flt p (L.take j)).length
 ij:i<j
 jl:j<=L.length
 mo:Mo (· = g) w V
 row:∃ cur:Array Value,V.heap[g]?=some (.cells cur 242 (0,0))/\cur.size=cap/\(∀ (a x:Nat),(flt p (L.take j))[a]?=some x->cur[a]?=some ↑x)/\∀ (a x:Nat),j<=a->L[a]?=some x->cur[a]?=some ↑x
theorem uV (p:Nat->Bool):∀ l:List Nat,ixF p l>=0\/ixF p l = -1
 | [] => .inr rfl
 | y::l=>by
  unfold ixF;split
  ·exact .inl zaa
  ·split
   ·exact .inr rfl
   ·rename_i h2
    rcases uV p l with h3 | h3
    ·exact .inl zaa
    ·exact absurd h3 h2
theorem GA {p:Nat->Bool}:∀ {l:List Nat},ixF p l = -1->∀ x∈l,p x=false
 | [],_,x,hx=>by cases hx
 | y::l,h,x,hx=>by
  unfold ixF at h;split at h
  ·omega
  ·rename_i h1;split at h
   ·rename_i h2
    rcases O5.1 hx with rfl | hx
    ·simpa using h1
    ·exact GA h2 x hx
   ·rename_i h2;have:ixF p l>=0\/ixF p l = -1:=uV p l;omega
theorem zx {p:Nat->Bool}:∀ {l:List Nat},ixF p l ≠ -1->∃ (k x:Nat),ixF p l=k/\l[k]?=some x/\p x=true/\∀ (j y:Nat),j<k->l[j]?=some y->p y=false
 | [],h=>absurd rfl h
 | y::l,h=>by
  cases hp:p y
  ·have h2:ixF p l ≠ -1:=fun e=>h (by unfold ixF;rw [M4 (by rw [hp];decide),M6 e]);obtain ⟨k,x,a,b,c,d⟩:=zx h2;refine ⟨k+1,x,?_,by simpa using b,c,fun j z hj hz => ?_⟩
   ·unfold ixF;rw [M4 (by rw [hp];decide),M4 h2,a];omega
   ·cases j with
    | zero=>simp at hz;subst hz;exact hp
    | succ j=>exact d j z zaa (by simpa using hz)
  ·exact ⟨0,y,by unfold ixF;rw [M6 hp];rfl,rfl,hp,fun j _ hj=>zaa⟩
end Pg
theorem yK (w:World) (g cap:Nat) (L:List Nat) (cur:Array Value) (p:Nat->Bool) (B3 B5:Nat) (hl:L.length<=1000) (hR:Pg.MvR w g cap L cur)
  (hf:∀ (V:World) (x:Nat),Mo (· = g) w V->x∈L->() 226 #[x,B3,B5] V fun e w'=>e = .returned (.bool (p x))/\Below V V w') :
  () 230 #[.slice g L.length cap,.func (.func 226) #[] #[B3,B5]] w fun e w'=>e = .returned (.slice g (Pg.flt p L).length cap)/\(∃ cur',Pg.MvR w' g cap (Pg.flt p L) cur')/\Mo (· = g) w w':=by
 have hgl:=(MQ.1 hR.blk).1;have hix:=jM w (some ⟨g,0,none⟩) cap L p B3 B5 hl (fun j x hx=>⟨g,rfl,hgl,hR.cell hx⟩) (fun V x hV hx=>(hf V x (ay hV) hx).mono (fun e w' y=>⟨y.1,hV.trans (y.2.mono hV.size)⟩));have hle:=hR.le;have hcs:=hR.size;by_cases hm:Pg.ixF p L = -1
 ·have hfl:=Pg.zc (Pg.GA hm);rw [hm] at hix;rw [hfl];have HR:Hid _:=hR;clear hR hf hfl;go_enter func230,ntmps230;go_wp2_with (go_at_call 255;refine hix.mono ?_;rintro e w9 ⟨rfl,hb9⟩);go_ret;exact ⟨rfl,⟨cur,HR.out.mo (P:=fun _=>False) (ay hb9) (fun h=>h)⟩,ay hb9⟩
 ·obtain ⟨k,x0,hk,hx0,hp0,hbef⟩:=Pg.zx hm;have hkl:=(MZ.1 hx0).1;rw [hk] at hix;have hk1:((k:Int) == -1)=false:=zad;have hfk:Pg.flt p (L.take k)=L.take k:=Pg.zc fun y hy=>by
   obtain ⟨j,hj⟩:=Nu.1 hy;have hjk:j<k:=by have:=(MZ.1 hj).1;rw [N8] at this;omega
   rw [Oc hjk] at hj;exact hbef j y hjk hj
  have HI:Hid (∀ w9,Below w w w9->Pg.DlI w g cap p L k (k+1) w9):=fun w9 hb=>by
   have hR9:=hR.mo (P:=fun _=>False) (ay hb) (fun h=>h);have e:Pg.flt p (L.take (k+1))=L.take k:=by rw [Pg.ze p hx0,M6 hp0,hfk]
   refine ⟨by rw [e,N8];omega,zaa,zaa,ay hb,cur,hR9.blk,hcs,fun a x hx => ?_,fun a x _ hx=>hR9.at' a x hx⟩;rw [e] at hx;have hak:a<k:=by have:=(MZ.1 hx).1;rw [N8] at this;omega
   rw [Oc hak] at hx;exact hR9.at' a x hx
  have HF:Hid _:=hf;clear hf hR hm hk hfk hbef hx0 hp0;go_enter func230,ntmps230;go_wp2_with (go_at_call 255;refine hix.mono ?_;rintro e w9 ⟨rfl,hb9⟩;have H9:Hid _:=HI.out w9 hb9;clear hb9)
  go_loopw [5,6] (fun iv jv wr=>∃ i j:Nat,iv = .int .i64 i/\jv = .int .i64 j/\Hid (Pg.DlI w g cap p L i j wr)) (fun _ jv _=>L.length-(intOf jv).toNat)
  case atStart=>exact ⟨k,k+1,rfl,zad,H9⟩
  case round =>
   obtain ⟨i,j,rfl,rfl,HD⟩:=hrel;clear H9 hix;obtain ⟨d1,d2,d3,d4,cu,e1,e2,e3,e4⟩:=HD.out;by_cases hj:j<L.length
   ·obtain ⟨x,hx⟩:∃ x,L[j]?=some x:=⟨_,MU hj⟩;have cx:wr.cell? ⟨g,j,none⟩=some ↑x:=by rw [M0 wr _ _ _ _ _ e1];exact e4 j x (MR _) hx
    have hcall:=HF.out wr x d4 (Nc hx);have hft:=Pg.ze p hx;obtain ⟨b,hb⟩:∃ b,p x=b:=⟨_,rfl⟩;rw [hb] at hcall hft;have HT:Hid _:=hft;have D1:Hid _:=d1;have HX:Hid _:=hx;have E3:Hid _:=e3;have E4:Hid _:=e4;have E1:Hid _:=e1;have HB:Hid _:=hb;have hji:((j:Int)<(L.length:Int)):=zaa;have hii:((i:Int)<(L.length:Int)):=zaa;clear hft d1 hx e3 e4 hb;have hgr:∀ V,Below wr wr V->V.heap[g]?=some (.cells cu 242 (0,0)):=fun V hV=>(hV.block g (MQ.1 e1).1).trans e1;have HG:Hid _:=hgr;clear hgr e1;cases b
    ·have HS:Hid (∀ V,Below wr wr V->Pg.DlI w g cap p L (i+1) (j+1) (V.setCell ⟨g,i,none⟩ x)/\V.frozen? ⟨g,i,none⟩=false/\∃ u,V.cell? ⟨g,i,none⟩=some u):=fun V hV=>by
      have hgV:=HG.out V hV;have hft:=HT.out;rw [M4 zac] at hft;refine ⟨⟨by rw [hft,Nj,<- D1.out];rfl,zaa,zaa,(d4.trans (ay hV)).set _ _ rfl,cu.setIfInBounds i x,Nn V g i _ _ _ hgV,by simp [e2],fun a y hy => ?_,fun a y ha hy => ?_⟩,by simp [World.frozen?,hgV],cu[i]'(zaa),by rw [M0 V _ _ _ _ _ hgV];exact P3 zaa⟩
      ·rw [hft] at hy;by_cases ha:a<(Pg.flt p (L.take j)).length
       ·rw [N7 ha] at hy;rw [OA (by rw [D1.out];omega)];exact E3.out a y hy
       ·have hai:a=i:=by
         have:=(MZ.1 hy).1;rw [Nj,OZ] at this;have:=D1.out;omega
        subst hai;rw [Oe zaa,<- D1.out] at hy;simp at hy;subst hy;exact OK zaa
      ·rw [OA zaa];exact E4.out a y zaa hy
     go_wp2_with (go_at_call 226;refine hcall.mono ?_;rintro e w9 ⟨rfl,hb9⟩;obtain ⟨x1,x2,u,x3⟩:=HS.out w9 hb9;have X1:Hid _:=x1;clear x1)
     go_roundw
     case rel=>exact ⟨i+1,j+1,zad,zad,X1⟩
     case measure=>simp only [intOf];omega
    ·have HS:Hid (∀ V,Below wr wr V->Pg.DlI w g cap p L i (j+1) V):=fun V hV=>by
      have hft:=HT.out;rw [M6 rfl] at hft;exact ⟨by rw [hft];exact D1.out,zaa,zaa,d4.trans (ay hV),cu,HG.out V hV,e2,fun a y hy=>E3.out a y (by rw [hft] at hy;exact hy),fun a y ha hy=>E4.out a y zaa hy⟩
     go_wp2_with (go_at_call 226;refine hcall.mono ?_;rintro e w9 ⟨rfl,hb9⟩;have X1:Hid _:=HS.out w9 hb9)
     go_roundw
     case rel=>exact ⟨i,j+1,rfl,zad,X1⟩
     case measure=>simp only [intOf];omega
   ·obtain rfl:j=L.length:=zaa;rw [N6] at d1 e3;have hcl:=xL wr g i (L.length-i) (cap-i) cu 0 e1 zaa zaa;have D1:Hid _:=d1;have hgr:(wr.setRow g (cu.toList.take i++List.replicate (L.length-i) (Value.pointer none)++cu.toList.drop (i+(L.length-i))).toArray).heap[g]?=some (.cells (cu.toList.take i++List.replicate (L.length-i) (Value.pointer none)++cu.toList.drop (i+(L.length-i))).toArray 242 (0,0)):=RO wr g _ _ _ _ e1;have hmo:Mo (· = g) wr (wr.setRow g (cu.toList.take i++List.replicate (L.length-i) (Value.pointer none)++cu.toList.drop (i+(L.length-i))).toArray):=Dd (gS wr g _);have HE:Hid ((∃ cur',Pg.MvR (wr.setRow g (cu.toList.take i++List.replicate (L.length-i) (Value.pointer none)++cu.toList.drop (i+(L.length-i))).toArray) g cap (Pg.flt p L) cur')/\Mo (· = g) w (wr.setRow g (cu.toList.take i++List.replicate (L.length-i) (Value.pointer none)++cu.toList.drop (i+(L.length-i))).toArray)):=by
     refine ⟨⟨_,hgr,?_,by rw [<- D1.out];omega,fun a x hx => ?_⟩,d4.trans hmo⟩
     ·simp;omega
     ·have ha:a<i:=by rw [D1.out];exact (MZ.1 hx).1
      have h1:=e3 a x hx;rw [Ps,OV,N7 zae,Oc ha,Ok];exact h1
    have hi2:i<=L.length:=zaa;generalize wr.setRow g (cu.toList.take i++List.replicate (L.length-i) (Value.pointer none)++cu.toList.drop (i+(L.length-i))).toArray=W2 at *;clear d1 e3 e4 hgr hmo HD e1;go_wp2;go_ret;exact ⟨by rw [<- D1.out];rfl,HE.out⟩
namespace Pg
abbrev TkS (W:World) (base:Nat) (sv:Value) (L:List Nat):Prop:=W.ownsRow base 242 1 sv L.length (L.flatMap lK)
theorem yZ (L:List Nat) (j x:Nat) (h:L[j]?=some x):(L.flatMap lK)[j]?=some ↑x:=by
 induction L generalizing j with
 | nil=>simp at h
 | cons y L ih =>
  cases j with
  | zero=>simp at h;subst h;rfl
  | succ j=>simp at h;exact ih j h
theorem jJ (L:List Nat):(L.flatMap lK).length=L.length:=by
 induction L with
 | nil=>rfl
 | cons y L ih=>rw [Ol,Nj,ih];simp [lK];omega
theorem TkS.form (h:TkS W base sv L):(sv = .slice none 0 0/\L=[])\/∃ g cap cur,sv = .slice (some ⟨g,0,none⟩) L.length cap/\base<=g/\cap<=maxLen/\MvR W g cap L cur:=by
 rcases h.2 with ⟨a,b⟩ | ⟨g,cap,cur,a,b,c,d,e,f,k⟩
 ·exact .inl ⟨a,O1.1 b⟩
 ·refine .inr ⟨g,cap,cur,a,b,e,c,zaa,d,fun j x hx => ?_⟩;have h1:=yZ L j x hx;rw [<- k,P9,Oc (MZ.1 hx).1,Ok] at h1;exact h1
theorem TkS.of (h:MvR W g cap L cur) (hb:base<=g) (hc:cap<=maxLen):TkS W base (.slice g L.length cap) L:=by
 refine ⟨by rw [jJ];omega,.inr ⟨g,cap,cur,rfl,hb,h.blk,h.le,hc,by have:=h.size;omega,?_⟩⟩;refine Pc (fun j => ?_);rw [P9];by_cases hj:j<L.length
 ·rw [Oc hj,Ok,yZ L j _ (MU hj)];exact h.at' j _ (MU hj)
 ·rw [Ny za5,Ny (by rw [jJ];omega)]
theorem TkS.kind (h:TkS W base sv L):∀ k,sv.ownBlock=some k->base<=k/\k<W.heap.size/\∃ c,W.heap[k]?=some (.cells c 242 (0,0)):=fun k hk=>by
 exact zdT
theorem TkS.n (h:TkS W base sv L):∃ a c,sv = .slice a L.length c:=by
 exact zea
theorem MT.moT (h:MT W lo mb pb r) (hl:Lw lo) (hm:Mo P W W') (hP:∀ k,P k->lo<=k/\∃ c,W.heap[k]?=some (.cells c 242 (0,0))):MT W' lo mb pb r:=by
 obtain ⟨qv,wh,a,b⟩:=h.ex;have hb:Below lo W W':=⟨hm.os,hm.tape,hm.output,hm.size,fun k hk=>hm.block k (by have:=h.lo';omega) (fun hp=>zbT)⟩;have hk:Kd (fun t=>t=242) W W':=fX hm (fun k c t f hp hc=>by
  obtain ⟨_,c',hc'⟩:=hP k hp;rw [hc] at hc';cases hc'
  rfl)
 refine ⟨⟨qv,wh,a.mo hm (fun e => ?_) (fun g hg e => ?_),b.kd hk zac rfl rfl⟩,MX h.lo' hm.size,h.act,h.now,h.tml,fk hl hb h.tab,bU hl hb h.tab5⟩
 ·obtain ⟨_,c,hc⟩:=hP _ e;obtain ⟨arr,a1,_⟩:=a.blk;rw [hc] at a1;simp at a1
 ·obtain ⟨_,c,hc⟩:=hP _ e;obtain ⟨c',hc'⟩:=a.que.kind g hg;rw [hc] at hc';simp at hc'
def oT (act:Nat) (lF oF:Nat->Nat) (ar:Nat) (L:List Nat) (v:Nat):List Nat:=if L.any (fun x=>fC act (lF x) (lF v) && !ar.testBit (oF x)) then L else flt (fun x=>fC act (lF x) (lF v)) L++[v]
end Pg
theorem yL (w:World) (base:Nat) (sv:Value) (L:List Nat) (p:Nat->Bool) (B3 B5:Nat) (hl:L.length<=1000) (h:Pg.TkS w base sv L)
  (hf:∀ (V:World) (x:Nat),Mo (fun k=>sv.ownBlock=some k) w V->x∈L->() 226 #[x,B3,B5] V fun e w'=>e = .returned (.bool (p x))/\Below V V w') :
  () 230 #[sv,.func (.func 226) #[] #[B3,B5]] w fun e w'=>∃ sv',e = .returned sv'/\Pg.TkS w' base sv' (Pg.flt p L)/\sv'.ownBlock=sv.ownBlock/\Mo (fun k=>sv.ownBlock=some k) w w':=by
 rcases h.form with ⟨rfl,rfl⟩ | ⟨g,cap,cur,rfl,hb,hc,hR⟩
 ·have hix:=jM w none 0 [] p B3 B5 zad (fun j x hx=>by simp at hx) (fun V x _ hx=>zaH);have hi0:Pg.ixF p [] = -1:=rfl;rw [hi0] at hix;have HN:Hid (∀ W:World,Pg.TkS W base (.slice none 0 0) (Pg.flt p [])):=fun W=>⟨rfl,.inl ⟨rfl,rfl⟩⟩;clear h hf;simp only [List.length_nil] at hix;go_enter func230,ntmps230;go_wp2_with (go_at_call 255;refine hix.mono ?_;rintro e w9 ⟨rfl,hb9⟩);go_ret;exact ⟨_,rfl,HN.out _,rfl,ay hb9⟩
 ·have hP:(fun k=>Value.ownBlock (.slice g L.length cap)=some k)=(· = g):=by
   funext k;exact propext ⟨fun e=>za7,fun e=>by subst e;rfl⟩
  rw [hP] at hf ⊢;refine (yK w g cap L cur p B3 B5 hl hR hf).mono ?_;rintro e w' ⟨rfl,⟨cur',hR'⟩,hm⟩;exact ⟨_,rfl,Pg.TkS.of hR' hb hc,rfl,hm⟩
theorem Iw (w:World) (lo:Pg.Lo) (mb pb b cap base:Nat) (r:Pg.RSt) (ps:List Pg.PS) (fin:Nat) (EN LV:Nat->List Pg.PA) (sv:Value) (L:List Nat) (v:Nat) (pv:Pg.PS) (lF oF:Nat->Nat) (hP:Pg.fT w lo pb b cap ps fin EN LV) (h:Pg.MT w lo mb pb r) (hT:Pg.TkS w base sv L) (hbase:lo<=base) (hbw:base<=w.heap.size) (hl:L.length<=900) (hM:∀ x,x=v\/x∈L->Pg.MvB w x (oF x) (lF x)/\oF x<32) (hpv:ps[oF v]?=some pv) :
  () 193 #[mb,sv,v] w fun e w'=>∃ sv',e = .returned sv'/\Pg.TkS w' base sv' (Pg.oT r.act lF oF pv.around L v)/\Mo (fun k=>sv.ownBlock=some k) w w':=by
 obtain ⟨i0,hi,hz0,hz1,hz2⟩:=OB l7;have hlw:=hP.lw;have hlo:=h.lo';obtain ⟨sa,sc,rfl⟩:=hT.n;have hB3:∀ o1 o2 o3:Obj,Below w w (((w.alloc o1).alloc o2).alloc o3):=fun o1 o2 o3=>(((MY _ w).alloc (MR _) _).alloc zad _).alloc zae _;have hB:=hB3 (.cells #[mb] 48) (.cells #[v] 242) (.cells #[.func (.func 226) #[] #[w,↑(w.heap.size+1)]] 391);have x3:Boxed (((w.alloc (.cells #[mb] 48)).alloc (.cells #[v] 242)).alloc (.cells #[.func (.func 226) #[] #[w,↑(w.heap.size+1)]] 391)) w.heap.size 48 mb:=((NA w _ _).alloc _).alloc _;have x5:Boxed (((w.alloc (.cells #[mb] 48)).alloc (.cells #[v] 242)).alloc (.cells #[.func (.func 226) #[] #[w,↑(w.heap.size+1)]] 391)) (w.heap.size+1) 242 v:=by
  have:=(NA (w.alloc (.cells #[mb] 48)) 242 v).alloc (.cells #[.func (.func 226) #[] #[w,↑(w.heap.size+1)]] 391);rw [Of] at this;exact this
 have x7:Boxed (((w.alloc (.cells #[mb] 48)).alloc (.cells #[v] 242)).alloc (.cells #[.func (.func 226) #[] #[w,↑(w.heap.size+1)]] 391)) (w.heap.size+1+1) 391 (.func (.func 226) #[] #[w,↑(w.heap.size+1)]):=by
  have:=NA ((w.alloc (.cells #[mb] 48)).alloc (.cells #[v] 242)) 391 (.func (.func 226) #[] #[w,↑(w.heap.size+1)]);rw [Of,Of] at this;exact this
 have hs1:(((w.alloc (.cells #[mb] 48)).alloc (.cells #[v] 242)).alloc (.cells #[.func (.func 226) #[] #[w,↑(w.heap.size+1)]] 391)).heap.size=w.heap.size+3:=zad;have hsto:∀ (W:World) (a:Addr),(store a (.func (.func 226) #[] #[w,↑(w.heap.size+1)])).run prog W=stored prog W a (.func (.func 226) #[] #[w,↑(w.heap.size+1)]) .plain:=fun W a=>RV _ W a _ _ rfl;have hkd:=hT.kind;have HKD:Hid _:=hkd;obtain ⟨W1,hW1⟩:∃ W1,(((w.alloc (.cells #[mb] 48)).alloc (.cells #[v] 242)).alloc (.cells #[.func (.func 226) #[] #[w,↑(w.heap.size+1)]] 391))=W1:=⟨_,rfl⟩;rw [hW1] at hB x3 x5 x7 hs1;have HT1:Hid (∀ V,Below W1 W1 V->Pg.TkS V base (.slice sa L.length sc) L):=fun V hV=>(ay (P:=fun _=>False) (hB.trans (hV.mono hB.size))).own hT (fun _ _ h=>h);have HV:Hid (∀ V W,Below W1 W1 V->Mo (fun k=>Value.ownBlock (.slice sa L.length sc)=some k) V W->Pg.MT W lo mb pb r/\Pg.fT W lo pb b cap ps fin EN LV/\(∀ x,x=v\/x∈L->Pg.MvB W x (oF x) (lF x))/\Pg.TkB W mb v w (w.heap.size+1)/\Boxed W (w.heap.size+1+1) 391 (.func (.func 226) #[] #[w,↑(w.heap.size+1)])):=fun V W hV hm=>by
  have hwV:=hB.trans (hV.mono hB.size);have hk:∀ k,Value.ownBlock (.slice sa L.length sc)=some k->lo<=k/\k<w.heap.size/\∃ c,V.heap[k]?=some (.cells c 242 (0,0)):=fun k e=>by
   obtain ⟨a,b',c,d⟩:=HKD.out k e;exact ⟨zaa,b',c,(hwV.block k b').trans d⟩
  have hbl:Below lo V W:=⟨hm.os,hm.tape,hm.output,hm.size,fun k hk'=>hm.block k (by have:=hwV.size;omega) (fun e=>by have:=(hk k e).1;omega)⟩;refine ⟨(h.below hlw hwV).moT hlw hm (fun k e=>⟨(hk k e).1,(hk k e).2.2⟩),hP.below ((hwV.mono hlo).trans hbl),fun x hx => ?_,⟨?_,?_⟩,?_⟩
  ·have hx1:=(hM x hx).1.below hwV;refine hx1.mo hm (fun e => ?_);obtain ⟨_,_,c,hc⟩:=hk _ e;obtain ⟨c',hc'⟩:=hx1.ty;rw [hc] at hc';simp at hc'
  ·exact Boxed.mo (aB x3 hV zaa) hm (fun e=>zbR)
  ·exact Boxed.mo (aB x5 hV zaa) hm (fun e=>zbR)
  ·exact Boxed.mo (aB x7 hV zaa) hm (fun e=>zbR)
 have hcon:=tO W1 sa sc L (fun x=>Pg.fC r.act (lF x) (lF v) && !pv.around.testBit (oF x)) (w.heap.size+1+1) w.heap.size (w.heap.size+1) zaa (fun j x hx=>by
   rcases (HT1.out W1 (MY _ _)).form with ⟨_,e2⟩ | ⟨g,cp,cu,e1,e2,e3,e4⟩
   ·subst e2;simp at hx
   ·simp only [Value.slice.injEq] at e1;obtain ⟨rfl,_,rfl⟩:=e1;exact ⟨g,rfl,(MQ.1 e4.blk).1,e4.cell hx⟩)
  (fun V x hV hx=>by
   obtain ⟨a1,a2,a3,a4,a5⟩:=HV.out V V hV (Mo.refl _ _);exact (Cs V lo mb pb b cap r ps fin EN LV x (oF x) (lF x) v (oF v) (lF v) _ _ _ pv a2 a1 (a3 x (.inr hx)) (a3 v (.inl rfl)) a4 hpv (hM x (.inr hx)).2 a5).mono (fun e w' y=>⟨y.1,hV.trans (y.2.mono hV.size)⟩))
 have hdel:∀ V,Below W1 W1 V->() 230 #[.slice sa L.length sc,.func (.func 226) #[] #[w,↑(w.heap.size+1)]] V fun e w'=>∃ sv',e = .returned sv'/\Pg.TkS w' base sv' (Pg.flt (fun x=>Pg.fC r.act (lF x) (lF v)) L)/\sv'.ownBlock=Value.ownBlock (.slice sa L.length sc)/\Mo (fun k=>Value.ownBlock (.slice sa L.length sc)=some k) V w':=fun V hV =>
  yL V base (.slice sa L.length sc) L _ _ _ zaa (HT1.out V hV) (fun W x hW hx=>by
   obtain ⟨a1,a2,a3,a4,a5⟩:=HV.out V W hV hW;exact pV W lo mb pb r x (oF x) (lF x) v (oF v) (lF v) _ _ hlw a1 (a3 x (.inr hx)) (a3 v (.inl rfl)) a4)
 obtain ⟨an,han⟩:∃ an,L.any (fun x=>Pg.fC r.act (lF x) (lF v) && !pv.around.testBit (oF x))=an:=⟨_,rfl⟩;have HTK:Hid (Pg.oT r.act lF oF pv.around L v=if an then L else Pg.flt (fun x=>Pg.fC r.act (lF x) (lF v)) L++[v]):=by
  unfold Hid Pg.oT;rw [han]
 rw [han] at hcon;have HFL:Hid ((Pg.flt (fun x=>Pg.fC r.act (lF x) (lF v)) L).length<=L.length):=Ob _ _;generalize Pg.flt (fun x=>Pg.fC r.act (lF x) (lF v)) L=F at *;clear han h hP hM hT hkd;cases an
 ·have k5:∀ V W,Below W1 W1 V->Mo (fun k=>Value.ownBlock (.slice sa L.length sc)=some k) V W->W.cell? ⟨w.heap.size+1,0,none⟩=some ↑v/\W.cell? ⟨w.heap.size+1+1,0,none⟩=some (.func (.func 226) #[] #[w,↑(w.heap.size+1)]):=fun V W hV hm=>⟨(HV.out V W hV hm).2.2.2.1.b5.cell,(HV.out V W hV hm).2.2.2.2.cell⟩;go_enter func193,ntmps193
  go_upto_region 5 with (go_at_call 229;(try rw [hW1]);refine hcon.mono ?_;rintro e w2 ⟨rfl,hb2⟩)
  clear hcon;have hbd:=hb2.drew;have hKB:∀ V W,Below W1 W1 V->Mo (fun k=>Value.ownBlock (.slice sa L.length sc)=some k) V W->(fun V=>V.cell? ⟨w.heap.size+1,0,none⟩=some ↑v/\V.cell? ⟨w.heap.size+1+1,0,none⟩=some (.func (.func 226) #[] #[w,↑(w.heap.size+1)])) W:=k5;have hSa:∀ (W:World) (o:Obj),(fun V=>V.cell? ⟨w.heap.size+1,0,none⟩=some ↑v/\V.cell? ⟨w.heap.size+1+1,0,none⟩=some (.func (.func 226) #[] #[w,↑(w.heap.size+1)])) W->(fun V=>V.cell? ⟨w.heap.size+1,0,none⟩=some ↑v/\V.cell? ⟨w.heap.size+1+1,0,none⟩=some (.func (.func 226) #[] #[w,↑(w.heap.size+1)])) (W.alloc o):=fun W o hW=>⟨nL ((MY _ W).alloc (MR _) o) hW.1,nL ((MY _ W).alloc (MR _) o) hW.2⟩;have hSg:∀ (W W':World) (row:Option Nat),row=Value.ownBlock (.slice sa L.length sc)->W.grownBy W' row->(fun V=>V.cell? ⟨w.heap.size+1,0,none⟩=some ↑v/\V.cell? ⟨w.heap.size+1+1,0,none⟩=some (.func (.func 226) #[] #[w,↑(w.heap.size+1)])) W->(fun V=>V.cell? ⟨w.heap.size+1,0,none⟩=some ↑v/\V.cell? ⟨w.heap.size+1+1,0,none⟩=some (.func (.func 226) #[] #[w,↑(w.heap.size+1)])) W':=fun W W' row hr hg hW=>by
   subst hr;have hne:∀ q,w.heap.size<=q->some q≠Value.ownBlock (.slice sa L.length sc):=fun q hq e=>by have:=(HKD.out q e.symm).2.1;omega
   exact ⟨(Nk (w:=W) (hg.block _ (iu hW.1) (hne (w.heap.size+1) zaa))).trans hW.1,(Nk (w:=W) (hg.block _ (iu hW.2) (hne (w.heap.size+1+1) zaa))).trans hW.2⟩
  have hfl:=HFL.out;have hsz2:=hbd.size;have hS0:(fun V=>V.cell? ⟨w.heap.size+1,0,none⟩=some ↑v/\V.cell? ⟨w.heap.size+1+1,0,none⟩=some (.func (.func 226) #[] #[w,↑(w.heap.size+1)])) w2.drew:=hKB _ _ hbd (Mo.refl _ _);have hBa:Below W1 W1 (w2.drew.alloc (.cells #[v] 242)):=hbd.alloc hsz2 _;refine No (S:=(fun V=>V.cell? ⟨w.heap.size+1,0,none⟩=some ↑v/\V.cell? ⟨w.heap.size+1+1,0,none⟩=some (.func (.func 226) #[] #[w,↑(w.heap.size+1)]))) zab hS0 (fun u0 => ?_);refine tD (some 15) 0 (.slice sa L.length sc) rfl u0 ?_;refine tD (some 16) 1 (.func (.func 226) #[] #[w,↑(w.heap.size+1)]) rfl u0 ?_;refine tD (some 18) 3 v rfl u0 ?_;refine yH [2,4] ?_;refine NJ rfl (fun K hK => ?rg1) (NJ rfl (fun K hK => ?rg2) Ou)
  case' rg1 =>
   go_simp;refine (hdel _ zbb).mono ?_;rintro e w9 ⟨sv9,rfl,hT9,hO9,hm9⟩;refine hK.out _ _ (hKB _ _ zbb hm9) (fun u0 => ?_);clear hK K;refine zH 4 rfl fun K hK => ?_;go_simp;refine hK.out _ _ (hSa _ _ u0) (fun u0 => ?_);clear hK K;refine zH 5 rfl fun K hK => ?_
   first
    | (refine step_append_lies _ zaf _ _ _ zaf base 242 i0 _ 1 8 underlying240 hi hz0 hz1 hz2 rfl zac sv9 F.length (F.flatMap Pg.lK) zaf (hT9.alloc _) ⟨w9.heap.size,0,none⟩ 1 1 [.pointer (some ⟨v,0,none⟩)] zaf zaf (World.news_of_block (cs:=#[.pointer (some ⟨v,0,none⟩)]) (t:=242) (fr:=(0,0)) (Na w9 _)) (fun u hu=>zaK) zaa zag zaa (by have:=hm9.size;simp;simp at this hsz2;omega) _ rfl ?_)
    | (refine step_append_lies _ zaf _ _ _ zaf base 242 i0 _ 1 8 underlying240 hi hz0 hz1 hz2 rfl zac sv9 F.length (F.flatMap Pg.lK) zaf hT9 ⟨w2.drew.heap.size,0,none⟩ 1 1 [.pointer (some ⟨v,0,none⟩)] zaf zaf (World.news_of_block (cs:=#[.pointer (some ⟨v,0,none⟩)]) (t:=242) (fr:=(0,0)) ((hm9.block w2.drew.heap.size zad (fun e=>zb6)).trans (Na w2.drew _))) (fun u hu=>zaK) zaa zag zaa (by have:=hm9.size;simp at this hsz2;omega) _ rfl ?_)
   intro g5 cap5 w5 hown5 hgrow hat hlt5;refine hK.out _ _ (hSg _ _ _ hO9 hgrow u0) (fun u0 => ?_);clear hK K;refine tD (some 6) 6 (.slice g5 (F.length+1) cap5) rfl u0 ?_;refine Nt zab ?_ _;clear u0;go_wp2;go_ret;rw [hO9] at hgrow;have hg5:Mo (fun k=>Value.ownBlock (.slice sa L.length sc)=some k) _ w5:=⟨hgrow.os,hgrow.tape,hgrow.output,hgrow.size,fun k hk hn=>hgrow.block k hk (fun e=>hn e.symm)⟩;have hMo:Mo (fun k=>Value.ownBlock (.slice sa L.length sc)=some k) w w5:=by
    exact zc5
   refine ⟨_,rfl,?_,hMo⟩;rw [HTK.out,M4 zac];show w5.ownsRow base 242 1 _ (F++[v]).length ((F++[v]).flatMap Pg.lK);rw [Nj,NQ];exact hown5
  case' rg2 =>
   go_simp;refine hK.out _ _ (hSa _ _ u0) (fun u0 => ?_);clear hK K;refine zH 2 rfl fun K hK => ?_;go_simp;refine (hdel _ zbb).mono ?_;rintro e w9 ⟨sv9,rfl,hT9,hO9,hm9⟩;refine hK.out _ _ (hKB _ _ zbb hm9) (fun u0 => ?_);clear hK K;refine zH 5 rfl fun K hK => ?_
   first
    | (refine step_append_lies _ zaf _ _ _ zaf base 242 i0 _ 1 8 underlying240 hi hz0 hz1 hz2 rfl zac sv9 F.length (F.flatMap Pg.lK) zaf (hT9.alloc _) ⟨w9.heap.size,0,none⟩ 1 1 [.pointer (some ⟨v,0,none⟩)] zaf zaf (World.news_of_block (cs:=#[.pointer (some ⟨v,0,none⟩)]) (t:=242) (fr:=(0,0)) (Na w9 _)) (fun u hu=>zaK) zaa zag zaa (by have:=hm9.size;simp;simp at this hsz2;omega) _ rfl ?_)
    | (refine step_append_lies _ zaf _ _ _ zaf base 242 i0 _ 1 8 underlying240 hi hz0 hz1 hz2 rfl zac sv9 F.length (F.flatMap Pg.lK) zaf hT9 ⟨w2.drew.heap.size,0,none⟩ 1 1 [.pointer (some ⟨v,0,none⟩)] zaf zaf (World.news_of_block (cs:=#[.pointer (some ⟨v,0,none⟩)]) (t:=242) (fr:=(0,0)) ((hm9.block w2.drew.heap.size zad (fun e=>zb6)).trans (Na w2.drew _))) (fun u hu=>zaK) zaa zag zaa (by have:=hm9.size;simp at this hsz2;omega) _ rfl ?_)
   intro g5 cap5 w5 hown5 hgrow hat hlt5;refine hK.out _ _ (hSg _ _ _ hO9 hgrow u0) (fun u0 => ?_);clear hK K;refine tD (some 6) 6 (.slice g5 (F.length+1) cap5) rfl u0 ?_;refine Nt zab ?_ _;clear u0;go_wp2;go_ret;rw [hO9] at hgrow;have hg5:Mo (fun k=>Value.ownBlock (.slice sa L.length sc)=some k) _ w5:=⟨hgrow.os,hgrow.tape,hgrow.output,hgrow.size,fun k hk hn=>hgrow.block k hk (fun e=>hn e.symm)⟩;have hMo:Mo (fun k=>Value.ownBlock (.slice sa L.length sc)=some k) w w5:=by
    exact zc5
   refine ⟨_,rfl,?_,hMo⟩;rw [HTK.out,M4 zac];show w5.ownsRow base 242 1 _ (F++[v]).length ((F++[v]).flatMap Pg.lK);rw [Nj,NQ];exact hown5
 ·go_enter func193,ntmps193;go_wp2_with (go_at_call 229;(try rw [hW1]);refine hcon.mono ?_;rintro e w2 ⟨rfl,hb2⟩);go_ret;exact ⟨_,rfl,by rw [HTK.out,M6 trivial];exact HT1.out _ hb2,ay (hB.trans (hb2.mono hB.size))⟩
namespace Pg
structure DE (w:World) (lo:Nat) (pb b N cap:Nat) (hv:Value) (fin mbm n:Nat) (T:ByteArray->Option (List (Option PM))) (M:ByteArray->Option Nat) (L:Nat->List (Option Nat)):Prop where
 pl:di w pb b N cap hv fin (.map (some mbm))
 tab:Tab w pb b N mbm n T M L
theorem DE.rf {b N:Nat} {hv:Value} {fin mbm n:Nat} {T:ByteArray->Option (List (Option PM))} {M:ByteArray->Option Nat} {L:Nat->List (Option Nat)} (h:DE w lo pb b N cap hv fin mbm n T M L) (hR:Rf lo w w') (hpb:pb<lo):DE w' lo pb b N cap hv fin mbm n T M L:=by
 refine ⟨(hR.bel.block pb hpb).trans h.pl,h.tab.kd (P:=(· ≠ mbm)) hR.kd (fun t ht => ?_) zav ⟨hR.bel.os,hR.bel.tape,hR.bel.output,hR.bel.size,fun k hk hn => ?_⟩ (fun h=>h rfl)⟩
 ·rcases ht with rfl | rfl | rfl | rfl | rfl <;> (unfold cJ;decide)
 ·have:k=mbm:=Oi hn;subst this;obtain ⟨es,cl,hm⟩:=h.tab.map.kind;exact (hR.oth.same k _ hm rfl).trans hm.symm
def gh (M:ByteArray->Option Nat) (L:Nat->List (Option Nat)) (ev:ByteArray) (l:List Nat):List Nat:=match M ev with
 | none=>[]
 | some g=>dE (L g) l
theorem mA {L:List (Option Nat)}:∀ (l:List Nat) (acc:List Nat),(l.foldl (eS L) acc).length<=acc.length+l.length
 | [],acc=>MR _
 | i::l,acc=>by
  have h1:=mA (L:=L) l (eS L acc i);have h2:=wb L acc i;show (l.foldl (eS L) (eS L acc i)).length<=_;rw [Oa];omega
def arA (ps:List PS) (i:Nat):Nat:=match ps[i]? with | some p=>p.around | none=>0
def fW (ps:List PS) (act:Nat) (lF oF:Nat->Nat) (WL:List Nat):List Nat:=WL.foldl (fun acc v=>oT act lF oF (arA ps (oF v)) acc v) []
theorem ru (ps:List PS) (act:Nat) (lF oF:Nat->Nat) (WL:List Nat) (v:Nat):fW ps act lF oF (WL++[v])=oT act lF oF (arA ps (oF v)) (fW ps act lF oF WL) v:=by unfold fW;rw [Ot];rfl
theorem Aq {act:Nat} {lF oF:Nat->Nat} {ar v:Nat} (h:x∈oT act lF oF ar L v):x=v\/x∈L:=by
 unfold oT at h;split at h
 ·exact .inr h
 ·rcases Nr.1 h with h | h
  ·exact .inr (OE.1 h).1
  ·exact .inl (M8.1 h)
theorem Iv (act:Nat) (lF oF:Nat->Nat) (ar v:Nat) (L:List Nat):(oT act lF oF ar L v).length<=L.length+1:=by
 unfold oT;split
 ·omega
 ·rw [Nj,OZ];have:(flt (fun x=>fC act (lF x) (lF v)) L).length<=L.length:=Ob _ _;omega
theorem fo (ps:List PS) (act:Nat) (lF oF:Nat->Nat) (WL:List Nat):∀ k,k<=WL.length->(∀ x∈fW ps act lF oF (WL.take k),x∈WL)/\(fW ps act lF oF (WL.take k)).length<=k
 | 0,_=>⟨fun x hx=>by simp [fW] at hx,by simp [fW]⟩
 | k+1,hk=>by
  obtain ⟨h1,h2⟩:=fo ps act lF oF WL k zaa;obtain ⟨v,hv⟩:∃ v,WL[k]?=some v:=⟨_,MU zaa⟩;have e:WL.take (k+1)=WL.take k++[v]:=by rw [OH,hv];rfl
  rw [e,ru];refine ⟨fun x hx => ?_,MX (Iv ..) zaa⟩
  rcases Aq hx with rfl | hx
  ·exact Nc hv
  ·exact h1 x hx
end Pg
theorem Fj (w:World) (lo:Nat) (pb b N cap:Nat) (hv:Value) (fin mbm n:Nat) (T:ByteArray->Option (List (Option Pg.PM))) (M:ByteArray->Option Nat) (L:Nat->List (Option Nat)) (ev:ByteArray) (s:Nat) (h:Pg.DE w lo pb b N cap hv fin mbm n T M L) (hev:ev.size<=1000000) (hs:s<4294967296) (hin:∀ i,i∈Pg.els s->i<N) (hg:1<w.heap.size) (hT:TabAt 1 Lib.deBruijn32tab w) :
  () 192 #[pb,ev,.int .u32 s] w fun e w'=>∃ v:Ref.Sl,e = .returned (.slice v.a v.n v.c)/\Pg.TkS w' w (.slice v.a v.n v.c) (Pg.gh M L ev (Pg.els s))/\Below w w w':=by
 unfold Pg.gh;cases hM:M ev with
 | none =>
  refine (AB w pb b cap N hv fin mbm n M ev s h.pl h.tab.map hev hM).mono ?_;rintro e w' ⟨rfl,hb⟩;exact ⟨⟨none,0,0⟩,rfl,⟨rfl,.inl ⟨rfl,rfl⟩⟩,hb⟩
 | some g =>
  obtain ⟨h1,h2,row,h3,h4,h5⟩:=h.tab.row ev g hM;refine (CG w pb b cap N hv fin mbm n M ev s g (L g) h.pl h.tab.map hev hM h1 h2 hs hin (fun i q hq => ?_) hg hT).mono ?_
  ·have:=h5 i;rw [hq] at this;cases hr:row[i]? with
   | none=>rw [hr] at this;exact this.elim
   | some z =>
    rw [hr] at this;cases z with
    | none=>exact this.elim
    | some z =>
     obtain ⟨fv,hm,_⟩:=(this:Pg.ej w pb b q z);exact ⟨_,hm⟩
  ·rintro e w' ⟨v,rfl,hr,hb⟩;exact ⟨v,rfl,hr,hb⟩
theorem Ba (w:World) (lo:Pg.Lo) (mb pb b cap:Nat) (r:Pg.RSt) (ps:List Pg.PS) (fin:Nat) (EN LV:Nat->List Pg.PA) (hv:Value) (mbm n:Nat) (T:ByteArray->Option (List (Option Pg.PM))) (M:ByteArray->Option Nat) (Lr:Nat->List (Option Nat)) (ev:ByteArray) (lF oF:Nat->Nat) (WL:List Nat) (hWL:WL=Pg.gh M Lr ev (Pg.els (Pg.inn ps r.act))) (hP:Pg.fT w lo pb b cap ps fin EN LV) (hMv:Pg.DE w lo pb b ps.length cap hv fin mbm n T M Lr) (h:Pg.MT w lo mb pb r) (hev:ev.size<=1000000) (hin:∀ i,i∈Pg.els r.act->i<ps.length) (hin2:∀ i,i∈Pg.els (Pg.inn ps r.act)->i<ps.length) (hMB:∀ x∈WL,Pg.MvB w x (oF x) (lF x)/\oF x<ps.length) :
  () 147 #[mb,ev] w fun e w'=>∃ sv,e = .returned sv/\Pg.TkS w' w sv (Pg.fW ps r.act lF oF WL)/\Below w w w':=by
 have hlw:=hP.lw;have hlo:=h.lo';have hps:=hP.bC.len;have hinl:Pg.inn ps r.act<4294967296:=Pg.Gv ps h.act;have hwl:WL.length<=32:=by
  rw [hWL];exact zdk
 have hRo:∀ V,Below w w V->Pg.Rf lo w V:=fun V hV=>Pg.RfE.of hV hlo;have hin0:∀ V,Below w w V->() 101 #[pb,.int .u32 r.act] V fun e w'=>e = .returned (.int .u32 (Pg.inn ps r.act))/\Below w w w':=fun V hV=>(mK V pb b cap ps r.act h.act hin (hP.below (hV.mono hlo)).bC (by have:=hV.size;have:=hP.pb';omega) (by have:=hV.size;have:=hP.b';omega) zbF (Pg.bU hlw (hV.mono hlo) h.tab5)).mono (fun e w' x=>⟨x.1,hV.trans (x.2.mono hV.size)⟩);have hwa:∀ V,Below w w V->() 192 #[pb,ev,.int .u32 (Pg.inn ps r.act)] V fun e w'=>∃ v:Ref.Sl,e = .returned (.slice v.a v.n v.c)/\Pg.TkS w' w (.slice v.a v.n v.c) WL/\Below w w w':=fun V hV=>(Fj V lo pb b ps.length cap hv fin mbm n T M Lr ev _ (hMv.rf (hRo V hV) hP.pb') hev hinl hin2 zbF (Pg.bU hlw (hV.mono hlo) h.tab5)).mono (fun e w' x=>by
  obtain ⟨v,x1,x2,x3⟩:=x;exact ⟨v,x1,by rw [hWL];exact aD x2 hV.size,hV.trans (x3.mono hV.size)⟩)
 have hkB:∀ V:World,Below w w V->V.cell? mb=some ↑pb/\V.cell? ⟨mb,1,none⟩=some (.int .u32 r.act):=fun V hV=>⟨(h.below hlw hV).c0.1,(h.below hlw hV).c0.2.1⟩;have hBd:=(MY w w).drew;obtain ⟨k1,k2⟩:=hkB _ hBd;obtain ⟨inn,hinn⟩:∃ i,Pg.inn ps r.act=i:=⟨_,rfl⟩;rw [hinn] at hin0 hwa;have HTK:Hid (∀ (w3 V:World) (sv:Value) (k x:Nat),Below w w w3->Below w3.heap.size w3 V->WL[k]?=some x->Pg.TkS V w3.heap.size sv (Pg.fW ps r.act lF oF (WL.take k))->() 193 #[mb,sv,.pointer (some ⟨x,0,none⟩)] V fun e w'=>∃ sv',e = .returned sv'/\Pg.TkS w' w3.heap.size sv' (Pg.fW ps r.act lF oF (WL.take (k+1)))/\Below w3.heap.size w3 w'):=fun w3 V sv k x h3 hV hx hT=>by
  have hwV:=h3.trans (hV.mono h3.size);obtain ⟨c1,c2⟩:=Pg.fo ps r.act lF oF WL k (by have:=(MZ.1 hx).1;omega);have hxl:x∈WL:=Nc hx;obtain ⟨pv,hpv⟩:∃ pv,ps[oF x]?=some pv:=⟨_,MU (hMB x hxl).2⟩;have hkl:=(MZ.1 hx).1;refine (Iw V lo mb pb b cap w3 r ps fin EN LV sv _ x pv lF oF (hP.below (hwV.mono hlo)) (h.below hlw hwV) hT (by have:=h3.size;omega) hV.size zaa (fun y hy => ?_) hpv).mono ?_
  ·have hyl:y∈WL:=by
    rcases hy with rfl | hy
    ·exact hxl
    ·exact c1 y hy
   exact ⟨(hMB y hyl).1.below hwV,by have:=(hMB y hyl).2;omega⟩
  ·rintro e w' ⟨sv',rfl,a,m⟩;refine ⟨sv',rfl,?_,m.below hV hV.size (fun i hi e=>by have:=(hT.kind i e).1;omega)⟩;have e1:WL.take (k+1)=WL.take k++[x]:=by rw [OH,hx];rfl
   have e2:Pg.arA ps (oF x)=pv.around:=by unfold Pg.arA;rw [hpv]
   rw [e1,Pg.ru,e2];exact a
 clear h hP hMv hRo hMB hWL hin hin2 hinn;go_enter func147,ntmps147
 go_upto_region 2 with fail
 refine No (S:=(fun V=>V.cell? mb=some ↑pb/\V.cell? ⟨mb,1,none⟩=some (.int .u32 r.act))) zab ⟨k1,k2⟩ (fun u0 => ?_);refine tD (some 8) 0 mb rfl u0 ?_;refine tD (some 9) 1 mb rfl u0 ?_;refine tD (some 10) 2 mb rfl u0 ?_;refine tD (some 11) 3 pb rfl u0 ?_;refine tD (some 12) 4 (.string ev) rfl u0 ?_;refine tD (some 13) 5 mb rfl u0 ?_;refine tD (some 14) 6 mb rfl u0 ?_;refine tD (some 15) 7 mb rfl u0 ?_;refine tD (some 16) 8 pb rfl u0 ?_;refine tD (some 17) 9 mb rfl u0 ?_;refine tD (some 18) 10 mb rfl u0 ?_;refine tD (some 19) 11 (.pointer (some ⟨mb,1,none⟩)) rfl u0 ?_;refine tD (some 20) 12 (.int .u32 r.act) rfl u0 ?_;refine tD (some 24) 16 (.int .i64 0) rfl u0 ?_;refine zH 13 rfl fun K hK => ?_;go_simp;refine (hin0 _ zal).mono ?_;rintro e wA ⟨rfl,hA⟩;refine hK.out _ _ (hkB wA hA) (fun u0 => ?_);clear hK K;refine zH 14 rfl fun K hK => ?_;go_simp;refine (hwa _ zal).mono ?_;rintro e w3 ⟨v3,rfl,hT3,hB3⟩;obtain ⟨va,vn,vc⟩:=v3;dsimp only at hT3;obtain ⟨a3,c3,hv3⟩:=hT3.n;simp only [Value.slice.injEq] at hv3;obtain ⟨rfl,rfl,rfl⟩:=hv3;refine hK.out _ _ (hkB w3 hB3) (fun u0 => ?_);clear hK K;refine tD (some 23) 15 (.int .i64 WL.length) rfl u0 ?_;refine Nt zab ?_ _;clear u0;go_wp2
 (try simp only [Act.put,List.setIfInBounds_toArray,List.set_cons_succ,List.set_cons_zero])
 have HC:Hid (∀ (k x:Nat) (V:World),Below w3 w3 V->WL[k]?=some x->∃ g,va=some ⟨g,0,none⟩/\V.cell? ⟨g,k,none⟩=some (.pointer (some ⟨x,0,none⟩))):=fun k x V hV hx=>by
  rcases hT3.form with ⟨_,e2⟩ | ⟨g,cp,cu,e1,e2,e3,e4⟩
  ·subst e2;simp at hx
  ·simp only [Value.slice.injEq] at e1;obtain ⟨rfl,_,rfl⟩:=e1;exact ⟨g,rfl,(hV.cell (p:=⟨g,k,none⟩) (MQ.1 e4.blk).1).trans (e4.cell hx)⟩
 go_loopw [24,5] (fun i t wr=>∃ (k:Nat),i = .int .i64 k/\k<=WL.length/\Hid (Pg.TkS wr w3 t (Pg.fW ps r.act lF oF (WL.take k))/\Below w3 w3 wr)) (fun i _ _=>WL.length-(intOf i).toNat)
 case atStart=>exact ⟨0,rfl,zaa,⟨rfl,.inl ⟨rfl,rfl⟩⟩,MY _ _⟩
 case round =>
  obtain ⟨k,rfl,hkl,HI⟩:=hrel;by_cases hk:k<WL.length
  ·obtain ⟨x,hx⟩:∃ x,WL[k]?=some x:=⟨_,MU hk⟩;obtain ⟨g,ha,hcx⟩:=HC.out k x wr HI.out.2 hx;subst ha;have hcall:=HTK.out w3 wr u5 k x hB3 HI.out.2 hx HI.out.1;have hki:((k:Int)<(WL.length:Int)):=zaa;clear hT3 hx;go_wp2_with (go_at_call 193;refine hcall.mono ?_;intro e w9 h9;obtain ⟨sv9,rfl,t9,b9⟩:=h9;have T9:Hid _:=t9;clear t9)
   go_roundw
   case rel=>exact ⟨k+1,zad,zaa,T9.out,b9⟩
   case measure=>simp only [intOf];omega
  ·obtain rfl:k=WL.length:=zaa;have HF:=HI.out;rw [N6] at HF;have HF2:Hid _:=HF;clear HF;go_wp2;go_ret;exact ⟨_,rfl,aD HF2.out.1 hB3.size,hB3.trans (HF2.out.2.mono hB3.size)⟩
