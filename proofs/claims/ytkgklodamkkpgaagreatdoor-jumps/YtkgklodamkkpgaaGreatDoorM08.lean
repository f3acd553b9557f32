import Derived.Test.YtkgklodamkkpgaaGreatDoorM07
set_option maxRecDepth 100000
set_option maxHeartbeats 8000000
namespace Go.Proofs.YtkgklodamkkpgaaGreatDoor
variable {zp:Prop}
theorem zcY (h:zp:=by
 refine tD (some 49) 5 mb rfl u0 ?_;refine tD (some 50) 6 mb rfl u0 ?_;refine tD (some 51) 7 (.pointer (some ⟨mb,2,none⟩)) rfl u0 ?_;refine zH 8 rfl fun K hK => ?_;go_simp;refine (hcl _ zal).mono ?_;rintro e wA ⟨rfl,hA⟩;refine hK.out _ _ (hkB wA hA) (fun u0 => ?_);clear hK K;refine tD (some 53) 9 (.int .u32 e3) rfl u0 ?_;refine tD (some 6) 10 (.int .u32 e3) rfl u0 ?_;refine Nt zab ?_ _;clear u0;go_wp2
 go_roundw
 case rel=>exact ⟨k+1,zad,by rw [HS2.out],zaa,HFIN.out w9 wA M9.out C9.out hA⟩
 case measure=>simp only [intOf];omega):zp:=h
theorem zdj (h:zp:=by
 cases hk
 rcases hown5.2 with ⟨a,_⟩ | ⟨g',cp',cu',a,_,c',_⟩
 ·cases a
 ·simp only [Value.slice.injEq,Option.some.injEq,Addr.mk.injEq] at a;obtain ⟨⟨rfl,_⟩,_⟩:=a;have hq:=hbx5;rw [<- e] at hq;rw [show w5.heap[g5]?=_ from hq] at c';simp at c'):zp:=h
theorem zdo (h:zp:=by
 clear HANS HPOP y1 y2;go_wp2_with (go_at_call 96;refine hans.mono ?_;intro e w9 h9;obtain ⟨rfl,h9⟩:=h9;have H9:Hid _:=h9;clear h9)
 go_roundw
 case rel=>exact ⟨k+1,zad,zaa,H9⟩
 case measure=>simp only [intOf];omega):zp:=h
theorem zd7 (h:zp:=by
 rw [hx] at c419;unfold Pg.eM at c419;rw [M4 zac] at c419;go_wp2;go_end0;exact ⟨rfl,E3.out,E4.out⟩):zp:=h
theorem zfc (h:zp:=by
 go_wp2;go_end0;exact ⟨rfl,E3.out,E4.out⟩):zp:=h
theorem zap (h:zp:=by intro h;injection h with h1;omega):zp:=h
theorem zbL (h:zp:=by rw [M0 V _ _ _ _ _ x1];rfl):zp:=h
theorem zcu (h:zp:=by show w.heap.size+1≠w.heap.size+1+1+1;omega):zp:=h
open Tryz
variable {N s pb b m mb fin cap mbm base:Nat} {w w' W:World} {lo:Pg.Lo} {ps:List Pg.PS} {x:Pg.PM} {A:List Pg.PA} {r:Pg.RSt} {D:Nat->Bool} {H:List Pg.HV} {EN LV acF:Nat->List Pg.PA} {pmF:Nat->Pg.PM} {C:List Nat} {hvs:Ref.Sl} {T:ByteArray->Option (List (Option Pg.PM))} {M:ByteArray->Option Nat} {Lr:Nat->List (Option Nat)} {step:Pg.RSt->ByteArray->Pg.RSt} {qs L:List ByteArray} {sv:Value} {row:Option Nat}
section
open Go.RowKit Go.Proofs Go.Shelf
namespace Pg
def DB (ps:List PS):En->Prop
 | .nil=>True
 | .all a=>a<2 ^ ps.length
 | .hist p t=>p<2 ^ ps.length/\∃ pt ow po,ps[t]?=some pt/\pt.owner=((ow:Nat):Int)/\ps[ow]?=some po/\(∀ k,k<2 ^ ps.length->dO ps ow k<2 ^ ps.length)/\∀ s,s<2 ^ ps.length->complete ps s<2 ^ ps.length
theorem uP {ps:List PS} {e:En} (h:DB ps e) {kept:Nat->Nat} (hk:∀ i,kept i<2 ^ ps.length):enters ps kept e<2 ^ ps.length:=by
 cases e with
 | nil=>exact OF _
 | all a=>exact h
 | hist p t =>
  obtain ⟨h1,pt,ow,po,h2,h3,h4,h5,h6⟩:=h;have ho:ue ps t=ow:=by unfold ue;rw [h2];dsimp only;rw [h3];simp
  show complete ps (p|||dO ps (ue ps t) (kept t))<_;rw [ho];exact h6 _ (NV h1 (h5 _ (hk t)))
structure ROK (ps:List PS) (r:RSt):Prop where
 act:r.act<2 ^ ps.length
 kept:∀ i,r.kept i<2 ^ ps.length
theorem qu (hN:N<=24) (h:s<2 ^ N):s<4294967296:=Nq h (MX (OM zac hN) zac)
structure MvA (w:World) (lo:Nat) (pb b:Nat) (ps:List PS) (m:Nat) (x:PM) (A:List PA):Prop where
 at':ej w pb b m x
 own:x.own<ps.length
 lv:x.lv<2 ^ ps.length
 aw:fA w lo x.aw A
 en:DB ps x.en
theorem MvA.rf (h:MvA w lo pb b ps m x A) (hR:Rf lo w w'):MvA w' lo pb b ps m x A :=
 ⟨h.at'.kd hR.kd (fun t ht=>by rcases ht with rfl | rfl | rfl | rfl | rfl <;> (unfold cJ;decide)),h.own,h.lv,h.aw.below hR.bel,h.en⟩
theorem MvA.mvb {lo:Nat} (h:MvA w lo pb b ps m x A) (hN:ps.length<=24):MvB w m x.own x.lv:=by
 obtain ⟨fv,hm,_⟩:=h.at';exact ⟨by rw [M0 w _ _ _ _ _ hm];rfl,by rw [M0 w _ _ _ _ _ hm];rfl,qu hN h.lv,_,hm⟩
theorem MT.kept (h:MT W lo mb pb r) {t:Nat} (ht:t<24):W.cell? ⟨mb,2+t,none⟩=some (.int .u32 (r.kept t)):=by
 obtain ⟨qv,wh,m,b⟩:=h.ex;rw [m.cell (2+t) zaa];unfold eR;rw [M4 zaa,M4 zaa,M6 zaa,show 2+t-2=t by omega];rfl
theorem gQ (h:s<2 ^ N):∀ i,i∈els s->i<N:=fun _ hi=>wS h hi
end Pg
theorem yS (w:World) (lo:Pg.Lo) (mb pb b cap:Nat) (r:Pg.RSt) (ps:List Pg.PS) (fin:Nat) (EN LV:Nat->List Pg.PA) (p t c3 c7 c6 c5:Nat) (hP:Pg.fT w lo pb b cap ps fin EN LV) (h:Pg.MT w lo mb pb r) (hr:Pg.ROK ps r) (hN:ps.length<=24) (hE:Pg.DB ps (.hist p t)) (h3:Boxed w c3 73 pb) (h7:Boxed w c7 75 (.int .u32 p)) (h6:Boxed w c6 231 (.pointer (some ⟨b,t*10,none⟩))) (h5:Boxed w c5 3 (.int .i64 t)) :
  () 153 #[.pointer (some ⟨mb,2,none⟩),c3,c7,c6,c5] w fun e w'=>e = .returned (.int .u32 ((Pg.enters ps r.kept (.hist p t):Nat):Int))/\Below w w w':=by
 obtain ⟨e1,pt,ow,po,e2,e3,e4,e5,e6⟩:=hE;have ho:Pg.ue ps t=ow:=by unfold Pg.ue;rw [e2];dsimp only;rw [e3];simp
 have htl:t<ps.length:=(MZ.1 e2).1;have hlo:=h.lo';have hk:=hr.kept t;have:=xj w pb b cap ps c3 c7 c6 c5 p t ow mb 2 (r.kept t) pt po e2 e4 e3 (Pg.qu hN e1) (Pg.qu hN hk) (Pg.gQ hk) (Pg.gQ (NV e1 (e5 _ hk))) (fun i q hq j hj=>(hP.pts i q hq j hj).2) hP.bC (by have:=hP.pb';omega) (by have:=hP.b';omega) (by have:=hP.lw.g5;omega) h.tab5 h3 h7 h6 h5 h.lt (h.kept zaa);show Calls _ _ _ _ fun e w'=>e = .returned (.int .u32 ((Pg.complete ps (p|||Pg.dO ps (Pg.ue ps t) (r.kept t)):Nat):Int))/\_;rw [ho];exact this
namespace Pg
def fF (act:Nat) (pmF:Nat->PM) (C:List Nat):Nat:=C.foldl (fun a m=>a|||((pmF m).lv&&&act)) 0
theorem BJ (act:Nat) (pmF:Nat->PM) (C:List Nat) (m:Nat):fF act pmF (C++[m])=fF act pmF C|||((pmF m).lv&&&act):=by unfold fF;rw [Ot];rfl
theorem nY {N act:Nat} (pmF:Nat->PM) (h:act<2 ^ N):∀ (C:List Nat) (a:Nat),a<2 ^ N->C.foldl (fun a m=>a|||((pmF m).lv&&&act)) a<2 ^ N
 | [],_,ha=>ha
 | _::C,_,ha=>nY pmF h C _ (NV ha (NT Qf h))
def o0 (ps:List PS) (pmF:Nat->PM) (acF:Nat->List PA) (z:RSt×Nat) (m:Nat):RSt×Nat:=(doL z.1 (acF m),z.2|||enters ps (doL z.1 (acF m)).kept (pmF m).en)
def gj (ps:List PS) (pmF:Nat->PM) (acF:Nat->List PA) (z:RSt×Nat) (C:List Nat):RSt×Nat:=C.foldl (o0 ps pmF acF) z
theorem DJ (ps:List PS) (pmF:Nat->PM) (acF:Nat->List PA) (z:RSt×Nat) (C:List Nat) (m:Nat):gj ps pmF acF z (C++[m])=o0 ps pmF acF (gj ps pmF acF z C) m:=by unfold gj;rw [Ot];rfl
theorem DF (r:RSt) (a:PA):(gO r a).kept=r.kept:=by
 exact zeZ
theorem yO:∀ (L:List PA) (r:RSt),(doL r L).kept=r.kept
 | [],_=>rfl
 | x::L,r=>(yO L (gO r x)).trans (DF r x)
theorem rF (h:ROK ps r) (L:List PA):ROK ps (doL r L):=⟨by rw [wO];exact h.act,by rw [yO];exact h.kept⟩
def kP (ps:List PS) (fin:Nat) (EN LV:Nat->List PA) (H:List HV) (D:Nat->Bool) (pmF:Nat->PM) (acF:Nat->List PA) (r:RSt) (C:List Nat):RSt :=
 let left:=fF r.act pmF C
 let z:=gj ps pmF acF (eF LV (eQ ps left D H r H.length) (els left).reverse,0) C
 cM ps fin EN z.1 (els z.2)
theorem l8 {ps:List PS} (LV:Nat->List PA):∀ (l:List Nat) (r:RSt),ROK ps r->ROK ps (eF LV r l)
 | [],_,h=>h
 | i::l,r,h=>l8 LV l (tV LV r i) (by
  have h1:=rF h (LV i);exact ⟨NT OQ h1.act,h1.kept⟩)
theorem JF {left:Nat} (hi:∀ a,a<2 ^ ps.length->inn ps a<2 ^ ps.length) (h:ROK ps r) (k:Nat):ROK ps (mD ps left D H r k):=by
 unfold mD;split
 ·exact h
 ·split
  ·exact h
  ·split
   ·refine ⟨h.act,fun i => ?_⟩;rename_i y _ _ po _ _;by_cases e:i=y.idx
    ·subst e;show upd r.kept _ _ _<_;rw [aC];unfold mL;split
     ·exact NT OQ (hi _ h.act)
     ·exact NT OQ h.act
    ·show upd r.kept _ _ _<_;rw [aG _ _ e];exact h.kept i
   ·exact h
theorem nW {ps:List PS} {left:Nat} {D:Nat->Bool} {H:List HV} {r:RSt} (hi:∀ a,a<2 ^ ps.length->inn ps a<2 ^ ps.length) (h:ROK ps r):∀ n,ROK ps (eQ ps left D H r n)
 | 0=>h
 | n+1=>by rw [ni];exact JF hi (nW hi h n) n
theorem Jo (h:ROK ps r) (i:Nat):ROK ps (ke ps fin r i):=by
 obtain ⟨a,_,_,b,_⟩:=pr ps fin r i;exact ⟨by rw [a];exact h.act,by rw [b];exact h.kept⟩
theorem Ji (h:ROK ps r) {i:Nat} (hi:i<ps.length):ROK ps (jF ps fin EN r i):=by
 have h1:ROK ps { r with act:=r.act|||2 ^ i }:=⟨NV h.act (P8 zac hi),h.kept⟩;have h2:=rF h1 (EN i);unfold jF;dsimp only;split
 ·split
  ·exact Jo h2 i
  ·exact h2
 ·exact h2
theorem lX {ps:List PS} {fin:Nat} {EN:Nat->List PA}:∀ (l:List Nat) (r:RSt),ROK ps r->(∀ i∈l,i<ps.length)->ROK ps (cM ps fin EN r l)
 | [],_,h,_=>h
 | i::l,r,h,hl=>lX l (jF ps fin EN r i) (Ji h (hl i (NK ..))) (fun j hj=>hl j (NL _ hj))
theorem qC {ps:List PS} {pmF:Nat->PM} {acF:Nat->List PA}:∀ (C:List Nat) (z:RSt×Nat),ROK ps z.1->z.2<2 ^ ps.length->(∀ m∈C,DB ps (pmF m).en)->ROK ps (gj ps pmF acF z C).1/\(gj ps pmF acF z C).2<2 ^ ps.length
 | [],_,h,h2,_=>⟨h,h2⟩
 | m::C,z,h,h2,hC=>qC C (o0 ps pmF acF z m) (rF h _) (NV h2 (uP (hC m (NK ..)) (rF h _).kept)) (fun x hx=>hC x (NL _ hx))
theorem CQ (hi:∀ a,a<2 ^ ps.length->inn ps a<2 ^ ps.length) (h:ROK ps r) (hC:∀ m∈C,DB ps (pmF m).en):ROK ps (kP ps fin EN LV H D pmF acF r C):=by
 have h1:=qC (pmF:=pmF) (acF:=acF) C (eF LV (eQ ps (fF r.act pmF C) D H r H.length) (els (fF r.act pmF C)).reverse,0) (l8 LV _ _ (nW hi h _)) (OF _) hC;exact lX _ _ h1.1 (gQ h1.2)
structure jh (w:World) (lo:Nat) (pb b cap:Nat) (ps:List PS) (fin:Nat) (EN LV:Nat->List PA) (hvs:Ref.Sl) (H:List HV) (D:Nat->Bool) (mbm n:Nat) (T:ByteArray->Option (List (Option PM))) (M:ByteArray->Option Nat) (Lr:Nat->List (Option Nat)) (pmF:Nat->PM) (acF:Nat->List PA):Prop where
 bC:fT w lo pb b cap ps fin EN LV
 hist:yh w pb ps hvs H D
 mov:DE w lo pb b ps.length cap hvs.v fin mbm n T M Lr
 mva:∀ (ev:ByteArray) (g i m:Nat),M ev=some g->(Lr g)[i]?=some (some m)->MvA w lo pb b ps m (pmF m) (acF m)
 N:ps.length<=24
 inn:∀ a,a<2 ^ ps.length->inn ps a<2 ^ ps.length
theorem jh.rf {n:Nat} (h:jh w lo pb b cap ps fin EN LV hvs H D mbm n T M Lr pmF acF) (hR:Rf lo w w'):jh w' lo pb b cap ps fin EN LV hvs H D mbm n T M Lr pmF acF :=
 ⟨h.bC.below hR.bel,h.hist.rf hR h.bC.pb',h.mov.rf hR h.bC.pb',fun ev g i m a b=>(h.mva ev g i m a b).rf hR,h.N,h.inn⟩
theorem jh.want {lo:Nat} {n:Nat} (h:jh w lo pb b cap ps fin EN LV hvs H D mbm n T M Lr pmF acF) (ev:ByteArray) (l:List Nat):∀ m∈gh M Lr ev l,MvA w lo pb b ps m (pmF m) (acF m):=fun m hm=>by
 unfold gh at hm;split at hm
 ·cases hm
 ·rename_i g hg;obtain ⟨i,hi⟩:=wa hm;exact h.mva ev g i m hg hi
def aS (ps:List PS) (fin:Nat) (EN LV:Nat->List PA) (H:List HV) (D:Nat->Bool) (M:ByteArray->Option Nat) (Lr:Nat->List (Option Nat)) (pmF:Nat->PM) (acF:Nat->List PA) (r:RSt) (ev:ByteArray):RSt :=
 kP ps fin EN LV H D pmF acF r (fW ps r.act (fun m=>(pmF m).lv) (fun m=>(pmF m).own) (gh M Lr ev (els (inn ps r.act))))
end Pg
theorem AR (w:World) (lo:Pg.Lo) (mb pb b cap:Nat) (r:Pg.RSt) (ps:List Pg.PS) (fin:Nat) (EN LV:Nat->List Pg.PA) (hvs:Ref.Sl) (H:List Pg.HV) (D:Nat->Bool) (mbm n:Nat) (T:ByteArray->Option (List (Option Pg.PM))) (M:ByteArray->Option Nat) (Lr:Nat->List (Option Nat)) (pmF:Nat->Pg.PM) (acF:Nat->List Pg.PA) (ev:ByteArray) (hP:Pg.jh w lo pb b cap ps fin EN LV hvs H D mbm n T M Lr pmF acF) (h:Pg.MT w lo mb pb r) (hr:Pg.ROK ps r) (hev:ev.size<=1000000) (hql:r.q.length<=4390000000000) :
  () 96 #[mb,ev] w fun e w'=>e = .returned (.tuple #[])/\Pg.MT w' lo mb pb (Pg.aS ps fin EN LV H D M Lr pmF acF r ev)/\Pg.Rf lo w w':=by
 have hlw:=hP.bC.lw;have hlo:=h.lo';have hN:=hP.N;have hwm:=hP.want ev (Pg.els (Pg.inn ps r.act));have hch:=Ba w lo mb pb b cap r ps fin EN LV hvs.v mbm n T M Lr ev (fun m=>(pmF m).lv) (fun m=>(pmF m).own) _ rfl hP.bC hP.mov h hev (Pg.gQ hr.act) (Pg.gQ (hP.inn _ hr.act)) (fun x hx=>⟨(hwm x hx).mvb hN,(hwm x hx).own⟩);obtain ⟨c1,c2⟩:=Pg.fo ps r.act (fun m=>(pmF m).lv) (fun m=>(pmF m).own) (Pg.gh M Lr ev (Pg.els (Pg.inn ps r.act))) _ (MR _);rw [N6] at c1 c2;have hwl:(Pg.gh M Lr ev (Pg.els (Pg.inn ps r.act))).length<=32:=by
  exact zdk
 have HAN:Hid (Pg.aS ps fin EN LV H D M Lr pmF acF r ev=Pg.kP ps fin EN LV H D pmF acF r (Pg.fW ps r.act (fun m=>(pmF m).lv) (fun m=>(pmF m).own) (Pg.gh M Lr ev (Pg.els (Pg.inn ps r.act))))):=rfl;generalize Pg.fW ps r.act (fun m=>(pmF m).lv) (fun m=>(pmF m).own) (Pg.gh M Lr ev (Pg.els (Pg.inn ps r.act)))=C at *;have hCm:∀ m∈C,Pg.MvA w lo pb b ps m (pmF m) (acF m):=fun m hm=>hwm m (c1 m hm);have hCl:C.length<=32:=zaa;clear hwm c1 c2 hwl;have HV:Hid (∀ V,Pg.Rf lo w V->Pg.jh V lo pb b cap ps fin EN LV hvs H D mbm n T M Lr pmF acF/\∀ m∈C,Pg.MvA V lo pb b ps m (pmF m) (acF m)):=fun V hV=>⟨hP.rf hV,fun m hm=>(hCm m hm).rf hV⟩;have H0:Hid _:=h;have HR0:Hid _:=hr;have hinn:=hP.inn;have hhl:=hP.hist.len;have HIN:Hid _:=hinn;clear h hP hCm hr hinn;go_enter func96,ntmps96;go_wp2_with (go_at_call 147;refine hch.mono ?_;intro e w1 h1;obtain ⟨sv,rfl,hT1,hb1⟩:=h1;obtain ⟨sa,sc,rfl⟩:=hT1.n;have HT1:Hid _:=hT1;clear hT1);have HC:Hid (∀ (k x:Nat) (V:World),Pg.Rf lo w1 V->C[k]?=some x->∃ g,sa=some ⟨g,0,none⟩/\V.cell? ⟨g,k,none⟩=some (.pointer (some ⟨x,0,none⟩))):=fun k x V hV hx=>by
  have hTV:Pg.TkS V w (.slice sa C.length sc) C:=Kd.row hV.kd HT1.out zaN
  rcases hTV.form with ⟨_,e2⟩ | ⟨g,cp,cu,e1,e2,e3,e4⟩
  ·subst e2;simp at hx
  ·simp only [Value.slice.injEq] at e1;obtain ⟨rfl,_,rfl⟩:=e1;exact ⟨g,rfl,e4.cell hx⟩
 have hlo1:lo<=w1.heap.size:=MX hlo hb1.size;have HRF1:Hid (Pg.Rf lo w w1):=Pg.RfE.of hb1 hlo;have HM1:Hid (Pg.MT w1 lo mb pb r):=H0.out.below hlw hb1;clear hch
 go_loopw [16,5] (fun i t wr=>∃ (k:Nat),i = .int .i64 k/\t = .int .u32 ((Pg.fF r.act pmF (C.take k):Nat):Int)/\k<=C.length/\Hid (Below w1 w1 wr)) (fun i _ _=>C.length-(intOf i).toNat)
 case atStart=>exact ⟨0,rfl,rfl,zaa,MY _ _⟩
 case round =>
  obtain ⟨k,rfl,rfl,hkl,HB⟩:=hrel;by_cases hk:k<C.length
  ·obtain ⟨x,hx⟩:∃ x,C[k]?=some x:=⟨_,MU hk⟩;have hRr:Pg.Rf lo w1 wr:=Pg.RfE.of HB.out hlo1;obtain ⟨g,ha,hcx⟩:=HC.out k x wr hRr hx;subst ha;have hmx:=(HV.out wr (HRF1.out.trans hRr)).2 x (Nc hx);have hle:=lx wr lo mb pb r x (pmF x).own (pmF x).lv (HM1.out.below hlw HB.out) (hmx.mvb hN);have hsn:Pg.fF r.act pmF (C.take (k+1))=Pg.fF r.act pmF (C.take k)|||((pmF x).lv&&&r.act):=by rw [<- Pg.BJ,OH,hx];rfl
   have l1:Pg.fF r.act pmF (C.take k)<4294967296:=Pg.qu hN (Pg.nY pmF HR0.out.act _ 0 (OF _));have l2:(pmF x).lv&&&r.act<4294967296:=NT Qf (Pg.qu hN HR0.out.act);have hor:=Pu _ _ l1 l2;rw [<- hsn] at hor;have hki:((k:Int)<(C.length:Int)):=zaa;clear hmx hx hsn;generalize Pg.fF r.act pmF (C.take k)=a1 at *;obtain ⟨a2,ha2⟩:∃ a2,Pg.fF r.act pmF (C.take (k+1))=a2:=⟨_,rfl⟩;rw [ha2] at hor;have HA2:Hid _:=ha2;clear ha2;generalize (pmF x).lv&&&r.act=a3 at *;go_wp2_with (go_at_call 148;refine hle.mono ?_;rintro e w9 ⟨rfl,hb9⟩)
   go_roundw
   case rel=>exact ⟨k+1,zad,by rw [HA2.out],zaa,HB.out.trans (hb9.mono HB.out.size)⟩
   case measure=>simp only [intOf];omega
  ·obtain rfl:k=C.length:=zaa;rw [N6];have hLl:Pg.fF r.act pmF C<2 ^ ps.length:=Pg.nY pmF HR0.out.act _ 0 (OF _);have HAN2:=HAN.out;unfold Pg.kP at HAN2;dsimp only at HAN2;obtain ⟨left,hleft⟩:∃ left,Pg.fF r.act pmF C=left:=⟨_,rfl⟩;rw [hleft] at hLl HAN2 ⊢;have HANS:Hid _:=HAN2;clear hleft HAN2 HAN;have hRr:Pg.Rf lo w1 wr:=Pg.RfE.of HB.out hlo1;obtain ⟨hPr,_⟩:=HV.out wr (HRF1.out.trans hRr);have hke:=GB wr lo mb pb b cap r ps fin left EN LV hvs H D hPr.bC hPr.hist (HM1.out.below hlw HB.out) (Pg.qu hN hLl) (Pg.gQ HR0.out.act);obtain ⟨r2,hr2⟩:∃ r2,Pg.eQ ps left D H r H.length=r2:=⟨_,rfl⟩;have hr2k:Pg.ROK ps r2:=hr2 ▸ Pg.nW HIN.out HR0.out _;have hr2q:r2.q=r.q:=hr2 ▸ (Pg.iO ps left D H r H.length).2.1;rw [hr2] at hke;have HANS2:=HANS.out;rw [hr2] at HANS2;obtain ⟨r3,hr3⟩:∃ r3,Pg.eF LV r2 (Pg.els left).reverse=r3:=⟨_,rfl⟩;rw [hr3] at HANS2;have hr3k:Pg.ROK ps r3:=hr3 ▸ Pg.l8 LV _ _ hr2k;have hr3q:r3.q.length<=4390100000000:=by
    have h1:=Pg.nX hPr.bC (Pg.els left).reverse r2 (fun i hi=>Pg.gQ hLl i (RS.1 hi));have h2:(Pg.els left).length<=32:=by
     have:=Ob left.testBit (List.range 32);exact zfL
    rw [hr3,hr2q,Rp] at h1;omega
   have HANS3:Hid _:=HANS2;have HLV:Hid (∀ w2,Pg.MT w2 lo mb pb r2->Pg.Rf lo wr w2->() 150 #[mb,.int .u32 left] w2 fun e w'=>e = .returned (.tuple #[])/\Pg.MT w' lo mb pb r3/\Pg.Rf lo w1 w'):=fun w2 hM2 hR2=>by
    refine (Et w2 lo mb pb b cap r2 ps fin left EN LV (hPr.rf hR2).bC hM2 (Pg.qu hN hLl) (Pg.gQ hLl) (by rw [hr2q];omega)).mono ?_;rintro e w' ⟨rfl,a,c⟩;rw [hr3] at a;exact ⟨rfl,a,hRr.trans (hR2.trans c)⟩
   clear HANS2 hr2 hr3 HANS HB hPr;go_wp2_with (first
    | (go_at_call 149;refine hke.mono ?_;intro e w2 h2;obtain ⟨rfl,m2,c2⟩:=h2;have hlv:=HLV.out w2 m2 c2;clear m2 c2)
    | (go_at_call 150;refine hlv.mono ?_;intro e w3 h3;obtain ⟨rfl,m3,c3⟩:=h3;have HM3:Hid (Pg.MT w3 lo mb pb r3):=m3;have HC3:Hid (Pg.Rf lo w1 w3):=c3;clear m3 c3))
   clear hke
   go_loopw [34,6] (fun i t wr=>∃ (k:Nat),i = .int .i64 k/\t = .int .u32 (((Pg.gj ps pmF acF (r3,0) (C.take k)).2:Nat):Int)/\k<=C.length/\Hid (Pg.MT wr lo mb pb (Pg.gj ps pmF acF (r3,0) (C.take k)).1/\Pg.Rf lo w1 wr/\(Pg.gj ps pmF acF (r3,0) (C.take k)).1.q.length<=r3.q.length+k*1048576)) (fun i _ _=>C.length-(intOf i).toNat)
   case atStart=>exact ⟨0,rfl,rfl,zaa,HM3.out,HC3.out,by simp [Pg.gj]⟩
   case round =>
    obtain ⟨k,rfl,rfl,hkl,HI⟩:=hrel;have hok:=Pg.qC (pmF:=pmF) (acF:=acF) (C.take k) (r3,0) hr3k (OF _) (fun m hm=>((HV.out w1 HRF1.out).2 m (PG hm)).en);by_cases hk:k<C.length
    ·obtain ⟨x,hx⟩:∃ x,C[k]?=some x:=⟨_,MU hk⟩;have hsn:Pg.gj ps pmF acF (r3,0) (C.take (k+1))=Pg.o0 ps pmF acF (Pg.gj ps pmF acF (r3,0) (C.take k)) x:=by rw [<- Pg.DJ,OH,hx];rfl
     obtain ⟨⟨rk,ek⟩,hz⟩:∃ z,Pg.gj ps pmF acF (r3,0) (C.take k)=z:=⟨_,rfl⟩;have HI2:=HI.out;rw [hz] at hok hsn HI2 ⊢;obtain ⟨hM,hR,hq⟩:=HI2;dsimp only at hok hM hq ⊢;have HSN:Hid _:=hsn;clear hsn hz HI;obtain ⟨g,ha,hcx⟩:=HC.out k x wr hR hx;subst ha;obtain ⟨hPr,hmr⟩:=HV.out wr (HRF1.out.trans hR);have hmx:=hmr x (Nc hx);clear hmr;have hEn:=hmx.en;have hdo:=Bg wr lo mb pb rk (pmF x).aw (acF x) hlw hM hmx.aw zaa;have hrdk:Pg.ROK ps (Pg.doL rk (acF x)):=Pg.rF hok.1 _;have hrdq:=Pg.uK rk (acF x);have hacl:=hmx.aw.len;obtain ⟨rd,hrd⟩:∃ rd,Pg.doL rk (acF x)=rd:=⟨_,rfl⟩;have HS2:Hid (Pg.gj ps pmF acF (r3,0) (C.take (k+1))=(rd,ek|||Pg.enters ps rd.kept (pmF x).en)):=by
      unfold Hid;rw [HSN.out];unfold Pg.o0;dsimp only;rw [hrd]
     rw [hrd] at hdo hrdk hrdq;clear hrd HSN;have e1l:ek<4294967296:=Pg.qu hN hok.2;have e2l:Pg.enters ps rd.kept (pmF x).en<4294967296:=Pg.qu hN (Pg.uP hEn hrdk.kept);have hor:=Pu _ _ e1l e2l;obtain ⟨fv,hmb,hea⟩:=hmx.at';have ca:wr.cell? ⟨x,2,none⟩=some (.slice (pmF x).aw.a (pmF x).aw.n (pmF x).aw.c):=by rw [M0 wr _ _ _ _ _ hmb];rfl
     unfold Ref.Sl.v at hdo;have hki:((k:Int)<(C.length:Int)):=zaa;have HFIN:Hid (∀ w9 V,Pg.MT w9 lo mb pb rd->Pg.Rf lo wr w9->Below w9.heap.size w9 V->Pg.MT V lo mb pb (Pg.gj ps pmF acF (r3,0) (C.take (k+1))).1/\Pg.Rf lo w1 V/\(Pg.gj ps pmF acF (r3,0) (C.take (k+1))).1.q.length<=r3.q.length+(k+1)*1048576):=fun w9 V hM9 hR9 hV=>by
      rw [HS2.out];exact ⟨hM9.below hlw hV,hR.trans (hR9.trans (Pg.RfE.of hV hM9.lo')),by dsimp only;omega⟩
     have HC9:Hid (∀ w9 V,Pg.MT w9 lo mb pb rd->Pg.Rf lo wr w9->Below w9.heap.size w9 V->V.heap[x]?=some (.cells #[.int .i64 (pmF x).own,.int .u32 (pmF x).lv,.slice (pmF x).aw.a (pmF x).aw.n (pmF x).aw.c,fv] 245 (0,0))/\Pg.tJ V pb b (pmF x).en fv/\Pg.fT V lo pb b cap ps fin EN LV/\Pg.MT V lo mb pb rd):=fun w9 V hM9 hR9 hV=>by
      have hRV:Pg.Rf lo wr V:=hR9.trans (Pg.RfE.of hV hM9.lo');exact ⟨(hRV.kd.ao _ _ _ _ hmb zaN).trans hmb,hea.ao (fun B t u ht hb=>Kd.boxed hRV.kd hb (by rcases ht with rfl | rfl | rfl | rfl <;> (unfold Pg.cJ;decide))),hPr.bC.below hRV.bel,hM9.below hlw hV⟩
     obtain ⟨e2,he2⟩:∃ e2,Pg.enters ps rd.kept (pmF x).en=e2:=⟨_,rfl⟩;obtain ⟨e3,he3⟩:∃ e3,ek|||e2=e3:=⟨_,rfl⟩;rw [he2,he3] at hor;rw [he2,he3] at HS2;have HE2:Hid _:=he2;clear hmx hPr hM hx hacl hrdq e2l he2 he3 hmb;obtain ⟨en,hen⟩:∃ en,(pmF x).en=en:=⟨_,rfl⟩;rw [hen] at hea hEn HE2 HC9;clear hen;cases en with
     | nil =>
      have hfv:fv = .func (.func 103) #[] #[]:=hea;subst hfv;clear hea;have HCL:Hid (∀ w9 V,Pg.MT w9 lo mb pb rd->Pg.Rf lo wr w9->Below w9.heap.size w9 V->V.cell? ⟨x,3,none⟩=some (.func (.func 103) #[] #[])/\() 103 #[.pointer (some ⟨mb,2,none⟩)] V fun e w'=>e = .returned (.int .u32 (e2:Int))/\Below w9.heap.size w9 w'):=fun w9 V hM9 hR9 hV=>by
       obtain ⟨x1,x2,x3,x4⟩:=HC9.out w9 V hM9 hR9 hV;refine ⟨zbL,?_⟩;refine (pk V (.pointer (some ⟨mb,2,none⟩))).mono (fun e w' y=>⟨?_,by rw [y.2];exact hV⟩);rw [y.1,<- HE2.out];rfl
      go_wp2_with (go_at_call 94;refine hdo.mono ?_;intro e w9 h9;obtain ⟨rfl,m9,c9⟩:=h9;have M9:Hid (Pg.MT w9 lo mb pb rd):=m9;have C9:Hid (Pg.Rf lo wr w9):=c9;clear m9 c9);have hBd:=(MY w9 w9).drew;have hkB:∀ V:World,Below w9 w9 V->(fun V=>V.cell? ⟨x,3,none⟩=some ((.func (.func 103) #[] #[]))) V:=fun V hV=>(HCL.out w9 V M9.out C9.out hV).1;have hcl:∀ V:World,Below w9 w9 V->() 103 #[.pointer (some ⟨mb,2,none⟩)] V fun e w'=>e = .returned (.int .u32 (e2:Int))/\Below w9 w9 w':=fun V hV=>(HCL.out w9 V M9.out C9.out hV).2;refine No (S:=(fun V=>V.cell? ⟨x,3,none⟩=some ((.func (.func 103) #[] #[])))) zab (hkB _ hBd) (fun u0 => ?_);refine tD (some 44) 0 (.int .u32 ek) rfl u0 ?_;refine tD (some 45) 1 x rfl u0 ?_;refine tD (some 46) 2 x rfl u0 ?_;refine tD (some 47) 3 (.pointer (some ⟨x,3,none⟩)) rfl u0 ?_;refine tD (some 48) 4 (.func (.func 103) #[] #[]) rfl u0 ?_;exact zcY
     | all a =>
      obtain ⟨c,hfv,hcb⟩:=hea;subst hfv;clear hcb;have HCL:Hid (∀ w9 V,Pg.MT w9 lo mb pb rd->Pg.Rf lo wr w9->Below w9.heap.size w9 V->V.cell? ⟨x,3,none⟩=some (.func (.func 156) #[] #[c])/\() 156 #[.pointer (some ⟨mb,2,none⟩),c] V fun e w'=>e = .returned (.int .u32 (e2:Int))/\Below w9.heap.size w9 w'):=fun w9 V hM9 hR9 hV=>by
       obtain ⟨x1,x2,x3,x4⟩:=HC9.out w9 V hM9 hR9 hV;refine ⟨zbL,?_⟩;obtain ⟨c',hc',hcb⟩:=x2;have ec:c=c':=by simpa using hc'
       subst ec;refine (zE V c a (.pointer (some ⟨mb,2,none⟩)) hcb.cell).mono (fun e w' y=>⟨?_,by rw [y.2];exact hV⟩);rw [y.1,<- HE2.out];rfl
      go_wp2_with (go_at_call 94;refine hdo.mono ?_;intro e w9 h9;obtain ⟨rfl,m9,c9⟩:=h9;have M9:Hid (Pg.MT w9 lo mb pb rd):=m9;have C9:Hid (Pg.Rf lo wr w9):=c9;clear m9 c9);have hBd:=(MY w9 w9).drew;have hkB:∀ V:World,Below w9 w9 V->(fun V=>V.cell? ⟨x,3,none⟩=some ((.func (.func 156) #[] #[c]))) V:=fun V hV=>(HCL.out w9 V M9.out C9.out hV).1;have hcl:∀ V:World,Below w9 w9 V->() 156 #[.pointer (some ⟨mb,2,none⟩),c] V fun e w'=>e = .returned (.int .u32 (e2:Int))/\Below w9 w9 w':=fun V hV=>(HCL.out w9 V M9.out C9.out hV).2;refine No (S:=(fun V=>V.cell? ⟨x,3,none⟩=some ((.func (.func 156) #[] #[c])))) zab (hkB _ hBd) (fun u0 => ?_);refine tD (some 44) 0 (.int .u32 ek) rfl u0 ?_;refine tD (some 45) 1 x rfl u0 ?_;refine tD (some 46) 2 x rfl u0 ?_;refine tD (some 47) 3 (.pointer (some ⟨x,3,none⟩)) rfl u0 ?_;refine tD (some 48) 4 (.func (.func 156) #[] #[c]) rfl u0 ?_;exact zcY
     | hist p t =>
      obtain ⟨c3,c7,c6,c5,hfv,_⟩:=hea;subst hfv;have HCL:Hid (∀ w9 V,Pg.MT w9 lo mb pb rd->Pg.Rf lo wr w9->Below w9.heap.size w9 V->V.cell? ⟨x,3,none⟩=some (.func (.func 153) #[] #[c3,c7,c6,c5])/\() 153 #[.pointer (some ⟨mb,2,none⟩),c3,c7,c6,c5] V fun e w'=>e = .returned (.int .u32 (e2:Int))/\Below w9.heap.size w9 w'):=fun w9 V hM9 hR9 hV=>by
       obtain ⟨x1,x2,x3,x4⟩:=HC9.out w9 V hM9 hR9 hV;refine ⟨zbL,?_⟩;obtain ⟨d3,d7,d6,d5,hd,y3,y7,y6,y5⟩:=x2;simp only [Value.func.injEq,Array.mk.injEq,List.cons.injEq,Value.pointer.injEq,Option.some.injEq,Addr.mk.injEq,and_true,true_and] at hd;obtain ⟨rfl,rfl,rfl,rfl⟩:=hd;refine (yS V lo mb pb b cap rd ps fin EN LV p t c3 c7 c6 c5 x3 x4 hrdk hN hEn y3 y7 y6 y5).mono (fun e w' y=>⟨?_,hV.trans (y.2.mono hV.size)⟩);rw [y.1,<- HE2.out]
      go_wp2_with (go_at_call 94;refine hdo.mono ?_;intro e w9 h9;obtain ⟨rfl,m9,c9⟩:=h9;have M9:Hid (Pg.MT w9 lo mb pb rd):=m9;have C9:Hid (Pg.Rf lo wr w9):=c9;clear m9 c9);have hBd:=(MY w9 w9).drew;have hkB:∀ V:World,Below w9 w9 V->(fun V=>V.cell? ⟨x,3,none⟩=some ((.func (.func 153) #[] #[c3,c7,c6,c5]))) V:=fun V hV=>(HCL.out w9 V M9.out C9.out hV).1;have hcl:∀ V:World,Below w9 w9 V->() 153 #[.pointer (some ⟨mb,2,none⟩),c3,c7,c6,c5] V fun e w'=>e = .returned (.int .u32 (e2:Int))/\Below w9 w9 w':=fun V hV=>(HCL.out w9 V M9.out C9.out hV).2;refine No (S:=(fun V=>V.cell? ⟨x,3,none⟩=some ((.func (.func 153) #[] #[c3,c7,c6,c5])))) zab (hkB _ hBd) (fun u0 => ?_);refine tD (some 44) 0 (.int .u32 ek) rfl u0 ?_;refine tD (some 45) 1 x rfl u0 ?_;refine tD (some 46) 2 x rfl u0 ?_;refine tD (some 47) 3 (.pointer (some ⟨x,3,none⟩)) rfl u0 ?_;refine tD (some 48) 4 (.func (.func 153) #[] #[c3,c7,c6,c5]) rfl u0 ?_;exact zcY
    ·obtain rfl:k=C.length:=zaa;have HI2:=HI.out;rw [N6] at HI2 hok ⊢;obtain ⟨⟨rk,ek⟩,hz⟩:∃ z,Pg.gj ps pmF acF (r3,0) C=z:=⟨_,rfl⟩;have HANS4:=HANS3.out;rw [hz] at hok HI2 HANS4 ⊢;dsimp only at hok HI2 HANS4 ⊢;obtain ⟨hM,hR,hq⟩:=HI2;have hen:=uO wr lo mb pb b cap rk ps fin ek EN LV (HV.out wr (HRF1.out.trans hR)).1.bC hM (Pg.qu hN hok.2) (Pg.gQ hok.2) zaa;rw [<- HANS4] at hen;have HRW:Hid _:=hR;clear HANS4 HANS3 hM hR hq HI hz hok;go_wp2_with (go_at_call 57;refine hen.mono ?_;intro e w9 h9;obtain ⟨rfl,m9,c9⟩:=h9);go_end0;exact ⟨rfl,m9,HRF1.out.trans (HRW.out.trans c9)⟩
namespace Pg
def PA.sz:PA->Prop
 | .raise ev=>ev.size<=1000000
 | .send ev _=>ev.size<=1000000
 | .sendAs ev _ _=>ev.size<=1000000
 | _=>True
def TOK (now:Nat) (T:List Tn):Prop:=now<18446744073709551616/\∀ x∈T,now<=x.t/\x.ev.size<=1000000
structure QOK (r:RSt):Prop where
 q:∀ e∈r.q,e.size<=1000000
 fin:r.fin=0\/r.fin=5\/r.fin=6
 tm:TOK r.now r.tm
structure SzP (ps:List PS) (EN LV:Nat->List PA):Prop where
 en:∀ i,∀ a∈EN i,a.sz
 lv:∀ i,∀ a∈LV i,a.sz
 done:∀ (i:Nat) (p:PS),ps[i]?=some p->p.done.size<=1000000
theorem QOK.snoc (h:QOK r) {ev:ByteArray} (he:ev.size<=1000000):QOK { r with q:=r.q++[ev] }:=⟨fun e hx=>by
 rcases Nr.1 hx with hx | hx
 ·exact h.q e hx
 ·rw [M8.1 hx];exact he,h.fin,h.tm⟩
theorem IP {r:RSt} (h:QOK r) {a:PA} (ha:a.sz):QOK (gO r a):=by
 have hs:∀ (ev:ByteArray) nm d,ev.size<=1000000->QOK (jf r ev nm d):=fun ev nm d he=>by
  unfold jf;split
  ·exact h.snoc zac
  ·refine ⟨h.q,h.fin,h.tm.1,fun x hx => ?_⟩
   rcases Nr.1 hx with hx | hx
   ·exact h.tm.2 x hx
   ·rw [M8.1 hx];refine ⟨?_,he⟩;have:=h.tm.1;show r.now<=atF r.now d;unfold atF;split <;> omega
 cases a with
 | raise ev=>exact h.snoc ha
 | send ev d=>exact hs _ _ _ ha
 | sendAs ev d id=>exact hs _ _ _ ha
 | cancel id=>exact ⟨h.q,h.fin,h.tm.1,fun x hx=>h.tm.2 x (OE.1 hx).1⟩
theorem wP:∀ (L:List PA) (r:RSt),QOK r->(∀ a∈L,a.sz)->QOK (doL r L)
 | [],_,h,_=>h
 | x::L,r,h,hL=>wP L (gO r x) (IP h (hL x (NK ..))) (fun a ha=>hL a (NL _ ha))
theorem Jp (hz:SzP ps EN LV) (h:QOK r) (i:Nat):QOK (ke ps fin r i):=by
 unfold ke;split
 ·exact h
 ·split
  ·exact ⟨h.q,.inr (.inl rfl),h.tm⟩
  ·split
   ·exact h
   ·rename_i q hq;have h1:=h.snoc (hz.done _ q hq);split
    ·exact h1
    ·split
     ·exact h1
     ·rename_i s hs;split
      ·exact h1.snoc (hz.done _ s hs)
      ·exact h1
theorem Jj (hz:SzP ps EN LV) (h:QOK r) (i:Nat):QOK (jF ps fin EN r i):=by
 have h1:QOK { r with act:=r.act|||2 ^ i }:=⟨h.q,h.fin,h.tm⟩;have h2:=wP (EN i) _ h1 (hz.en i);unfold jF;dsimp only;split
 ·split
  ·exact Jp hz h2 i
  ·exact h2
 ·exact h2
theorem lY {ps:List PS} {EN LV:Nat->List PA} (hz:SzP ps EN LV) {fin:Nat}:∀ (l:List Nat) (r:RSt),QOK r->QOK (cM ps fin EN r l)
 | [],_,h=>h
 | i::l,r,h=>lY hz l (jF ps fin EN r i) (Jj hz h i)
theorem uY {ps:List PS} {EN LV:Nat->List PA} (hz:SzP ps EN LV):∀ (l:List Nat) (r:RSt),QOK r->QOK (eF LV r l)
 | [],_,h=>h
 | i::l,r,h=>uY hz l (tV LV r i) (by
  have h1:=wP (LV i) r h (hz.lv i);exact ⟨h1.q,h1.fin,h1.tm⟩)
theorem CP {ps:List PS} {pmF:Nat->PM} {acF:Nat->List PA}:∀ (C:List Nat) (z:RSt×Nat),QOK z.1->(∀ m∈C,∀ a∈acF m,a.sz)->QOK (gj ps pmF acF z C).1
 | [],_,h,_=>h
 | m::C,z,h,hC=>CP C (o0 ps pmF acF z m) (wP _ _ h (hC m (NK ..))) (fun x hx=>hC x (NL _ hx))
theorem CR (hz:SzP ps EN LV) (h:QOK r) (hC:∀ m∈C,∀ a∈acF m,a.sz):QOK (kP ps fin EN LV H D pmF acF r C):=by
 obtain ⟨_,h2,h3,h4,h5⟩:=iO ps (fF r.act pmF C) D H r H.length;exact lY hz _ _ (CP C _ (uY hz _ _ ⟨by rw [h2];exact h.q,by rw [h5];exact h.fin,by rw [h3,h4];exact h.tm⟩) hC)
theorem FK {ps:List PS} {pmF:Nat->PM} {acF:Nat->List PA}:∀ (C:List Nat) (z:RSt×Nat),(∀ m∈C,(acF m).length<=1048576)->(gj ps pmF acF z C).1.q.length<=z.1.q.length+C.length*1048576
 | [],_,_=>by simp [gj]
 | m::C,z,hC=>by
  have h1:=FK (ps:=ps) (pmF:=pmF) (acF:=acF) C (o0 ps pmF acF z m) (fun x hx=>hC x (NL _ hx));have h2:=uK z.1 (acF m);have h3:=hC m (NK ..);have h4:(o0 ps pmF acF z m).1.q=(doL z.1 (acF m)).q:=rfl;rw [h4] at h1;show (gj ps pmF acF (o0 ps pmF acF z m) C).1.q.length<=_;rw [Oa];omega
theorem qH (s:Nat):(els s).length<=32:=by
 exact zeM
theorem DK {lo:Nat} {n:Nat} (h:jh w lo pb b cap ps fin EN LV hvs H D mbm n T M Lr pmF acF) (hr:ROK ps r) (ev:ByteArray):(aS ps fin EN LV H D M Lr pmF acF r ev).q.length<=r.q.length+200000000:=by
 have hw:=h.want ev (els (inn ps r.act));obtain ⟨c1,c2⟩:=fo ps r.act (fun m=>(pmF m).lv) (fun m=>(pmF m).own) (gh M Lr ev (els (inn ps r.act))) _ (MR _);rw [N6] at c1 c2;have hwl:(gh M Lr ev (els (inn ps r.act))).length<=32:=by
  unfold gh;split
  ·simp
  ·have h1:=mA (L:=Lr ‹_›) (els (inn ps r.act)) [];have h2:=qH (inn ps r.act);unfold dE;simp at h1;omega
 unfold aS;generalize fW ps r.act (fun m=>(pmF m).lv) (fun m=>(pmF m).own) (gh M Lr ev (els (inn ps r.act)))=C at *;have hLl:fF r.act pmF C<2 ^ ps.length:=nY pmF hr.act _ 0 (OF _);unfold kP;dsimp only;generalize fF r.act pmF C=left at *;obtain ⟨_,k2,_⟩:=iO ps left D H r H.length;have kk:=nW (left:=left) (D:=D) (H:=H) h.inn hr H.length;generalize eQ ps left D H r H.length=r2 at *;have l1:=nX h.bC (els left).reverse r2 (fun i hi=>gQ hLl i (RS.1 hi));have l2:=qH left;have lk:=l8 LV (els left).reverse r2 kk;rw [Rp,k2] at l1;generalize eF LV r2 (els left).reverse=r3 at *;have a1:=FK (ps:=ps) (pmF:=pmF) (acF:=acF) C (r3,0) (fun m hm=>(hw m (c1 m hm)).aw.len);have a2:=qC (pmF:=pmF) (acF:=acF) C (r3,0) lk (OF _) (fun m hm=>(hw m (c1 m hm)).en);dsimp only at a1;generalize gj ps pmF acF (r3,0) C=z at *;have e1:=nQ h.bC (els z.2) z.1 (gQ a2.2);have e2:=qH z.2;omega
def eu (step:RSt->ByteArray->RSt):Nat->RSt->RSt
 | 0,r=>match r.q with | []=>r | _::_=>if r.fin=0 then { r with fin:=6 } else r
 | n+1,r=>match r.q with | []=>r | ev::q'=>if r.fin=0 then eu step n (step { r with q:=q' } ev) else r
theorem mj {step:RSt->ByteArray->RSt} {r:RSt} (h:r.q=[]):∀ n,eu step n r=r
 | 0=>by unfold eu;rw [h]
 | n+1=>by unfold eu;rw [h]
theorem sR {x:ByteArray} (h:r.q=x::qs) (hf:r.fin=0):eu step 0 r={ r with fin:=6 }:=by
 unfold eu;rw [h];dsimp only;rw [M6 hf]
theorem sQ {x:ByteArray} (h:r.q=x::qs) (hf:r.fin=0) (n:Nat):eu step (n+1) r=eu step n (step { r with q:=qs } x):=by
 conv=>lhs;unfold eu
 rw [h];dsimp only;rw [M6 hf]
theorem pJ {step:RSt->ByteArray->RSt} {r:RSt} (h:r.fin≠0):∀ n,eu step n r=r
 | 0=>by
  unfold eu;split
  ·rfl
  ·rw [M4 h]
 | n+1=>by
  unfold eu;split
  ·rfl
  ·rw [M4 h]
end Pg
theorem Pg.MT.Mr (h:Pg.MT W lo mb pb r) (hl:Pg.Lw lo) (qv':Value) (L:List ByteArray) (hq:QAt W lo qv' L) (hqo:∀ g,qv'.ownBlock=some g->lo.ok g):Pg.MT (W.setCell ⟨mb,26,none⟩ qv') lo mb pb { r with q:=L }/\Pg.Rf lo W (W.setCell ⟨mb,26,none⟩ qv')/\(W.setCell ⟨mb,26,none⟩ qv').cell? ⟨mb,26,none⟩=some qv':=by
 obtain ⟨qv,wh,m,b⟩:=h.ex;obtain ⟨arr,a1,a2,a3⟩:=m.blk;have hmo:Mo (· = mb) W (W.setCell ⟨mb,26,none⟩ qv'):=(Mo.refl _ _).set _ _ rfl;have hM:Pg.au (W.setCell ⟨mb,26,none⟩ qv') lo mb pb qv' (({ r with q:=L }:Pg.RSt).m wh):=by
  refine ⟨⟨arr.setIfInBounds 26 qv',Nn W mb 26 _ _ _ a1,by simp [a2],fun j hj => ?_⟩,hq.mo hmo (fun g hg e => ?_),m.lo',hqo,MX m.sz hmo.size⟩
  ·by_cases e:j=26
   ·subst e;rw [OK zaa];rfl
   ·rw [OA (fun x=>e x.symm),a3 j hj];simp [Pg.eR,e];rfl
  ·obtain ⟨c,hc⟩:=hq.kind g hg;rw [show g=mb from e,a1] at hc;simp at hc
 have hR:Pg.Rq lo W (W.setCell ⟨mb,26,none⟩ qv'):=Pg.RfE.mo (P:=(· = mb)) hmo (fun k hk=>by
  subst hk;exact ⟨m.lo',arr,_,_,a1,.inl rfl⟩) h.lo'
 exact ⟨h.rq hl b hM hR rfl rfl h.act,Pg.vI hR,hM.cell 26 zac⟩
theorem Pg.MT.Ij (h:Pg.MT W lo mb pb r) (hl:Pg.Lw lo) (e:Nat):Pg.MT (W.setCell ⟨mb,419,none⟩ (Pg.eM e)) lo mb pb { r with fin:=e }/\Pg.Rf lo W (W.setCell ⟨mb,419,none⟩ (Pg.eM e))/\(Pg.Idl W mb->Pg.Idl (W.setCell ⟨mb,419,none⟩ (Pg.eM e)) mb)/\∀ (k:Nat) (c:Array Value) (f:Nat×Nat),W.heap[k]?=some (.cells c 9 f)->(W.setCell ⟨mb,419,none⟩ (Pg.eM e)).heap[k]?=some (.cells c 9 f):=by
 obtain ⟨qv,wh,m,b⟩:=h.ex;have hM:Pg.au (W.setCell ⟨mb,419,none⟩ (Pg.eM e)) lo mb pb qv (({ r with fin:=e }:Pg.RSt).m wh):=m.set 419 _ _ zac rfl (fun j hj=>by
  by_cases e:j=419
  ·subst e;rfl
  ·rw [M4 e];have hj:j<419:=zaa;simp [Pg.eR,hj];rfl)
 have hR:Pg.Rq lo W (W.setCell ⟨mb,419,none⟩ (Pg.eM e)):=Pg.RfE.mo (P:=(· = mb)) ((Mo.refl _ _).set _ _ rfl) (fun k hk=>by
  obtain ⟨arr,a1,_⟩:=m.blk;subst hk;exact ⟨m.lo',arr,_,_,a1,.inl rfl⟩) h.lo'
 exact ⟨h.rq hl b hM hR rfl rfl h.act,Pg.vI hR,m.idl hM,fun k c f hk=>(((Mo.refl (· = mb) W).set ⟨mb,419,none⟩ (Pg.eM e) rfl).block k (MQ.1 hk).1 (fun e=>by
  obtain ⟨arr,a1,_⟩:=m.blk;rw [show k=mb from e,a1] at hk;simp at hk)).trans hk⟩
theorem Pg.MT.cq (h:Pg.MT W lo mb pb r):∃ qv,W.cell? ⟨mb,26,none⟩=some qv/\QAt W lo qv r.q/\W.cell? ⟨mb,419,none⟩=some (Pg.eM r.fin)/\∀ g,qv.ownBlock=some g->lo.ok g:=by
 obtain ⟨qv,wh,m,b⟩:=h.ex;exact ⟨qv,m.cell 26 zac,m.que,m.cell 419 zac,m.qok⟩
namespace Pg
def eO (step:RSt->ByteArray->RSt) (r:RSt):RSt:={ eu step 60 r with q:=[] }
end Pg
theorem jB (w:World) (lo:Pg.Lo) (mb pb b cap:Nat) (r:Pg.RSt) (ps:List Pg.PS) (fin:Nat) (EN LV:Nat->List Pg.PA) (hvs:Ref.Sl) (H:List Pg.HV) (D:Nat->Bool) (mbm n:Nat) (T:ByteArray->Option (List (Option Pg.PM))) (M:ByteArray->Option Nat) (Lr:Nat->List (Option Nat)) (pmF:Nat->Pg.PM) (acF:Nat->List Pg.PA) (hP:Pg.jh w lo pb b cap ps fin EN LV hvs H D mbm n T M Lr pmF acF) (hz:Pg.SzP ps EN LV) (hza:∀ m,∀ a∈acF m,Pg.PA.sz a) (h:Pg.MT w lo mb pb r) (hr:Pg.ROK ps r) (hqk:Pg.QOK r) (hql:r.q.length<=4300000000000) :
  () 58 #[mb] w fun e w'=>e = .returned (.tuple #[])/\Pg.MT w' lo mb pb (Pg.eO (Pg.aS ps fin EN LV H D M Lr pmF acF) r)/\Pg.Rf lo w w'/\Pg.Idl w' mb:=by
 have hlw:=hP.bC.lw;obtain ⟨step,hstep⟩:∃ step,Pg.aS ps fin EN LV H D M Lr pmF acF=step:=⟨_,rfl⟩;have HST:Hid _:=hstep;rw [hstep];clear hstep;have q0:∀ w:World,(binOp .eql 60 .nilIface .nilIface).run prog w = .ok (.bool true) w:=fun w=>zab;have q5:∀ w:World,(binOp .eql 60 (.iface 29 (.int .i64 5)) .nilIface).run prog w = .ok (.bool false) w:=fun w=>zab;have q6:∀ w:World,(binOp .eql 60 (.iface 29 (.int .i64 6)) .nilIface).run prog w = .ok (.bool false) w:=fun w=>zab;have HEND:Hid (∀ (V:World) (rz:Pg.RSt),Pg.MT V lo mb pb rz->Pg.Rf lo w V->{ rz with q:=[] }=Pg.eO step r->(∃ u,V.cell? ⟨mb,26,none⟩=some u)/\V.frozen? ⟨mb,26,none⟩=false/\Pg.MT (V.setCell ⟨mb,26,none⟩ (.slice none 0 0)) lo mb pb (Pg.eO step r)/\Pg.Rf lo w (V.setCell ⟨mb,26,none⟩ (.slice none 0 0))/\Pg.Idl (V.setCell ⟨mb,26,none⟩ (.slice none 0 0)) mb):=fun V rz hM hR e=>by
  obtain ⟨qv,c1,_⟩:=hM.cq;obtain ⟨x1,x2,x3⟩:=hM.Mr hlw (.slice none 0 0) [] (QAt.nil _ _) (fun g hg=>by cases hg);rw [e] at x1;exact ⟨⟨_,c1⟩,hM.c0.2.2 26,x1,hR.trans x2,x3⟩
 have HP:Hid _:=hP;have HI0:Hid (Pg.MT w lo mb pb r/\Pg.ROK ps r/\Pg.QOK r):=⟨h,hr,hqk⟩;clear h hr hqk hP;go_enter func58,ntmps58;go_wp2
 go_loopw [2] (fun a wr=>∃ k:Nat,a = .int .i64 k/\k<=60/\Hid (∃ rk,Pg.MT wr lo mb pb rk/\Pg.ROK ps rk/\Pg.QOK rk/\Pg.Rf lo w wr/\Pg.eu step (60-k) rk=Pg.eu step 60 r/\rk.q.length<=r.q.length+k*200000000)) (fun a _=>61-(intOf a).toNat)
 case atStart=>exact ⟨0,rfl,zaa,r,HI0.out.1,HI0.out.2.1,HI0.out.2.2,Pg.RfE.refl _ _,rfl,zaa⟩
 case round =>
  obtain ⟨k,rfl,hk60,HK⟩:=hrel;obtain ⟨rk,hM,hrk,hqk,hR,hrest,hqb⟩:=HK.out;clear HK HI0;obtain ⟨qv,c26,hQ,c419,hqo⟩:=hM.cq;have hfz:=hM.c0.2.2;have HF26:=hfz 26;have HF419:=hfz 419;clear hfz;by_cases hq:rk.q=[]
  ·have hend:=HEND.out wr rk hM hR (by unfold Pg.eO;rw [<- hrest,Pg.mj hq]);obtain ⟨a0,c0,hv0⟩:=hQ.form;rw [hq] at hv0;subst hv0;obtain ⟨_,e2,e3,e4⟩:=hend;have E3:Hid _:=e3;have E4:Hid _:=e4;clear e3 e4 hQ hM hrest hqk hrk;simp only [List.length_nil] at c26;exact zfc
  ·by_cases hf:rk.fin=0
   ·obtain ⟨x,qs,hxq⟩:∃ x qs,rk.q=x::qs:=by
     cases hc:rk.q with
     | nil=>exact absurd hc hq
     | cons x qs=>exact ⟨x,qs,rfl⟩
    rw [hxq] at hQ;obtain ⟨g,off,cp,hv,hqc,hcm,hcx,hpop⟩:=hQ.head;subst hv;rw [hf] at c419;unfold Pg.eM at c419;rw [M6 rfl] at c419;have hx1:=hqk.q x (by rw [hxq];exact NK ..);have hlen1:((qs.length:Int)+1>0):=zaa;by_cases h60:k=60
    ·subst h60;have HRS:Hid ({ ({ rk with fin:=6 }:Pg.RSt) with q:=[] }=Pg.eO step r):=by
      unfold Hid Pg.eO;rw [<- hrest,Qk,Pg.sR hxq hf]
     obtain ⟨x1,x2,_⟩:=hM.Ij hlw 6;have hend:=HEND.out _ _ x1 (hR.trans x2) HRS.out;unfold Pg.eM at hend;rw [M4 zac] at hend;obtain ⟨⟨u,e1⟩,e2,e3,e4⟩:=hend;have E3:Hid _:=e3;have E4:Hid _:=e4;clear e3 e4 hQ hM hrest hqk hrk x1 x2 hpop;exact zfc
    ·have hk1:((k:Int) == 60)=false:=zae;have HN:Hid (Pg.eu step (60-(k+1)) (step { rk with q:=qs } x)=Pg.eu step 60 r):=by
      unfold Hid;rw [<- hrest,show 60-k=(60-(k+1))+1 by omega,Pg.sQ hxq hf]
     have HANS:Hid (∀ V,Pg.MT V lo mb pb { rk with q:=qs }->Pg.Rf lo wr V->() 96 #[mb,x] V fun e w'=>e = .returned (.tuple #[])/\∃ rk',Pg.MT w' lo mb pb rk'/\Pg.ROK ps rk'/\Pg.QOK rk'/\Pg.Rf lo w w'/\Pg.eu step (60-(k+1)) rk'=Pg.eu step 60 r/\rk'.q.length<=r.q.length+(k+1)*200000000):=fun V hMV hRV=>by
      have hRw:=hR.trans hRV;have hPV:=HP.out.rf hRw;have hrk2:Pg.ROK ps { rk with q:=qs }:=⟨hrk.act,hrk.kept⟩;have hqk2:Pg.QOK { rk with q:=qs }:=⟨fun e he=>hqk.q e (by rw [hxq];exact NL _ he),hqk.fin,hqk.tm⟩;have hl2:({ rk with q:=qs }:Pg.RSt).q.length+1=rk.q.length:=by rw [hxq];rfl
      refine (AR V lo mb pb b cap { rk with q:=qs } ps fin EN LV hvs H D mbm n T M Lr pmF acF x hPV hMV hrk2 hx1 zaa).mono ?_;rintro e w' ⟨rfl,a,c⟩;have hq3:=Pg.DK hPV hrk2 x;have e:=HN.out;rw [<- HST.out] at e ⊢;refine ⟨rfl,_,a,?_,?_,hRw.trans c,e,zaa⟩
      ·refine Pg.CQ HP.out.inn hrk2 (fun m hm => ?_);obtain ⟨c1,_⟩:=Pg.fo ps rk.act (fun m=>(pmF m).lv) (fun m=>(pmF m).own) (Pg.gh M Lr x (Pg.els (Pg.inn ps rk.act))) _ (MR _);rw [N6] at c1;exact (HP.out.want x _ m (c1 m hm)).en
      ·exact Pg.CR hz hqk2 (fun m _=>hza m)
     have HPOP:Hid (∀ off',(off'=off+1\/cp=0)->Pg.MT (wr.setCell ⟨mb,26,none⟩ (.slice (some ⟨g,off',none⟩) qs.length cp)) lo mb pb { rk with q:=qs }/\Pg.Rf lo wr (wr.setCell ⟨mb,26,none⟩ (.slice (some ⟨g,off',none⟩) qs.length cp))):=fun off' ho=>have h:=hM.Mr hlw (.slice (some ⟨g,off',none⟩) qs.length cp) qs (hpop off' ho) (fun g' e=>hqo g' e);⟨h.1,h.2.1⟩
     clear hQ hM hrest hqk hrk hpop HEND;by_cases hcap:cp=0
     ·obtain ⟨y1,y2⟩:=HPOP.out off (.inr hcap);have hans:=HANS.out _ y1 y2;subst hcap;have hql0:qs.length=0:=zaa;rw [hql0] at hans;exact zdo
     ·obtain ⟨y1,y2⟩:=HPOP.out (off+1) (.inl rfl);have hans:=HANS.out _ y1 y2;exact zdo
   ·have hend:=HEND.out wr rk hM hR (by unfold Pg.eO;rw [<- hrest,Pg.pJ hf]);obtain ⟨a0,c0,hv0⟩:=hQ.form;subst hv0;have hqp:0<rk.q.length:=OJ.2 hq;have hqp':((rk.q.length:Int)>0):=zaa;obtain ⟨_,e2,e3,e4⟩:=hend;have E3:Hid _:=e3;have E4:Hid _:=e4;have hfin:=hqk.fin;clear e3 e4 hQ hM hrest hqk hrk;generalize rk.q.length=ql at *
    rcases hfin with hx | hx | hx
    ·exact absurd hx hf
    ·exact zd7
    ·exact zd7
theorem Hg (s:Nat) (w:World) (hs:s<4294967296):() 151 #[.int .u32 s] w fun e w'=>(∃ n:Nat,n<=255/\e = .returned (n:Int))/\w'=w.drew:=by
 have e1:(s:Int) / 16777216=((s / 16777216:Nat):Int):=zaa;have h1:s / 16777216<256:=zaa;have e2:bits BinOp.and IntKind.u32 ((s:Int) / 65536) 255=((s / 65536&&&255:Nat):Int):=by
  rw [show (s:Int) / 65536=((s / 65536:Nat):Int) by omega];exact QE _ 255 zaa zaa
 have h2:s / 65536&&&255<256:=NT Qf zaa;have e3:bits BinOp.and IntKind.u32 ((s:Int) / 256) 255=((s / 256&&&255:Nat):Int):=by
  rw [show (s:Int) / 256=((s / 256:Nat):Int) by omega];exact QE _ 255 zaa zaa
 have h3:s / 256&&&255<256:=NT Qf zaa;have e4:bits BinOp.and IntKind.u32 (s:Int) 255=((s&&&255:Nat):Int):=QE _ 255 zaa zaa;have h4:s&&&255<256:=NT Qf zaa;generalize s / 16777216=a1 at *;generalize s / 65536&&&255=a2 at *;generalize s / 256&&&255=a3 at *;generalize s&&&255=a4 at *;have h1:a1<Lib.pop8tab.size:=h1;have h2:a2<Lib.pop8tab.size:=h2;have h3:a3<Lib.pop8tab.size:=h3;have h4:a4<Lib.pop8tab.size:=h4;go_enter func151,ntmps151;go_wp2;go_region
 go_wp2;go_ret;generalize Lib.pop8tab[a1].toNat=b1;generalize Lib.pop8tab[a2].toNat=b2;generalize Lib.pop8tab[a3].toNat=b3;generalize Lib.pop8tab[a4].toNat=b4;exact ⟨⟨(b1+b2+b3+b4) % 256,zaa,congrArg (fun x=>Ending.returned (x:Int)) zaa⟩,rfl⟩
theorem JM (s:Nat) (w:World) (hs:s<4294967296):() 97 #[.int .u32 s] w fun e w'=>(∃ n:Nat,n<=255/\e = .returned (n:Int))/\w'=w.drew:=by
 go_enter func97,ntmps97;go_wp2_with (go_at_call 151;refine (Hg s _ hs).mono ?_;rintro e w9 ⟨⟨n,hn,rfl⟩,hw9⟩;rw [hw9];clear hw9 w9);go_ret;exact ⟨⟨n,hn,rfl⟩,rfl⟩
attribute [local go_sem] NR
theorem sT (n:Nat) (hn:n<=4096) (w:World):(Instr.makeSlice 22 (.int .i64 0) (.int .i64 n)).run prog w = .ok (.slice w 0 n) (w.alloc (.cells (madeCells #[.string ⟨#[]⟩] n) 9)):=by
 obtain ⟨i0,hi,hz0,hz1,hz2⟩:=OB wV;have h:=run_makeSlice (P:=prog) w 22 9 i0 _ underlying22 hi hz0 .i64 .i64 0 n zaa zaa (by rw [hz1];simp;omega) (by rw [hz2];omega) zaa;rw [h,hz1];simp only [Int.toNat_natCast,Nat.mul_one];rfl
namespace Pg
def Cu (s:ByteArray):List Value:=[s]
def bP (ps:List PS) (i:Nat):ByteArray:=match ps[i]? with | some p=>p.name | none=>⟨#[]⟩
abbrev Nms (W:World) (base:Nat) (sv:Value) (L:List ByteArray):Prop:=W.ownsRow base 9 1 sv L.length (L.flatMap Cu)
theorem Nms.kind (h:Nms W base sv L):∀ k,sv.ownBlock=some k->base<=k/\k<W.heap.size/\∃ c,W.heap[k]?=some (.cells c 9 (0,0)):=fun k hk=>by
 exact zdT
theorem Nms.n (h:Nms W base sv L):∃ a c,sv = .slice a L.length c:=by
 exact zea
theorem Nms.gr {W':World} (h:Nms W base sv L) (hg:W.grownBy W' row) (hr:∀ r,row=some r->∃ o:Obj,W.heap[r]?=some o/\o.isCells=false):Nms W' base sv L:=Kd.row (gR (E:=fun _=>False) hg hr) h (fun h=>h)
def StI (w:World) (mb Bs Bx:Nat) (L:List ByteArray) (V:World):Prop:=∃ sv,Boxed V Bx 22 sv/\Nms V w sv L/\Below w w V/\Boxed V w 48 mb/\V.heap[Bs]?=some (.cells #[.string ⟨#[]⟩,.int .u64 0,.slice none 0 0] 46 (0,0))
theorem StI.gr {V V':World} {Bs Bx:Nat} (h:StI w mb Bs Bx L V) (hg:V.grownBy V' row) (hr:∀ r,row=some r->w.heap.size<=r/\∃ o:Obj,V.heap[r]?=some o/\o.isCells=false):StI w mb Bs Bx L V':=by
 obtain ⟨sv,a,b,c,d,e⟩:=h;have hk:Kd (fun _=>False) V V':=gR hg (fun r e=>(hr r e).2);exact ⟨sv,hk.boxed a (fun h=>h),b.gr hg (fun r e=>(hr r e).2),c.trans ⟨hg.os,hg.tape,hg.output,hg.size,fun k hk'=>hg.block k (by have:=c.size;omega) (fun e=>zbe)⟩,hk.boxed d (fun h=>h),(hk.ao _ _ _ _ e (fun h=>h)).trans e⟩
end Pg
theorem Ai (w:World) (lo:Pg.Lo) (mb pb b cap:Nat) (r:Pg.RSt) (ps:List Pg.PS) (fin:Nat) (EN LV:Nat->List Pg.PA) (ev:ByteArray) (hP:Pg.fT w lo pb b cap ps fin EN LV) (h:Pg.MT w lo mb pb r) (hin:∀ i,i∈Pg.els r.act->i<ps.length) (hcl:∀ V:World,() 89 #[ev] V fun e w'=>e = .returned ev/\Below V V w') :
  () 59 #[mb,ev] w fun e w'=>∃ sv,e = .returned (.agg #[ev,.int .u64 r.now,sv])/\Pg.Nms w' w sv ((Pg.els r.act).map (Pg.bP ps))/\Below w w w':=by
 obtain ⟨i0,hi,hz0,hz1,hz2⟩:=OB wV;refine (Nz (n:=8)).1 ?_;have hlw:=hP.lw;have hlo:=h.lo';have hact:=h.act;have hml:=h.lt;obtain ⟨m0,m1,_⟩:=h.c0;have hB4:∀ o1 o2 o3 o4:Obj,Below w w ((((w.alloc o1).alloc o2).alloc o3).alloc o4):=fun o1 o2 o3 o4=>((((MY _ w).alloc (MR _) _).alloc zad _).alloc zae _).alloc zae _;have hm4:∀ o1 o2 o3 o4:Obj,((((w.alloc o1).alloc o2).alloc o3).alloc o4).drew.cell? ⟨mb,1,none⟩=some (.int .u32 r.act):=fun o1 o2 o3 o4=>((hB4 o1 o2 o3 o4).cell (p:=⟨mb,1,none⟩) hml).trans m1;refine NX func59 rfl trivial ?_ rfl;simp only [ntmps59,List.size_toArray,List.length_cons,List.length_nil,Nat.reduceAdd,Nat.reduceSub,Array.replicate_succ,Array.replicate_zero,List.push_toArray,List.append_toArray,List.nil_append,List.cons_append];have hmk:=fun (n:Nat) (hn:n<=255) (W:World)=>sT n zaa W;gi_wp2_with (first
  | (refine ⟨trivial,?_⟩;gi_at_call 97;refine (Nz.2 (JM r.act _ hact)).mono ?_;rintro e w9 ⟨⟨nl,hnl,rfl⟩,hw9⟩;rw [hw9];clear hw9 w9;have hmk2:=fun W=>hmk nl hnl W)
  | (refine ⟨trivial,?_⟩;gi_at_call 92;refine (Nz.2 (dy r.act _)).mono ?_;rintro e w9 ⟨rfl,hw9⟩;rw [hw9];clear hw9 w9))
 have hh:∀ (W:World) (o:Obj),(W.alloc o).heap[W.heap.size]?=some o:=Na;have hk:∀ (W:World) (o:Obj) (k:Nat) (u:Obj),W.heap[k]?=some u->(W.alloc o).heap[k]?=some u:=fun W o k u hu=>(N9 W o k (MQ.1 hu).1).trans hu;have s1:(w.alloc (.cells #[mb] 48)).heap.size=w.heap.size+1:=zad;have s2:((w.alloc (.cells #[mb] 48)).alloc (.cells #[.string ⟨#[]⟩,.int .u64 0,.slice none 0 0] 46)).heap.size=w.heap.size+1+1:=zad;have s3:(((w.alloc (.cells #[mb] 48)).alloc (.cells #[.string ⟨#[]⟩,.int .u64 0,.slice none 0 0] 46)).alloc (.cells (madeCells #[.string ⟨#[]⟩] nl) 9)).heap.size=w.heap.size+1+1+1:=zad;have s4:((((w.alloc (.cells #[mb] 48)).alloc (.cells #[.string ⟨#[]⟩,.int .u64 0,.slice none 0 0] 46)).alloc (.cells (madeCells #[.string ⟨#[]⟩] nl) 9)).alloc (.cells #[.slice (some ⟨w.heap.size+1+1,0,none⟩) 0 nl] 22)).heap.size=w.heap.size+1+1+1+1:=zad;have hW0:Below w w (((((w.alloc (.cells #[mb] 48)).alloc (.cells #[.string ⟨#[]⟩,.int .u64 0,.slice none 0 0] 46)).alloc (.cells (madeCells #[.string ⟨#[]⟩] nl) 9)).alloc (.cells #[.slice (some ⟨w.heap.size+1+1,0,none⟩) 0 nl] 22)).alloc (.cells #[.int .u32 r.act] 75)).drew:=((hB4 (.cells #[mb] 48) (.cells #[.string ⟨#[]⟩,.int .u64 0,.slice none 0 0] 46) (.cells (madeCells #[.string ⟨#[]⟩] nl) 9) (.cells #[.slice (some ⟨w.heap.size+1+1,0,none⟩) 0 nl] 22)).alloc zae _).drew;have x0:Boxed (((((w.alloc (.cells #[mb] 48)).alloc (.cells #[.string ⟨#[]⟩,.int .u64 0,.slice none 0 0] 46)).alloc (.cells (madeCells #[.string ⟨#[]⟩] nl) 9)).alloc (.cells #[.slice (some ⟨w.heap.size+1+1,0,none⟩) 0 nl] 22)).alloc (.cells #[.int .u32 r.act] 75)).drew w.heap.size 48 mb:=hk _ _ _ _ (hk _ _ _ _ (hk _ _ _ _ (hk _ _ _ _ (hh w _))));have x1:(((((w.alloc (.cells #[mb] 48)).alloc (.cells #[.string ⟨#[]⟩,.int .u64 0,.slice none 0 0] 46)).alloc (.cells (madeCells #[.string ⟨#[]⟩] nl) 9)).alloc (.cells #[.slice (some ⟨w.heap.size+1+1,0,none⟩) 0 nl] 22)).alloc (.cells #[.int .u32 r.act] 75)).drew.heap[w.heap.size+1]?=some (.cells #[.string ⟨#[]⟩,.int .u64 0,.slice none 0 0] 46 (0,0)):=hk _ _ _ _ (hk _ _ _ _ (hk _ _ _ _ (by rw [<- s1];exact hh _ _)));have x2:(((((w.alloc (.cells #[mb] 48)).alloc (.cells #[.string ⟨#[]⟩,.int .u64 0,.slice none 0 0] 46)).alloc (.cells (madeCells #[.string ⟨#[]⟩] nl) 9)).alloc (.cells #[.slice (some ⟨w.heap.size+1+1,0,none⟩) 0 nl] 22)).alloc (.cells #[.int .u32 r.act] 75)).drew.heap[w.heap.size+1+1]?=some (.cells (madeCells #[.string ⟨#[]⟩] nl) 9 (0,0)):=hk _ _ _ _ (hk _ _ _ _ (by rw [<- s2];exact hh _ _));have x3:Boxed (((((w.alloc (.cells #[mb] 48)).alloc (.cells #[.string ⟨#[]⟩,.int .u64 0,.slice none 0 0] 46)).alloc (.cells (madeCells #[.string ⟨#[]⟩] nl) 9)).alloc (.cells #[.slice (some ⟨w.heap.size+1+1,0,none⟩) 0 nl] 22)).alloc (.cells #[.int .u32 r.act] 75)).drew (w.heap.size+1+1+1) 22 (.slice (some ⟨w.heap.size+1+1,0,none⟩) 0 nl):=hk _ _ _ _ (by rw [<- s3];exact hh _ _);have x4:Boxed (((((w.alloc (.cells #[mb] 48)).alloc (.cells #[.string ⟨#[]⟩,.int .u64 0,.slice none 0 0] 46)).alloc (.cells (madeCells #[.string ⟨#[]⟩] nl) 9)).alloc (.cells #[.slice (some ⟨w.heap.size+1+1,0,none⟩) 0 nl] 22)).alloc (.cells #[.int .u32 r.act] 75)).drew (w.heap.size+1+1+1+1) 75 (.int .u32 r.act):=by
  show ((((w.alloc (.cells #[mb] 48)).alloc (.cells #[.string ⟨#[]⟩,.int .u64 0,.slice none 0 0] 46)).alloc (.cells (madeCells #[.string ⟨#[]⟩] nl) 9)).alloc (.cells #[.slice (some ⟨w.heap.size+1+1,0,none⟩) 0 nl] 22) |>.alloc (.cells #[.int .u32 r.act] 75)).heap[_]?=_;rw [<- s4];exact hh _ _
 have hs0:(((((w.alloc (.cells #[mb] 48)).alloc (.cells #[.string ⟨#[]⟩,.int .u64 0,.slice none 0 0] 46)).alloc (.cells (madeCells #[.string ⟨#[]⟩] nl) 9)).alloc (.cells #[.slice (some ⟨w.heap.size+1+1,0,none⟩) 0 nl] 22)).alloc (.cells #[.int .u32 r.act] 75)).drew.heap.size=w.heap.size+5:=zad;have hI0:Pg.StI w mb (w.heap.size+1) (w.heap.size+1+1+1) [] (((((w.alloc (.cells #[mb] 48)).alloc (.cells #[.string ⟨#[]⟩,.int .u64 0,.slice none 0 0] 46)).alloc (.cells (madeCells #[.string ⟨#[]⟩] nl) 9)).alloc (.cells #[.slice (some ⟨w.heap.size+1+1,0,none⟩) 0 nl] 22)).alloc (.cells #[.int .u32 r.act] 75)).drew:=⟨_,x3,⟨rfl,.inr ⟨_,nl,_,rfl,zaa,x2,Ni _,zag,by rw [size_madeCells];omega,rfl⟩⟩,hW0,x0,x1⟩;clear s1 s2 s3 s4 hh hk x0 x1 x2 x3 hmk hmk2 hm4 hB4;generalize (((((w.alloc (.cells #[mb] 48)).alloc (.cells #[.string ⟨#[]⟩,.int .u64 0,.slice none 0 0] 46)).alloc (.cells (madeCells #[.string ⟨#[]⟩] nl) 9)).alloc (.cells #[.slice (some ⟨w.heap.size+1+1,0,none⟩) 0 nl] 22)).alloc (.cells #[.int .u32 r.act] 75)).drew=W0 at *;have hT0:TabAt 1 Lib.deBruijn32tab W0:=Pg.bU hlw (hW0.mono hlo) h.tab5;refine nS zaa (w.heap.size+1+1+1+1) r.act hact rfl zaa (by have:=hlw.g5;omega) x4.cell hT0 rfl
  (fun pre V=>Pg.StI w mb (w.heap.size+1) (w.heap.size+1+1+1) ((Pg.aX pre).map (Pg.bP ps)) V) (fun _ _ _=>False)
  (fun pre A C row h hg hr=>h.gr hg (fun r e=>⟨zas,(hr r e).2⟩))
  (fun _ _ _ _ _ hs _ _=>hs) hI0
  (fun x a' _=>a'={ tmps:=#[.pointer (some ⟨mb,0,none⟩),.string ev,.pointer (some ⟨w.heap.size,0,none⟩),undef,.pointer (some ⟨w.heap.size+1,0,none⟩),.pointer (some ⟨w.heap.size+1+1+1,0,none⟩),.int .i64 x.1,.pointer (some ⟨mb,0,none⟩),.pointer (some ⟨mb,0,none⟩),.pointer (some ⟨mb,1,none⟩),.int .u32 r.act,.int .i64 nl,.slice (some ⟨w.heap.size+1+1,0,none⟩) 0 nl,.pointer (some ⟨mb,0,none⟩),.pointer (some ⟨mb,0,none⟩),.pointer (some ⟨mb,1,none⟩),.int .u32 r.act,.func (.func 144) #[] #[.pointer (some ⟨w.heap.size+1+1+1+1,0,none⟩)],.int .i64 x.1,undef,undef,undef,undef,undef,undef,undef,undef,undef,undef,undef,undef,undef,undef,undef,undef,undef,undef,undef,undef],defers:=[] }) (fun _ _ _ _ _ _ hs _ _=>hs) ?assign ?body ?done ?stop
 case assign =>
  exact zew
 case body =>
  rintro l pre x a' V hl ⟨rl,hrl⟩ ⟨sv,hbx,hN,hB,hbm,hbs⟩ rfl hpl;have hix:=hin x.1 x.2;obtain ⟨p,hp⟩:∃ p,ps[x.1]?=some p:=⟨_,MU hix⟩;have hxi:((x.1:Int)<(ps.length:Int)):=zaa;have hnm:Pg.bP ps x.1=p.name:=by unfold Pg.bP;rw [hp]
  have HSN:Hid ((Pg.aX (pre++[x])).map (Pg.bP ps)=(Pg.aX pre).map (Pg.bP ps)++[p.name]):=by
   unfold Hid;rw [Pg.dS,NW,<- hnm];rfl
  have hvl:((Pg.aX pre).map (Pg.bP ps)).length<=32:=by rw [Ng,Pg.cy,Ng];omega
  generalize (Pg.aX pre).map (Pg.bP ps)=L at *;obtain ⟨sa,sc,rfl⟩:=hN.n;have hVs:=hB.size;have hPV:=hP.below (hB.mono hlo);have hBa:Below V V (V.drew.alloc (.cells #[p.name] 9)):=(MY _ V).drew.alloc (MR _) _;have hkB:∀ W:World,Below V.heap.size V W->(fun V=>V.cell? w=some ↑mb/\V.cell? mb=some ↑pb/\V.cell? pb=some (.slice b ps.length cap)/\V.cell? ⟨b,x.1*10+1,none⟩=some ↑p.name) W:=fun W hW=>⟨(aB hbm hW hbm.lt).cell,((h.below hlw hB).below hlw hW).c0.1,(hPV.below (hW.mono (MX hlo hVs))).bC.row,((hPV.below (hW.mono (MX hlo hVs))).bC.at' x.1 p hp).c1⟩;have cx1:V.drew.cell? ⟨w.heap.size+1+1+1,0,none⟩=some (.slice sa L.length sc):=hbx.cell;have cx2:(V.drew.alloc (.cells #[p.name] 9)).cell? ⟨w.heap.size+1+1+1,0,none⟩=some (.slice sa L.length sc):=(aB hbx hBa hbx.lt).cell;have cx3:(V.alloc (.cells #[p.name] 9)).drew.cell? ⟨w.heap.size+1+1+1,0,none⟩=some (.slice sa L.length sc):=cx2;have hpbl:pb<w.heap.size:=by have:=hP.pb';omega
  have hbbl:b<w.heap.size:=by have:=hP.b';omega
  have hkd:=hN.kind;have HG:Hid (∀ (w5:World),(V.drew.alloc (.cells #[p.name] 9)).grownBy w5 (Value.ownBlock (.slice sa L.length sc))->(fun V=>V.cell? w=some ↑mb/\V.cell? mb=some ↑pb/\V.cell? pb=some (.slice b ps.length cap)/\V.cell? ⟨b,x.1*10+1,none⟩=some ↑p.name) w5/\Boxed w5 (w.heap.size+1+1+1) 22 (.slice sa L.length sc)/\Below w w w5/\Boxed w5 w 48 mb/\w5.heap[w.heap.size+1]?=some (.cells #[.string ⟨#[]⟩,.int .u64 0,.slice none 0 0] 46 (0,0))/\KeepsOthers V w5):=fun w5 hg=>by
   have hm:Mo (fun k=>Value.ownBlock (.slice sa L.length sc)=some k) V w5:=(ay hBa).trans ⟨hg.os,hg.tape,hg.output,hg.size,fun k hk hn=>hg.block k hk (fun e=>hn e.symm)⟩;have ne:∀ (k:Nat) (c:Array Value) (t:TypeId) (f:Nat×Nat),V.heap[k]?=some (.cells c t f)->t≠9->¬ (Value.ownBlock (.slice sa L.length sc)=some k):=fun k c t f hk ht e=>by
    obtain ⟨_,_,c',hc'⟩:=hkd k e;rw [hk] at hc';cases hc'
    exact ht rfl
   have hbl:Below w w w5:=hm.below hB hVs (fun i hi e=>by have:=(hkd i e).1;omega);have hb3:Boxed w5 w 48 mb:=Boxed.mo hbm hm (ne _ _ _ _ hbm zac);exact ⟨⟨hb3.cell,(h.below hlw hbl).c0.1,(hP.below (hbl.mono hlo)).bC.row,((hP.below (hbl.mono hlo)).bC.at' x.1 p hp).c1⟩,Boxed.mo hbx hm (ne _ _ _ _ hbx zac),hbl,hb3,(hm.block _ (MQ.1 hbs).1 (ne _ _ _ _ hbs zac)).trans hbs,⟨hm.size,fun k o hk ho=>(hm.block k (MQ.1 hk).1 (fun e=>by
    obtain ⟨_,_,c',hc'⟩:=hkd k e;rw [hk] at hc';cases hc'
    cases ho)).trans hk⟩⟩
  have hown:(V.drew.alloc (.cells #[p.name] 9)).ownsRow w 9 1 (.slice sa L.length sc) L.length (L.flatMap Pg.Cu):=(show V.drew.ownsRow _ _ _ _ _ _ from hN).alloc _;gi_wp2;refine cV (S:=(fun V=>V.cell? w=some ↑mb/\V.cell? mb=some ↑pb/\V.cell? pb=some (.slice b ps.length cap)/\V.cell? ⟨b,x.1*10+1,none⟩=some ↑p.name)) zab zab zbj (hkB _ (MY _ V).drew) (fun u0 => ?_);refine tD (some 20) 1 mb rfl u0 ?_;refine tD (some 21) 2 mb rfl u0 ?_;refine tD (some 22) 3 mb rfl u0 ?_;refine tD (some 23) 4 pb rfl u0 ?_;refine tD (some 24) 5 pb rfl u0 ?_;refine tD (some 25) 6 pb rfl u0 ?_;refine tD (some 26) 7 (.slice b ps.length cap) rfl u0 ?_;refine tD (some 27) 8 (.int .i64 x.1) rfl u0 ?_;refine tD (some 28) 9 (.pointer (some ⟨b,x.1*10,none⟩)) rfl u0 ?_;refine tD (some 29) 10 (.pointer (some ⟨b,x.1*10+1,none⟩)) rfl u0 ?_;refine tD (some 30) 11 (.string p.name) rfl u0 ?_;refine yH [0,12] ?_;refine NJ rfl (fun K hK => ?rg1) (NJ rfl (fun K hK => ?rg2) Ou)
  case' rg1 =>
   go_simp;refine hK.out _ _ u0 (fun u0 => ?_);clear hK K;refine zH 12 rfl fun K hK => ?_;go_simp;refine hK.out _ _ (hkB _ hBa) (fun u0 => ?_);clear hK K;refine zH 13 rfl fun K hK => ?_;refine step_append_lies _ zaf _ _ _ zaf w.heap.size 9 i0 _ 1 16 underlying22 hi hz0 hz1 hz2 rfl zac (.slice sa L.length sc) L.length (L.flatMap Pg.Cu) zaf hown ⟨V.drew.heap.size,0,none⟩ 1 1 [p.name] zaf zaf (World.news_of_block (cs:=#[p.name]) (t:=9) (fr:=(0,0)) (Na V.drew _)) (fun u hu=>zaK) zaa zag zaa (MX hVs hBa.size) _ rfl ?_;intro g5 cap5 w5 hown5 hgrow hat hlt5;obtain ⟨hS5,hbx5,hB5,hbm5,hbs5,hko5⟩:=HG.out w5 hgrow;have c5:=hbx5.cell;have f5:=hbx5.frozen;refine hK.out _ _ hS5 (fun u0 => ?_);clear hK K;refine zH 14 rfl fun K hK => ?_;go_simp;refine hK.out _ _ (by
    exact ⟨(az zap).trans u0.1,(az zap).trans u0.2.1,(az zap).trans u0.2.2.1,(az zap).trans u0.2.2.2⟩) (fun u0 => ?_)
   clear hK K u0;refine Nt zab ?_ _;gi_wp2;have hne5:∀ k,Value.ownBlock (.slice g5 (L.length+1) cap5)=some k->¬ (k=w.heap.size+1+1+1):=fun k hk e=>by
    exact zdj
   have hmo5:Mo (· = w.heap.size+1+1+1) w5 (w5.setCell ⟨w.heap.size+1+1+1,0,none⟩ (.slice g5 (L.length+1) cap5)):=(Mo.refl _ _).set _ _ rfl;have hBf:=hB5.setCell (p:=⟨w.heap.size+1+1+1,0,none⟩) zae (.slice g5 (L.length+1) cap5);refine ⟨(hko5.trans (N0 _ _ _)).from _,fun hT=>Pg.bU hlw (hBf.mono hlo) h.tab5,_,hbx5.set _,?_,hBf,bm hbm5 (p:=⟨w.heap.size+1+1+1,0,none⟩) (by show w.heap.size≠w.heap.size+1+1+1;omega) _,(NF w5 ⟨w.heap.size+1+1+1,0,none⟩ _ _ zcu).trans hbs5⟩;have hof:=hmo5.own hown5 hne5;show Pg.Nms _ _ _ ((Pg.aX (pre++[x])).map (Pg.bP ps));rw [HSN.out];show World.ownsRow _ _ _ _ _ (L++[p.name]).length ((L++[p.name]).flatMap Pg.Cu);rw [Nj,NQ];exact hof
  case' rg2 =>
   go_simp;refine hK.out _ _ (hkB _ hBa) (fun u0 => ?_);clear hK K;refine zH 0 rfl fun K hK => ?_;go_simp;refine hK.out _ _ u0 (fun u0 => ?_);clear hK K;refine zH 13 rfl fun K hK => ?_;refine step_append_lies _ zaf _ _ _ zaf w.heap.size 9 i0 _ 1 16 underlying22 hi hz0 hz1 hz2 rfl zac (.slice sa L.length sc) L.length (L.flatMap Pg.Cu) zaf hown ⟨V.drew.heap.size,0,none⟩ 1 1 [p.name] zaf zaf (World.news_of_block (cs:=#[p.name]) (t:=9) (fr:=(0,0)) (Na V.drew _)) (fun u hu=>zaK) zaa zag zaa (MX hVs hBa.size) _ rfl ?_;intro g5 cap5 w5 hown5 hgrow hat hlt5;obtain ⟨hS5,hbx5,hB5,hbm5,hbs5,hko5⟩:=HG.out w5 hgrow;have c5:=hbx5.cell;have f5:=hbx5.frozen;refine hK.out _ _ hS5 (fun u0 => ?_);clear hK K;refine zH 14 rfl fun K hK => ?_;go_simp;refine hK.out _ _ (by
    exact ⟨(az zap).trans u0.1,(az zap).trans u0.2.1,(az zap).trans u0.2.2.1,(az zap).trans u0.2.2.2⟩) (fun u0 => ?_)
   clear hK K u0;refine Nt zab ?_ _;gi_wp2;have hne5:∀ k,Value.ownBlock (.slice g5 (L.length+1) cap5)=some k->¬ (k=w.heap.size+1+1+1):=fun k hk e=>by
    exact zdj
   have hmo5:Mo (· = w.heap.size+1+1+1) w5 (w5.setCell ⟨w.heap.size+1+1+1,0,none⟩ (.slice g5 (L.length+1) cap5)):=(Mo.refl _ _).set _ _ rfl;have hBf:=hB5.setCell (p:=⟨w.heap.size+1+1+1,0,none⟩) zae (.slice g5 (L.length+1) cap5);refine ⟨(hko5.trans (N0 _ _ _)).from _,fun hT=>Pg.bU hlw (hBf.mono hlo) h.tab5,_,hbx5.set _,?_,hBf,bm hbm5 (p:=⟨w.heap.size+1+1+1,0,none⟩) (by show w.heap.size≠w.heap.size+1+1+1;omega) _,(NF w5 ⟨w.heap.size+1+1+1,0,none⟩ _ _ zcu).trans hbs5⟩;have hof:=hmo5.own hown5 hne5;show Pg.Nms _ _ _ ((Pg.aX (pre++[x])).map (Pg.bP ps));rw [HSN.out];show World.ownsRow _ _ _ _ _ (L++[p.name]).length ((L++[p.name]).flatMap Pg.Cu);rw [Nj,NQ];exact hof
 case done =>
  rintro D ys V hD hys ⟨sv,hbx,hN,hB,hbm,hbs⟩ hdef;rw [hys] at hN;obtain ⟨L,hL⟩:∃ L,Hid ((Pg.els r.act).map (Pg.bP ps)=L):=⟨_,rfl⟩;rw [hL.out] at hN;obtain ⟨sa,sc,rfl⟩:=hN.n;have h1c:(#[ev,.int .u64 r.now,.slice sa L.length sc]:Array Value).toList.all (·.oneCell')=true:=rfl;have hBd:=(MY V V).drew;have hkd:=hN.kind;have hcl2:∀ W:World,Below V V W->() 89 #[ev] W fun e w'=>e = .returned ev/\Below V V w':=fun W hW=>(hcl W).mono (fun e w' y=>⟨y.1,hW.trans (y.2.mono hW.size)⟩);have hnow:∀ W:World,Below V V W->() 19 #[mb] W fun e w'=>e = .returned (.int .u64 r.now)/\Below V V w':=fun W hW=>by
   obtain ⟨qv,wh,a,_⟩:=((h.below hlw hB).below hlw hW).ex;exact (De W lo mb pb qv (r.m wh) a).mono (fun e w' y=>⟨y.1,by rw [y.2];exact hW⟩)
  have hkB:∀ W:World,Below V.heap.size V W->(fun V=>V.cell? w=some ↑mb/\V.cell? ⟨w.heap.size+1+1+1,0,none⟩=some (.slice sa L.length sc)) W:=fun W hW=>⟨(aB hbm hW hbm.lt).cell,(aB hbx hW hbx.lt).cell⟩;have HB:Hid (∀ W:World,Below V.heap.size V W->W.heap[w.heap.size+1]?=some (.cells #[.string ⟨#[]⟩,.int .u64 0,.slice none 0 0] 46 (0,0))/\(fun V=>V.cell? w=some ↑mb/\V.cell? ⟨w.heap.size+1+1+1,0,none⟩=some (.slice sa L.length sc)) (W.setRow (w.heap.size+1) #[ev,.int .u64 r.now,.slice sa L.length sc])/\(W.setRow (w.heap.size+1) #[ev,.int .u64 r.now,.slice sa L.length sc]).heap[D]?=some (.deferred (some []))/\((W.setRow (w.heap.size+1) #[ev,.int .u64 r.now,.slice sa L.length sc]).putObj D (.deferred none)).heap[w.heap.size+1]?=some (.cells #[ev,.int .u64 r.now,.slice sa L.length sc] 46 (0,0))/\Pg.Nms ((W.setRow (w.heap.size+1) #[ev,.int .u64 r.now,.slice sa L.length sc]).putObj D (.deferred none)) w.heap.size (.slice sa L.length sc) L/\Below w w ((W.setRow (w.heap.size+1) #[ev,.int .u64 r.now,.slice sa L.length sc]).putObj D (.deferred none))):=fun W hW=>by
   have hbW:=(hW.block _ (MQ.1 hbs).1).trans hbs;obtain ⟨k1,k2⟩:=hkB W hW;have hDV:=(MQ.1 hdef).1;have hDf:(W.setRow (w.heap.size+1) #[ev,.int .u64 r.now,.slice sa L.length sc]).heap[D]?=some (.deferred (some [])):=(PN W _ _ _ zaa).trans ((hW.block D hDV).trans hdef);have hrow:(W.setRow (w.heap.size+1) #[ev,.int .u64 r.now,.slice sa L.length sc]).heap[w.heap.size+1]?=_:=RO W _ _ #[ev,.int .u64 r.now,.slice sa L.length sc] _ _ hbW;have hmf:Mo (fun k=>k=w.heap.size+1\/k=D) V (W.setRow (w.heap.size+1) #[ev,.int .u64 r.now,.slice sa L.length sc]):=(ay hW).trans ((Dd (gS W (w.heap.size+1) _)).mono (fun i _ e => .inl e));have hmp:Mo (fun k=>k=w.heap.size+1\/k=D) (W.setRow (w.heap.size+1) #[ev,.int .u64 r.now,.slice sa L.length sc]) ((W.setRow (w.heap.size+1) #[ev,.int .u64 r.now,.slice sa L.length sc]).putObj D (.deferred none)):=by
    have hg:=OG (W.setRow (w.heap.size+1) #[ev,.int .u64 r.now,.slice sa L.length sc]) D (.deferred none);exact ⟨hg.os,hg.tape,hg.output,hg.size,fun k hk hn=>hg.block k hk (fun e=>hn (.inr za7))⟩
   have hBf:Below w w ((W.setRow (w.heap.size+1) #[ev,.int .u64 r.now,.slice sa L.length sc]).putObj D (.deferred none)):=(hmf.trans hmp).below hB hB.size (fun i hi e=>by rcases e with e | e <;> omega);refine ⟨hbW,⟨(Nk (w:=W) (PN W _ _ _ (by show w.heap.size≠w.heap.size+1;omega))).trans k1,(Nk (w:=W) (PN W _ _ _ (by show w.heap.size+1+1+1≠w.heap.size+1;omega))).trans k2⟩,hDf,(NU zaa).trans hrow,?_,hBf⟩;refine (hmf.trans (hmp)).own hN (fun g hg e => ?_);obtain ⟨_,gl,c',hc'⟩:=hkd g hg
   rcases e with e | e
   ·rw [e,hbs] at hc';simp at hc'
   ·rw [e,hdef] at hc';simp at hc'
  gi_wp2;refine RU.2 (jV ?_);refine No (S:=(fun V=>V.cell? w=some ↑mb/\V.cell? ⟨w.heap.size+1+1+1,0,none⟩=some (.slice sa L.length sc))) zab (hkB _ (MY _ V).drew) (fun u0 => ?_);refine tD (some 33) 0 (.string ev) rfl u0 ?_;refine tD (some 35) 2 mb rfl u0 ?_;refine tD (some 37) 4 (.slice sa L.length sc) rfl u0 ?_;refine zH 1 rfl fun K hK => ?_;go_simp;refine (hcl2 _ zal).mono ?_;rintro e wA ⟨rfl,hA⟩;refine hK.out _ _ (hkB wA hA) (fun u0 => ?_);clear hK K;refine zH 3 rfl fun K hK => ?_;go_simp;refine (hnow _ zal).mono ?_;rintro e wA ⟨rfl,hA⟩;refine hK.out _ _ (hkB wA hA) (fun u0 => ?_);clear hK K;refine tD (some 38) 5 (.agg #[ev,.int .u64 r.now,.slice sa L.length sc]) rfl u0 ?_;refine yH [6] ?_;refine oC rfl zab (fun K hK => ?_) Ou;refine kJ 46 _ _ rfl (w.heap.size+1) 46 #[.string ⟨#[]⟩,.int .u64 0,.slice none 0 0] #[ev,.int .u64 r.now,.slice sa L.length sc] rfl rfl (HB.out wA hA).1 zab rfl h1c ?_;refine hK.out _ _ (HB.out wA hA).2.1 (fun u0 => ?_);clear hK K;refine Nt zab ?_ _;obtain ⟨y1,y2,y3,y4,y5,y6⟩:=HB.out wA hA;unfold oq;gi_wp2;refine ⟨zad,.inl ⟨_,_,rfl,NP y3,?_⟩⟩;refine ⟨.agg #[ev,.int .u64 r.now,.slice sa L.length sc],?_,_,rfl,(by rw [hL.out];exact y5),y6⟩;rw [iB rfl];have hld:=run_loadVar_mid (P:=prog) ((wA.setRow (w.heap.size+1) #[ev,.int .u64 r.now,.slice sa L.length sc]).putObj D (.deferred none)) (w.heap.size+1) 0 46 [ev,.int .u64 r.now,.slice sa L.length sc] _ (kC y4) underlying46 rfl zab;simpa [asAddr] using hld
 case stop =>
  exact zfj
namespace Pg
def whz (i:Nat):Value:=if (i-28) % 65=64/\i<418 then .int .u64 0 else .pointer none
def r0:RSt:=⟨0,fun _=>0,[],0,[],0⟩
def mz (pb:Nat):Array Value:=((List.range 420).map (eR pb (.slice none 0 0) (r0.m whz))).toArray
end Pg
theorem F5 (pb:Nat):Tryz.prog.built 88 [(0,.pointer (some ⟨pb,0,none⟩))]=some (Pg.mz pb):=zab
theorem oI (pb:Nat) (w:World):(Instr.build 88 #[(0,.pointer (some ⟨pb,0,none⟩))]).run prog w = .ok (.agg (Pg.mz pb)) w:=run_build w _ _ _ (F5 pb)
namespace Pg
theorem IG {r:Nat} (h:isR r):whz (28+r) = .pointer none:=by
 unfold whz;rw [M4 (by rcases h with h | h <;> omega)]
theorem IF {k:Nat} (h:k<6):whz (28+(k*65+64)) = .int .u64 0:=by
 unfold whz;rw [M6 zaa]
theorem MT.made (hl:Lw lo) (hlo:lo<=w.heap.size) (hls:lo.s<=w.heap.size) (h6:TabAt 5 Lib.deBruijn64tab w) (h5:TabAt 1 Lib.deBruijn32tab w):MT (w.alloc (.cells (mz pb) 88)) lo w pb r0/\Rf lo w (w.alloc (.cells (mz pb) 88)):=by
 have hb:Below w w (w.alloc (.cells (mz pb) 88)):=(MY _ w).alloc (MR _) _;refine ⟨⟨⟨.slice none 0 0,whz,⟨⟨mz pb,Na w _,?_,fun i hi => ?_⟩,QAt.nil _ _,lo.new _ hls,fun g hg=>(by cases hg),MX hls hb.size⟩,fun _=>[],⟨⟨fun r hr=>IG hr,fun r hr i x hx=>(by simp at hx),fun r hr x hx=>zaH,fun r q _ _ _ x hx=>zaH,fun r hr=>R6⟩,fun k hk=>⟨0,zac,IF hk,fun s hs=>zad⟩⟩,fun r hr=>rfl,fun t ht=>by cases ht⟩,MX hlo hb.size,zac,zac,zac,fk hl (hb.mono hlo) h6,bU hl (hb.mono hlo) h5⟩,RfE.of hb hlo⟩
 ·unfold mz;simp
 ·unfold mz;rw [Ps,Nf,Rt hi];rfl
theorem mQ {lo:Nat} {n:Nat} (hP:jh w lo pb b cap ps fin EN LV hvs H D mbm n T M Lr pmF acF) (hz:SzP ps EN LV) (hza:∀ m,∀ a∈acF m,PA.sz a) (hr:ROK ps r) (hq:QOK r) (x:ByteArray):ROK ps (aS ps fin EN LV H D M Lr pmF acF r x)/\QOK (aS ps fin EN LV H D M Lr pmF acF r x):=by
 refine ⟨CQ hP.inn hr (fun m hm => ?_),CR hz hq (fun m _=>hza m)⟩;obtain ⟨c1,_⟩:=fo ps r.act (fun m=>(pmF m).lv) (fun m=>(pmF m).own) (gh M Lr x (els (inn ps r.act))) _ (MR _);rw [N6] at c1;exact (hP.want x _ m (c1 m hm)).en
theorem Hz {ps:List PS} {step:RSt->ByteArray->RSt} (hs:∀ r x,ROK ps r->QOK r->ROK ps (step r x)/\QOK (step r x)):∀ (n:Nat) (r:RSt),ROK ps r->QOK r->ROK ps (eu step n r)/\QOK (eu step n r):=fun n=>by
 induction n with
 | zero =>
  intro r h k;cases hq:r.q with
  | nil=>rw [mj hq];exact ⟨h,k⟩
  | cons x qs =>
   by_cases hf:r.fin=0
   ·rw [sR hq hf];exact ⟨⟨h.act,h.kept⟩,⟨k.q,.inr (.inr rfl),k.tm⟩⟩
   ·rw [pJ hf];exact ⟨h,k⟩
 | succ n ih =>
  intro r h k;cases hq:r.q with
  | nil=>rw [mj hq];exact ⟨h,k⟩
  | cons x qs =>
   by_cases hf:r.fin=0
   ·rw [sQ hq hf];obtain ⟨a,b⟩:=hs { r with q:=qs } x ⟨h.act,h.kept⟩ ⟨fun e he=>k.q e (by rw [hq];exact NL _ he),k.fin,k.tm⟩;exact ih _ a b
   ·rw [pJ hf];exact ⟨h,k⟩
theorem ny (hs:∀ r x,ROK ps r->QOK r->ROK ps (step r x)/\QOK (step r x)) (h:ROK ps r) (k:QOK r):ROK ps (eO step r)/\QOK (eO step r):=by
 obtain ⟨a,b⟩:=Hz hs 60 r h k;exact ⟨⟨a.act,a.kept⟩,⟨fun e he=>(by cases he),b.fin,b.tm⟩⟩
def dJ (ps:List PS) (fin:Nat) (EN LV:Nat->List PA) (H:List HV) (D:Nat->Bool) (M:ByteArray->Option Nat) (Lr:Nat->List (Option Nat)) (pmF:Nat->PM) (acF:Nat->List PA) (s:Nat):RSt :=
 eO (aS ps fin EN LV H D M Lr pmF acF) (cM ps fin EN r0 (els s))
def fuelV (e:Nat):Value:=if e=6 then eM 6 else .nilIface
end Pg
theorem CI {op:Oper} {a:Act} {K:Act->World->Prop} {Q:Exit->Act->World->Prop} (x:Operand) (ho:op.op = .build 88 #[(0,x)]) (pb:Nat) (hx:a.eval x = .pointer (some ⟨pb,0,none⟩)) (h:K (a.put op.dst (.agg (Pg.mz pb))) w):op.wp prog a w K Q:=by
 unfold Oper.wp execOp;simp only [ho,List.map_toArray,List.map_cons,List.map_nil,hx,Sem.run_bind,oI,Result.andThen_ok,Sem.run_pure];exact h
theorem Cm (w:World) (lo:Pg.Lo) (pb b cap:Nat) (ps:List Pg.PS) (fin:Nat) (EN LV:Nat->List Pg.PA) (hvs:Ref.Sl) (H:List Pg.HV) (D:Nat->Bool) (mbm n:Nat) (T:ByteArray->Option (List (Option Pg.PM))) (M:ByteArray->Option Nat) (Lr:Nat->List (Option Nat)) (pmF:Nat->Pg.PM) (acF:Nat->List Pg.PA) (p0:Pg.PS) (hP:Pg.jh w lo pb b cap ps fin EN LV hvs H D mbm n T M Lr pmF acF) (hz:Pg.SzP ps EN LV) (hza:∀ m,∀ a∈acF m,Pg.PA.sz a) (hp0:ps[0]?=some p0) (hwt:p0.wth<2 ^ ps.length) (hlo:lo<=w.heap.size) (hls:lo.s<=w.heap.size) (h6:TabAt 5 Lib.deBruijn64tab w) (h5:TabAt 1 Lib.deBruijn32tab w) (hcl:∀ V:World,() 89 #[.string ⟨#[]⟩] V fun e w'=>e = .returned (.string ⟨#[]⟩)/\Below V V w') :
  () 38 #[pb] w fun e w'=>∃ mb sb sv,e = .returned (.tuple #[.pointer (some ⟨mb,0,none⟩),.slice (some ⟨sb,0,none⟩) 1 1,Pg.fuelV (Pg.dJ ps fin EN LV H D M Lr pmF acF p0.wth).fin])/\w'.heap[sb]?=some (.cells #[.string ⟨#[]⟩,.int .u64 (Pg.dJ ps fin EN LV H D M Lr pmF acF p0.wth).now,sv] 46 (0,0))/\Pg.Nms w' lo sv ((Pg.els (Pg.dJ ps fin EN LV H D M Lr pmF acF p0.wth).act).map (Pg.bP ps))/\Pg.MT w' lo mb pb (Pg.dJ ps fin EN LV H D M Lr pmF acF p0.wth)/\Pg.Rf lo w w'/\lo<=sb/\Pg.Idl w' mb:=by
 have hlw:=hP.bC.lw;have hN:=hP.N;obtain ⟨hM0,hR0⟩:=Pg.MT.made (pb:=pb) hlw hlo hls h6 h5;have hn0:0<ps.length:=(MZ.1 hp0).1;have hr0:Pg.ROK ps Pg.r0:=⟨OF _,fun _=>OF _⟩;have hq0:Pg.QOK Pg.r0:=⟨fun e he=>(by cases he),.inl rfl,zac,fun x hx=>zaH⟩;have hr1:=Pg.lX (fin:=fin) (EN:=EN) (Pg.els p0.wth) Pg.r0 hr0 (Pg.gQ hwt);have hq1:=Pg.lY hz (fin:=fin) (Pg.els p0.wth) Pg.r0 hq0;have hlq1:=Pg.nQ hP.bC (Pg.els p0.wth) Pg.r0 (Pg.gQ hwt);have hle:=Pg.qH p0.wth;obtain ⟨hr2,hq2⟩:=Pg.ny (fun r x h k=>Pg.mQ hP hz hza h k x) hr1 hq1;have HEN:Hid (() 57 #[w,.int .u32 p0.wth] (w.alloc (.cells (Pg.mz pb) 88)) fun e w'=>e = .returned (.tuple #[])/\Hid (Pg.MT w' lo w pb (Pg.cM ps fin EN Pg.r0 (Pg.els p0.wth))/\Pg.Rf lo w w')) :=
  (uO _ lo w pb b cap Pg.r0 ps fin p0.wth EN LV (hP.bC.below hR0.bel) hM0 (Pg.qu hN hwt) (Pg.gQ hwt) (by show 0<=_;omega)).mono (fun e w' x=>⟨x.1,x.2.1,hR0.trans x.2.2⟩)
 have HAR:Hid (∀ V,Hid (Pg.MT V lo w pb (Pg.cM ps fin EN Pg.r0 (Pg.els p0.wth))/\Pg.Rf lo w V)->() 58 #[w] V fun e w'=>e = .returned (.tuple #[])/\Hid ((Pg.MT w' lo w pb (Pg.dJ ps fin EN LV H D M Lr pmF acF p0.wth)/\Pg.Idl w' w)/\Pg.Rf lo w w')):=fun V hV =>
  (jB V lo w pb b cap _ ps fin EN LV hvs H D mbm n T M Lr pmF acF (hP.rf hV.out.2) hz hza hV.out.1 hr1 hq1 (by have:Pg.r0.q.length=0:=rfl;omega)).mono (fun e w' x=>⟨x.1,⟨x.2.1,x.2.2.2⟩,hV.out.2.trans x.2.2.1⟩)
 have hra:(Pg.dJ ps fin EN LV H D M Lr pmF acF p0.wth).act<2 ^ ps.length:=hr2.act;have hrf:(Pg.dJ ps fin EN LV H D M Lr pmF acF p0.wth).fin=0\/(Pg.dJ ps fin EN LV H D M Lr pmF acF p0.wth).fin=5\/(Pg.dJ ps fin EN LV H D M Lr pmF acF p0.wth).fin=6:=hq2.fin;clear hr2 hq2 hr1 hq1 hr0 hq0 hlq1 hle;generalize Pg.dJ ps fin EN LV H D M Lr pmF acF p0.wth=r2 at *;have HST:Hid (∀ V,Hid ((Pg.MT V lo w pb r2/\Pg.Idl V w)/\Pg.Rf lo w V)->() 59 #[w,.string ⟨#[]⟩] V fun e w'=>∃ a k c,e = .returned (.agg #[.string ⟨#[]⟩,.int .u64 r2.now,.slice a k c])/\Hid ((Pg.MT w' lo w pb r2/\Pg.Idl w' w)/\Pg.Rf lo w w'/\Pg.Nms w' lo (.slice a k c) ((Pg.els r2.act).map (Pg.bP ps)))):=fun V hV =>
  (Ai V lo w pb b cap r2 ps fin EN LV ⟨#[]⟩ (hP.rf hV.out.2).bC hV.out.1.1 (Pg.gQ hra) hcl).mono (fun e w' x=>by
   obtain ⟨sv,x1,x2,x3⟩:=x;obtain ⟨a,c,rfl⟩:=x2.n;exact ⟨a,_,c,x1,⟨hV.out.1.1.below hlw x3,hV.out.1.2.bel hV.out.1.1.lt x3⟩,hV.out.2.trans (Pg.RfE.of x3 hV.out.1.1.lo'),x2.1,x2.2.imp id (fun ⟨g,cp,cu,y1,y2,y3⟩=>⟨g,cp,cu,y1,MX hV.out.1.1.lo' y2,y3⟩)⟩)
 have HOF:Hid (∀ V,Hid (Pg.MT V lo w pb r2)->() 60 #[w] V fun e w'=>e = .returned (Pg.fuelV r2.fin)/\w'=V):=fun V hV=>by
  obtain ⟨qv,wh,a,_⟩:=hV.out.ex;exact jq V lo w pb qv (r2.m wh) r2.fin a rfl hrf
 have hPa:=(hP.bC.below hR0.bel).bC;have c0:=hPa.row;have c7:=(hPa.at' 0 p0 hp0).c7;simp only [Nat.zero_mul,Nat.zero_add] at c7;have hn0':((0:Int)<(ps.length:Int)):=zaa;have HB:Hid (∀ (V:World) (o:Obj),Below V.heap.size V (V.alloc o)):=fun V o=>(MY _ V).alloc (MR _) _;clear hP hza hz hM0 hR0 hPa h5 h6 hcl hra hrf;go_enter func38,ntmps38;go_wp2_with (first
  | (show wpList _ _ _ (Oper.mk _ (.build _ _) _ _ _ _::_) _ _;refine wpList_plain rfl (fun _ hK=>CI _ rfl pb rfl (hK _ _ ?_)))
  | (go_at_call 57;refine HEN.out.mono ?_;rintro e w1 ⟨rfl,h1⟩)
  | (go_at_call 58;refine (HAR.out _ h1).mono ?_;rintro e w2 ⟨rfl,h2⟩)
  | (go_at_call 59;refine (HST.out _ h2).mono ?_;rintro e w3 ⟨sa,sk,sc,rfl,h3⟩)
  | (go_at_call 60;refine (HOF.out _ (h3.out.1.1.below hlw (HB.out _ _))).mono ?_;rintro e w4 ⟨rfl,hw4⟩;rw [hw4];clear hw4 w4))
 go_ret3;have hbl:=HB.out w3 (.cells #[.string ⟨#[]⟩,.int .u64 r2.now,.slice sa sk sc] 46);exact ⟨_,_,_,rfl,Na _ _,Kd.row (bD (E:=fun _=>False) hbl) h3.out.2.2 (fun h=>h),h3.out.1.1.below hlw hbl,h3.out.2.1.trans (Pg.RfE.of hbl h3.out.1.1.lo'),h3.out.1.1.lo',h3.out.1.2.bel h3.out.1.1.lt hbl⟩
