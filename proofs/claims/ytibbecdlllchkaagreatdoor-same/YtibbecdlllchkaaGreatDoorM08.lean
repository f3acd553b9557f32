import Derived.Test.YtibbecdlllchkaaGreatDoorM07
set_option maxRecDepth 100000
set_option maxHeartbeats 8000000
namespace Go.Proofs.YtibbecdlllchkaaGreatDoor
variable {zp:Prop}
theorem zcL(h:zp:=by
 refine tD (some 49) 5 mb rfl Pm ?_;refine tD (some 50) 6 mb rfl Pm ?_;refine tD (some 51) 7 (mb,2) rfl Pm ?_;refine zH 8 rfl fun K hK=>?_;go_simp;refine(Vu _ zal).mono ?_;rintro e wA ⟨rfl,hA⟩;refine hK.out _ _ (VO wA hA) (fun Pm=>?_);clear hK K;refine tD (some 53) 9 (.int .u32 e3) rfl Pm ?_;refine tD (some 6) 10 (.int .u32 e3) rfl Pm ?_;refine PX zab ?_ _;clear Pm;go_wp2
 go_roundw
 case rel=>exact⟨k+1,zad,by rw[HS2.out],zaa,XU.out w9 wA M9.out C9.out hA⟩
 case measure=>simp only[intOf];omega):zp:=h
theorem zc4(h:zp:=by
 cases hk
 rcases U6.2 with⟨a,_⟩|⟨g',cp',cu',a,_,c',_⟩
 ·cases a
 ·simp only[Value.slice.injEq,Option.some.injEq,Addr.mk.injEq]at a;obtain⟨⟨rfl,_⟩,_⟩:=a;have hq:=Y4;rw[<- e]at hq;rw[show w5.heap[g5]?=_ from hq]at c';simp at c'):zp:=h
theorem zc9(h:zp:=by
 clear HANS HPOP y1 y2;go_wp2_with(go_at_call 104;refine hans.mono ?_;intro e w9 h9;obtain⟨rfl,h9⟩:=h9;have H9:Hid _:=h9;clear h9)
 go_roundw
 case rel=>exact⟨k+1,zad,zaa,H9⟩
 case measure=>simp only[intOf];omega):zp:=h
theorem zdS(h:zp:=by
 rw[hx]at c419;unfold Y.fw at c419;rw[Pu zac]at c419;go_wp2;go_end0;exact⟨rfl,E3.out,E4.out⟩):zp:=h
theorem zfe(h:zp:=by
 go_wp2;go_end0;exact⟨rfl,E3.out,E4.out⟩):zp:=h
theorem zaq(h:zp:=by intro h;injection h with h1;omega):zp:=h
theorem zbQ(h:zp:=by rw[Pt V _ _ _ _ _ x1];rfl):zp:=h
theorem zcA(h:zp:=by show w.heap.size+1≠w.heap.size+1+1+1;omega):zp:=h
open Tryz
variable {N s pb b m mb fin cap mbm base:Nat}{w w' W:World}{lo:Y.Lo}{ps:List Y.PS}{x:Y.PM}{A:List Y.PA}{r:Y.RSt}{D:Nat->Bool}{H:List Y.HV}{EN LV acF:Nat->List Y.PA}{pmF:Nat->Y.PM}{C:List Nat}{hvs:U.Sl}{T:()->Option (List (Option Y.PM))}{M:()->Option Nat}{Lr:Nat->List (Option Nat)}{step:Y.RSt->()->Y.RSt}{qs L:List ()}{sv:Value}{row:Option Nat}
section
open Go.RowKit Go.Proofs Go.Shelf
namespace Y
def Fk(ps:List PS):En->Prop
 |.nil=>True
 |.all a=>a<2 ^ ps.length
 |.hist p t=>p<2 ^ ps.length/\∃pt ow po,ps[t]?=some pt/\pt.owner=((ow:Nat):Int)/\ps[ow]?=some po/\(∀k,k<2 ^ ps.length->ef ps ow k<2 ^ ps.length)/\∀s,s<2 ^ ps.length->complete ps s<2 ^ ps.length
theorem wv{ps:List PS}{e:En}(h:Fk ps e){kept:Nat->Nat}(hk:∀i,kept i<2 ^ ps.length):enters ps kept e<2 ^ ps.length:=by
 cases e with
 |nil=>exact Q3 _
 |all a=>exact h
 |hist p t=>
  obtain⟨h1,pt,ow,po,h2,h3,h4,h5,h6⟩:=h;have ho:vE ps t=ow:=by unfold vE;rw[h2];dsimp only;rw[h3];simp
  show complete ps (p|||ef ps (vE ps t) (kept t))<_;rw[ho];exact h6 _ (Qt h1 (h5 _ (hk t)))
structure ROK(ps:List PS)(r:RSt):Prop where
 act:r.act<2 ^ ps.length
 kept:∀i,r.kept i<2 ^ ps.length
theorem rG(hN:N<=24)(h:s<2 ^ N):s<4294967296:=PY h (Pr (Rc zac hN) zac)
structure MvA(w:World)(lo:Nat)(pb b:Nat)(ps:List PS)(m:Nat)(x:PM)(A:List PA):Prop where
 at':eP w pb b m x
 own:x.own<ps.length
 lv:x.lv<2 ^ ps.length
 ai:gu w lo x.ai A
 en:Fk ps x.en
theorem MvA.rf(h:MvA w lo pb b ps m x A)(hR:Rf lo w w'):MvA w' lo pb b ps m x A:=
 ⟨h.at'.kd hR.kd (fun t ht=>by rcases ht with rfl|rfl|rfl|rfl|rfl<;>(unfold dc;decide)),h.own,h.lv,h.ai.below hR.bel,h.en⟩
theorem MvA.mvb{lo:Nat}(h:MvA w lo pb b ps m x A)(hN:ps.length<=24):MvB w m x.own x.lv:=by
 obtain⟨fv,hm,_⟩:=h.at';exact⟨by rw[Pt w _ _ _ _ _ hm];rfl,by rw[Pt w _ _ _ _ _ hm];rfl,rG hN h.lv,_,hm⟩
theorem MT.kept(h:MT W lo mb pb r){t:Nat}(ht:t<24):W.cell? (mb,2+t)=some (.int .u32 (r.kept t)):=by
 obtain⟨qv,wh,m,b⟩:=h.ex;rw[m.cell (2+t) zaa];unfold fF;rw[Pu zaa,Pu zaa,PC zaa,show 2+t-2=t by omega];rfl
theorem iI(h:s<2 ^ N):∀i,i∈els s->i<N:=fun _ hi=>yu h hi
end Y
theorem At(w:World)(lo:Y.Lo)(mb pb b cap:Nat)(r:Y.RSt)(ps:List Y.PS)(fin:Nat)(EN LV:Nat->List Y.PA)(p t c3 c7 c6 c5:Nat)(hP:Y.gN w lo pb b cap ps fin EN LV)(h:Y.MT w lo mb pb r)(hr:Y.ROK ps r)(hN:ps.length<=24)(hE:Y.Fk ps (.hist p t))(h3:Boxed w c3 103 pb)(h7:Boxed w c7 167 (.int .u32 p))(h6:Boxed w c6 258 (b,t*10))(h5:Boxed w c5 3 (.int .i64 t)):
  () 160 #[(mb,2),c3,c7,c6,c5] w fun e w'=>e=.returned (.int .u32 ((Y.enters ps r.kept (.hist p t):Nat):Int))/\Below w w w':=by
 obtain⟨e1,pt,ow,po,e2,e3,e4,e5,e6⟩:=hE;have ho:Y.vE ps t=ow:=by unfold Y.vE;rw[e2];dsimp only;rw[e3];simp
 have Wz:t<ps.length:=(Ps.1 e2).1;have U8:=h.lo';have hk:=hr.kept t;have:=yK w pb b cap ps c3 c7 c6 c5 p t ow mb 2 (r.kept t) pt po e2 e4 e3 (Y.rG hN e1) (Y.rG hN hk) (Y.iI hk) (Y.iI (Qt e1 (e5 _ hk))) (fun i q hq j hj=>(hP.pts i q hq j hj).2) hP.bJ (by have:=hP.pb';omega) (by have:=hP.b';omega) (by have:=hP.lw.g5;omega) h.tab5 h3 h7 h6 h5 h.lt (h.kept zaa);show Calls _ _ _ _ fun e w'=>e=.returned (.int .u32 ((Y.complete ps (p|||Y.ef ps (Y.vE ps t) (r.kept t)):Nat):Int))/\_;rw[ho];exact this
namespace Y
def gA(act:Nat)(pmF:Nat->PM)(C:List Nat):Nat:=C.foldl (fun a m=>a|||((pmF m).lv&&&act)) 0
theorem Df(act:Nat)(pmF:Nat->PM)(C:List Nat)(m:Nat):gA act pmF (C++[m])=gA act pmF C|||((pmF m).lv&&&act):=by unfold gA;rw[QQ];rfl
theorem pE{N act:Nat}(pmF:Nat->PM)(h:act<2 ^ N):∀(C:List Nat) (a:Nat),a<2 ^ N->C.foldl (fun a m=>a|||((pmF m).lv&&&act)) a<2 ^ N
 |[],_,ha=>ha
 |_::C,_,ha=>pE pmF h C _ (Qt ha (Qq SS h))
def qu(ps:List PS)(pmF:Nat->PM)(acF:Nat->List PA)(z:RSt×Nat)(m:Nat):RSt×Nat:=(doL z.1 (acF m),z.2|||enters ps (doL z.1 (acF m)).kept (pmF m).en)
def ie(ps:List PS)(pmF:Nat->PM)(acF:Nat->List PA)(z:RSt×Nat)(C:List Nat):RSt×Nat:=C.foldl (qu ps pmF acF) z
theorem Fw(ps:List PS)(pmF:Nat->PM)(acF:Nat->List PA)(z:RSt×Nat)(C:List Nat)(m:Nat):ie ps pmF acF z (C++[m])=qu ps pmF acF (ie ps pmF acF z C) m:=by unfold ie;rw[QQ];rfl
theorem Fp(r:RSt)(a:PA):(iH r a).kept=r.kept:=by
 exact zeZ
theorem Ap:∀(L:List PA) (r:RSt),(doL r L).kept=r.kept
 |[],_=>rfl
 |x::L,r=>(Ap L (iH r x)).trans (Fp r x)
theorem sR(h:ROK ps r)(L:List PA):ROK ps (doL r L):=⟨by rw[yp];exact h.act,by rw[Ap];exact h.kept⟩
def l9(ps:List PS)(fin:Nat)(EN LV:Nat->List PA)(H:List HV)(D:Nat->Bool)(pmF:Nat->PM)(acF:Nat->List PA)(r:RSt)(C:List Nat):RSt:=
 let left:=gA r.act pmF C
 let z:=ie ps pmF acF (fi LV (fE ps left D H r H.length) (els left).reverse,0) C
 de ps fin EN z.1 (els z.2)
theorem nD{ps:List PS}(LV:Nat->List PA):∀(l:List Nat) (r:RSt),ROK ps r->ROK ps (fi LV r l)
 |[],_,h=>h
 | i::l,r,h=>nD LV l (vw LV r i) (by
  have h1:=sR h (LV i);exact⟨Qq Rh h1.act,h1.kept⟩)
theorem LJ{left:Nat}(hi:∀a,a<2 ^ ps.length->inn ps a<2 ^ ps.length)(h:ROK ps r)(k:Nat):ROK ps (nX ps left D H r k):=by
 unfold nX;split
 ·exact h
 ·split
  ·exact h
  ·split
   ·refine⟨h.act,fun i=>?_⟩;rename_i y _ _ po _ _;by_cases e:i=y.idx
    ·subst e;show upd r.kept _ _ _<_;rw[aE];unfold oe;split
     ·exact Qq Rh (hi _ h.act)
     ·exact Qq Rh h.act
    ·show upd r.kept _ _ _<_;rw[aH _ _ e];exact h.kept i
   ·exact h
theorem pC{ps:List PS}{left:Nat}{D:Nat->Bool}{H:List HV}{r:RSt}(hi:∀a,a<2 ^ ps.length->inn ps a<2 ^ ps.length)(h:ROK ps r):∀n,ROK ps (fE ps left D H r n)
 |0=>h
 |n+1=>by rw[oH];exact LJ hi (pC hi h n) n
theorem Lt(h:ROK ps r)(i:Nat):ROK ps (lz ps fin r i):=by
 obtain⟨a,_,_,b,_⟩:=qC ps fin r i;exact⟨by rw[a];exact h.act,by rw[b];exact h.kept⟩
theorem Ll(h:ROK ps r){i:Nat}(hi:i<ps.length):ROK ps (kH ps fin EN r i):=by
 have h1:ROK ps { r with act:=r.act|||2 ^ i }:=⟨Qt h.act (SJ zac hi),h.kept⟩;have h2:=sR h1 (EN i);unfold kH;dsimp only;split
 ·split
  ·exact Lt h2 i
  ·exact h2
 ·exact h2
theorem ny{ps:List PS}{fin:Nat}{EN:Nat->List PA}:∀(l:List Nat) (r:RSt),ROK ps r->(∀i∈l,i<ps.length)->ROK ps (de ps fin EN r l)
 |[],_,h,_=>h
 |i::l,r,h,hl=>ny l (kH ps fin EN r i) (Ll h (hl i (PZ ..))) (fun j hj=>hl j (P3 _ hj))
theorem rO{ps:List PS}{pmF:Nat->PM}{acF:Nat->List PA}:∀(C:List Nat) (z:RSt×Nat),ROK ps z.1->z.2<2 ^ ps.length->(∀m∈C,Fk ps (pmF m).en)->ROK ps (ie ps pmF acF z C).1/\(ie ps pmF acF z C).2<2 ^ ps.length
 |[],_,h,h2,_=>⟨h,h2⟩
 |m::C,z,h,h2,hC=>rO C (qu ps pmF acF z m) (sR h _) (Qt h2 (wv (hC m (PZ ..)) (sR h _).kept)) (fun x hx=>hC x (P3 _ hx))
theorem Ey(hi:∀a,a<2 ^ ps.length->inn ps a<2 ^ ps.length)(h:ROK ps r)(hC:∀m∈C,Fk ps (pmF m).en):ROK ps (l9 ps fin EN LV H D pmF acF r C):=by
 have h1:=rO (pmF:=pmF) (acF:=acF) C (fi LV (fE ps (gA r.act pmF C) D H r H.length) (els (gA r.act pmF C)).reverse,0) (nD LV _ _ (pC hi h _)) (Q3 _) hC;exact ny _ _ h1.1 (iI h1.2)
structure ka(w:World)(lo:Nat)(pb b cap:Nat)(ps:List PS)(fin:Nat)(EN LV:Nat->List PA)(hvs:U.Sl)(H:List HV)(D:Nat->Bool)(mbm n:Nat)(T:()->Option (List (Option PM)))(M:()->Option Nat)(Lr:Nat->List (Option Nat))(pmF:Nat->PM)(acF:Nat->List PA):Prop where
 bJ:gN w lo pb b cap ps fin EN LV
 hist:zL w pb ps hvs H D
 mov:Fo w lo pb b ps.length cap hvs.v fin mbm n T M Lr
 mva:∀(ev:()) (g i m:Nat),M ev=some g->(Lr g)[i]?=some (some m)->MvA w lo pb b ps m (pmF m) (acF m)
 N:ps.length<=24
 inn:∀a,a<2 ^ ps.length->inn ps a<2 ^ ps.length
theorem ka.rf{n:Nat}(h:ka w lo pb b cap ps fin EN LV hvs H D mbm n T M Lr pmF acF)(hR:Rf lo w w'):ka w' lo pb b cap ps fin EN LV hvs H D mbm n T M Lr pmF acF:=
 ⟨h.bJ.below hR.bel,h.hist.rf hR h.bJ.pb',h.mov.rf hR h.bJ.pb',fun ev g i m a b=>(h.mva ev g i m a b).rf hR,h.N,h.inn⟩
theorem ka.want{lo:Nat}{n:Nat}(h:ka w lo pb b cap ps fin EN LV hvs H D mbm n T M Lr pmF acF)(ev:())(l:List Nat):∀m∈ia M Lr ev l,MvA w lo pb b ps m (pmF m) (acF m):=fun m hm=>by
 unfold ia at hm;split at hm
 ·cases hm
 ·rename_i g hg;obtain⟨i,hi⟩:=xE hm;exact h.mva ev g i m hg hi
def aZ(ps:List PS)(fin:Nat)(EN LV:Nat->List PA)(H:List HV)(D:Nat->Bool)(M:()->Option Nat)(Lr:Nat->List (Option Nat))(pmF:Nat->PM)(acF:Nat->List PA)(r:RSt)(ev:()):RSt:=
 l9 ps fin EN LV H D pmF acF r (gR ps r.act (fun m=>(pmF m).lv) (fun m=>(pmF m).own) (ia M Lr ev (els (inn ps r.act))))
end Y
theorem Cu(w:World)(lo:Y.Lo)(mb pb b cap:Nat)(r:Y.RSt)(ps:List Y.PS)(fin:Nat)(EN LV:Nat->List Y.PA)(hvs:U.Sl)(H:List Y.HV)(D:Nat->Bool)(mbm n:Nat)(T:()->Option (List (Option Y.PM)))(M:()->Option Nat)(Lr:Nat->List (Option Nat))(pmF:Nat->Y.PM)(acF:Nat->List Y.PA)(ev:())(hP:Y.ka w lo pb b cap ps fin EN LV hvs H D mbm n T M Lr pmF acF)(h:Y.MT w lo mb pb r)(hr:Y.ROK ps r)(Wq:ev.size<=1000000)(Yb:r.q.length<=4390000000000):
  () 104 #[mb,ev] w fun e w'=>e=.returned (.tuple #[])/\Y.MT w' lo mb pb (Y.aZ ps fin EN LV H D M Lr pmF acF r ev)/\Y.Rf lo w w':=by
 have Vc:=hP.bJ.lw;have U8:=h.lo';have hN:=hP.N;have hwm:=hP.want ev (Y.els (Y.inn ps r.act));have hch:=CH w lo mb pb b cap r ps fin EN LV hvs.v mbm n T M Lr ev (fun m=>(pmF m).lv) (fun m=>(pmF m).own) _ rfl hP.bJ hP.mov h Wq (Y.iI hr.act) (Y.iI (hP.inn _ hr.act)) (fun x hx=>⟨(hwm x hx).mvb hN,(hwm x hx).own⟩);obtain⟨c1,c2⟩:=Y.gd ps r.act (fun m=>(pmF m).lv) (fun m=>(pmF m).own) (Y.ia M Lr ev (Y.els (Y.inn ps r.act))) _ (Po _);rw[Qy]at c1 c2;have hwl:(Y.ia M Lr ev (Y.els (Y.inn ps r.act))).length<=32:=by
  exact zc5
 have HAN:Hid (Y.aZ ps fin EN LV H D M Lr pmF acF r ev=Y.l9 ps fin EN LV H D pmF acF r (Y.gR ps r.act (fun m=>(pmF m).lv) (fun m=>(pmF m).own) (Y.ia M Lr ev (Y.els (Y.inn ps r.act))))):=rfl;generalize Y.gR ps r.act (fun m=>(pmF m).lv) (fun m=>(pmF m).own) (Y.ia M Lr ev (Y.els (Y.inn ps r.act)))=C at *;have hCm:∀m∈C,Y.MvA w lo pb b ps m (pmF m) (acF m):=fun m hm=>hwm m (c1 m hm);have hCl:C.length<=32:=zaa;clear hwm c1 c2 hwl;have HV:Hid (∀V,Y.Rf lo w V->Y.ka V lo pb b cap ps fin EN LV hvs H D mbm n T M Lr pmF acF/\∀m∈C,Y.MvA V lo pb b ps m (pmF m) (acF m)):=fun V hV=>⟨hP.rf hV,fun m hm=>(hCm m hm).rf hV⟩;have H0:Hid _:=h;have HR0:Hid _:=hr;have YT:=hP.inn;have hhl:=hP.hist.len;have HIN:Hid _:=YT;clear h hP hCm hr YT;go_enter func104,ntmps104;go_wp2_with(go_at_call 154;refine hch.mono ?_;intro e w1 h1;obtain⟨sv,rfl,hT1,U3⟩:=h1;obtain⟨sa,sc,rfl⟩:=hT1.n;have HT1:Hid _:=hT1;clear hT1);have HC:Hid (∀(k x:Nat) (V:World),Y.Rf lo w1 V->C[k]?=some x->∃g,sa=some ⟨g,0,none⟩/\V.cell? ⟨g,k,none⟩=some (.pointer (some ⟨x,0,none⟩))):=fun k x V hV hx=>by
  have hTV:Y.TkS V w (.slice sa C.length sc) C:=Kd.row hV.kd HT1.out zaO
  rcases hTV.form with⟨_,e2⟩|⟨g,cp,cu,e1,e2,e3,e4⟩
  ·subst e2;simp at hx
  ·simp only[Value.slice.injEq]at e1;obtain⟨rfl,_,rfl⟩:=e1;exact⟨g,rfl,e4.cell hx⟩
 have hlo1:lo<=w1.heap.size:=Pr U8 U3.size;have HRF1:Hid (Y.Rf lo w w1):=Y.RfE.of U3 U8;have HM1:Hid (Y.MT w1 lo mb pb r):=H0.out.below Vc U3;clear hch
 go_loopw[16,5] (fun i t wr=>∃(k:Nat),i=.int .i64 k/\t=.int .u32 ((Y.gA r.act pmF (C.take k):Nat):Int)/\k<=C.length/\Hid (Below w1 w1 wr)) (fun i _ _=>C.length-(intOf i).toNat)
 case atStart=>exact⟨0,rfl,rfl,zaa,Pq _ _⟩
 case round=>
  obtain⟨k,rfl,rfl,WN,HB⟩:=hrel;by_cases hk:k<C.length
  ·obtain⟨x,hx⟩:∃x,C[k]?=some x:=⟨_,Pp hk⟩;have hRr:Y.Rf lo w1 wr:=Y.RfE.of HB.out hlo1;obtain⟨g,ha,hcx⟩:=HC.out k x wr hRr hx;subst ha;have hmx:=(HV.out wr (HRF1.out.trans hRr)).2 x (PD hx);have hle:=mI wr lo mb pb r x (pmF x).own (pmF x).lv (HM1.out.below Vc HB.out) (hmx.mvb hN);have Wh:Y.gA r.act pmF (C.take (k+1))=Y.gA r.act pmF (C.take k)|||((pmF x).lv&&&r.act):=by rw[<- Y.Df,QE,hx];rfl
   have l1:Y.gA r.act pmF (C.take k)<4294967296:=Y.rG hN (Y.pE pmF HR0.out.act _ 0 (Q3 _));have l2:(pmF x).lv&&&r.act<4294967296:=Qq SS (Y.rG hN HR0.out.act);have Z1:=Se _ _ l1 l2;rw[<- Wh]at Z1;have hki:((k:Int)<(C.length:Int)):=zaa;clear hmx hx Wh;generalize Y.gA r.act pmF (C.take k)=a1 at *;obtain⟨a2,ha2⟩:∃a2,Y.gA r.act pmF (C.take (k+1))=a2:=⟨_,rfl⟩;rw[ha2]at Z1;have HA2:Hid _:=ha2;clear ha2;generalize(pmF x).lv&&&r.act=a3 at *;go_wp2_with(go_at_call 155;refine hle.mono ?_;rintro e w9 ⟨rfl,VW⟩)
   go_roundw
   case rel=>exact⟨k+1,zad,by rw[HA2.out],zaa,HB.out.trans (VW.mono HB.out.size)⟩
   case measure=>simp only[intOf];omega
  ·obtain rfl:k=C.length:=zaa;rw[Qy];have Z2:Y.gA r.act pmF C<2 ^ ps.length:=Y.pE pmF HR0.out.act _ 0 (Q3 _);have HAN2:=HAN.out;unfold Y.l9 at HAN2;dsimp only at HAN2;obtain⟨left,hleft⟩:∃left,Y.gA r.act pmF C=left:=⟨_,rfl⟩;rw[hleft]at Z2 HAN2⊢;have HANS:Hid _:=HAN2;clear hleft HAN2 HAN;have hRr:Y.Rf lo w1 wr:=Y.RfE.of HB.out hlo1;obtain⟨hPr,_⟩:=HV.out wr (HRF1.out.trans hRr);have ZM:=Jp wr lo mb pb b cap r ps fin left EN LV hvs H D hPr.bJ hPr.hist (HM1.out.below Vc HB.out) (Y.rG hN Z2) (Y.iI HR0.out.act);obtain⟨r2,XN⟩:∃r2,Y.fE ps left D H r H.length=r2:=⟨_,rfl⟩;have hr2k:Y.ROK ps r2:=XN▸Y.pC HIN.out HR0.out _;have hr2q:r2.q=r.q:=XN▸(Y.jE ps left D H r H.length).2.1;rw[XN]at ZM;have HANS2:=HANS.out;rw[XN]at HANS2;obtain⟨r3,hr3⟩:∃r3,Y.fi LV r2 (Y.els left).reverse=r3:=⟨_,rfl⟩;rw[hr3]at HANS2;have hr3k:Y.ROK ps r3:=hr3▸Y.nD LV _ _ hr2k;have hr3q:r3.q.length<=4390100000000:=by
    have h1:=Y.pD hPr.bJ (Y.els left).reverse r2 (fun i hi=>Y.iI Z2 i (UE.1 hi));have h2:(Y.els left).length<=32:=by
     have:=QI left.testBit (List.range 32);exact zfG
    rw[hr3,hr2q,Ug]at h1;omega
   have HANS3:Hid _:=HANS2;have HLV:Hid (∀w2,Y.MT w2 lo mb pb r2->Y.Rf lo wr w2->() 157 #[mb,.int .u32 left] w2 fun e w'=>e=.returned (.tuple #[])/\Y.MT w' lo mb pb r3/\Y.Rf lo w1 w'):=fun w2 Ws hR2=>by
    refine(Gg w2 lo mb pb b cap r2 ps fin left EN LV (hPr.rf hR2).bJ Ws (Y.rG hN Z2) (Y.iI Z2) (by rw[hr2q];omega)).mono ?_;rintro e w' ⟨rfl,a,c⟩;rw[hr3]at a;exact⟨rfl,a,hRr.trans (hR2.trans c)⟩
   clear HANS2 XN hr3 HANS HB hPr;go_wp2_with(first
    |(go_at_call 156;refine ZM.mono ?_;intro e w2 h2;obtain⟨rfl,m2,c2⟩:=h2;have Yp:=HLV.out w2 m2 c2;clear m2 c2)
    |(go_at_call 157;refine Yp.mono ?_;intro e w3 h3;obtain⟨rfl,m3,c3⟩:=h3;have HM3:Hid (Y.MT w3 lo mb pb r3):=m3;have HC3:Hid (Y.Rf lo w1 w3):=c3;clear m3 c3))
   clear ZM
   go_loopw[34,6] (fun i t wr=>∃(k:Nat),i=.int .i64 k/\t=.int .u32 (((Y.ie ps pmF acF (r3,0) (C.take k)).2:Nat):Int)/\k<=C.length/\Hid (Y.MT wr lo mb pb (Y.ie ps pmF acF (r3,0) (C.take k)).1/\Y.Rf lo w1 wr/\(Y.ie ps pmF acF (r3,0) (C.take k)).1.q.length<=r3.q.length+k*1048576)) (fun i _ _=>C.length-(intOf i).toNat)
   case atStart=>exact⟨0,rfl,rfl,zaa,HM3.out,HC3.out,by simp[Y.ie]⟩
   case round=>
    obtain⟨k,rfl,rfl,WN,HI⟩:=hrel;have Vw:=Y.rO (pmF:=pmF) (acF:=acF) (C.take k) (r3,0) hr3k (Q3 _) (fun m hm=>((HV.out w1 HRF1.out).2 m (Si hm)).en);by_cases hk:k<C.length
    ·obtain⟨x,hx⟩:∃x,C[k]?=some x:=⟨_,Pp hk⟩;have Wh:Y.ie ps pmF acF (r3,0) (C.take (k+1))=Y.qu ps pmF acF (Y.ie ps pmF acF (r3,0) (C.take k)) x:=by rw[<- Y.Fw,QE,hx];rfl
     obtain⟨⟨rk,ek⟩,hz⟩:∃z,Y.ie ps pmF acF (r3,0) (C.take k)=z:=⟨_,rfl⟩;have HI2:=HI.out;rw[hz]at Vw Wh HI2⊢;obtain⟨hM,hR,hq⟩:=HI2;dsimp only at Vw hM hq⊢;have HSN:Hid _:=Wh;clear Wh hz HI;obtain⟨g,ha,hcx⟩:=HC.out k x wr hR hx;subst ha;obtain⟨hPr,hmr⟩:=HV.out wr (HRF1.out.trans hR);have hmx:=hmr x (PD hx);clear hmr;have hEn:=hmx.en;have XT:=CN wr lo mb pb rk (pmF x).ai (acF x) Vc hM hmx.ai zaa;have hrdk:Y.ROK ps (Y.doL rk (acF x)):=Y.sR Vw.1 _;have hrdq:=Y.wm rk (acF x);have hacl:=hmx.ai.len;obtain⟨rd,hrd⟩:∃rd,Y.doL rk (acF x)=rd:=⟨_,rfl⟩;have HS2:Hid (Y.ie ps pmF acF (r3,0) (C.take (k+1))=(rd,ek|||Y.enters ps rd.kept (pmF x).en)):=by
      unfold Hid;rw[HSN.out];unfold Y.qu;dsimp only;rw[hrd]
     rw[hrd]at XT hrdk hrdq;clear hrd HSN;have e1l:ek<4294967296:=Y.rG hN Vw.2;have e2l:Y.enters ps rd.kept (pmF x).en<4294967296:=Y.rG hN (Y.wv hEn hrdk.kept);have Z1:=Se _ _ e1l e2l;obtain⟨fv,hmb,hea⟩:=hmx.at';have ca:wr.cell? (x,2)=some (.slice (pmF x).ai.a (pmF x).ai.n (pmF x).ai.c):=by rw[Pt wr _ _ _ _ _ hmb];rfl
     unfold U.Sl.v at XT;have hki:((k:Int)<(C.length:Int)):=zaa;have XU:Hid (∀w9 V,Y.MT w9 lo mb pb rd->Y.Rf lo wr w9->Below w9.heap.size w9 V->Y.MT V lo mb pb (Y.ie ps pmF acF (r3,0) (C.take (k+1))).1/\Y.Rf lo w1 V/\(Y.ie ps pmF acF (r3,0) (C.take (k+1))).1.q.length<=r3.q.length+(k+1)*1048576):=fun w9 V Wn Wg hV=>by
      rw[HS2.out];exact⟨Wn.below Vc hV,hR.trans (Wg.trans (Y.RfE.of hV Wn.lo')),by dsimp only;omega⟩
     have HC9:Hid (∀w9 V,Y.MT w9 lo mb pb rd->Y.Rf lo wr w9->Below w9.heap.size w9 V->V.heap[x]?=some (.cells #[.int .i64 (pmF x).own,.int .u32 (pmF x).lv,.slice (pmF x).ai.a (pmF x).ai.n (pmF x).ai.c,fv] 270 (0,0))/\Y.uX V pb b (pmF x).en fv/\Y.gN V lo pb b cap ps fin EN LV/\Y.MT V lo mb pb rd):=fun w9 V Wn Wg hV=>by
      have hRV:Y.Rf lo wr V:=Wg.trans (Y.RfE.of hV Wn.lo');exact⟨(hRV.kd.aq _ _ _ _ hmb zaO).trans hmb,hea.aq (fun B t u ht hb=>Kd.boxed hRV.kd hb (by rcases ht with rfl|rfl|rfl|rfl<;>(unfold Y.dc;decide))),hPr.bJ.below hRV.bel,Wn.below Vc hV⟩
     obtain⟨e2,he2⟩:∃e2,Y.enters ps rd.kept (pmF x).en=e2:=⟨_,rfl⟩;obtain⟨e3,he3⟩:∃e3,ek|||e2=e3:=⟨_,rfl⟩;rw[he2,he3]at Z1;rw[he2,he3]at HS2;have HE2:Hid _:=he2;clear hmx hPr hM hx hacl hrdq e2l he2 he3 hmb;obtain⟨en,hen⟩:∃en,(pmF x).en=en:=⟨_,rfl⟩;rw[hen]at hea hEn HE2 HC9;clear hen;cases en with
     |nil=>
      have hfv:fv=.func (.func 111) #[] #[]:=hea;subst hfv;clear hea;have XF:Hid (∀w9 V,Y.MT w9 lo mb pb rd->Y.Rf lo wr w9->Below w9.heap.size w9 V->V.cell? ⟨x,3,none⟩=some (.func (.func 111) #[] #[])/\() 111 #[(mb,2)] V fun e w'=>e=.returned (.int .u32 (e2:Int))/\Below w9.heap.size w9 w'):=fun w9 V Wn Wg hV=>by
       obtain⟨x1,x2,x3,x4⟩:=HC9.out w9 V Wn Wg hV;refine⟨zbQ,?_⟩;refine(qB V (.pointer (some ⟨mb,2,none⟩))).mono (fun e w' y=>⟨?_,by rw[y.2];exact hV⟩);rw[y.1,<- HE2.out];rfl
      go_wp2_with(go_at_call 102;refine XT.mono ?_;intro e w9 h9;obtain⟨rfl,m9,c9⟩:=h9;have M9:Hid (Y.MT w9 lo mb pb rd):=m9;have C9:Hid (Y.Rf lo wr w9):=c9;clear m9 c9);have VL:=(Pq w9 w9).drew;have VO:∀V:World,Below w9 w9 V->(fun V=>V.cell? ⟨x,3,none⟩=some ((.func (.func 111) #[] #[]))) V:=fun V hV=>(XF.out w9 V M9.out C9.out hV).1;have Vu:∀V:World,Below w9 w9 V->() 111 #[(mb,2)] V fun e w'=>e=.returned (.int .u32 (e2:Int))/\Below w9 w9 w':=fun V hV=>(XF.out w9 V M9.out C9.out hV).2;refine PJ (S:=(fun V=>V.cell? ⟨x,3,none⟩=some ((.func (.func 111) #[] #[])))) zab (VO _ VL) (fun Pm=>?_);refine tD (some 44) 0 (.int .u32 ek) rfl Pm ?_;refine tD (some 45) 1 x rfl Pm ?_;refine tD (some 46) 2 x rfl Pm ?_;refine tD (some 47) 3 (x,3) rfl Pm ?_;refine tD (some 48) 4 (.func (.func 111) #[] #[]) rfl Pm ?_;exact zcL
     |all a=>
      obtain⟨c,hfv,XK⟩:=hea;subst hfv;clear XK;have XF:Hid (∀w9 V,Y.MT w9 lo mb pb rd->Y.Rf lo wr w9->Below w9.heap.size w9 V->V.cell? ⟨x,3,none⟩=some (.func (.func 163) #[] #[c])/\() 163 #[(mb,2),c] V fun e w'=>e=.returned (.int .u32 (e2:Int))/\Below w9.heap.size w9 w'):=fun w9 V Wn Wg hV=>by
       obtain⟨x1,x2,x3,x4⟩:=HC9.out w9 V Wn Wg hV;refine⟨zbQ,?_⟩;obtain⟨c',Ve,XK⟩:=x2;have ec:c=c':=by simpa using Ve
       subst ec;refine(A7 V c a (.pointer (some ⟨mb,2,none⟩)) XK.cell).mono (fun e w' y=>⟨?_,by rw[y.2];exact hV⟩);rw[y.1,<- HE2.out];rfl
      go_wp2_with(go_at_call 102;refine XT.mono ?_;intro e w9 h9;obtain⟨rfl,m9,c9⟩:=h9;have M9:Hid (Y.MT w9 lo mb pb rd):=m9;have C9:Hid (Y.Rf lo wr w9):=c9;clear m9 c9);have VL:=(Pq w9 w9).drew;have VO:∀V:World,Below w9 w9 V->(fun V=>V.cell? ⟨x,3,none⟩=some ((.func (.func 163) #[] #[c]))) V:=fun V hV=>(XF.out w9 V M9.out C9.out hV).1;have Vu:∀V:World,Below w9 w9 V->() 163 #[(mb,2),c] V fun e w'=>e=.returned (.int .u32 (e2:Int))/\Below w9 w9 w':=fun V hV=>(XF.out w9 V M9.out C9.out hV).2;refine PJ (S:=(fun V=>V.cell? ⟨x,3,none⟩=some ((.func (.func 163) #[] #[c])))) zab (VO _ VL) (fun Pm=>?_);refine tD (some 44) 0 (.int .u32 ek) rfl Pm ?_;refine tD (some 45) 1 x rfl Pm ?_;refine tD (some 46) 2 x rfl Pm ?_;refine tD (some 47) 3 (x,3) rfl Pm ?_;refine tD (some 48) 4 (.func (.func 163) #[] #[c]) rfl Pm ?_;exact zcL
     |hist p t=>
      obtain⟨c3,c7,c6,c5,hfv,_⟩:=hea;subst hfv;have XF:Hid (∀w9 V,Y.MT w9 lo mb pb rd->Y.Rf lo wr w9->Below w9.heap.size w9 V->V.cell? ⟨x,3,none⟩=some (.func (.func 160) #[] #[c3,c7,c6,c5])/\() 160 #[(mb,2),c3,c7,c6,c5] V fun e w'=>e=.returned (.int .u32 (e2:Int))/\Below w9.heap.size w9 w'):=fun w9 V Wn Wg hV=>by
       obtain⟨x1,x2,x3,x4⟩:=HC9.out w9 V Wn Wg hV;refine⟨zbQ,?_⟩;obtain⟨d3,d7,d6,d5,hd,y3,y7,y6,y5⟩:=x2;simp only[Value.func.injEq,Array.mk.injEq,List.cons.injEq,Value.pointer.injEq,Option.some.injEq,Addr.mk.injEq,and_true,true_and]at hd;obtain⟨rfl,rfl,rfl,rfl⟩:=hd;refine(At V lo mb pb b cap rd ps fin EN LV p t c3 c7 c6 c5 x3 x4 hrdk hN hEn y3 y7 y6 y5).mono (fun e w' y=>⟨?_,hV.trans (y.2.mono hV.size)⟩);rw[y.1,<- HE2.out]
      go_wp2_with(go_at_call 102;refine XT.mono ?_;intro e w9 h9;obtain⟨rfl,m9,c9⟩:=h9;have M9:Hid (Y.MT w9 lo mb pb rd):=m9;have C9:Hid (Y.Rf lo wr w9):=c9;clear m9 c9);have VL:=(Pq w9 w9).drew;have VO:∀V:World,Below w9 w9 V->(fun V=>V.cell? ⟨x,3,none⟩=some ((.func (.func 160) #[] #[c3,c7,c6,c5]))) V:=fun V hV=>(XF.out w9 V M9.out C9.out hV).1;have Vu:∀V:World,Below w9 w9 V->() 160 #[(mb,2),c3,c7,c6,c5] V fun e w'=>e=.returned (.int .u32 (e2:Int))/\Below w9 w9 w':=fun V hV=>(XF.out w9 V M9.out C9.out hV).2;refine PJ (S:=(fun V=>V.cell? ⟨x,3,none⟩=some ((.func (.func 160) #[] #[c3,c7,c6,c5])))) zab (VO _ VL) (fun Pm=>?_);refine tD (some 44) 0 (.int .u32 ek) rfl Pm ?_;refine tD (some 45) 1 x rfl Pm ?_;refine tD (some 46) 2 x rfl Pm ?_;refine tD (some 47) 3 (x,3) rfl Pm ?_;refine tD (some 48) 4 (.func (.func 160) #[] #[c3,c7,c6,c5]) rfl Pm ?_;exact zcL
    ·obtain rfl:k=C.length:=zaa;have HI2:=HI.out;rw[Qy]at HI2 Vw⊢;obtain⟨⟨rk,ek⟩,hz⟩:∃z,Y.ie ps pmF acF (r3,0) C=z:=⟨_,rfl⟩;have HANS4:=HANS3.out;rw[hz]at Vw HI2 HANS4⊢;dsimp only at Vw HI2 HANS4⊢;obtain⟨hM,hR,hq⟩:=HI2;have hen:=wu wr lo mb pb b cap rk ps fin ek EN LV (HV.out wr (HRF1.out.trans hR)).1.bJ hM (Y.rG hN Vw.2) (Y.iI Vw.2) zaa;rw[<- HANS4]at hen;have HRW:Hid _:=hR;clear HANS4 HANS3 hM hR hq HI hz Vw;go_wp2_with(go_at_call 63;refine hen.mono ?_;intro e w9 h9;obtain⟨rfl,m9,c9⟩:=h9);go_end0;exact⟨rfl,m9,HRF1.out.trans (HRW.out.trans c9)⟩
namespace Y
def PA.sz:PA->Prop
 |.raise ev=>ev.size<=1000000
 |.send ev _=>ev.size<=1000000
 |.sendAs ev _ _=>ev.size<=1000000
 |_=>True
def TOK(now:Nat)(T:List Tn):Prop:=now<18446744073709551616/\∀x∈T,now<=x.t/\x.ev.size<=1000000
structure QOK(r:RSt):Prop where
 q:∀e∈r.q,e.size<=1000000
 fin:r.fin=0\/r.fin=5\/r.fin=6
 tm:TOK r.now r.tm
structure SzP(ps:List PS)(EN LV:Nat->List PA):Prop where
 en:∀i,∀a∈EN i,a.sz
 lv:∀i,∀a∈LV i,a.sz
 done:∀(i:Nat) (p:PS),ps[i]?=some p->p.done.size<=1000000
theorem QOK.snoc(h:QOK r){ev:()}(he:ev.size<=1000000):QOK { r with q:=r.q++[ev] }:=⟨fun e hx=>by
 rcases PQ.1 hx with hx|hx
 ·exact h.q e hx
 ·rw[PB.1 hx];exact he,h.fin,h.tm⟩
theorem KT{r:RSt}(h:QOK r){a:PA}(ha:a.sz):QOK (iH r a):=by
 have hs:∀(ev:()) nm d,ev.size<=1000000->QOK (j7 r ev nm d):=fun ev nm d he=>by
  unfold j7;split
  ·exact h.snoc zac
  ·refine⟨h.q,h.fin,h.tm.1,fun x hx=>?_⟩
   rcases PQ.1 hx with hx|hx
   ·exact h.tm.2 x hx
   ·rw[PB.1 hx];refine⟨?_,he⟩;have:=h.tm.1;show r.now<=atF r.now d;unfold atF;split<;>omega
 cases a with
 |raise ev=>exact h.snoc ha
 |send ev d=>exact hs _ _ _ ha
 |sendAs ev d id=>exact hs _ _ _ ha
 |cancel id=>exact⟨h.q,h.fin,h.tm.1,fun x hx=>h.tm.2 x (Q2.1 hx).1⟩
theorem yq:∀(L:List PA) (r:RSt),QOK r->(∀a∈L,a.sz)->QOK (doL r L)
 |[],_,h,_=>h
 |x::L,r,h,hL=>yq L (iH r x) (KT h (hL x (PZ ..))) (fun a ha=>hL a (P3 _ ha))
theorem Lu(hz:SzP ps EN LV)(h:QOK r)(i:Nat):QOK (lz ps fin r i):=by
 unfold lz;split
 ·exact h
 ·split
  ·exact⟨h.q,.inr (.inl rfl),h.tm⟩
  ·split
   ·exact h
   ·rename_i q hq;have h1:=h.snoc (hz.done _ q hq);split
    ·exact h1
    ·split
     ·exact h1
     ·rename_i s hs;split
      ·exact h1.snoc (hz.done _ s hs)
      ·exact h1
theorem Lm(hz:SzP ps EN LV)(h:QOK r)(i:Nat):QOK (kH ps fin EN r i):=by
 have h1:QOK { r with act:=r.act|||2 ^ i }:=⟨h.q,h.fin,h.tm⟩;have h2:=yq (EN i) _ h1 (hz.en i);unfold kH;dsimp only;split
 ·split
  ·exact Lu hz h2 i
  ·exact h2
 ·exact h2
theorem nz{ps:List PS}{EN LV:Nat->List PA}(hz:SzP ps EN LV){fin:Nat}:∀(l:List Nat) (r:RSt),QOK r->QOK (de ps fin EN r l)
 |[],_,h=>h
 |i::l,r,h=>nz hz l (kH ps fin EN r i) (Lm hz h i)
theorem wH{ps:List PS}{EN LV:Nat->List PA}(hz:SzP ps EN LV):∀(l:List Nat) (r:RSt),QOK r->QOK (fi LV r l)
 |[],_,h=>h
 | i::l,r,h=>wH hz l (vw LV r i) (by
  have h1:=yq (LV i) r h (hz.lv i);exact⟨h1.q,h1.fin,h1.tm⟩)
theorem Ex{ps:List PS}{pmF:Nat->PM}{acF:Nat->List PA}:∀(C:List Nat) (z:RSt×Nat),QOK z.1->(∀m∈C,∀a∈acF m,a.sz)->QOK (ie ps pmF acF z C).1
 |[],_,h,_=>h
 |m::C,z,h,hC=>Ex C (qu ps pmF acF z m) (yq _ _ h (hC m (PZ ..))) (fun x hx=>hC x (P3 _ hx))
theorem Ez(hz:SzP ps EN LV)(h:QOK r)(hC:∀m∈C,∀a∈acF m,a.sz):QOK (l9 ps fin EN LV H D pmF acF r C):=by
 obtain⟨_,h2,h3,h4,h5⟩:=jE ps (gA r.act pmF C) D H r H.length;exact nz hz _ _ (Ex C _ (wH hz _ _ ⟨by rw[h2];exact h.q,by rw[h5];exact h.fin,by rw[h3,h4];exact h.tm⟩) hC)
theorem Iu{ps:List PS}{pmF:Nat->PM}{acF:Nat->List PA}:∀(C:List Nat) (z:RSt×Nat),(∀m∈C,(acF m).length<=1048576)->(ie ps pmF acF z C).1.q.length<=z.1.q.length+C.length*1048576
 |[],_,_=>by simp[ie]
 |m::C,z,hC=>by
  have h1:=Iu (ps:=ps) (pmF:=pmF) (acF:=acF) C (qu ps pmF acF z m) (fun x hx=>hC x (P3 _ hx));have h2:=wm z.1 (acF m);have h3:=hC m (PZ ..);have h4:(qu ps pmF acF z m).1.q=(doL z.1 (acF m)).q:=rfl;rw[h4]at h1;show(ie ps pmF acF (qu ps pmF acF z m) C).1.q.length<=_;rw[Qw];omega
theorem rS(s:Nat):(els s).length<=32:=by
 exact zeJ
theorem Fx{lo:Nat}{n:Nat}(h:ka w lo pb b cap ps fin EN LV hvs H D mbm n T M Lr pmF acF)(hr:ROK ps r)(ev:()):(aZ ps fin EN LV H D M Lr pmF acF r ev).q.length<=r.q.length+200000000:=by
 have hw:=h.want ev (els (inn ps r.act));obtain⟨c1,c2⟩:=gd ps r.act (fun m=>(pmF m).lv) (fun m=>(pmF m).own) (ia M Lr ev (els (inn ps r.act))) _ (Po _);rw[Qy]at c1 c2;have hwl:(ia M Lr ev (els (inn ps r.act))).length<=32:=by
  unfold ia;split
  ·simp
  ·have h1:=nU (L:=Lr ‹_›) (els (inn ps r.act)) [];have h2:=rS (inn ps r.act);unfold dO;simp at h1;omega
 unfold aZ;generalize gR ps r.act (fun m=>(pmF m).lv) (fun m=>(pmF m).own) (ia M Lr ev (els (inn ps r.act)))=C at *;have Z2:gA r.act pmF C<2 ^ ps.length:=pE pmF hr.act _ 0 (Q3 _);unfold l9;dsimp only;generalize gA r.act pmF C=left at *;obtain⟨_,k2,_⟩:=jE ps left D H r H.length;have kk:=pC (left:=left) (D:=D) (H:=H) h.inn hr H.length;generalize fE ps left D H r H.length=r2 at *;have l1:=pD h.bJ (els left).reverse r2 (fun i hi=>iI Z2 i (UE.1 hi));have l2:=rS left;have lk:=nD LV (els left).reverse r2 kk;rw[Ug,k2]at l1;generalize fi LV r2 (els left).reverse=r3 at *;have a1:=Iu (ps:=ps) (pmF:=pmF) (acF:=acF) C (r3,0) (fun m hm=>(hw m (c1 m hm)).ai.len);have a2:=rO (pmF:=pmF) (acF:=acF) C (r3,0) lk (Q3 _) (fun m hm=>(hw m (c1 m hm)).en);dsimp only at a1;generalize ie ps pmF acF (r3,0) C=z at *;have e1:=pk h.bJ (els z.2) z.1 (iI a2.2);have e2:=rS z.2;omega
def eW(step:RSt->()->RSt):Nat->RSt->RSt
 |0,r=>match r.q with|[]=>r|_::_=>if r.fin=0 then{ r with fin:=6 } else r
 |n+1,r=>match r.q with|[]=>r|ev::q'=>if r.fin=0 then eW step n (step { r with q:=q' } ev) else r
theorem nM{step:RSt->()->RSt}{r:RSt}(h:r.q=[]):∀n,eW step n r=r
 |0=>by unfold eW;rw[h]
 |n+1=>by unfold eW;rw[h]
theorem uq{x:()}(h:r.q=x::qs)(hf:r.fin=0):eW step 0 r={ r with fin:=6 }:=by
 unfold eW;rw[h];dsimp only;rw[PC hf]
theorem uo{x:()}(h:r.q=x::qs)(hf:r.fin=0)(n:Nat):eW step (n+1) r=eW step n (step { r with q:=qs } x):=by
 conv=>lhs;unfold eW
 rw[h];dsimp only;rw[PC hf]
theorem qK{step:RSt->()->RSt}{r:RSt}(h:r.fin≠0):∀n,eW step n r=r
 |0=>by
  unfold eW;split
  ·rfl
  ·rw[Pu h]
 |n+1=>by
  unfold eW;split
  ·rfl
  ·rw[Pu h]
end Y
theorem Y.MT.OW(h:Y.MT W lo mb pb r)(hl:Y.Lw lo)(qv':Value)(L:List ())(hq:QAt W lo qv' L)(hqo:∀g,qv'.ownBlock=some g->lo.ok g):Y.MT (W.setCell (mb,26) qv') lo mb pb { r with q:=L }/\Y.Rf lo W (W.setCell (mb,26) qv')/\(W.setCell (mb,26) qv').cell? (mb,26)=some qv':=by
 obtain⟨qv,wh,m,b⟩:=h.ex;obtain⟨arr,a1,a2,a3⟩:=m.blk;have Vp:Mo (·=mb) W (W.setCell (mb,26) qv'):=(Mo.refl _ _).set _ _ rfl;have hM:Y.aw (W.setCell (mb,26) qv') lo mb pb qv' (({ r with q:=L }:Y.RSt).m wh):=by
  refine⟨⟨arr.setIfInBounds 26 qv',PR W mb 26 _ _ _ a1,by simp[a2],fun j hj=>?_⟩,hq.mo Vp (fun g hg e=>?_),m.lo',hqo,Pr m.sz Vp.size⟩
  ·by_cases e:j=26
   ·subst e;rw[Q8 zaa];rfl
   ·rw[Q0 (fun x=>e x.symm),a3 j hj];simp[Y.fF,e];rfl
  ·obtain⟨c,hc⟩:=hq.kind g hg;rw[show g=mb from e,a1]at hc;simp at hc
 have hR:Y.Rq lo W (W.setCell (mb,26) qv'):=Y.RfE.mo (P:=(·=mb)) Vp (fun k hk=>by
  subst hk;exact⟨m.lo',arr,_,_,a1,.inl rfl⟩) h.lo'
 exact⟨h.rq hl b hM hR rfl rfl h.act,Y.xh hR,hM.cell 26 zac⟩
theorem Y.MT.Kn(h:Y.MT W lo mb pb r)(hl:Y.Lw lo)(e:Nat):Y.MT (W.setCell (mb,419) (Y.fw e)) lo mb pb { r with fin:=e }/\Y.Rf lo W (W.setCell (mb,419) (Y.fw e))/\(Y.Idl W mb->Y.Idl (W.setCell (mb,419) (Y.fw e)) mb)/\∀(k:Nat) (c:Array Value) (f:Nat×Nat),W.heap[k]?=some (.cells c 9 f)->(W.setCell (mb,419) (Y.fw e)).heap[k]?=some (.cells c 9 f):=by
 obtain⟨qv,wh,m,b⟩:=h.ex;have hM:Y.aw (W.setCell (mb,419) (Y.fw e)) lo mb pb qv (({ r with fin:=e }:Y.RSt).m wh):=m.set 419 _ _ zac rfl (fun j hj=>by
  by_cases e:j=419
  ·subst e;rfl
  ·rw[Pu e];have hj:j<419:=zaa;simp[Y.fF,hj];rfl)
 have hR:Y.Rq lo W (W.setCell (mb,419) (Y.fw e)):=Y.RfE.mo (P:=(·=mb)) ((Mo.refl _ _).set _ _ rfl) (fun k hk=>by
  obtain⟨arr,a1,_⟩:=m.blk;subst hk;exact⟨m.lo',arr,_,_,a1,.inl rfl⟩) h.lo'
 exact⟨h.rq hl b hM hR rfl rfl h.act,Y.xh hR,m.idl hM,fun k c f hk=>(((Mo.refl (·=mb) W).set ⟨mb,419,none⟩ (Y.fw e) rfl).block k (Pn.1 hk).1 (fun e=>by
  obtain⟨arr,a1,_⟩:=m.blk;rw[show k=mb from e,a1]at hk;simp at hk)).trans hk⟩
theorem Y.MT.cq(h:Y.MT W lo mb pb r):∃qv,W.cell? (mb,26)=some qv/\QAt W lo qv r.q/\W.cell? (mb,419)=some (Y.fw r.fin)/\∀g,qv.ownBlock=some g->lo.ok g:=by
 obtain⟨qv,wh,m,b⟩:=h.ex;exact⟨qv,m.cell 26 zac,m.que,m.cell 419 zac,m.qok⟩
namespace Y
def fA(step:RSt->()->RSt)(r:RSt):RSt:={ eW step 60 r with q:=[] }
end Y
theorem kD(w:World)(lo:Y.Lo)(mb pb b cap:Nat)(r:Y.RSt)(ps:List Y.PS)(fin:Nat)(EN LV:Nat->List Y.PA)(hvs:U.Sl)(H:List Y.HV)(D:Nat->Bool)(mbm n:Nat)(T:()->Option (List (Option Y.PM)))(M:()->Option Nat)(Lr:Nat->List (Option Nat))(pmF:Nat->Y.PM)(acF:Nat->List Y.PA)(hP:Y.ka w lo pb b cap ps fin EN LV hvs H D mbm n T M Lr pmF acF)(hz:Y.SzP ps EN LV)(hza:∀m,∀a∈acF m,Y.PA.sz a)(h:Y.MT w lo mb pb r)(hr:Y.ROK ps r)(hqk:Y.QOK r)(Yb:r.q.length<=4300000000000):
  () 64 #[mb] w fun e w'=>e=.returned (.tuple #[])/\Y.MT w' lo mb pb (Y.fA (Y.aZ ps fin EN LV H D M Lr pmF acF) r)/\Y.Rf lo w w'/\Y.Idl w' mb:=by
 have Vc:=hP.bJ.lw;obtain⟨step,XG⟩:∃step,Y.aZ ps fin EN LV H D M Lr pmF acF=step:=⟨_,rfl⟩;have HST:Hid _:=XG;rw[XG];clear XG;have q0:∀w:World,(binOp .eql 42 .nilIface .nilIface).run prog w=.ok (.bool true) w:=fun w=>zab;have q5:∀w:World,(binOp .eql 42 (.iface 29 (.int .i64 5)) .nilIface).run prog w=.ok (.bool false) w:=fun w=>zab;have q6:∀w:World,(binOp .eql 42 (.iface 29 (.int .i64 6)) .nilIface).run prog w=.ok (.bool false) w:=fun w=>zab;have HEND:Hid (∀(V:World) (rz:Y.RSt),Y.MT V lo mb pb rz->Y.Rf lo w V->{ rz with q:=[] }=Y.fA step r->(∃u,V.cell? ⟨mb,26,none⟩=some u)/\V.frozen? ⟨mb,26,none⟩=false/\Y.MT (V.setCell ⟨mb,26,none⟩ (.slice none 0 0)) lo mb pb (Y.fA step r)/\Y.Rf lo w (V.setCell ⟨mb,26,none⟩ (.slice none 0 0))/\Y.Idl (V.setCell ⟨mb,26,none⟩ (.slice none 0 0)) mb):=fun V rz hM hR e=>by
  obtain⟨qv,c1,_⟩:=hM.cq;obtain⟨x1,x2,x3⟩:=hM.OW Vc (.slice none 0 0) [] (QAt.nil _ _) (fun g hg=>by cases hg);rw[e]at x1;exact⟨⟨_,c1⟩,hM.c0.2.2 26,x1,hR.trans x2,x3⟩
 have HP:Hid _:=hP;have HI0:Hid (Y.MT w lo mb pb r/\Y.ROK ps r/\Y.QOK r):=⟨h,hr,hqk⟩;clear h hr hqk hP;go_enter func64,ntmps64;go_wp2
 go_loopw[2] (fun a wr=>∃k:Nat,a=.int .i64 k/\k<=60/\Hid (∃rk,Y.MT wr lo mb pb rk/\Y.ROK ps rk/\Y.QOK rk/\Y.Rf lo w wr/\Y.eW step (60-k) rk=Y.eW step 60 r/\rk.q.length<=r.q.length+k*200000000)) (fun a _=>61-(intOf a).toNat)
 case atStart=>exact⟨0,rfl,zaa,r,HI0.out.1,HI0.out.2.1,HI0.out.2.2,Y.RfE.refl _ _,rfl,zaa⟩
 case round=>
  obtain⟨k,rfl,hk60,HK⟩:=hrel;obtain⟨rk,hM,Zu,hqk,hR,Xn,hqb⟩:=HK.out;clear HK HI0;obtain⟨qv,c26,hQ,c419,hqo⟩:=hM.cq;have Xj:=hM.c0.2.2;have HF26:=Xj 26;have HF419:=Xj 419;clear Xj;by_cases hq:rk.q=[]
  ·have WW:=HEND.out wr rk hM hR (by unfold Y.fA;rw[<- Xn,Y.nM hq]);obtain⟨a0,c0,hv0⟩:=hQ.form;rw[hq]at hv0;subst hv0;obtain⟨_,e2,e3,e4⟩:=WW;have E3:Hid _:=e3;have E4:Hid _:=e4;clear e3 e4 hQ hM Xn hqk Zu;simp only[List.length_nil]at c26;exact zfe
  ·by_cases hf:rk.fin=0
   ·obtain⟨x,qs,hxq⟩:∃x qs,rk.q=x::qs:=by
     cases hc:rk.q with
     |nil=>exact absurd hc hq
     |cons x qs=>exact⟨x,qs,rfl⟩
    rw[hxq]at hQ;obtain⟨g,off,cp,hv,hqc,hcm,hcx,hpop⟩:=hQ.head;subst hv;rw[hf]at c419;unfold Y.fw at c419;rw[PC rfl]at c419;have hx1:=hqk.q x (by rw[hxq];exact PZ ..);have hlen1:((qs.length:Int)+1>0):=zaa;by_cases h60:k=60
    ·subst h60;have HRS:Hid ({ ({ rk with fin:=6 }:Y.RSt) with q:=[] }=Y.fA step r):=by
      unfold Hid Y.fA;rw[<- Xn,RR,Y.uq hxq hf]
     obtain⟨x1,x2,_⟩:=hM.Kn Vc 6;have WW:=HEND.out _ _ x1 (hR.trans x2) HRS.out;unfold Y.fw at WW;rw[Pu zac]at WW;obtain⟨⟨u,e1⟩,e2,e3,e4⟩:=WW;have E3:Hid _:=e3;have E4:Hid _:=e4;clear e3 e4 hQ hM Xn hqk Zu x1 x2 hpop;exact zfe
    ·have YB:((k:Int) == 60)=false:=zaf;have HN:Hid (Y.eW step (60-(k+1)) (step { rk with q:=qs } x)=Y.eW step 60 r):=by
      unfold Hid;rw[<- Xn,show 60-k=(60-(k+1))+1 by omega,Y.uo hxq hf]
     have HANS:Hid (∀V,Y.MT V lo mb pb { rk with q:=qs }->Y.Rf lo wr V->() 104 #[mb,x] V fun e w'=>e=.returned (.tuple #[])/\∃rk',Y.MT w' lo mb pb rk'/\Y.ROK ps rk'/\Y.QOK rk'/\Y.Rf lo w w'/\Y.eW step (60-(k+1)) rk'=Y.eW step 60 r/\rk'.q.length<=r.q.length+(k+1)*200000000):=fun V hMV hRV=>by
      have hRw:=hR.trans hRV;have ZJ:=HP.out.rf hRw;have hrk2:Y.ROK ps { rk with q:=qs }:=⟨Zu.act,Zu.kept⟩;have hqk2:Y.QOK { rk with q:=qs }:=⟨fun e he=>hqk.q e (by rw[hxq];exact P3 _ he),hqk.fin,hqk.tm⟩;have hl2:({ rk with q:=qs }:Y.RSt).q.length+1=rk.q.length:=by rw[hxq];rfl
      refine(Cu V lo mb pb b cap { rk with q:=qs } ps fin EN LV hvs H D mbm n T M Lr pmF acF x ZJ hMV hrk2 hx1 zaa).mono ?_;rintro e w' ⟨rfl,a,c⟩;have hq3:=Y.Fx ZJ hrk2 x;have e:=HN.out;rw[<- HST.out]at e⊢;refine⟨rfl,_,a,?_,?_,hRw.trans c,e,zaa⟩
      ·refine Y.Ey HP.out.inn hrk2 (fun m hm=>?_);obtain⟨c1,_⟩:=Y.gd ps rk.act (fun m=>(pmF m).lv) (fun m=>(pmF m).own) (Y.ia M Lr x (Y.els (Y.inn ps rk.act))) _ (Po _);rw[Qy]at c1;exact(HP.out.want x _ m (c1 m hm)).en
      ·exact Y.Ez hz hqk2 (fun m _=>hza m)
     have HPOP:Hid (∀off',(off'=off+1\/cp=0)->Y.MT (wr.setCell (mb,26) (.slice (some ⟨g,off',none⟩) qs.length cp)) lo mb pb { rk with q:=qs }/\Y.Rf lo wr (wr.setCell (mb,26) (.slice (some ⟨g,off',none⟩) qs.length cp))):=fun off' ho=>have h:=hM.OW Vc (.slice (some ⟨g,off',none⟩) qs.length cp) qs (hpop off' ho) (fun g' e=>hqo g' e);⟨h.1,h.2.1⟩
     clear hQ hM Xn hqk Zu hpop HEND;by_cases Ww:cp=0
     ·obtain⟨y1,y2⟩:=HPOP.out off (.inr Ww);have hans:=HANS.out _ y1 y2;subst Ww;have hql0:qs.length=0:=zaa;rw[hql0]at hans;exact zc9
     ·obtain⟨y1,y2⟩:=HPOP.out (off+1) (.inl rfl);have hans:=HANS.out _ y1 y2;exact zc9
   ·have WW:=HEND.out wr rk hM hR (by unfold Y.fA;rw[<- Xn,Y.qK hf]);obtain⟨a0,c0,hv0⟩:=hQ.form;subst hv0;have hqp:0<rk.q.length:=Ry.2 hq;have hqp':((rk.q.length:Int)>0):=zaa;obtain⟨_,e2,e3,e4⟩:=WW;have E3:Hid _:=e3;have E4:Hid _:=e4;have VH:=hqk.fin;clear e3 e4 hQ hM Xn hqk Zu;generalize rk.q.length=ql at *
    rcases VH with hx|hx|hx
    ·exact absurd hx hf
    ·exact zdS
    ·exact zdS
theorem JT(s:Nat)(w:World)(hs:s<4294967296):() 158 #[.int .u32 s] w fun e w'=>(∃n:Nat,n<=255/\e=.returned (n:Int))/\w'=w.drew:=by
 have e1:(s:Int) / 16777216=((s / 16777216:Nat):Int):=zaa;have h1:s / 16777216<256:=zaa;have e2:bits BinOp.and IntKind.u32 ((s:Int) / 65536) 255=((s / 65536&&&255:Nat):Int):=by
  rw[show(s:Int) / 65536=((s / 65536:Nat):Int) by omega];exact Tq _ 255 zaa zaa
 have h2:s / 65536&&&255<256:=Qq SS zaa;have e3:bits BinOp.and IntKind.u32 ((s:Int) / 256) 255=((s / 256&&&255:Nat):Int):=by
  rw[show(s:Int) / 256=((s / 256:Nat):Int) by omega];exact Tq _ 255 zaa zaa
 have h3:s / 256&&&255<256:=Qq SS zaa;have e4:bits BinOp.and IntKind.u32 (s:Int) 255=((s&&&255:Nat):Int):=Tq _ 255 zaa zaa;have h4:s&&&255<256:=Qq SS zaa;generalize s / 16777216=a1 at *;generalize s / 65536&&&255=a2 at *;generalize s / 256&&&255=a3 at *;generalize s&&&255=a4 at *;have h1:a1<Lib.pop8tab.size:=h1;have h2:a2<Lib.pop8tab.size:=h2;have h3:a3<Lib.pop8tab.size:=h3;have h4:a4<Lib.pop8tab.size:=h4;go_enter func158,ntmps158;go_wp2;go_region
 go_wp2;go_ret;generalize Lib.pop8tab[a1].toNat=b1;generalize Lib.pop8tab[a2].toNat=b2;generalize Lib.pop8tab[a3].toNat=b3;generalize Lib.pop8tab[a4].toNat=b4;exact⟨⟨(b1+b2+b3+b4) % 256,zaa,congrArg (fun x=>Ending.returned (x:Int)) zaa⟩,rfl⟩
theorem LU(s:Nat)(w:World)(hs:s<4294967296):() 105 #[.int .u32 s] w fun e w'=>(∃n:Nat,n<=255/\e=.returned (n:Int))/\w'=w.drew:=by
 go_enter func105,ntmps105;go_wp2_with(go_at_call 158;refine(JT s _ hs).mono ?_;rintro e w9 ⟨⟨n,hn,rfl⟩,U1⟩;rw[U1];clear U1 w9);go_ret;exact⟨⟨n,hn,rfl⟩,rfl⟩
attribute [local go_sem] Qu
theorem uu(n:Nat)(hn:n<=4096)(w:World):(Instr.makeSlice 22 (.int .i64 0) (.int .i64 n)).run prog w=.ok (.slice w 0 n) (w.alloc (.cells (madeCells #[.string ⟨#[]⟩] n) 9)):=by
 obtain⟨i0,hi,Vv,Vk,Vl⟩:=QV yz;have h:=run_makeSlice (P:=prog) w 22 9 i0 _ underlying22 hi Vv .i64 .i64 0 n zaa zaa (by rw[Vk];simp;omega) (by rw[Vl];omega) zaa;rw[h,Vk];simp only[Int.toNat_natCast,Nat.mul_one];rfl
namespace Y
def D6(s:()):List Value:=[s]
def bR(ps:List PS)(i:Nat):():=match ps[i]? with|some p=>p.name|none=>⟨#[]⟩
abbrev Nms(W:World)(base:Nat)(sv:Value)(L:List ()):Prop:=W.ownsRow base 9 1 sv L.length (L.flatMap D6)
theorem Nms.kind(h:Nms W base sv L):∀k,sv.ownBlock=some k->base<=k/\k<W.heap.size/\∃c,W.heap[k]?=some (.cells c 9 (0,0)):=fun k hk=>by
 exact zdD
theorem Nms.n(h:Nms W base sv L):∃a c,sv=.slice a L.length c:=by
 exact zdV
theorem Nms.gr{W':World}(h:Nms W base sv L)(hg:W.grownBy W' row)(hr:∀r,row=some r->∃o:Obj,W.heap[r]?=some o/\o.isCells=false):Nms W' base sv L:=Kd.row (iJ (E:=fun _=>False) hg hr) h (fun h=>h)
def StI(w:World)(mb Bs Bx:Nat)(L:List ())(V:World):Prop:=∃sv,Boxed V Bx 22 sv/\Nms V w sv L/\Below w w V/\Boxed V w 100 mb/\V.heap[Bs]?=some (.cells #[.string ⟨#[]⟩,.int .u64 0,.slice none 0 0] 50 (0,0))
theorem StI.gr{V V':World}{Bs Bx:Nat}(h:StI w mb Bs Bx L V)(hg:V.grownBy V' row)(hr:∀r,row=some r->w.heap.size<=r/\∃o:Obj,V.heap[r]?=some o/\o.isCells=false):StI w mb Bs Bx L V':=by
 obtain⟨sv,a,b,c,d,e⟩:=h;have hk:Kd (fun _=>False) V V':=iJ hg (fun r e=>(hr r e).2);exact⟨sv,hk.boxed a (fun h=>h),b.gr hg (fun r e=>(hr r e).2),c.trans ⟨hg.os,hg.tape,hg.output,hg.size,fun k VB=>hg.block k (by have:=c.size;omega) (fun e=>zbg)⟩,hk.boxed d (fun h=>h),(hk.aq _ _ _ _ e (fun h=>h)).trans e⟩
end Y
theorem BQ(w:World)(lo:Y.Lo)(mb pb b cap:Nat)(r:Y.RSt)(ps:List Y.PS)(fin:Nat)(EN LV:Nat->List Y.PA)(ev:())(hP:Y.gN w lo pb b cap ps fin EN LV)(h:Y.MT w lo mb pb r)(V9:∀i,i∈Y.els r.act->i<ps.length)(Vu:∀V:World,() 75 #[ev] V fun e w'=>e=.returned ev/\Below V V w'):
  () 65 #[mb,ev] w fun e w'=>∃sv,e=.returned (.agg #[ev,.int .u64 r.now,sv])/\Y.Nms w' w sv ((Y.els r.act).map (Y.bR ps))/\Below w w w':=by
 obtain⟨i0,hi,Vv,Vk,Vl⟩:=QV yz;refine(P8 (n:=8)).1 ?_;have Vc:=hP.lw;have U8:=h.lo';have XE:=h.act;have Wk:=h.lt;obtain⟨m0,m1,_⟩:=h.c0;have hB4:∀o1 o2 o3 o4:Obj,Below w w ((((w.alloc o1).alloc o2).alloc o3).alloc o4):=fun o1 o2 o3 o4=>((((Pq _ w).alloc (Po _) _).alloc zad _).alloc zaf _).alloc zaf _;have hm4:∀o1 o2 o3 o4:Obj,((((w.alloc o1).alloc o2).alloc o3).alloc o4).drew.cell? (mb,1)=some (.int .u32 r.act):=fun o1 o2 o3 o4=>((hB4 o1 o2 o3 o4).cell (p:=⟨mb,1,none⟩) Wk).trans m1;refine Qv func65 rfl trivial ?_ rfl;simp only[ntmps65,List.size_toArray,List.length_cons,List.length_nil,Nat.reduceAdd,Nat.reduceSub,Array.replicate_succ,Array.replicate_zero,List.push_toArray,List.append_toArray,List.nil_append,List.cons_append];have Zc:=fun(n:Nat) (hn:n<=255) (W:World)=>uu n zaa W;gi_wp2_with(first
  |(refine⟨trivial,?_⟩;gi_at_call 105;refine(P8.2 (LU r.act _ XE)).mono ?_;rintro e w9 ⟨⟨nl,WC,rfl⟩,U1⟩;rw[U1];clear U1 w9;have hmk2:=fun W=>Zc nl WC W)
  |(refine⟨trivial,?_⟩;gi_at_call 100;refine(P8.2 (dI r.act _)).mono ?_;rintro e w9 ⟨rfl,U1⟩;rw[U1];clear U1 w9))
 have hh:∀(W:World) (o:Obj),(W.alloc o).heap[W.heap.size]?=some o:=PG;have hk:∀(W:World) (o:Obj) (k:Nat) (u:Obj),W.heap[k]?=some u->(W.alloc o).heap[k]?=some u:=fun W o k u hu=>(QS W o k (Pn.1 hu).1).trans hu;have s1:(w.alloc (.cells #[mb] 100)).heap.size=w.heap.size+1:=zad;have s2:((w.alloc (.cells #[mb] 100)).alloc (.cells #[.string ⟨#[]⟩,.int .u64 0,.slice none 0 0] 50)).heap.size=w.heap.size+1+1:=zad;have s3:(((w.alloc (.cells #[mb] 100)).alloc (.cells #[.string ⟨#[]⟩,.int .u64 0,.slice none 0 0] 50)).alloc (.cells (madeCells #[.string ⟨#[]⟩] nl) 9)).heap.size=w.heap.size+1+1+1:=zad;have s4:((((w.alloc (.cells #[mb] 100)).alloc (.cells #[.string ⟨#[]⟩,.int .u64 0,.slice none 0 0] 50)).alloc (.cells (madeCells #[.string ⟨#[]⟩] nl) 9)).alloc (.cells #[.slice (some (w.heap.size+1+1,0)) 0 nl] 22)).heap.size=w.heap.size+1+1+1+1:=zad;have XZ:Below w w (((((w.alloc (.cells #[mb] 100)).alloc (.cells #[.string ⟨#[]⟩,.int .u64 0,.slice none 0 0] 50)).alloc (.cells (madeCells #[.string ⟨#[]⟩] nl) 9)).alloc (.cells #[.slice (some (w.heap.size+1+1,0)) 0 nl] 22)).alloc (.cells #[.int .u32 r.act] 167)).drew:=((hB4 (.cells #[mb] 100) (.cells #[.string ⟨#[]⟩,.int .u64 0,.slice none 0 0] 50) (.cells (madeCells #[.string ⟨#[]⟩] nl) 9) (.cells #[.slice (some (w.heap.size+1+1,0)) 0 nl] 22)).alloc zaf _).drew;have x0:Boxed (((((w.alloc (.cells #[mb] 100)).alloc (.cells #[.string ⟨#[]⟩,.int .u64 0,.slice none 0 0] 50)).alloc (.cells (madeCells #[.string ⟨#[]⟩] nl) 9)).alloc (.cells #[.slice (some (w.heap.size+1+1,0)) 0 nl] 22)).alloc (.cells #[.int .u32 r.act] 167)).drew w.heap.size 100 mb:=hk _ _ _ _ (hk _ _ _ _ (hk _ _ _ _ (hk _ _ _ _ (hh w _))));have x1:(((((w.alloc (.cells #[mb] 100)).alloc (.cells #[.string ⟨#[]⟩,.int .u64 0,.slice none 0 0] 50)).alloc (.cells (madeCells #[.string ⟨#[]⟩] nl) 9)).alloc (.cells #[.slice (some (w.heap.size+1+1,0)) 0 nl] 22)).alloc (.cells #[.int .u32 r.act] 167)).drew.heap[w.heap.size+1]?=some (.cells #[.string ⟨#[]⟩,.int .u64 0,.slice none 0 0] 50 (0,0)):=hk _ _ _ _ (hk _ _ _ _ (hk _ _ _ _ (by rw[<- s1];exact hh _ _)));have x2:(((((w.alloc (.cells #[mb] 100)).alloc (.cells #[.string ⟨#[]⟩,.int .u64 0,.slice none 0 0] 50)).alloc (.cells (madeCells #[.string ⟨#[]⟩] nl) 9)).alloc (.cells #[.slice (some (w.heap.size+1+1,0)) 0 nl] 22)).alloc (.cells #[.int .u32 r.act] 167)).drew.heap[w.heap.size+1+1]?=some (.cells (madeCells #[.string ⟨#[]⟩] nl) 9 (0,0)):=hk _ _ _ _ (hk _ _ _ _ (by rw[<- s2];exact hh _ _));have x3:Boxed (((((w.alloc (.cells #[mb] 100)).alloc (.cells #[.string ⟨#[]⟩,.int .u64 0,.slice none 0 0] 50)).alloc (.cells (madeCells #[.string ⟨#[]⟩] nl) 9)).alloc (.cells #[.slice (some (w.heap.size+1+1,0)) 0 nl] 22)).alloc (.cells #[.int .u32 r.act] 167)).drew (w.heap.size+1+1+1) 22 (.slice (some (w.heap.size+1+1,0)) 0 nl):=hk _ _ _ _ (by rw[<- s3];exact hh _ _);have x4:Boxed (((((w.alloc (.cells #[mb] 100)).alloc (.cells #[.string ⟨#[]⟩,.int .u64 0,.slice none 0 0] 50)).alloc (.cells (madeCells #[.string ⟨#[]⟩] nl) 9)).alloc (.cells #[.slice (some (w.heap.size+1+1,0)) 0 nl] 22)).alloc (.cells #[.int .u32 r.act] 167)).drew (w.heap.size+1+1+1+1) 167 (.int .u32 r.act):=by
  show((((w.alloc (.cells #[mb] 100)).alloc (.cells #[.string ⟨#[]⟩,.int .u64 0,.slice none 0 0] 50)).alloc (.cells (madeCells #[.string ⟨#[]⟩] nl) 9)).alloc (.cells #[.slice (some (w.heap.size+1+1,0)) 0 nl] 22) |>.alloc (.cells #[.int .u32 r.act] 167)).heap[_]?=_;rw[<- s4];exact hh _ _
 have Y2:(((((w.alloc (.cells #[mb] 100)).alloc (.cells #[.string ⟨#[]⟩,.int .u64 0,.slice none 0 0] 50)).alloc (.cells (madeCells #[.string ⟨#[]⟩] nl) 9)).alloc (.cells #[.slice (some (w.heap.size+1+1,0)) 0 nl] 22)).alloc (.cells #[.int .u32 r.act] 167)).drew.heap.size=w.heap.size+5:=zad;have hI0:Y.StI w mb (w.heap.size+1) (w.heap.size+1+1+1) [] (((((w.alloc (.cells #[mb] 100)).alloc (.cells #[.string ⟨#[]⟩,.int .u64 0,.slice none 0 0] 50)).alloc (.cells (madeCells #[.string ⟨#[]⟩] nl) 9)).alloc (.cells #[.slice (some (w.heap.size+1+1,0)) 0 nl] 22)).alloc (.cells #[.int .u32 r.act] 167)).drew:=⟨_,x3,⟨rfl,.inr ⟨_,nl,_,rfl,zaa,x2,PK _,zag,by rw[size_madeCells];omega,rfl⟩⟩,XZ,x0,x1⟩;clear s1 s2 s3 s4 hh hk x0 x1 x2 x3 Zc hmk2 hm4 hB4;generalize(((((w.alloc (.cells #[mb] 100)).alloc (.cells #[.string ⟨#[]⟩,.int .u64 0,.slice none 0 0] 50)).alloc (.cells (madeCells #[.string ⟨#[]⟩] nl) 9)).alloc (.cells #[.slice (some (w.heap.size+1+1,0)) 0 nl] 22)).alloc (.cells #[.int .u32 r.act] 167)).drew=W0 at *;have hT0:TabAt 1 Lib.deBruijn32tab W0:=Y.cC Vc (XZ.mono U8) h.tab5;refine pr zaa (w.heap.size+1+1+1+1) r.act XE rfl zaa (by have:=Vc.g5;omega) x4.cell hT0 rfl
  (fun pre V=>Y.StI w mb (w.heap.size+1) (w.heap.size+1+1+1) ((Y.bn pre).map (Y.bR ps)) V) (fun _ _ _=>False)
  (fun pre A C row h hg hr=>h.gr hg (fun r e=>⟨zas,(hr r e).2⟩))
  (fun _ _ _ _ _ hs _ _=>hs) hI0
  (fun x a' _=>a'={ tmps:=#[.pointer (some ⟨mb,0,none⟩),.string ev,.pointer (some ⟨w.heap.size,0,none⟩),undef,.pointer (some ⟨w.heap.size+1,0,none⟩),.pointer (some ⟨w.heap.size+1+1+1,0,none⟩),.int .i64 x.1,.pointer (some ⟨mb,0,none⟩),.pointer (some ⟨mb,0,none⟩),.pointer (some ⟨mb,1,none⟩),.int .u32 r.act,.int .i64 nl,.slice (some ⟨w.heap.size+1+1,0,none⟩) 0 nl,.pointer (some ⟨mb,0,none⟩),.pointer (some ⟨mb,0,none⟩),.pointer (some ⟨mb,1,none⟩),.int .u32 r.act,.func (.func 151) #[] #[.pointer (some ⟨w.heap.size+1+1+1+1,0,none⟩)],.int .i64 x.1,undef,undef,undef,undef,undef,undef,undef,undef,undef,undef,undef,undef,undef,undef,undef,undef,undef,undef,undef,undef],defers:=[] }) (fun _ _ _ _ _ _ hs _ _=>hs) ?assign ?body ?done ?stop
 case assign=>
  exact zep
 case body=>
  rintro l pre x a' V hl ⟨rl,Xv⟩ ⟨sv,VP,hN,hB,hbm,VZ⟩ rfl VI;have Xk:=V9 x.1 x.2;obtain⟨p,hp⟩:∃p,ps[x.1]?=some p:=⟨_,Pp Xk⟩;have hxi:((x.1:Int)<(ps.length:Int)):=zaa;have VD:Y.bR ps x.1=p.name:=by unfold Y.bR;rw[hp]
  have HSN:Hid ((Y.bn (pre++[x])).map (Y.bR ps)=(Y.bn pre).map (Y.bR ps)++[p.name]):=by
   unfold Hid;rw[Y.eu,Qj,<- VD];rfl
  have YL:((Y.bn pre).map (Y.bR ps)).length<=32:=by rw[PE,Y.cU,PE];omega
  generalize(Y.bn pre).map (Y.bR ps)=L at *;obtain⟨sa,sc,rfl⟩:=hN.n;have hVs:=hB.size;have ZJ:=hP.below (hB.mono U8);have VK:Below V V (V.drew.alloc (.cells #[p.name] 9)):=(Pq _ V).drew.alloc (Po _) _;have VO:∀W:World,Below V.heap.size V W->(fun V=>V.cell? w=some ↑mb/\V.cell? mb=some ↑pb/\V.cell? pb=some (.slice b ps.length cap)/\V.cell? (b,x.1*10+1)=some ↑p.name) W:=fun W hW=>⟨(aD hbm hW hbm.lt).cell,((h.below Vc hB).below Vc hW).c0.1,(ZJ.below (hW.mono (Pr U8 hVs))).bJ.row,((ZJ.below (hW.mono (Pr U8 hVs))).bJ.at' x.1 p hp).c1⟩;have cx1:V.drew.cell? ↑(w.heap.size+1+1+1)=some (.slice sa L.length sc):=VP.cell;have cx2:(V.drew.alloc (.cells #[p.name] 9)).cell? ↑(w.heap.size+1+1+1)=some (.slice sa L.length sc):=(aD VP VK VP.lt).cell;have cx3:(V.alloc (.cells #[p.name] 9)).drew.cell? ↑(w.heap.size+1+1+1)=some (.slice sa L.length sc):=cx2;have hpbl:pb<w.heap.size:=by have:=hP.pb';omega
  have hbbl:b<w.heap.size:=by have:=hP.b';omega
  have Wj:=hN.kind;have HG:Hid (∀(w5:World),(V.drew.alloc (.cells #[p.name] 9)).grownBy w5 (Value.ownBlock (.slice sa L.length sc))->(fun V=>V.cell? w=some ↑mb/\V.cell? mb=some ↑pb/\V.cell? pb=some (.slice b ps.length cap)/\V.cell? (b,x.1*10+1)=some ↑p.name) w5/\Boxed w5 (w.heap.size+1+1+1) 22 (.slice sa L.length sc)/\Below w w w5/\Boxed w5 w 100 mb/\w5.heap[w.heap.size+1]?=some (.cells #[.string ⟨#[]⟩,.int .u64 0,.slice none 0 0] 50 (0,0))/\KeepsOthers V w5):=fun w5 hg=>by
   have hm:Mo (fun k=>Value.ownBlock (.slice sa L.length sc)=some k) V w5:=(az VK).trans ⟨hg.os,hg.tape,hg.output,hg.size,fun k hk hn=>hg.block k hk (fun e=>hn e.symm)⟩;have ne:∀(k:Nat) (c:Array Value) (t:TypeId) (f:Nat×Nat),V.heap[k]?=some (.cells c t f)->t≠9->¬(Value.ownBlock (.slice sa L.length sc)=some k):=fun k c t f hk ht e=>by
    obtain⟨_,_,c',Ve⟩:=Wj k e;rw[hk]at Ve;cases Ve
    exact ht rfl
   have VM:Below w w w5:=hm.below hB hVs (fun i hi e=>by have:=(Wj i e).1;omega);have VA:Boxed w5 w 100 mb:=Boxed.mo hbm hm (ne _ _ _ _ hbm zac);exact⟨⟨VA.cell,(h.below Vc VM).c0.1,(hP.below (VM.mono U8)).bJ.row,((hP.below (VM.mono U8)).bJ.at' x.1 p hp).c1⟩,Boxed.mo VP hm (ne _ _ _ _ VP zac),VM,VA,(hm.block _ (Pn.1 VZ).1 (ne _ _ _ _ VZ zac)).trans VZ,⟨hm.size,fun k o hk ho=>(hm.block k (Pn.1 hk).1 (fun e=>by
    obtain⟨_,_,c',Ve⟩:=Wj k e;rw[hk]at Ve;cases Ve
    cases ho)).trans hk⟩⟩
  have U2:(V.drew.alloc (.cells #[p.name] 9)).ownsRow w 9 1 (.slice sa L.length sc) L.length (L.flatMap Y.D6):=(show V.drew.ownsRow _ _ _ _ _ _ from hN).alloc _;gi_wp2;refine dr (S:=(fun V=>V.cell? w=some ↑mb/\V.cell? mb=some ↑pb/\V.cell? pb=some (.slice b ps.length cap)/\V.cell? (b,x.1*10+1)=some ↑p.name)) zab zab zbl (VO _ (Pq _ V).drew) (fun Pm=>?_);refine tD (some 20) 1 mb rfl Pm ?_;refine tD (some 21) 2 mb rfl Pm ?_;refine tD (some 22) 3 mb rfl Pm ?_;refine tD (some 23) 4 pb rfl Pm ?_;refine tD (some 24) 5 pb rfl Pm ?_;refine tD (some 25) 6 pb rfl Pm ?_;refine tD (some 26) 7 (.slice b ps.length cap) rfl Pm ?_;refine tD (some 27) 8 (.int .i64 x.1) rfl Pm ?_;refine tD (some 28) 9 (b,x.1*10) rfl Pm ?_;refine tD (some 29) 10 (b,x.1*10+1) rfl Pm ?_;refine tD (some 30) 11 (.string p.name) rfl Pm ?_;refine yH [0,12] ?_;refine Qk rfl (fun K hK=>?rg1) (Qk rfl (fun K hK=>?rg2) QX)
  case' rg1=>
   go_simp;refine hK.out _ _ Pm (fun Pm=>?_);clear hK K;refine zH 12 rfl fun K hK=>?_;go_simp;refine hK.out _ _ (VO _ VK) (fun Pm=>?_);clear hK K;refine zH 13 rfl fun K hK=>?_;refine step_append_lies _ zae _ _ _ zae w.heap.size 9 i0 _ 1 16 underlying22 hi Vv Vk Vl rfl zac (.slice sa L.length sc) L.length (L.flatMap Y.D6) zae U2 ⟨V.drew.heap.size,0,none⟩ 1 1 [p.name] zae zae (World.news_of_block (cs:=#[p.name]) (t:=9) (fr:=(0,0)) (PG V.drew _)) (fun u hu=>zaM) zaa zag zaa (Pr hVs VK.size) _ rfl ?_;intro g5 cap5 w5 U6 Pg VJ We;obtain⟨hS5,Y4,WO,hbm5,hbs5,hko5⟩:=HG.out w5 Pg;have c5:=Y4.cell;have f5:=Y4.frozen;refine hK.out _ _ hS5 (fun Pm=>?_);clear hK K;refine zH 14 rfl fun K hK=>?_;go_simp;refine hK.out _ _ (by
    exact⟨(aA zaq).trans Pm.1,(aA zaq).trans Pm.2.1,(aA zaq).trans Pm.2.2.1,(aA zaq).trans Pm.2.2.2⟩) (fun Pm=>?_)
   clear hK K Pm;refine PX zab ?_ _;gi_wp2;have hne5:∀k,Value.ownBlock (.slice g5 (L.length+1) cap5)=some k->¬(k=w.heap.size+1+1+1):=fun k hk e=>by
    exact zc4
   have VV:Mo (·=w.heap.size+1+1+1) w5 (w5.setCell ↑(w.heap.size+1+1+1) (.slice g5 (L.length+1) cap5)):=(Mo.refl _ _).set _ _ rfl;have hBf:=WO.setCell (p:=↑(w.heap.size+1+1+1)) zaf (.slice g5 (L.length+1) cap5);refine⟨(hko5.trans (Qz _ _ _)).from _,fun hT=>Y.cC Vc (hBf.mono U8) h.tab5,_,Y4.set _,?_,hBf,bD hbm5 (p:=↑(w.heap.size+1+1+1)) (by show w.heap.size≠w.heap.size+1+1+1;omega) _,(Qg w5 ⟨w.heap.size+1+1+1,0,none⟩ _ _ zcA).trans hbs5⟩;have hof:=VV.own U6 hne5;show Y.Nms _ _ _ ((Y.bn (pre++[x])).map (Y.bR ps));rw[HSN.out];show World.ownsRow _ _ _ _ _ (L++[p.name]).length ((L++[p.name]).flatMap Y.D6);rw[PI,Qc];exact hof
  case' rg2=>
   go_simp;refine hK.out _ _ (VO _ VK) (fun Pm=>?_);clear hK K;refine zH 0 rfl fun K hK=>?_;go_simp;refine hK.out _ _ Pm (fun Pm=>?_);clear hK K;refine zH 13 rfl fun K hK=>?_;refine step_append_lies _ zae _ _ _ zae w.heap.size 9 i0 _ 1 16 underlying22 hi Vv Vk Vl rfl zac (.slice sa L.length sc) L.length (L.flatMap Y.D6) zae U2 ⟨V.drew.heap.size,0,none⟩ 1 1 [p.name] zae zae (World.news_of_block (cs:=#[p.name]) (t:=9) (fr:=(0,0)) (PG V.drew _)) (fun u hu=>zaM) zaa zag zaa (Pr hVs VK.size) _ rfl ?_;intro g5 cap5 w5 U6 Pg VJ We;obtain⟨hS5,Y4,WO,hbm5,hbs5,hko5⟩:=HG.out w5 Pg;have c5:=Y4.cell;have f5:=Y4.frozen;refine hK.out _ _ hS5 (fun Pm=>?_);clear hK K;refine zH 14 rfl fun K hK=>?_;go_simp;refine hK.out _ _ (by
    exact⟨(aA zaq).trans Pm.1,(aA zaq).trans Pm.2.1,(aA zaq).trans Pm.2.2.1,(aA zaq).trans Pm.2.2.2⟩) (fun Pm=>?_)
   clear hK K Pm;refine PX zab ?_ _;gi_wp2;have hne5:∀k,Value.ownBlock (.slice g5 (L.length+1) cap5)=some k->¬(k=w.heap.size+1+1+1):=fun k hk e=>by
    exact zc4
   have VV:Mo (·=w.heap.size+1+1+1) w5 (w5.setCell ↑(w.heap.size+1+1+1) (.slice g5 (L.length+1) cap5)):=(Mo.refl _ _).set _ _ rfl;have hBf:=WO.setCell (p:=↑(w.heap.size+1+1+1)) zaf (.slice g5 (L.length+1) cap5);refine⟨(hko5.trans (Qz _ _ _)).from _,fun hT=>Y.cC Vc (hBf.mono U8) h.tab5,_,Y4.set _,?_,hBf,bD hbm5 (p:=↑(w.heap.size+1+1+1)) (by show w.heap.size≠w.heap.size+1+1+1;omega) _,(Qg w5 ⟨w.heap.size+1+1+1,0,none⟩ _ _ zcA).trans hbs5⟩;have hof:=VV.own U6 hne5;show Y.Nms _ _ _ ((Y.bn (pre++[x])).map (Y.bR ps));rw[HSN.out];show World.ownsRow _ _ _ _ _ (L++[p.name]).length ((L++[p.name]).flatMap Y.D6);rw[PI,Qc];exact hof
 case done=>
  rintro D ys V hD WT ⟨sv,VP,hN,hB,hbm,VZ⟩ Vm;rw[WT]at hN;obtain⟨L,hL⟩:∃L,Hid ((Y.els r.act).map (Y.bR ps)=L):=⟨_,rfl⟩;rw[hL.out]at hN;obtain⟨sa,sc,rfl⟩:=hN.n;have h1c:(#[ev,.int .u64 r.now,.slice sa L.length sc]:Array Value).toList.all (·.oneCell')=true:=rfl;have VL:=(Pq V V).drew;have Wj:=hN.kind;have hcl2:∀W:World,Below V V W->() 75 #[ev] W fun e w'=>e=.returned ev/\Below V V w':=fun W hW=>(Vu W).mono (fun e w' y=>⟨y.1,hW.trans (y.2.mono hW.size)⟩);have Vr:∀W:World,Below V V W->() 60 #[mb] W fun e w'=>e=.returned (.int .u64 r.now)/\Below V V w':=fun W hW=>by
   obtain⟨qv,wh,a,_⟩:=((h.below Vc hB).below Vc hW).ex;exact(Mi W lo mb pb qv (r.m wh) a).mono (fun e w' y=>⟨y.1,by rw[y.2];exact hW⟩)
  have VO:∀W:World,Below V.heap.size V W->(fun V=>V.cell? w=some ↑mb/\V.cell? ↑(w.heap.size+1+1+1)=some (.slice sa L.length sc)) W:=fun W hW=>⟨(aD hbm hW hbm.lt).cell,(aD VP hW VP.lt).cell⟩;have HB:Hid (∀W:World,Below V.heap.size V W->W.heap[w.heap.size+1]?=some (.cells #[.string ⟨#[]⟩,.int .u64 0,.slice none 0 0] 50 (0,0))/\(fun V=>V.cell? w=some ↑mb/\V.cell? ↑(w.heap.size+1+1+1)=some (.slice sa L.length sc)) (W.setRow (w.heap.size+1) #[ev,.int .u64 r.now,.slice sa L.length sc])/\(W.setRow (w.heap.size+1) #[ev,.int .u64 r.now,.slice sa L.length sc]).heap[D]?=some (.deferred (some []))/\((W.setRow (w.heap.size+1) #[ev,.int .u64 r.now,.slice sa L.length sc]).putObj D (.deferred none)).heap[w.heap.size+1]?=some (.cells #[ev,.int .u64 r.now,.slice sa L.length sc] 50 (0,0))/\Y.Nms ((W.setRow (w.heap.size+1) #[ev,.int .u64 r.now,.slice sa L.length sc]).putObj D (.deferred none)) w.heap.size (.slice sa L.length sc) L/\Below w w ((W.setRow (w.heap.size+1) #[ev,.int .u64 r.now,.slice sa L.length sc]).putObj D (.deferred none))):=fun W hW=>by
   have hbW:=(hW.block _ (Pn.1 VZ).1).trans VZ;obtain⟨k1,k2⟩:=VO W hW;have hDV:=(Pn.1 Vm).1;have hDf:(W.setRow (w.heap.size+1) #[ev,.int .u64 r.now,.slice sa L.length sc]).heap[D]?=some (.deferred (some [])):=(Sj W _ _ _ zaa).trans ((hW.block D hDV).trans Vm);have U5:(W.setRow (w.heap.size+1) #[ev,.int .u64 r.now,.slice sa L.length sc]).heap[w.heap.size+1]?=_:=UB W _ _ #[ev,.int .u64 r.now,.slice sa L.length sc] _ _ hbW;have hmf:Mo (fun k=>k=w.heap.size+1\/k=D) V (W.setRow (w.heap.size+1) #[ev,.int .u64 r.now,.slice sa L.length sc]):=(az hW).trans ((EW (iM W (w.heap.size+1) _)).mono (fun i _ e=>.inl e));have hmp:Mo (fun k=>k=w.heap.size+1\/k=D) (W.setRow (w.heap.size+1) #[ev,.int .u64 r.now,.slice sa L.length sc]) ((W.setRow (w.heap.size+1) #[ev,.int .u64 r.now,.slice sa L.length sc]).putObj D (.deferred none)):=by
    have hg:=Q4 (W.setRow (w.heap.size+1) #[ev,.int .u64 r.now,.slice sa L.length sc]) D (.deferred none);exact⟨hg.os,hg.tape,hg.output,hg.size,fun k hk hn=>hg.block k hk (fun e=>hn (.inr za8))⟩
   have hBf:Below w w ((W.setRow (w.heap.size+1) #[ev,.int .u64 r.now,.slice sa L.length sc]).putObj D (.deferred none)):=(hmf.trans hmp).below hB hB.size (fun i hi e=>by rcases e with e|e<;>omega);refine⟨hbW,⟨(PN (w:=W) (Sj W _ _ _ (by show w.heap.size≠w.heap.size+1;omega))).trans k1,(PN (w:=W) (Sj W _ _ _ (by show w.heap.size+1+1+1≠w.heap.size+1;omega))).trans k2⟩,hDf,(Qs zaa).trans U5,?_,hBf⟩;refine(hmf.trans (hmp)).own hN (fun g hg e=>?_);obtain⟨_,gl,c',Ve⟩:=Wj g hg
   rcases e with e|e
   ·rw[e,VZ]at Ve;simp at Ve
   ·rw[e,Vm]at Ve;simp at Ve
  gi_wp2;refine UG.2 (kX ?_);refine PJ (S:=(fun V=>V.cell? w=some ↑mb/\V.cell? ↑(w.heap.size+1+1+1)=some (.slice sa L.length sc))) zab (VO _ (Pq _ V).drew) (fun Pm=>?_);refine tD (some 33) 0 (.string ev) rfl Pm ?_;refine tD (some 35) 2 mb rfl Pm ?_;refine tD (some 37) 4 (.slice sa L.length sc) rfl Pm ?_;refine zH 1 rfl fun K hK=>?_;go_simp;refine(hcl2 _ zal).mono ?_;rintro e wA ⟨rfl,hA⟩;refine hK.out _ _ (VO wA hA) (fun Pm=>?_);clear hK K;refine zH 3 rfl fun K hK=>?_;go_simp;refine(Vr _ zal).mono ?_;rintro e wA ⟨rfl,hA⟩;refine hK.out _ _ (VO wA hA) (fun Pm=>?_);clear hK K;refine tD (some 38) 5 (.agg #[ev,.int .u64 r.now,.slice sa L.length sc]) rfl Pm ?_;refine yH [6] ?_;refine pU rfl zab (fun K hK=>?_) QX;refine lY 50 _ _ rfl (w.heap.size+1) 50 #[.string ⟨#[]⟩,.int .u64 0,.slice none 0 0] #[ev,.int .u64 r.now,.slice sa L.length sc] rfl rfl (HB.out wA hA).1 zab rfl h1c ?_;refine hK.out _ _ (HB.out wA hA).2.1 (fun Pm=>?_);clear hK K;refine PX zab ?_ _;obtain⟨y1,y2,y3,y4,y5,y6⟩:=HB.out wA hA;unfold pQ;gi_wp2;refine⟨zad,.inl ⟨_,_,rfl,Qn y3,?_⟩⟩;refine⟨.agg #[ev,.int .u64 r.now,.slice sa L.length sc],?_,_,rfl,(by rw[hL.out];exact y5),y6⟩;rw[jh rfl];have hld:=run_loadVar_mid (P:=prog) ((wA.setRow (w.heap.size+1) #[ev,.int .u64 r.now,.slice sa L.length sc]).putObj D (.deferred none)) (w.heap.size+1) 0 50 [ev,.int .u64 r.now,.slice sa L.length sc] _ (lQ y4) underlying50 rfl zab;simpa[asAddr] using hld
 case stop=>
  exact zfl
namespace Y
def whz(i:Nat):Value:=if(i-28) % 65=64/\i<418 then .int .u64 0 else .pointer none
def r0:RSt:=⟨0,fun _=>0,[],0,[],0⟩
def mz(pb:Nat):Array Value:=((List.range 420).map (fF pb (.slice none 0 0) (r0.m whz))).toArray
end Y
theorem IS(pb:Nat):Tryz.prog.built 180 [(0,.pointer (some ⟨pb,0,none⟩))]=some (Y.mz pb):=zab
theorem pZ(pb:Nat)(w:World):(Instr.build 180 #[(0,.pointer (some ⟨pb,0,none⟩))]).run prog w=.ok (.agg (Y.mz pb)) w:=run_build w _ _ _ (IS pb)
namespace Y
theorem KK{r:Nat}(h:isR r):whz (28+r)=.pointer none:=by
 unfold whz;rw[Pu (by rcases h with h|h<;>omega)]
theorem KJ{k:Nat}(h:k<6):whz (28+(k*65+64))=.int .u64 0:=by
 unfold whz;rw[PC zaa]
theorem MT.made(hl:Lw lo)(U8:lo<=w.heap.size)(Vb:lo.s<=w.heap.size)(h6:TabAt 5 Lib.deBruijn64tab w)(h5:TabAt 1 Lib.deBruijn32tab w):MT (w.alloc (.cells (mz pb) 180)) lo w pb r0/\Rf lo w (w.alloc (.cells (mz pb) 180)):=by
 have hb:Below w w (w.alloc (.cells (mz pb) 180)):=(Pq _ w).alloc (Po _) _;refine⟨⟨⟨.slice none 0 0,whz,⟨⟨mz pb,PG w _,?_,fun i hi=>?_⟩,QAt.nil _ _,lo.new _ Vb,fun g hg=>(by cases hg),Pr Vb hb.size⟩,fun _=>[],⟨⟨fun r hr=>KK hr,fun r hr i x hx=>(by simp at hx),fun r hr x hx=>(by cases hx),fun r q _ _ _ x hx=>(by cases hx),fun r hr=>UT⟩,fun k hk=>⟨0,zac,KJ hk,fun s hs=>zad⟩⟩,fun r hr=>rfl,fun t ht=>by cases ht⟩,Pr U8 hb.size,zac,zac,zac,fY hl (hb.mono U8) h6,cC hl (hb.mono U8) h5⟩,RfE.of hb U8⟩
 ·unfold mz;simp
 ·unfold mz;rw[R9,Pv,Tu hi];rfl
theorem ou{lo:Nat}{n:Nat}(hP:ka w lo pb b cap ps fin EN LV hvs H D mbm n T M Lr pmF acF)(hz:SzP ps EN LV)(hza:∀m,∀a∈acF m,PA.sz a)(hr:ROK ps r)(hq:QOK r)(x:()):ROK ps (aZ ps fin EN LV H D M Lr pmF acF r x)/\QOK (aZ ps fin EN LV H D M Lr pmF acF r x):=by
 refine⟨Ey hP.inn hr (fun m hm=>?_),Ez hz hq (fun m _=>hza m)⟩;obtain⟨c1,_⟩:=gd ps r.act (fun m=>(pmF m).lv) (fun m=>(pmF m).own) (ia M Lr x (els (inn ps r.act))) _ (Po _);rw[Qy]at c1;exact(hP.want x _ m (c1 m hm)).en
theorem Ke{ps:List PS}{step:RSt->()->RSt}(hs:∀r x,ROK ps r->QOK r->ROK ps (step r x)/\QOK (step r x)):∀(n:Nat) (r:RSt),ROK ps r->QOK r->ROK ps (eW step n r)/\QOK (eW step n r):=fun n=>by
 induction n with
 |zero=>
  intro r h k;cases hq:r.q with
  |nil=>rw[nM hq];exact⟨h,k⟩
  |cons x qs=>
   by_cases hf:r.fin=0
   ·rw[uq hq hf];exact⟨⟨h.act,h.kept⟩,⟨k.q,.inr (.inr rfl),k.tm⟩⟩
   ·rw[qK hf];exact⟨h,k⟩
 |succ n ih=>
  intro r h k;cases hq:r.q with
  |nil=>rw[nM hq];exact⟨h,k⟩
  |cons x qs=>
   by_cases hf:r.fin=0
   ·rw[uo hq hf];obtain⟨a,b⟩:=hs { r with q:=qs } x ⟨h.act,h.kept⟩ ⟨fun e he=>k.q e (by rw[hq];exact P3 _ he),k.fin,k.tm⟩;exact ih _ a b
   ·rw[qK hf];exact⟨h,k⟩
theorem oQ(hs:∀r x,ROK ps r->QOK r->ROK ps (step r x)/\QOK (step r x))(h:ROK ps r)(k:QOK r):ROK ps (fA step r)/\QOK (fA step r):=by
 obtain⟨a,b⟩:=Ke hs 60 r h k;exact⟨⟨a.act,a.kept⟩,⟨fun e he=>(by cases he),b.fin,b.tm⟩⟩
def dW(ps:List PS)(fin:Nat)(EN LV:Nat->List PA)(H:List HV)(D:Nat->Bool)(M:()->Option Nat)(Lr:Nat->List (Option Nat))(pmF:Nat->PM)(acF:Nat->List PA)(s:Nat):RSt:=
 fA (aZ ps fin EN LV H D M Lr pmF acF) (de ps fin EN r0 (els s))
def fuelV(e:Nat):Value:=if e=6 then fw 6 else .nilIface
end Y
theorem El{op:Oper}{a:Act}{K:Act->World->Prop}{Q:Exit->Act->World->Prop}(x:Operand)(ho:op.op=.build 180 #[(0,x)])(pb:Nat)(hx:a.eval x=.pointer (some ⟨pb,0,none⟩))(h:K (a.put op.dst (.agg (Y.mz pb))) w):op.wp prog a w K Q:=by
 unfold Oper.wp execOp;simp only[ho,List.map_toArray,List.map_cons,List.map_nil,hx,Sem.run_bind,pZ,Result.andThen_ok,Sem.run_pure];exact h
theorem DW(w:World)(lo:Y.Lo)(pb b cap:Nat)(ps:List Y.PS)(fin:Nat)(EN LV:Nat->List Y.PA)(hvs:U.Sl)(H:List Y.HV)(D:Nat->Bool)(mbm n:Nat)(T:()->Option (List (Option Y.PM)))(M:()->Option Nat)(Lr:Nat->List (Option Nat))(pmF:Nat->Y.PM)(acF:Nat->List Y.PA)(p0:Y.PS)(hP:Y.ka w lo pb b cap ps fin EN LV hvs H D mbm n T M Lr pmF acF)(hz:Y.SzP ps EN LV)(hza:∀m,∀a∈acF m,Y.PA.sz a)(hp0:ps[0]?=some p0)(ZY:p0.wth<2 ^ ps.length)(U8:lo<=w.heap.size)(Vb:lo.s<=w.heap.size)(h6:TabAt 5 Lib.deBruijn64tab w)(h5:TabAt 1 Lib.deBruijn32tab w)(Vu:∀V:World,() 75 #[.string ⟨#[]⟩] V fun e w'=>e=.returned (.string ⟨#[]⟩)/\Below V V w'):
  () 38 #[pb] w fun e w'=>∃mb sb sv,e=.returned (.tuple #[.pointer (some ⟨mb,0,none⟩),.slice (some ⟨sb,0,none⟩) 1 1,Y.fuelV (Y.dW ps fin EN LV H D M Lr pmF acF p0.wth).fin])/\w'.heap[sb]?=some (.cells #[.string ⟨#[]⟩,.int .u64 (Y.dW ps fin EN LV H D M Lr pmF acF p0.wth).now,sv] 50 (0,0))/\Y.Nms w' lo sv ((Y.els (Y.dW ps fin EN LV H D M Lr pmF acF p0.wth).act).map (Y.bR ps))/\Y.MT w' lo mb pb (Y.dW ps fin EN LV H D M Lr pmF acF p0.wth)/\Y.Rf lo w w'/\lo<=sb/\Y.Idl w' mb:=by
 have Vc:=hP.bJ.lw;have hN:=hP.N;obtain⟨hM0,Xw⟩:=Y.MT.made (pb:=pb) Vc U8 Vb h6 h5;have hn0:0<ps.length:=(Ps.1 hp0).1;have hr0:Y.ROK ps Y.r0:=⟨Q3 _,fun _=>Q3 _⟩;have ZI:Y.QOK Y.r0:=⟨fun e he=>(by cases he),.inl rfl,zac,fun x hx=>(by cases hx)⟩;have hr1:=Y.ny (fin:=fin) (EN:=EN) (Y.els p0.wth) Y.r0 hr0 (Y.iI ZY);have hq1:=Y.nz hz (fin:=fin) (Y.els p0.wth) Y.r0 ZI;have hlq1:=Y.pk hP.bJ (Y.els p0.wth) Y.r0 (Y.iI ZY);have hle:=Y.rS p0.wth;obtain⟨XN,Yn⟩:=Y.oQ (fun r x h k=>Y.ou hP hz hza h k x) hr1 hq1;have HEN:Hid (() 63 #[w,.int .u32 p0.wth] (w.alloc (.cells (Y.mz pb) 180)) fun e w'=>e=.returned (.tuple #[])/\Hid (Y.MT w' lo w pb (Y.de ps fin EN Y.r0 (Y.els p0.wth))/\Y.Rf lo w w')):=
  (wu _ lo w pb b cap Y.r0 ps fin p0.wth EN LV (hP.bJ.below Xw.bel) hM0 (Y.rG hN ZY) (Y.iI ZY) (by show 0<=_;omega)).mono (fun e w' x=>⟨x.1,x.2.1,Xw.trans x.2.2⟩)
 have HAR:Hid (∀V,Hid (Y.MT V lo w pb (Y.de ps fin EN Y.r0 (Y.els p0.wth))/\Y.Rf lo w V)->() 64 #[w] V fun e w'=>e=.returned (.tuple #[])/\Hid ((Y.MT w' lo w pb (Y.dW ps fin EN LV H D M Lr pmF acF p0.wth)/\Y.Idl w' w)/\Y.Rf lo w w')):=fun V hV=>
  (kD V lo w pb b cap _ ps fin EN LV hvs H D mbm n T M Lr pmF acF (hP.rf hV.out.2) hz hza hV.out.1 hr1 hq1 (by have:Y.r0.q.length=0:=rfl;omega)).mono (fun e w' x=>⟨x.1,⟨x.2.1,x.2.2.2⟩,hV.out.2.trans x.2.2.1⟩)
 have YM:(Y.dW ps fin EN LV H D M Lr pmF acF p0.wth).act<2 ^ ps.length:=XN.act;have hrf:(Y.dW ps fin EN LV H D M Lr pmF acF p0.wth).fin=0\/(Y.dW ps fin EN LV H D M Lr pmF acF p0.wth).fin=5\/(Y.dW ps fin EN LV H D M Lr pmF acF p0.wth).fin=6:=Yn.fin;clear XN Yn hr1 hq1 hr0 ZI hlq1 hle;generalize Y.dW ps fin EN LV H D M Lr pmF acF p0.wth=r2 at *;have HST:Hid (∀V,Hid ((Y.MT V lo w pb r2/\Y.Idl V w)/\Y.Rf lo w V)->() 65 #[w,.string ⟨#[]⟩] V fun e w'=>∃a k c,e=.returned (.agg #[.string ⟨#[]⟩,.int .u64 r2.now,.slice a k c])/\Hid ((Y.MT w' lo w pb r2/\Y.Idl w' w)/\Y.Rf lo w w'/\Y.Nms w' lo (.slice a k c) ((Y.els r2.act).map (Y.bR ps)))):=fun V hV=>
  (BQ V lo w pb b cap r2 ps fin EN LV ⟨#[]⟩ (hP.rf hV.out.2).bJ hV.out.1.1 (Y.iI YM) Vu).mono (fun e w' x=>by
   obtain⟨sv,x1,x2,x3⟩:=x;obtain⟨a,c,rfl⟩:=x2.n;exact⟨a,_,c,x1,⟨hV.out.1.1.below Vc x3,hV.out.1.2.bel hV.out.1.1.lt x3⟩,hV.out.2.trans (Y.RfE.of x3 hV.out.1.1.lo'),x2.1,x2.2.imp id (fun⟨g,cp,cu,y1,y2,y3⟩=>⟨g,cp,cu,y1,Pr hV.out.1.1.lo' y2,y3⟩)⟩)
 have HOF:Hid (∀V,Hid (Y.MT V lo w pb r2)->() 66 #[w] V fun e w'=>e=.returned (Y.fuelV r2.fin)/\w'=V):=fun V hV=>by
  obtain⟨qv,wh,a,_⟩:=hV.out.ex;exact ki V lo w pb qv (r2.m wh) r2.fin a rfl hrf
 have hPa:=(hP.bJ.below Xw.bel).bJ;have c0:=hPa.row;have c7:=(hPa.at' 0 p0 hp0).c7;simp only[Nat.zero_mul,Nat.zero_add]at c7;have hn0':((0:Int)<(ps.length:Int)):=zaa;have HB:Hid (∀(V:World) (o:Obj),Below V.heap.size V (V.alloc o)):=fun V o=>(Pq _ V).alloc (Po _) _;clear hP hza hz hM0 Xw hPa h5 h6 Vu YM hrf;go_enter func38,ntmps38;go_wp2_with(first
  |(show wpList _ _ _ (Oper.mk _ (.build _ _) _ _ _ _::_) _ _;refine wpList_plain rfl (fun _ hK=>El _ rfl pb rfl (hK _ _ ?_)))
  |(go_at_call 63;refine HEN.out.mono ?_;rintro e w1 ⟨rfl,h1⟩)
  |(go_at_call 64;refine(HAR.out _ h1).mono ?_;rintro e w2 ⟨rfl,h2⟩)
  |(go_at_call 65;refine(HST.out _ h2).mono ?_;rintro e w3 ⟨sa,sk,sc,rfl,h3⟩)
  |(go_at_call 66;refine(HOF.out _ (h3.out.1.1.below Vc (HB.out _ _))).mono ?_;rintro e w4 ⟨rfl,Xm⟩;rw[Xm];clear Xm w4))
 go_ret3;have VM:=HB.out w3 (.cells #[.string ⟨#[]⟩,.int .u64 r2.now,.slice sa sk sc] 50);exact⟨_,_,_,rfl,PG _ _,Kd.row (bB (E:=fun _=>False) VM) h3.out.2.2 (fun h=>h),h3.out.1.1.below Vc VM,h3.out.2.1.trans (Y.RfE.of VM h3.out.1.1.lo'),h3.out.1.1.lo',h3.out.1.2.bel h3.out.1.1.lt VM⟩
