import Derived.Test.YtpkhcncoildcnaaGreatDoorM07
set_option maxRecDepth 100000
set_option maxHeartbeats 8000000
namespace Go.Proofs.YtpkhcncoildcnaaGreatDoor
variable {zp:Prop}
theorem zc4(h:zp:=by
 refine tD (some 49) 5 mb rfl u0 ?_;refine tD (some 50) 6 mb rfl u0 ?_;refine tD (some 51) 7 (mb,2) rfl u0 ?_;refine zH 8 rfl fun K hK=>?_;go_simp;refine(Um _ zam).mono ?_;rintro e wA ⟨rfl,hA⟩;refine hK.out _ _ (UF wA hA) (fun u0=>?_);clear hK K;refine tD (some 53) 9 (.int .u32 e3) rfl u0 ?_;refine tD (some 6) 10 (.int .u32 e3) rfl u0 ?_;refine OY zab ?_ _;clear u0;go_wp2
 go_roundw
 case rel=>exact⟨k+1,zad,by rw[Zv.out],zaa,Wx.out w9 wA M9.out C9.out hA⟩
 case measure=>simp only[intOf];omega):zp:=h
theorem zdp(h:zp:=by
 cases hk
 rcases TQ.2 with⟨a,_⟩|⟨g',cp',cu',a,_,c',_⟩
 ·cases a
 ·simp only[Value.slice.injEq,Option.some.injEq,Addr.mk.injEq]at a;obtain⟨⟨rfl,_⟩,_⟩:=a;have hq:=XL;rw[<- e]at hq;rw[show w5.heap[g5]?=_ from hq]at c';simp at c'):zp:=h
theorem zdt(h:zp:=by
 clear Zb HPOP y1 y2;go_wp2_with(go_at_call 102;refine hans.mono ?_;intro e w9 h9;obtain⟨rfl,h9⟩:=h9;have H9:Hid _:=h9;clear h9)
 go_roundw
 case rel=>exact⟨k+1,zad,zaa,H9⟩
 case measure=>simp only[intOf];omega):zp:=h
theorem zee(h:zp:=by
 rw[hx]at c419;unfold Y.fj at c419;rw[OB zac]at c419;go_wp2;go_end0;exact⟨rfl,E3.out,E4.out⟩):zp:=h
theorem zfs(h:zp:=by
 go_wp2;go_end0;exact⟨rfl,E3.out,E4.out⟩):zp:=h
theorem zap(h:zp:=by intro h;injection h with h1;omega):zp:=h
theorem zbR(h:zp:=by rw[OA V _ _ _ _ _ x1];rfl):zp:=h
theorem zcA(h:zp:=by show w.heap.size+1≠w.heap.size+1+1+1;omega):zp:=h
open Tryz
variable {N s pb b m mb fin cap mbm base:Nat}{w w' W:World}{lo:Y.Lo}{ps:List Y.PS}{x:Y.PM}{A:List Y.PA}{r:Y.RSt}{D:Nat->Bool}{H:List Y.HV}{EN LV acF:Nat->List Y.PA}{pmF:Nat->Y.PM}{C:List Nat}{hvs:U.Sl}{T:()->Option (List (Option Y.PM))}{M:()->Option Nat}{Lr:Nat->List (Option Nat)}{step:Y.RSt->()->Y.RSt}{qs L:List ()}{sv:Value}{row:Option Nat}
section
open Go.RowKit Go.Proofs Go.Shelf
namespace Y
def Ez(ps:List PS):En->Prop
 |.nil=>True
 |.all a=>a<2 ^ ps.length
 |.hist p t=>p<2 ^ ps.length/\∃pt ow po,ps[t]?=some pt/\pt.owner=((ow:Nat):Int)/\ps[ow]?=some po/\(∀k,k<2 ^ ps.length->dE ps ow k<2 ^ ps.length)/\∀s,s<2 ^ ps.length->complete ps s<2 ^ ps.length
theorem vN{ps:List PS}{e:En}(h:Ez ps e){kept:Nat->Nat}(hk:∀i,kept i<2 ^ ps.length):enters ps kept e<2 ^ ps.length:=by
 cases e with
 |nil=>exact PU _
 |all a=>exact h
 |hist p t=>
  obtain⟨h1,pt,ow,po,h2,h3,h4,h5,h6⟩:=h;have ho:rh ps t=ow:=by unfold rh;rw[h2];dsimp only;rw[h3];simp
  show complete ps (p|||dE ps (rh ps t) (kept t))<_;rw[ho];exact h6 _ (Po h1 (h5 _ (hk t)))
structure ROK(ps:List PS)(r:RSt):Prop where
 act:r.act<2 ^ ps.length
 kept:∀i,r.kept i<2 ^ ps.length
theorem qZ(hN:N<=24)(h:s<2 ^ N):s<4294967296:=OS h (Ox (PX zac hN) zac)
structure MvA(w:World)(lo:Nat)(pb b:Nat)(ps:List PS)(m:Nat)(x:PM)(A:List PA):Prop where
 at':eI w pb b m x
 own:x.own<ps.length
 lv:x.lv<2 ^ ps.length
 aw:fW w lo x.aw A
 en:Ez ps x.en
theorem MvA.rf(h:MvA w lo pb b ps m x A)(hR:Rf lo w w'):MvA w' lo pb b ps m x A:=
 ⟨h.at'.kd hR.kd (fun t ht=>by rcases ht with rfl|rfl|rfl|rfl|rfl<;>(unfold cR;decide)),h.own,h.lv,h.aw.below hR.bel,h.en⟩
theorem MvA.mvb{lo:Nat}(h:MvA w lo pb b ps m x A)(hN:ps.length<=24):MvB w m x.own x.lv:=by
 obtain⟨fv,hm,_⟩:=h.at';exact⟨by rw[OA w _ _ _ _ _ hm];rfl,by rw[OA w _ _ _ _ _ hm];rfl,qZ hN h.lv,_,hm⟩
theorem MT.kept(h:MT W lo mb pb r){t:Nat}(ht:t<24):W.cell? (mb,2+t)=some (.int .u32 (r.kept t)):=by
 obtain⟨qv,wh,m,b⟩:=h.ex;rw[m.cell (2+t) zaa];unfold fw;rw[OB zaa,OB zaa,OD zaa,show 2+t-2=t by omega];rfl
theorem iy(h:s<2 ^ N):∀i,i∈els s->i<N:=fun _ hi=>xM h hi
end Y
theorem zR(w:World)(lo:Y.Lo)(mb pb b cap:Nat)(r:Y.RSt)(ps:List Y.PS)(fin:Nat)(EN LV:Nat->List Y.PA)(p t c3 c7 c6 c5:Nat)(hP:Y.gy w lo pb b cap ps fin EN LV)(h:Y.MT w lo mb pb r)(hr:Y.ROK ps r)(hN:ps.length<=24)(hE:Y.Ez ps (.hist p t))(h3:Boxed w c3 103 pb)(h7:Boxed w c7 107 (.int .u32 p))(h6:Boxed w c6 252 (b,t*10))(h5:Boxed w c5 3 (.int .i64 t)):
  () 157 #[(mb,2),c3,c7,c6,c5] w fun e w'=>e=.returned (.int .u32 ((Y.enters ps r.kept (.hist p t):Nat):Int))/\Below w w w':=by
 obtain⟨e1,pt,ow,po,e2,e3,e4,e5,e6⟩:=hE;have ho:Y.rh ps t=ow:=by unfold Y.rh;rw[e2];dsimp only;rw[e3];simp
 have Vo:t<ps.length:=(Oz.1 e2).1;have TT:=h.lo';have hk:=hr.kept t;have:=yf w pb b cap ps c3 c7 c6 c5 p t ow mb 2 (r.kept t) pt po e2 e4 e3 (Y.qZ hN e1) (Y.qZ hN hk) (Y.iy hk) (Y.iy (Po e1 (e5 _ hk))) (fun i q hq j hj=>(hP.pts i q hq j hj).2) hP.bG (by have:=hP.pb';omega) (by have:=hP.b';omega) (by have:=hP.lw.g5;omega) h.tab5 h3 h7 h6 h5 h.lt (h.kept zaa);show Calls _ _ _ _ fun e w'=>e=.returned (.int .u32 ((Y.complete ps (p|||Y.dE ps (Y.rh ps t) (r.kept t)):Nat):Int))/\_;rw[ho];exact this
namespace Y
def eo(act:Nat)(pmF:Nat->PM)(C:List Nat):Nat:=C.foldl (fun a m=>a|||((pmF m).lv&&&act)) 0
theorem Cy(act:Nat)(pmF:Nat->PM)(C:List Nat)(m:Nat):eo act pmF (C++[m])=eo act pmF C|||((pmF m).lv&&&act):=by unfold eo;rw[Px];rfl
theorem oL{N act:Nat}(pmF:Nat->PM)(h:act<2 ^ N):∀(C:List Nat) (a:Nat),a<2 ^ N->C.foldl (fun a m=>a|||((pmF m).lv&&&act)) a<2 ^ N
 |[],_,ha=>ha
 |_::C,_,ha=>oL pmF h C _ (Po ha (Pm RJ h))
def nE(ps:List PS)(pmF:Nat->PM)(acF:Nat->List PA)(z:RSt×Nat)(m:Nat):RSt×Nat:=(doL z.1 (acF m),z.2|||enters ps (doL z.1 (acF m)).kept (pmF m).en)
def fA(ps:List PS)(pmF:Nat->PM)(acF:Nat->List PA)(z:RSt×Nat)(C:List Nat):RSt×Nat:=C.foldl (nE ps pmF acF) z
theorem EG(ps:List PS)(pmF:Nat->PM)(acF:Nat->List PA)(z:RSt×Nat)(C:List Nat)(m:Nat):fA ps pmF acF z (C++[m])=nE ps pmF acF (fA ps pmF acF z C) m:=by unfold fA;rw[Px];rfl
theorem EC(r:RSt)(a:PA):(ir r a).kept=r.kept:=by
 exact zfb
theorem iw:∀(L:List PA) (r:RSt),(doL r L).kept=r.kept
 |[],_=>rfl
 |x::L,r=>(iw L (ir r x)).trans (EC r x)
theorem sB(h:ROK ps r)(L:List PA):ROK ps (doL r L):=⟨by rw[jz];exact h.act,by rw[iw];exact h.kept⟩
def jZ(ps:List PS)(fin:Nat)(EN LV:Nat->List PA)(H:List HV)(D:Nat->Bool)(pmF:Nat->PM)(acF:Nat->List PA)(r:RSt)(C:List Nat):RSt:=
 let left:=eo r.act pmF C
 let z:=fA ps pmF acF (dU LV (dJ ps left D H r H.length) (els left).reverse,0) C
 bZ ps fin EN z.1 (els z.2)
theorem mP{ps:List PS}(LV:Nat->List PA):∀(l:List Nat) (r:RSt),ROK ps r->ROK ps (dU LV r l)
 |[],_,h=>h
 | i::l,r,h=>mP LV l (qY LV r i) (by
  have h1:=sB h (LV i);exact⟨Pm Qi h1.act,h1.kept⟩)
theorem KN{left:Nat}(hi:∀a,a<2 ^ ps.length->inn ps a<2 ^ ps.length)(h:ROK ps r)(k:Nat):ROK ps (lE ps left D H r k):=by
 unfold lE;split
 ·exact h
 ·split
  ·exact h
  ·split
   ·refine⟨h.act,fun i=>?_⟩;rename_i y _ _ po _ _;by_cases e:i=y.idx
    ·subst e;show upd r.kept _ _ _<_;rw[aD];unfold lX;split
     ·exact Pm Qi (hi _ h.act)
     ·exact Pm Qi h.act
    ·show upd r.kept _ _ _<_;rw[aG _ _ e];exact h.kept i
   ·exact h
theorem oJ{ps:List PS}{left:Nat}{D:Nat->Bool}{H:List HV}{r:RSt}(hi:∀a,a<2 ^ ps.length->inn ps a<2 ^ ps.length)(h:ROK ps r):∀n,ROK ps (dJ ps left D H r n)
 |0=>h
 |n+1=>by rw[nP];exact KN hi (oJ hi h n) n
theorem Kw(h:ROK ps r)(i:Nat):ROK ps (kM ps fin r i):=by
 obtain⟨a,_,_,b,_⟩:=j9 ps fin r i;exact⟨by rw[a];exact h.act,by rw[b];exact h.kept⟩
theorem Ko(h:ROK ps r){i:Nat}(hi:i<ps.length):ROK ps (iN ps fin EN r i):=by
 have h1:ROK ps { r with act:=r.act|||2 ^ i }:=⟨Po h.act (QM zac hi),h.kept⟩;have h2:=sB h1 (EN i);unfold iN;dsimp only;split
 ·split
  ·exact Kw h2 i
  ·exact h2
 ·exact h2
theorem mK{ps:List PS}{fin:Nat}{EN:Nat->List PA}:∀(l:List Nat) (r:RSt),ROK ps r->(∀i∈l,i<ps.length)->ROK ps (bZ ps fin EN r l)
 |[],_,h,_=>h
 |i::l,r,h,hl=>mK l (iN ps fin EN r i) (Ko h (hl i (O1 ..))) (fun j hj=>hl j (OZ _ hj))
theorem rA{ps:List PS}{pmF:Nat->PM}{acF:Nat->List PA}:∀(C:List Nat) (z:RSt×Nat),ROK ps z.1->z.2<2 ^ ps.length->(∀m∈C,Ez ps (pmF m).en)->ROK ps (fA ps pmF acF z C).1/\(fA ps pmF acF z C).2<2 ^ ps.length
 |[],_,h,h2,_=>⟨h,h2⟩
 |m::C,z,h,h2,hC=>rA C (nE ps pmF acF z m) (sB h _) (Po h2 (vN (hC m (O1 ..)) (sB h _).kept)) (fun x hx=>hC x (OZ _ hx))
theorem DI(hi:∀a,a<2 ^ ps.length->inn ps a<2 ^ ps.length)(h:ROK ps r)(hC:∀m∈C,Ez ps (pmF m).en):ROK ps (jZ ps fin EN LV H D pmF acF r C):=by
 have h1:=rA (pmF:=pmF) (acF:=acF) C (dU LV (dJ ps (eo r.act pmF C) D H r H.length) (els (eo r.act pmF C)).reverse,0) (mP LV _ _ (oJ hi h _)) (PU _) hC;exact mK _ _ h1.1 (iy h1.2)
structure jW(w:World)(lo:Nat)(pb b cap:Nat)(ps:List PS)(fin:Nat)(EN LV:Nat->List PA)(hvs:U.Sl)(H:List HV)(D:Nat->Bool)(mbm n:Nat)(T:()->Option (List (Option PM)))(M:()->Option Nat)(Lr:Nat->List (Option Nat))(pmF:Nat->PM)(acF:Nat->List PA):Prop where
 bG:gy w lo pb b cap ps fin EN LV
 hist:za w pb ps hvs H D
 mov:EB w lo pb b ps.length cap hvs.v fin mbm n T M Lr
 mva:∀(ev:()) (g i m:Nat),M ev=some g->(Lr g)[i]?=some (some m)->MvA w lo pb b ps m (pmF m) (acF m)
 N:ps.length<=24
 inn:∀a,a<2 ^ ps.length->inn ps a<2 ^ ps.length
theorem jW.rf{n:Nat}(h:jW w lo pb b cap ps fin EN LV hvs H D mbm n T M Lr pmF acF)(hR:Rf lo w w'):jW w' lo pb b cap ps fin EN LV hvs H D mbm n T M Lr pmF acF:=
 ⟨h.bG.below hR.bel,h.hist.rf hR h.bG.pb',h.mov.rf hR h.bG.pb',fun ev g i m a b=>(h.mva ev g i m a b).rf hR,h.N,h.inn⟩
theorem jW.want{lo:Nat}{n:Nat}(h:jW w lo pb b cap ps fin EN LV hvs H D mbm n T M Lr pmF acF)(ev:())(l:List Nat):∀m∈gJ M Lr ev l,MvA w lo pb b ps m (pmF m) (acF m):=fun m hm=>by
 unfold gJ at hm;split at hm
 ·cases hm
 ·rename_i g hg;obtain⟨i,hi⟩:=wX hm;exact h.mva ev g i m hg hi
def aT(ps:List PS)(fin:Nat)(EN LV:Nat->List PA)(H:List HV)(D:Nat->Bool)(M:()->Option Nat)(Lr:Nat->List (Option Nat))(pmF:Nat->PM)(acF:Nat->List PA)(r:RSt)(ev:()):RSt:=
 jZ ps fin EN LV H D pmF acF r (gB ps r.act (fun m=>(pmF m).lv) (fun m=>(pmF m).own) (gJ M Lr ev (els (inn ps r.act))))
end Y
theorem BK(w:World)(lo:Y.Lo)(mb pb b cap:Nat)(r:Y.RSt)(ps:List Y.PS)(fin:Nat)(EN LV:Nat->List Y.PA)(hvs:U.Sl)(H:List Y.HV)(D:Nat->Bool)(mbm n:Nat)(T:()->Option (List (Option Y.PM)))(M:()->Option Nat)(Lr:Nat->List (Option Nat))(pmF:Nat->Y.PM)(acF:Nat->List Y.PA)(ev:())(hP:Y.jW w lo pb b cap ps fin EN LV hvs H D mbm n T M Lr pmF acF)(h:Y.MT w lo mb pb r)(hr:Y.ROK ps r)(Vg:ev.size<=1000000)(WJ:r.q.length<=4390000000000):
  () 102 #[mb,ev] w fun e w'=>e=.returned (.tuple #[])/\Y.MT w' lo mb pb (Y.aT ps fin EN LV H D M Lr pmF acF r ev)/\Y.Rf lo w w':=by
 have TW:=hP.bG.lw;have TT:=h.lo';have hN:=hP.N;have hwm:=hP.want ev (Y.els (Y.inn ps r.act));have hch:=BX w lo mb pb b cap r ps fin EN LV hvs.v mbm n T M Lr ev (fun m=>(pmF m).lv) (fun m=>(pmF m).own) _ rfl hP.bG hP.mov h Vg (Y.iy hr.act) (Y.iy (hP.inn _ hr.act)) (fun x hx=>⟨(hwm x hx).mvb hN,(hwm x hx).own⟩);obtain⟨c1,c2⟩:=Y.eW ps r.act (fun m=>(pmF m).lv) (fun m=>(pmF m).own) (Y.gJ M Lr ev (Y.els (Y.inn ps r.act))) _ (Ow _);rw[Pw]at c1 c2;have hwl:(Y.gJ M Lr ev (Y.els (Y.inn ps r.act))).length<=32:=by
  exact zdq
 have HAN:Hid (Y.aT ps fin EN LV H D M Lr pmF acF r ev=Y.jZ ps fin EN LV H D pmF acF r (Y.gB ps r.act (fun m=>(pmF m).lv) (fun m=>(pmF m).own) (Y.gJ M Lr ev (Y.els (Y.inn ps r.act))))):=rfl;generalize Y.gB ps r.act (fun m=>(pmF m).lv) (fun m=>(pmF m).own) (Y.gJ M Lr ev (Y.els (Y.inn ps r.act)))=C at *;have hCm:∀m∈C,Y.MvA w lo pb b ps m (pmF m) (acF m):=fun m hm=>hwm m (c1 m hm);have hCl:C.length<=32:=zaa;clear hwm c1 c2 hwl;have HV:Hid (∀V,Y.Rf lo w V->Y.jW V lo pb b cap ps fin EN LV hvs H D mbm n T M Lr pmF acF/\∀m∈C,Y.MvA V lo pb b ps m (pmF m) (acF m)):=fun V hV=>⟨hP.rf hV,fun m hm=>(hCm m hm).rf hV⟩;have H0:Hid _:=h;have HR0:Hid _:=hr;have Xz:=hP.inn;have hhl:=hP.hist.len;have HIN:Hid _:=Xz;clear h hP hCm hr Xz;go_enter func102,ntmps102;go_wp2_with(go_at_call 151;refine hch.mono ?_;intro e w1 h1;obtain⟨sv,rfl,hT1,TM⟩:=h1;obtain⟨sa,sc,rfl⟩:=hT1.n;have HT1:Hid _:=hT1;clear hT1);have HC:Hid (∀(k x:Nat) (V:World),Y.Rf lo w1 V->C[k]?=some x->∃g,sa=some ⟨g,0,none⟩/\V.cell? ⟨g,k,none⟩=some (.pointer (some ⟨x,0,none⟩))):=fun k x V hV hx=>by
  have hTV:Y.TkS V w (.slice sa C.length sc) C:=Kd.row hV.kd HT1.out zaP
  rcases hTV.form with⟨_,e2⟩|⟨g,cp,cu,e1,e2,e3,e4⟩
  ·subst e2;simp at hx
  ·simp only[Value.slice.injEq]at e1;obtain⟨rfl,_,rfl⟩:=e1;exact⟨g,rfl,e4.cell hx⟩
 have hlo1:lo<=w1.heap.size:=Ox TT TM.size;have Zc:Hid (Y.Rf lo w w1):=Y.RfE.of TM TT;have HM1:Hid (Y.MT w1 lo mb pb r):=H0.out.below TW TM;clear hch
 go_loopw[16,5] (fun i t wr=>∃(k:Nat),i=.int .i64 k/\t=.int .u32 ((Y.eo r.act pmF (C.take k):Nat):Int)/\k<=C.length/\Hid (Below w1 w1 wr)) (fun i _ _=>C.length-(intOf i).toNat)
 case atStart=>exact⟨0,rfl,rfl,zaa,Oy _ _⟩
 case round=>
  obtain⟨k,rfl,rfl,Vf,HB⟩:=hrel;by_cases hk:k<C.length
  ·obtain⟨x,hx⟩:∃x,C[k]?=some x:=⟨_,Ou hk⟩;have YB:Y.Rf lo w1 wr:=Y.RfE.of HB.out hlo1;obtain⟨g,ha,hcx⟩:=HC.out k x wr YB hx;subst ha;have hmx:=(HV.out wr (Zc.out.trans YB)).2 x (OG hx);have hle:=lY wr lo mb pb r x (pmF x).own (pmF x).lv (HM1.out.below TW HB.out) (hmx.mvb hN);have U6:Y.eo r.act pmF (C.take (k+1))=Y.eo r.act pmF (C.take k)|||((pmF x).lv&&&r.act):=by rw[<- Y.Cy,PQ,hx];rfl
   have l1:Y.eo r.act pmF (C.take k)<4294967296:=Y.qZ hN (Y.oL pmF HR0.out.act _ 0 (PU _));have l2:(pmF x).lv&&&r.act<4294967296:=Pm RJ (Y.qZ hN HR0.out.act);have Ys:=Q2 _ _ l1 l2;rw[<- U6]at Ys;have hki:((k:Int)<(C.length:Int)):=zaa;clear hmx hx U6;generalize Y.eo r.act pmF (C.take k)=a1 at *;obtain⟨a2,ha2⟩:∃a2,Y.eo r.act pmF (C.take (k+1))=a2:=⟨_,rfl⟩;rw[ha2]at Ys;have HA2:Hid _:=ha2;clear ha2;generalize(pmF x).lv&&&r.act=a3 at *;go_wp2_with(go_at_call 152;refine hle.mono ?_;rintro e w9 ⟨rfl,UR⟩)
   go_roundw
   case rel=>exact⟨k+1,zad,by rw[HA2.out],zaa,HB.out.trans (UR.mono HB.out.size)⟩
   case measure=>simp only[intOf];omega
  ·obtain rfl:k=C.length:=zaa;rw[Pw];have Yt:Y.eo r.act pmF C<2 ^ ps.length:=Y.oL pmF HR0.out.act _ 0 (PU _);have Z4:=HAN.out;unfold Y.jZ at Z4;dsimp only at Z4;obtain⟨left,hleft⟩:∃left,Y.eo r.act pmF C=left:=⟨_,rfl⟩;rw[hleft]at Yt Z4⊢;have Zb:Hid _:=Z4;clear hleft Z4 HAN;have YB:Y.Rf lo w1 wr:=Y.RfE.of HB.out hlo1;obtain⟨hPr,_⟩:=HV.out wr (Zc.out.trans YB);have hke:=Im wr lo mb pb b cap r ps fin left EN LV hvs H D hPr.bG hPr.hist (HM1.out.below TW HB.out) (Y.qZ hN Yt) (Y.iy HR0.out.act);obtain⟨r2,Wr⟩:∃r2,Y.dJ ps left D H r H.length=r2:=⟨_,rfl⟩;have hr2k:Y.ROK ps r2:=Wr▸Y.oJ HIN.out HR0.out _;have hr2q:r2.q=r.q:=Wr▸(Y.je ps left D H r H.length).2.1;rw[Wr]at hke;have YG:=Zb.out;rw[Wr]at YG;obtain⟨r3,hr3⟩:∃r3,Y.dU LV r2 (Y.els left).reverse=r3:=⟨_,rfl⟩;rw[hr3]at YG;have hr3k:Y.ROK ps r3:=hr3▸Y.mP LV _ _ hr2k;have hr3q:r3.q.length<=4390100000000:=by
    have h1:=Y.oK hPr.bG (Y.els left).reverse r2 (fun i hi=>Y.iy Yt i (RK.1 hi));have h2:(Y.els left).length<=32:=by
     have:=PB left.testBit (List.range 32);exact zf1
    rw[hr3,hr2q,S2]at h1;omega
   have HANS3:Hid _:=YG;have HLV:Hid (∀w2,Y.MT w2 lo mb pb r2->Y.Rf lo wr w2->() 154 #[mb,.int .u32 left] w2 fun e w'=>e=.returned (.tuple #[])/\Y.MT w' lo mb pb r3/\Y.Rf lo w1 w'):=fun w2 Vh Y1=>by
    refine(Fv w2 lo mb pb b cap r2 ps fin left EN LV (hPr.rf Y1).bG Vh (Y.qZ hN Yt) (Y.iy Yt) (by rw[hr2q];omega)).mono ?_;rintro e w' ⟨rfl,a,c⟩;rw[hr3]at a;exact⟨rfl,a,YB.trans (Y1.trans c)⟩
   clear YG Wr hr3 Zb HB hPr;go_wp2_with(first
    |(go_at_call 153;refine hke.mono ?_;intro e w2 h2;obtain⟨rfl,m2,c2⟩:=h2;have Xb:=HLV.out w2 m2 c2;clear m2 c2)
    |(go_at_call 154;refine Xb.mono ?_;intro e w3 h3;obtain⟨rfl,m3,c3⟩:=h3;have HM3:Hid (Y.MT w3 lo mb pb r3):=m3;have HC3:Hid (Y.Rf lo w1 w3):=c3;clear m3 c3))
   clear hke
   go_loopw[34,6] (fun i t wr=>∃(k:Nat),i=.int .i64 k/\t=.int .u32 (((Y.fA ps pmF acF (r3,0) (C.take k)).2:Nat):Int)/\k<=C.length/\Hid (Y.MT wr lo mb pb (Y.fA ps pmF acF (r3,0) (C.take k)).1/\Y.Rf lo w1 wr/\(Y.fA ps pmF acF (r3,0) (C.take k)).1.q.length<=r3.q.length+k*1048576)) (fun i _ _=>C.length-(intOf i).toNat)
   case atStart=>exact⟨0,rfl,rfl,zaa,HM3.out,HC3.out,by simp[Y.fA]⟩
   case round=>
    obtain⟨k,rfl,rfl,Vf,HI⟩:=hrel;have Uw:=Y.rA (pmF:=pmF) (acF:=acF) (C.take k) (r3,0) hr3k (PU _) (fun m hm=>((HV.out w1 Zc.out).2 m (Qz hm)).en);by_cases hk:k<C.length
    ·obtain⟨x,hx⟩:∃x,C[k]?=some x:=⟨_,Ou hk⟩;have U6:Y.fA ps pmF acF (r3,0) (C.take (k+1))=Y.nE ps pmF acF (Y.fA ps pmF acF (r3,0) (C.take k)) x:=by rw[<- Y.EG,PQ,hx];rfl
     obtain⟨⟨rk,ek⟩,hz⟩:∃z,Y.fA ps pmF acF (r3,0) (C.take k)=z:=⟨_,rfl⟩;have HI2:=HI.out;rw[hz]at Uw U6 HI2⊢;obtain⟨hM,hR,hq⟩:=HI2;dsimp only at Uw hM hq⊢;have HSN:Hid _:=U6;clear U6 hz HI;obtain⟨g,ha,hcx⟩:=HC.out k x wr hR hx;subst ha;obtain⟨hPr,hmr⟩:=HV.out wr (Zc.out.trans hR);have hmx:=hmr x (OG hx);clear hmr;have hEn:=hmx.en;have Xa:=Cc wr lo mb pb rk (pmF x).aw (acF x) TW hM hmx.aw zaa;have hrdk:Y.ROK ps (Y.doL rk (acF x)):=Y.sB Uw.1 _;have hrdq:=Y.vJ rk (acF x);have hacl:=hmx.aw.len;obtain⟨rd,hrd⟩:∃rd,Y.doL rk (acF x)=rd:=⟨_,rfl⟩;have Zv:Hid (Y.fA ps pmF acF (r3,0) (C.take (k+1))=(rd,ek|||Y.enters ps rd.kept (pmF x).en)):=by
      unfold Hid;rw[HSN.out];unfold Y.nE;dsimp only;rw[hrd]
     rw[hrd]at Xa hrdk hrdq;clear hrd HSN;have e1l:ek<4294967296:=Y.qZ hN Uw.2;have e2l:Y.enters ps rd.kept (pmF x).en<4294967296:=Y.qZ hN (Y.vN hEn hrdk.kept);have Ys:=Q2 _ _ e1l e2l;obtain⟨fv,hmb,hea⟩:=hmx.at';have ca:wr.cell? (x,2)=some (.slice (pmF x).aw.a (pmF x).aw.n (pmF x).aw.c):=by rw[OA wr _ _ _ _ _ hmb];rfl
     unfold U.Sl.v at Xa;have hki:((k:Int)<(C.length:Int)):=zaa;have Wx:Hid (∀w9 V,Y.MT w9 lo mb pb rd->Y.Rf lo wr w9->Below w9.heap.size w9 V->Y.MT V lo mb pb (Y.fA ps pmF acF (r3,0) (C.take (k+1))).1/\Y.Rf lo w1 V/\(Y.fA ps pmF acF (r3,0) (C.take (k+1))).1.q.length<=r3.q.length+(k+1)*1048576):=fun w9 V U7 U4 hV=>by
      rw[Zv.out];exact⟨U7.below TW hV,hR.trans (U4.trans (Y.RfE.of hV U7.lo')),by dsimp only;omega⟩
     have HC9:Hid (∀w9 V,Y.MT w9 lo mb pb rd->Y.Rf lo wr w9->Below w9.heap.size w9 V->V.heap[x]?=some (.cells #[.int .i64 (pmF x).own,.int .u32 (pmF x).lv,.slice (pmF x).aw.a (pmF x).aw.n (pmF x).aw.c,fv] 266 (0,0))/\Y.uB V pb b (pmF x).en fv/\Y.gy V lo pb b cap ps fin EN LV/\Y.MT V lo mb pb rd):=fun w9 V U7 U4 hV=>by
      have ZW:Y.Rf lo wr V:=U4.trans (Y.RfE.of hV U7.lo');exact⟨(ZW.kd.aq _ _ _ _ hmb zaP).trans hmb,hea.aq (fun B t u ht hb=>Kd.boxed ZW.kd hb (by rcases ht with rfl|rfl|rfl|rfl<;>(unfold Y.cR;decide))),hPr.bG.below ZW.bel,U7.below TW hV⟩
     obtain⟨e2,he2⟩:∃e2,Y.enters ps rd.kept (pmF x).en=e2:=⟨_,rfl⟩;obtain⟨e3,he3⟩:∃e3,ek|||e2=e3:=⟨_,rfl⟩;rw[he2,he3]at Ys;rw[he2,he3]at Zv;have HE2:Hid _:=he2;clear hmx hPr hM hx hacl hrdq e2l he2 he3 hmb;obtain⟨en,hen⟩:∃en,(pmF x).en=en:=⟨_,rfl⟩;rw[hen]at hea hEn HE2 HC9;clear hen;cases en with
     |nil=>
      have hfv:fv=.func (.func 109) #[] #[]:=hea;subst hfv;clear hea;have Wk:Hid (∀w9 V,Y.MT w9 lo mb pb rd->Y.Rf lo wr w9->Below w9.heap.size w9 V->V.cell? ⟨x,3,none⟩=some (.func (.func 109) #[] #[])/\() 109 #[(mb,2)] V fun e w'=>e=.returned (.int .u32 (e2:Int))/\Below w9.heap.size w9 w'):=fun w9 V U7 U4 hV=>by
       obtain⟨x1,x2,x3,x4⟩:=HC9.out w9 V U7 U4 hV;refine⟨zbR,?_⟩;refine(pZ V (.pointer (some ⟨mb,2,none⟩))).mono (fun e w' y=>⟨?_,by rw[y.2];exact hV⟩);rw[y.1,<- HE2.out];rfl
      go_wp2_with(go_at_call 100;refine Xa.mono ?_;intro e w9 h9;obtain⟨rfl,m9,c9⟩:=h9;have M9:Hid (Y.MT w9 lo mb pb rd):=m9;have C9:Hid (Y.Rf lo wr w9):=c9;clear m9 c9);have UB:=(Oy w9 w9).drew;have UF:∀V:World,Below w9 w9 V->(fun V=>V.cell? ⟨x,3,none⟩=some ((.func (.func 109) #[] #[]))) V:=fun V hV=>(Wk.out w9 V M9.out C9.out hV).1;have Um:∀V:World,Below w9 w9 V->() 109 #[(mb,2)] V fun e w'=>e=.returned (.int .u32 (e2:Int))/\Below w9 w9 w':=fun V hV=>(Wk.out w9 V M9.out C9.out hV).2;refine OQ (S:=(fun V=>V.cell? ⟨x,3,none⟩=some ((.func (.func 109) #[] #[])))) zab (UF _ UB) (fun u0=>?_);refine tD (some 44) 0 (.int .u32 ek) rfl u0 ?_;refine tD (some 45) 1 x rfl u0 ?_;refine tD (some 46) 2 x rfl u0 ?_;refine tD (some 47) 3 (x,3) rfl u0 ?_;refine tD (some 48) 4 (.func (.func 109) #[] #[]) rfl u0 ?_;exact zc4
     |all a=>
      obtain⟨c,hfv,VS⟩:=hea;subst hfv;clear VS;have Wk:Hid (∀w9 V,Y.MT w9 lo mb pb rd->Y.Rf lo wr w9->Below w9.heap.size w9 V->V.cell? ⟨x,3,none⟩=some (.func (.func 160) #[] #[c])/\() 160 #[(mb,2),c] V fun e w'=>e=.returned (.int .u32 (e2:Int))/\Below w9.heap.size w9 w'):=fun w9 V U7 U4 hV=>by
       obtain⟨x1,x2,x3,x4⟩:=HC9.out w9 V U7 U4 hV;refine⟨zbR,?_⟩;obtain⟨c',TZ,VS⟩:=x2;have ec:c=c':=by simpa using TZ
       subst ec;refine(At V c a (.pointer (some ⟨mb,2,none⟩)) VS.cell).mono (fun e w' y=>⟨?_,by rw[y.2];exact hV⟩);rw[y.1,<- HE2.out];rfl
      go_wp2_with(go_at_call 100;refine Xa.mono ?_;intro e w9 h9;obtain⟨rfl,m9,c9⟩:=h9;have M9:Hid (Y.MT w9 lo mb pb rd):=m9;have C9:Hid (Y.Rf lo wr w9):=c9;clear m9 c9);have UB:=(Oy w9 w9).drew;have UF:∀V:World,Below w9 w9 V->(fun V=>V.cell? ⟨x,3,none⟩=some ((.func (.func 160) #[] #[c]))) V:=fun V hV=>(Wk.out w9 V M9.out C9.out hV).1;have Um:∀V:World,Below w9 w9 V->() 160 #[(mb,2),c] V fun e w'=>e=.returned (.int .u32 (e2:Int))/\Below w9 w9 w':=fun V hV=>(Wk.out w9 V M9.out C9.out hV).2;refine OQ (S:=(fun V=>V.cell? ⟨x,3,none⟩=some ((.func (.func 160) #[] #[c])))) zab (UF _ UB) (fun u0=>?_);refine tD (some 44) 0 (.int .u32 ek) rfl u0 ?_;refine tD (some 45) 1 x rfl u0 ?_;refine tD (some 46) 2 x rfl u0 ?_;refine tD (some 47) 3 (x,3) rfl u0 ?_;refine tD (some 48) 4 (.func (.func 160) #[] #[c]) rfl u0 ?_;exact zc4
     |hist p t=>
      obtain⟨c3,c7,c6,c5,hfv,_⟩:=hea;subst hfv;have Wk:Hid (∀w9 V,Y.MT w9 lo mb pb rd->Y.Rf lo wr w9->Below w9.heap.size w9 V->V.cell? ⟨x,3,none⟩=some (.func (.func 157) #[] #[c3,c7,c6,c5])/\() 157 #[(mb,2),c3,c7,c6,c5] V fun e w'=>e=.returned (.int .u32 (e2:Int))/\Below w9.heap.size w9 w'):=fun w9 V U7 U4 hV=>by
       obtain⟨x1,x2,x3,x4⟩:=HC9.out w9 V U7 U4 hV;refine⟨zbR,?_⟩;obtain⟨d3,d7,d6,d5,hd,y3,y7,y6,y5⟩:=x2;simp only[Value.func.injEq,Array.mk.injEq,List.cons.injEq,Value.pointer.injEq,Option.some.injEq,Addr.mk.injEq,and_true,true_and]at hd;obtain⟨rfl,rfl,rfl,rfl⟩:=hd;refine(zR V lo mb pb b cap rd ps fin EN LV p t c3 c7 c6 c5 x3 x4 hrdk hN hEn y3 y7 y6 y5).mono (fun e w' y=>⟨?_,hV.trans (y.2.mono hV.size)⟩);rw[y.1,<- HE2.out]
      go_wp2_with(go_at_call 100;refine Xa.mono ?_;intro e w9 h9;obtain⟨rfl,m9,c9⟩:=h9;have M9:Hid (Y.MT w9 lo mb pb rd):=m9;have C9:Hid (Y.Rf lo wr w9):=c9;clear m9 c9);have UB:=(Oy w9 w9).drew;have UF:∀V:World,Below w9 w9 V->(fun V=>V.cell? ⟨x,3,none⟩=some ((.func (.func 157) #[] #[c3,c7,c6,c5]))) V:=fun V hV=>(Wk.out w9 V M9.out C9.out hV).1;have Um:∀V:World,Below w9 w9 V->() 157 #[(mb,2),c3,c7,c6,c5] V fun e w'=>e=.returned (.int .u32 (e2:Int))/\Below w9 w9 w':=fun V hV=>(Wk.out w9 V M9.out C9.out hV).2;refine OQ (S:=(fun V=>V.cell? ⟨x,3,none⟩=some ((.func (.func 157) #[] #[c3,c7,c6,c5])))) zab (UF _ UB) (fun u0=>?_);refine tD (some 44) 0 (.int .u32 ek) rfl u0 ?_;refine tD (some 45) 1 x rfl u0 ?_;refine tD (some 46) 2 x rfl u0 ?_;refine tD (some 47) 3 (x,3) rfl u0 ?_;refine tD (some 48) 4 (.func (.func 157) #[] #[c3,c7,c6,c5]) rfl u0 ?_;exact zc4
    ·obtain rfl:k=C.length:=zaa;have HI2:=HI.out;rw[Pw]at HI2 Uw⊢;obtain⟨⟨rk,ek⟩,hz⟩:∃z,Y.fA ps pmF acF (r3,0) C=z:=⟨_,rfl⟩;have YH:=HANS3.out;rw[hz]at Uw HI2 YH⊢;dsimp only at Uw HI2 YH⊢;obtain⟨hM,hR,hq⟩:=HI2;have hen:=vM wr lo mb pb b cap rk ps fin ek EN LV (HV.out wr (Zc.out.trans hR)).1.bG hM (Y.qZ hN Uw.2) (Y.iy Uw.2) zaa;rw[<- YH]at hen;have HRW:Hid _:=hR;clear YH HANS3 hM hR hq HI hz Uw;go_wp2_with(go_at_call 62;refine hen.mono ?_;intro e w9 h9;obtain⟨rfl,m9,c9⟩:=h9);go_end0;exact⟨rfl,m9,Zc.out.trans (HRW.out.trans c9)⟩
namespace Y
def PA.sz:PA->Prop
 |.raise ev=>ev.size<=1000000
 |.send ev _=>ev.size<=1000000
 |.sendAs ev _ _=>ev.size<=1000000
 |_=>True
def TOK(now:Nat)(T:List Tn):Prop:=now<18446744073709551616/\∀x∈T,now<=x.t/\x.ev.size<=1000000
structure QOK(r:RSt):Prop where
 q:∀e∈r.q,e.size<=1000000
 fin:r.fin=0\/r.fin=5\/r.fin=6
 tm:TOK r.now r.tm
structure SzP(ps:List PS)(EN LV:Nat->List PA):Prop where
 en:∀i,∀a∈EN i,a.sz
 lv:∀i,∀a∈LV i,a.sz
 done:∀(i:Nat) (p:PS),ps[i]?=some p->p.done.size<=1000000
theorem QOK.snoc(h:QOK r){ev:()}(he:ev.size<=1000000):QOK { r with q:=r.q++[ev] }:=⟨fun e hx=>by
 rcases OT.1 hx with hx|hx
 ·exact h.q e hx
 ·rw[OE.1 hx];exact he,h.fin,h.tm⟩
theorem JU{r:RSt}(h:QOK r){a:PA}(ha:a.sz):QOK (ir r a):=by
 have hs:∀(ev:()) nm d,ev.size<=1000000->QOK (jG r ev nm d):=fun ev nm d he=>by
  unfold jG;split
  ·exact h.snoc zac
  ·refine⟨h.q,h.fin,h.tm.1,fun x hx=>?_⟩
   rcases OT.1 hx with hx|hx
   ·exact h.tm.2 x hx
   ·rw[OE.1 hx];refine⟨?_,he⟩;have:=h.tm.1;show r.now<=atF r.now d;unfold atF;split<;>omega
 cases a with
 |raise ev=>exact h.snoc ha
 |send ev d=>exact hs _ _ _ ha
 |sendAs ev d id=>exact hs _ _ _ ha
 |cancel id=>exact⟨h.q,h.fin,h.tm.1,fun x hx=>h.tm.2 x (P3.1 hx).1⟩
theorem xJ:∀(L:List PA) (r:RSt),QOK r->(∀a∈L,a.sz)->QOK (doL r L)
 |[],_,h,_=>h
 |x::L,r,h,hL=>xJ L (ir r x) (JU h (hL x (O1 ..))) (fun a ha=>hL a (OZ _ ha))
theorem Kx(hz:SzP ps EN LV)(h:QOK r)(i:Nat):QOK (kM ps fin r i):=by
 unfold kM;split
 ·exact h
 ·split
  ·exact⟨h.q,.inr (.inl rfl),h.tm⟩
  ·split
   ·exact h
   ·rename_i q hq;have h1:=h.snoc (hz.done _ q hq);split
    ·exact h1
    ·split
     ·exact h1
     ·rename_i s hs;split
      ·exact h1.snoc (hz.done _ s hs)
      ·exact h1
theorem Kq(hz:SzP ps EN LV)(h:QOK r)(i:Nat):QOK (iN ps fin EN r i):=by
 have h1:QOK { r with act:=r.act|||2 ^ i }:=⟨h.q,h.fin,h.tm⟩;have h2:=xJ (EN i) _ h1 (hz.en i);unfold iN;dsimp only;split
 ·split
  ·exact Kx hz h2 i
  ·exact h2
 ·exact h2
theorem mL{ps:List PS}{EN LV:Nat->List PA}(hz:SzP ps EN LV){fin:Nat}:∀(l:List Nat) (r:RSt),QOK r->QOK (bZ ps fin EN r l)
 |[],_,h=>h
 |i::l,r,h=>mL hz l (iN ps fin EN r i) (Kq hz h i)
theorem vV{ps:List PS}{EN LV:Nat->List PA}(hz:SzP ps EN LV):∀(l:List Nat) (r:RSt),QOK r->QOK (dU LV r l)
 |[],_,h=>h
 | i::l,r,h=>vV hz l (qY LV r i) (by
  have h1:=xJ (LV i) r h (hz.lv i);exact⟨h1.q,h1.fin,h1.tm⟩)
theorem DH{ps:List PS}{pmF:Nat->PM}{acF:Nat->List PA}:∀(C:List Nat) (z:RSt×Nat),QOK z.1->(∀m∈C,∀a∈acF m,a.sz)->QOK (fA ps pmF acF z C).1
 |[],_,h,_=>h
 |m::C,z,h,hC=>DH C (nE ps pmF acF z m) (xJ _ _ h (hC m (O1 ..))) (fun x hx=>hC x (OZ _ hx))
theorem DJ(hz:SzP ps EN LV)(h:QOK r)(hC:∀m∈C,∀a∈acF m,a.sz):QOK (jZ ps fin EN LV H D pmF acF r C):=by
 obtain⟨_,h2,h3,h4,h5⟩:=je ps (eo r.act pmF C) D H r H.length;exact mL hz _ _ (DH C _ (vV hz _ _ ⟨by rw[h2];exact h.q,by rw[h5];exact h.fin,by rw[h3,h4];exact h.tm⟩) hC)
theorem GQ{ps:List PS}{pmF:Nat->PM}{acF:Nat->List PA}:∀(C:List Nat) (z:RSt×Nat),(∀m∈C,(acF m).length<=1048576)->(fA ps pmF acF z C).1.q.length<=z.1.q.length+C.length*1048576
 |[],_,_=>by simp[fA]
 |m::C,z,hC=>by
  have h1:=GQ (ps:=ps) (pmF:=pmF) (acF:=acF) C (nE ps pmF acF z m) (fun x hx=>hC x (OZ _ hx));have h2:=vJ z.1 (acF m);have h3:=hC m (O1 ..);have h4:(nE ps pmF acF z m).1.q=(doL z.1 (acF m)).q:=rfl;rw[h4]at h1;show(fA ps pmF acF (nE ps pmF acF z m) C).1.q.length<=_;rw[PR];omega
theorem rF(s:Nat):(els s).length<=32:=by
 exact zeX
theorem EH{lo:Nat}{n:Nat}(h:jW w lo pb b cap ps fin EN LV hvs H D mbm n T M Lr pmF acF)(hr:ROK ps r)(ev:()):(aT ps fin EN LV H D M Lr pmF acF r ev).q.length<=r.q.length+200000000:=by
 have hw:=h.want ev (els (inn ps r.act));obtain⟨c1,c2⟩:=eW ps r.act (fun m=>(pmF m).lv) (fun m=>(pmF m).own) (gJ M Lr ev (els (inn ps r.act))) _ (Ow _);rw[Pw]at c1 c2;have hwl:(gJ M Lr ev (els (inn ps r.act))).length<=32:=by
  unfold gJ;split
  ·simp
  ·have h1:=nj (L:=Lr ‹_›) (els (inn ps r.act)) [];have h2:=rF (inn ps r.act);unfold dC;simp at h1;omega
 unfold aT;generalize gB ps r.act (fun m=>(pmF m).lv) (fun m=>(pmF m).own) (gJ M Lr ev (els (inn ps r.act)))=C at *;have Yt:eo r.act pmF C<2 ^ ps.length:=oL pmF hr.act _ 0 (PU _);unfold jZ;dsimp only;generalize eo r.act pmF C=left at *;obtain⟨_,k2,_⟩:=je ps left D H r H.length;have kk:=oJ (left:=left) (D:=D) (H:=H) h.inn hr H.length;generalize dJ ps left D H r H.length=r2 at *;have l1:=oK h.bG (els left).reverse r2 (fun i hi=>iy Yt i (RK.1 hi));have l2:=rF left;have lk:=mP LV (els left).reverse r2 kk;rw[S2,k2]at l1;generalize dU LV r2 (els left).reverse=r3 at *;have a1:=GQ (ps:=ps) (pmF:=pmF) (acF:=acF) C (r3,0) (fun m hm=>(hw m (c1 m hm)).aw.len);have a2:=rA (pmF:=pmF) (acF:=acF) C (r3,0) lk (PU _) (fun m hm=>(hw m (c1 m hm)).en);dsimp only at a1;generalize fA ps pmF acF (r3,0) C=z at *;have e1:=oB h.bG (els z.2) z.1 (iy a2.2);have e2:=rF z.2;omega
def dZ(step:RSt->()->RSt):Nat->RSt->RSt
 |0,r=>match r.q with|[]=>r|_::_=>if r.fin=0 then{ r with fin:=6 } else r
 |n+1,r=>match r.q with|[]=>r|ev::q'=>if r.fin=0 then dZ step n (step { r with q:=q' } ev) else r
theorem mW{step:RSt->()->RSt}{r:RSt}(h:r.q=[]):∀n,dZ step n r=r
 |0=>by unfold dZ;rw[h]
 |n+1=>by unfold dZ;rw[h]
theorem tO{x:()}(h:r.q=x::qs)(hf:r.fin=0):dZ step 0 r={ r with fin:=6 }:=by
 unfold dZ;rw[h];dsimp only;rw[OD hf]
theorem tN{x:()}(h:r.q=x::qs)(hf:r.fin=0)(n:Nat):dZ step (n+1) r=dZ step n (step { r with q:=qs } x):=by
 conv=>lhs;unfold dZ
 rw[h];dsimp only;rw[OD hf]
theorem qj{step:RSt->()->RSt}{r:RSt}(h:r.fin≠0):∀n,dZ step n r=r
 |0=>by
  unfold dZ;split
  ·rfl
  ·rw[OB h]
 |n+1=>by
  unfold dZ;split
  ·rfl
  ·rw[OB h]
end Y
theorem Y.MT.NZ(h:Y.MT W lo mb pb r)(hl:Y.Lw lo)(qv':Value)(L:List ())(hq:QAt W lo qv' L)(hqo:∀g,qv'.ownBlock=some g->lo.ok g):Y.MT (W.setCell (mb,26) qv') lo mb pb { r with q:=L }/\Y.Rf lo W (W.setCell (mb,26) qv')/\(W.setCell (mb,26) qv').cell? (mb,26)=some qv':=by
 obtain⟨qv,wh,m,b⟩:=h.ex;obtain⟨arr,a1,a2,a3⟩:=m.blk;have Uh:Mo (·=mb) W (W.setCell (mb,26) qv'):=(Mo.refl _ _).set _ _ rfl;have hM:Y.au (W.setCell (mb,26) qv') lo mb pb qv' (({ r with q:=L }:Y.RSt).m wh):=by
  refine⟨⟨arr.setIfInBounds 26 qv',OP W mb 26 _ _ _ a1,by simp[a2],fun j hj=>?_⟩,hq.mo Uh (fun g hg e=>?_),m.lo',hqo,Ox m.sz Uh.size⟩
  ·by_cases e:j=26
   ·subst e;rw[Qd zaa];rfl
   ·rw[P6 (fun x=>e x.symm),a3 j hj];simp[Y.fw,e];rfl
  ·obtain⟨c,hc⟩:=hq.kind g hg;rw[show g=mb from e,a1]at hc;simp at hc
 have hR:Y.Rq lo W (W.setCell (mb,26) qv'):=Y.RfE.mo (P:=(·=mb)) Uh (fun k hk=>by
  subst hk;exact⟨m.lo',arr,_,_,a1,.inl rfl⟩) h.lo'
 exact⟨h.rq hl b hM hR rfl rfl h.act,Y.wD hR,hM.cell 26 zac⟩
theorem Y.MT.Jm(h:Y.MT W lo mb pb r)(hl:Y.Lw lo)(e:Nat):Y.MT (W.setCell (mb,419) (Y.fj e)) lo mb pb { r with fin:=e }/\Y.Rf lo W (W.setCell (mb,419) (Y.fj e))/\(Y.Idl W mb->Y.Idl (W.setCell (mb,419) (Y.fj e)) mb)/\∀(k:Nat) (c:Array Value) (f:Nat×Nat),W.heap[k]?=some (.cells c 9 f)->(W.setCell (mb,419) (Y.fj e)).heap[k]?=some (.cells c 9 f):=by
 obtain⟨qv,wh,m,b⟩:=h.ex;have hM:Y.au (W.setCell (mb,419) (Y.fj e)) lo mb pb qv (({ r with fin:=e }:Y.RSt).m wh):=m.set 419 _ _ zac rfl (fun j hj=>by
  by_cases e:j=419
  ·subst e;rfl
  ·rw[OB e];have hj:j<419:=zaa;simp[Y.fw,hj];rfl)
 have hR:Y.Rq lo W (W.setCell (mb,419) (Y.fj e)):=Y.RfE.mo (P:=(·=mb)) ((Mo.refl _ _).set _ _ rfl) (fun k hk=>by
  obtain⟨arr,a1,_⟩:=m.blk;subst hk;exact⟨m.lo',arr,_,_,a1,.inl rfl⟩) h.lo'
 exact⟨h.rq hl b hM hR rfl rfl h.act,Y.wD hR,m.idl hM,fun k c f hk=>(((Mo.refl (·=mb) W).set ⟨mb,419,none⟩ (Y.fj e) rfl).block k (Ov.1 hk).1 (fun e=>by
  obtain⟨arr,a1,_⟩:=m.blk;rw[show k=mb from e,a1]at hk;simp at hk)).trans hk⟩
theorem Y.MT.cq(h:Y.MT W lo mb pb r):∃qv,W.cell? (mb,26)=some qv/\QAt W lo qv r.q/\W.cell? (mb,419)=some (Y.fj r.fin)/\∀g,qv.ownBlock=some g->lo.ok g:=by
 obtain⟨qv,wh,m,b⟩:=h.ex;exact⟨qv,m.cell 26 zac,m.que,m.cell 419 zac,m.qok⟩
namespace Y
def fo(step:RSt->()->RSt)(r:RSt):RSt:={ dZ step 60 r with q:=[] }
end Y
theorem j0(w:World)(lo:Y.Lo)(mb pb b cap:Nat)(r:Y.RSt)(ps:List Y.PS)(fin:Nat)(EN LV:Nat->List Y.PA)(hvs:U.Sl)(H:List Y.HV)(D:Nat->Bool)(mbm n:Nat)(T:()->Option (List (Option Y.PM)))(M:()->Option Nat)(Lr:Nat->List (Option Nat))(pmF:Nat->Y.PM)(acF:Nat->List Y.PA)(hP:Y.jW w lo pb b cap ps fin EN LV hvs H D mbm n T M Lr pmF acF)(hz:Y.SzP ps EN LV)(hza:∀m,∀a∈acF m,Y.PA.sz a)(h:Y.MT w lo mb pb r)(hr:Y.ROK ps r)(Zw:Y.QOK r)(WJ:r.q.length<=4300000000000):
  () 63 #[mb] w fun e w'=>e=.returned (.tuple #[])/\Y.MT w' lo mb pb (Y.fo (Y.aT ps fin EN LV H D M Lr pmF acF) r)/\Y.Rf lo w w'/\Y.Idl w' mb:=by
 have TW:=hP.bG.lw;obtain⟨step,Wl⟩:∃step,Y.aT ps fin EN LV H D M Lr pmF acF=step:=⟨_,rfl⟩;have XQ:Hid _:=Wl;rw[Wl];clear Wl;have q0:∀w:World,(binOp .eql 48 .nilIface .nilIface).run prog w=.ok (.bool true) w:=fun w=>zab;have q5:∀w:World,(binOp .eql 48 (.iface 31 (.int .i64 5)) .nilIface).run prog w=.ok (.bool false) w:=fun w=>zab;have q6:∀w:World,(binOp .eql 48 (.iface 31 (.int .i64 6)) .nilIface).run prog w=.ok (.bool false) w:=fun w=>zab;have Zd:Hid (∀(V:World) (rz:Y.RSt),Y.MT V lo mb pb rz->Y.Rf lo w V->{ rz with q:=[] }=Y.fo step r->(∃u,V.cell? ⟨mb,26,none⟩=some u)/\V.frozen? ⟨mb,26,none⟩=false/\Y.MT (V.setCell ⟨mb,26,none⟩ (.slice none 0 0)) lo mb pb (Y.fo step r)/\Y.Rf lo w (V.setCell ⟨mb,26,none⟩ (.slice none 0 0))/\Y.Idl (V.setCell ⟨mb,26,none⟩ (.slice none 0 0)) mb):=fun V rz hM hR e=>by
  obtain⟨qv,c1,_⟩:=hM.cq;obtain⟨x1,x2,x3⟩:=hM.NZ TW (.slice none 0 0) [] (QAt.nil _ _) (fun g hg=>by cases hg);rw[e]at x1;exact⟨⟨_,c1⟩,hM.c0.2.2 26,x1,hR.trans x2,x3⟩
 have HP:Hid _:=hP;have HI0:Hid (Y.MT w lo mb pb r/\Y.ROK ps r/\Y.QOK r):=⟨h,hr,Zw⟩;clear h hr Zw hP;go_enter func63,ntmps63;go_wp2
 go_loopw[2] (fun a wr=>∃k:Nat,a=.int .i64 k/\k<=60/\Hid (∃rk,Y.MT wr lo mb pb rk/\Y.ROK ps rk/\Y.QOK rk/\Y.Rf lo w wr/\Y.dZ step (60-k) rk=Y.dZ step 60 r/\rk.q.length<=r.q.length+k*200000000)) (fun a _=>61-(intOf a).toNat)
 case atStart=>exact⟨0,rfl,zaa,r,HI0.out.1,HI0.out.2.1,HI0.out.2.2,Y.RfE.refl _ _,rfl,zaa⟩
 case round=>
  obtain⟨k,rfl,hk60,HK⟩:=hrel;obtain⟨rk,hM,Zq,Zw,hR,VT,hqb⟩:=HK.out;clear HK HI0;obtain⟨qv,c26,hQ,c419,hqo⟩:=hM.cq;have Vp:=hM.c0.2.2;have HF26:=Vp 26;have HF419:=Vp 419;clear Vp;by_cases hq:rk.q=[]
  ·have Vu:=Zd.out wr rk hM hR (by unfold Y.fo;rw[<- VT,Y.mW hq]);obtain⟨a0,c0,hv0⟩:=hQ.form;rw[hq]at hv0;subst hv0;obtain⟨_,e2,e3,e4⟩:=Vu;have E3:Hid _:=e3;have E4:Hid _:=e4;clear e3 e4 hQ hM VT Zw Zq;simp only[List.length_nil]at c26;exact zfs
  ·by_cases hf:rk.fin=0
   ·obtain⟨x,qs,hxq⟩:∃x qs,rk.q=x::qs:=by
     cases hc:rk.q with
     |nil=>exact absurd hc hq
     |cons x qs=>exact⟨x,qs,rfl⟩
    rw[hxq]at hQ;obtain⟨g,off,cp,hv,hqc,hcm,hcx,hpop⟩:=hQ.head;subst hv;rw[hf]at c419;unfold Y.fj at c419;rw[OD rfl]at c419;have hx1:=Zw.q x (by rw[hxq];exact O1 ..);have hlen1:((qs.length:Int)+1>0):=zaa;by_cases h60:k=60
    ·subst h60;have HRS:Hid ({ ({ rk with fin:=6 }:Y.RSt) with q:=[] }=Y.fo step r):=by
      unfold Hid Y.fo;rw[<- VT,Ri,Y.tO hxq hf]
     obtain⟨x1,x2,_⟩:=hM.Jm TW 6;have Vu:=Zd.out _ _ x1 (hR.trans x2) HRS.out;unfold Y.fj at Vu;rw[OB zac]at Vu;obtain⟨⟨u,e1⟩,e2,e3,e4⟩:=Vu;have E3:Hid _:=e3;have E4:Hid _:=e4;clear e3 e4 hQ hM VT Zw Zq x1 x2 hpop;exact zfs
    ·have hk1:((k:Int) == 60)=false:=zae;have HN:Hid (Y.dZ step (60-(k+1)) (step { rk with q:=qs } x)=Y.dZ step 60 r):=by
      unfold Hid;rw[<- VT,show 60-k=(60-(k+1))+1 by omega,Y.tN hxq hf]
     have Zb:Hid (∀V,Y.MT V lo mb pb { rk with q:=qs }->Y.Rf lo wr V->() 102 #[mb,x] V fun e w'=>e=.returned (.tuple #[])/\∃rk',Y.MT w' lo mb pb rk'/\Y.ROK ps rk'/\Y.QOK rk'/\Y.Rf lo w w'/\Y.dZ step (60-(k+1)) rk'=Y.dZ step 60 r/\rk'.q.length<=r.q.length+(k+1)*200000000):=fun V hMV ZW=>by
      have hRw:=hR.trans ZW;have Yd:=HP.out.rf hRw;have hrk2:Y.ROK ps { rk with q:=qs }:=⟨Zq.act,Zq.kept⟩;have hqk2:Y.QOK { rk with q:=qs }:=⟨fun e he=>Zw.q e (by rw[hxq];exact OZ _ he),Zw.fin,Zw.tm⟩;have hl2:({ rk with q:=qs }:Y.RSt).q.length+1=rk.q.length:=by rw[hxq];rfl
      refine(BK V lo mb pb b cap { rk with q:=qs } ps fin EN LV hvs H D mbm n T M Lr pmF acF x Yd hMV hrk2 hx1 zaa).mono ?_;rintro e w' ⟨rfl,a,c⟩;have hq3:=Y.EH Yd hrk2 x;have e:=HN.out;rw[<- XQ.out]at e⊢;refine⟨rfl,_,a,?_,?_,hRw.trans c,e,zaa⟩
      ·refine Y.DI HP.out.inn hrk2 (fun m hm=>?_);obtain⟨c1,_⟩:=Y.eW ps rk.act (fun m=>(pmF m).lv) (fun m=>(pmF m).own) (Y.gJ M Lr x (Y.els (Y.inn ps rk.act))) _ (Ow _);rw[Pw]at c1;exact(HP.out.want x _ m (c1 m hm)).en
      ·exact Y.DJ hz hqk2 (fun m _=>hza m)
     have HPOP:Hid (∀off',(off'=off+1\/cp=0)->Y.MT (wr.setCell (mb,26) (.slice (some ⟨g,off',none⟩) qs.length cp)) lo mb pb { rk with q:=qs }/\Y.Rf lo wr (wr.setCell (mb,26) (.slice (some ⟨g,off',none⟩) qs.length cp))):=fun off' ho=>have h:=hM.NZ TW (.slice (some ⟨g,off',none⟩) qs.length cp) qs (hpop off' ho) (fun g' e=>hqo g' e);⟨h.1,h.2.1⟩
     clear hQ hM VT Zw Zq hpop Zd;by_cases UX:cp=0
     ·obtain⟨y1,y2⟩:=HPOP.out off (.inr UX);have hans:=Zb.out _ y1 y2;subst UX;have hql0:qs.length=0:=zaa;rw[hql0]at hans;exact zdt
     ·obtain⟨y1,y2⟩:=HPOP.out (off+1) (.inl rfl);have hans:=Zb.out _ y1 y2;exact zdt
   ·have Vu:=Zd.out wr rk hM hR (by unfold Y.fo;rw[<- VT,Y.qj hf]);obtain⟨a0,c0,hv0⟩:=hQ.form;subst hv0;have hqp:0<rk.q.length:=Qc.2 hq;have hqp':((rk.q.length:Int)>0):=zaa;obtain⟨_,e2,e3,e4⟩:=Vu;have E3:Hid _:=e3;have E4:Hid _:=e4;have Uu:=Zw.fin;clear e3 e4 hQ hM VT Zw Zq;generalize rk.q.length=ql at *
    rcases Uu with hx|hx|hx
    ·exact absurd hx hf
    ·exact zee
    ·exact zee
theorem IU(s:Nat)(w:World)(hs:s<4294967296):() 155 #[.int .u32 s] w fun e w'=>(∃n:Nat,n<=255/\e=.returned (n:Int))/\w'=w.drew:=by
 have e1:(s:Int) / 16777216=((s / 16777216:Nat):Int):=zaa;have h1:s / 16777216<256:=zaa;have e2:bits BinOp.and IntKind.u32 ((s:Int) / 65536) 255=((s / 65536&&&255:Nat):Int):=by
  rw[show(s:Int) / 65536=((s / 65536:Nat):Int) by omega];exact Sg _ 255 zaa zaa
 have h2:s / 65536&&&255<256:=Pm RJ zaa;have e3:bits BinOp.and IntKind.u32 ((s:Int) / 256) 255=((s / 256&&&255:Nat):Int):=by
  rw[show(s:Int) / 256=((s / 256:Nat):Int) by omega];exact Sg _ 255 zaa zaa
 have h3:s / 256&&&255<256:=Pm RJ zaa;have e4:bits BinOp.and IntKind.u32 (s:Int) 255=((s&&&255:Nat):Int):=Sg _ 255 zaa zaa;have h4:s&&&255<256:=Pm RJ zaa;generalize s / 16777216=a1 at *;generalize s / 65536&&&255=a2 at *;generalize s / 256&&&255=a3 at *;generalize s&&&255=a4 at *;have h1:a1<Lib.pop8tab.size:=h1;have h2:a2<Lib.pop8tab.size:=h2;have h3:a3<Lib.pop8tab.size:=h3;have h4:a4<Lib.pop8tab.size:=h4;go_enter func155,ntmps155;go_wp2;go_region
 go_wp2;go_ret;generalize Lib.pop8tab[a1].toNat=b1;generalize Lib.pop8tab[a2].toNat=b2;generalize Lib.pop8tab[a3].toNat=b3;generalize Lib.pop8tab[a4].toNat=b4;exact⟨⟨(b1+b2+b3+b4) % 256,zaa,congrArg (fun x=>Ending.returned (x:Int)) zaa⟩,rfl⟩
theorem KU(s:Nat)(w:World)(hs:s<4294967296):() 103 #[.int .u32 s] w fun e w'=>(∃n:Nat,n<=255/\e=.returned (n:Int))/\w'=w.drew:=by
 go_enter func103,ntmps103;go_wp2_with(go_at_call 155;refine(IU s _ hs).mono ?_;rintro e w9 ⟨⟨n,hn,rfl⟩,Pg⟩;rw[Pg];clear Pg w9);go_ret;exact⟨⟨n,hn,rfl⟩,rfl⟩
attribute [local go_sem] Pp
theorem tR(n:Nat)(hn:n<=4096)(w:World):(Instr.makeSlice 22 (.int .i64 0) (.int .i64 n)).run prog w=.ok (.slice w 0 n) (w.alloc (.cells (madeCells #[.string ⟨#[]⟩] n) 9)):=by
 obtain⟨i0,hi,Ue,Ub,Uf⟩:=PZ xQ;have h:=Tu (P:=prog) w 22 9 i0 _ underlying22 hi Ue .i64 .i64 0 n zaa zaa zbp zbx zaa;rw[h,Ub];simp only[Int.toNat_natCast,Nat.mul_one];rfl
namespace Y
def Dg(s:()):List Value:=[s]
def bJ(ps:List PS)(i:Nat):():=match ps[i]? with|some p=>p.name|none=>⟨#[]⟩
abbrev Nms(W:World)(base:Nat)(sv:Value)(L:List ()):Prop:=W.ownsRow base 9 1 sv L.length (L.flatMap Dg)
theorem Nms.kind(h:Nms W base sv L):∀k,sv.ownBlock=some k->base<=k/\k<W.heap.size/\∃c,W.heap[k]?=some (.cells c 9 (0,0)):=fun k hk=>by
 exact zdZ
theorem Nms.n(h:Nms W base sv L):∃a c,sv=.slice a L.length c:=by
 exact zei
theorem Nms.gr{W':World}(h:Nms W base sv L)(hg:W.grownBy W' row)(hr:∀r,row=some r->∃o:Obj,W.heap[r]?=some o/\o.isCells=false):Nms W' base sv L:=Kd.row (iz (E:=fun _=>False) hg hr) h (fun h=>h)
def StI(w:World)(mb Bs Bx:Nat)(L:List ())(V:World):Prop:=∃sv,Boxed V Bx 22 sv/\Nms V w sv L/\Below w w V/\Boxed V w 71 mb/\V.heap[Bs]?=some (.cells #[.string ⟨#[]⟩,.int .u64 0,.slice none 0 0] 38 (0,0))
theorem StI.gr{V V':World}{Bs Bx:Nat}(h:StI w mb Bs Bx L V)(hg:V.grownBy V' row)(hr:∀r,row=some r->w.heap.size<=r/\∃o:Obj,V.heap[r]?=some o/\o.isCells=false):StI w mb Bs Bx L V':=by
 obtain⟨sv,a,b,c,d,e⟩:=h;have hk:Kd (fun _=>False) V V':=iz hg (fun r e=>(hr r e).2);exact⟨sv,hk.boxed a (fun h=>h),b.gr hg (fun r e=>(hr r e).2),c.trans ⟨hg.os,hg.tape,hg.output,hg.size,fun k UD=>hg.block k (by have:=c.size;omega) (fun e=>zbg)⟩,hk.boxed d (fun h=>h),(hk.aq _ _ _ _ e (fun h=>h)).trans e⟩
end Y
theorem A7(w:World)(lo:Y.Lo)(mb pb b cap:Nat)(r:Y.RSt)(ps:List Y.PS)(fin:Nat)(EN LV:Nat->List Y.PA)(ev:())(hP:Y.gy w lo pb b cap ps fin EN LV)(h:Y.MT w lo mb pb r)(Ux:∀i,i∈Y.els r.act->i<ps.length)(Um:∀V:World,() 95 #[ev] V fun e w'=>e=.returned ev/\Below V V w'):
  () 64 #[mb,ev] w fun e w'=>∃sv,e=.returned (.agg #[ev,.int .u64 r.now,sv])/\Y.Nms w' w sv ((Y.els r.act).map (Y.bJ ps))/\Below w w w':=by
 obtain⟨i0,hi,Ue,Ub,Uf⟩:=PZ xQ;refine(O3 (n:=8)).1 ?_;have TW:=hP.lw;have TT:=h.lo';have Wj:=h.act;have Vd:=h.lt;obtain⟨m0,m1,_⟩:=h.c0;have hB4:∀o1 o2 o3 o4:Obj,Below w w ((((w.alloc o1).alloc o2).alloc o3).alloc o4):=fun o1 o2 o3 o4=>((((Oy _ w).alloc (Ow _) _).alloc zad _).alloc zae _).alloc zae _;have hm4:∀o1 o2 o3 o4:Obj,((((w.alloc o1).alloc o2).alloc o3).alloc o4).drew.cell? (mb,1)=some (.int .u32 r.act):=fun o1 o2 o3 o4=>((hB4 o1 o2 o3 o4).cell (p:=⟨mb,1,none⟩) Vd).trans m1;refine Pq func64 rfl trivial ?_ rfl;simp only[ntmps64,List.size_toArray,List.length_cons,List.length_nil,Nat.reduceAdd,Nat.reduceSub,Array.replicate_succ,Array.replicate_zero,List.push_toArray,List.append_toArray,List.nil_append,List.cons_append];have Wu:=fun(n:Nat) (hn:n<=255) (W:World)=>tR n zaa W;gi_wp2_with(first
  |(refine⟨trivial,?_⟩;gi_at_call 103;refine(O3.2 (KU r.act _ Wj)).mono ?_;rintro e w9 ⟨⟨nl,Vv,rfl⟩,Pg⟩;rw[Pg];clear Pg w9;have hmk2:=fun W=>Wu nl Vv W)
  |(refine⟨trivial,?_⟩;gi_at_call 98;refine(O3.2 (dH r.act _)).mono ?_;rintro e w9 ⟨rfl,Pg⟩;rw[Pg];clear Pg w9))
 have hh:∀(W:World) (o:Obj),(W.alloc o).heap[W.heap.size]?=some o:=OH;have hk:∀(W:World) (o:Obj) (k:Nat) (u:Obj),W.heap[k]?=some u->(W.alloc o).heap[k]?=some u:=fun W o k u hu=>(Pz W o k (Ov.1 hu).1).trans hu;have s1:(w.alloc (.cells #[mb] 71)).heap.size=w.heap.size+1:=zad;have s2:((w.alloc (.cells #[mb] 71)).alloc (.cells #[.string ⟨#[]⟩,.int .u64 0,.slice none 0 0] 38)).heap.size=w.heap.size+1+1:=zad;have s3:(((w.alloc (.cells #[mb] 71)).alloc (.cells #[.string ⟨#[]⟩,.int .u64 0,.slice none 0 0] 38)).alloc (.cells (madeCells #[.string ⟨#[]⟩] nl) 9)).heap.size=w.heap.size+1+1+1:=zad;have s4:((((w.alloc (.cells #[mb] 71)).alloc (.cells #[.string ⟨#[]⟩,.int .u64 0,.slice none 0 0] 38)).alloc (.cells (madeCells #[.string ⟨#[]⟩] nl) 9)).alloc (.cells #[.slice (some (w.heap.size+1+1,0)) 0 nl] 22)).heap.size=w.heap.size+1+1+1+1:=zad;have WC:Below w w (((((w.alloc (.cells #[mb] 71)).alloc (.cells #[.string ⟨#[]⟩,.int .u64 0,.slice none 0 0] 38)).alloc (.cells (madeCells #[.string ⟨#[]⟩] nl) 9)).alloc (.cells #[.slice (some (w.heap.size+1+1,0)) 0 nl] 22)).alloc (.cells #[.int .u32 r.act] 107)).drew:=((hB4 (.cells #[mb] 71) (.cells #[.string ⟨#[]⟩,.int .u64 0,.slice none 0 0] 38) (.cells (madeCells #[.string ⟨#[]⟩] nl) 9) (.cells #[.slice (some (w.heap.size+1+1,0)) 0 nl] 22)).alloc zae _).drew;have x0:Boxed (((((w.alloc (.cells #[mb] 71)).alloc (.cells #[.string ⟨#[]⟩,.int .u64 0,.slice none 0 0] 38)).alloc (.cells (madeCells #[.string ⟨#[]⟩] nl) 9)).alloc (.cells #[.slice (some (w.heap.size+1+1,0)) 0 nl] 22)).alloc (.cells #[.int .u32 r.act] 107)).drew w.heap.size 71 mb:=hk _ _ _ _ (hk _ _ _ _ (hk _ _ _ _ (hk _ _ _ _ (hh w _))));have x1:(((((w.alloc (.cells #[mb] 71)).alloc (.cells #[.string ⟨#[]⟩,.int .u64 0,.slice none 0 0] 38)).alloc (.cells (madeCells #[.string ⟨#[]⟩] nl) 9)).alloc (.cells #[.slice (some (w.heap.size+1+1,0)) 0 nl] 22)).alloc (.cells #[.int .u32 r.act] 107)).drew.heap[w.heap.size+1]?=some (.cells #[.string ⟨#[]⟩,.int .u64 0,.slice none 0 0] 38 (0,0)):=hk _ _ _ _ (hk _ _ _ _ (hk _ _ _ _ (by rw[<- s1];exact hh _ _)));have x2:(((((w.alloc (.cells #[mb] 71)).alloc (.cells #[.string ⟨#[]⟩,.int .u64 0,.slice none 0 0] 38)).alloc (.cells (madeCells #[.string ⟨#[]⟩] nl) 9)).alloc (.cells #[.slice (some (w.heap.size+1+1,0)) 0 nl] 22)).alloc (.cells #[.int .u32 r.act] 107)).drew.heap[w.heap.size+1+1]?=some (.cells (madeCells #[.string ⟨#[]⟩] nl) 9 (0,0)):=hk _ _ _ _ (hk _ _ _ _ (by rw[<- s2];exact hh _ _));have x3:Boxed (((((w.alloc (.cells #[mb] 71)).alloc (.cells #[.string ⟨#[]⟩,.int .u64 0,.slice none 0 0] 38)).alloc (.cells (madeCells #[.string ⟨#[]⟩] nl) 9)).alloc (.cells #[.slice (some (w.heap.size+1+1,0)) 0 nl] 22)).alloc (.cells #[.int .u32 r.act] 107)).drew (w.heap.size+1+1+1) 22 (.slice (some (w.heap.size+1+1,0)) 0 nl):=hk _ _ _ _ (by rw[<- s3];exact hh _ _);have x4:Boxed (((((w.alloc (.cells #[mb] 71)).alloc (.cells #[.string ⟨#[]⟩,.int .u64 0,.slice none 0 0] 38)).alloc (.cells (madeCells #[.string ⟨#[]⟩] nl) 9)).alloc (.cells #[.slice (some (w.heap.size+1+1,0)) 0 nl] 22)).alloc (.cells #[.int .u32 r.act] 107)).drew (w.heap.size+1+1+1+1) 107 (.int .u32 r.act):=by
  show((((w.alloc (.cells #[mb] 71)).alloc (.cells #[.string ⟨#[]⟩,.int .u64 0,.slice none 0 0] 38)).alloc (.cells (madeCells #[.string ⟨#[]⟩] nl) 9)).alloc (.cells #[.slice (some (w.heap.size+1+1,0)) 0 nl] 22) |>.alloc (.cells #[.int .u32 r.act] 107)).heap[_]?=_;rw[<- s4];exact hh _ _
 have XR:(((((w.alloc (.cells #[mb] 71)).alloc (.cells #[.string ⟨#[]⟩,.int .u64 0,.slice none 0 0] 38)).alloc (.cells (madeCells #[.string ⟨#[]⟩] nl) 9)).alloc (.cells #[.slice (some (w.heap.size+1+1,0)) 0 nl] 22)).alloc (.cells #[.int .u32 r.act] 107)).drew.heap.size=w.heap.size+5:=zad;have hI0:Y.StI w mb (w.heap.size+1) (w.heap.size+1+1+1) [] (((((w.alloc (.cells #[mb] 71)).alloc (.cells #[.string ⟨#[]⟩,.int .u64 0,.slice none 0 0] 38)).alloc (.cells (madeCells #[.string ⟨#[]⟩] nl) 9)).alloc (.cells #[.slice (some (w.heap.size+1+1,0)) 0 nl] 22)).alloc (.cells #[.int .u32 r.act] 107)).drew:=⟨_,x3,⟨rfl,.inr ⟨_,nl,_,rfl,zaa,x2,OL _,zah,by rw[size_madeCells];omega,rfl⟩⟩,WC,x0,x1⟩;clear s1 s2 s3 s4 hh hk x0 x1 x2 x3 Wu hmk2 hm4 hB4;generalize(((((w.alloc (.cells #[mb] 71)).alloc (.cells #[.string ⟨#[]⟩,.int .u64 0,.slice none 0 0] 38)).alloc (.cells (madeCells #[.string ⟨#[]⟩] nl) 9)).alloc (.cells #[.slice (some (w.heap.size+1+1,0)) 0 nl] 22)).alloc (.cells #[.int .u32 r.act] 107)).drew=W0 at *;have hT0:TabAt 1 Lib.deBruijn32tab W0:=Y.b8 TW (WC.mono TT) h.tab5;refine oD zaa (w.heap.size+1+1+1+1) r.act Wj rfl zaa (by have:=TW.g5;omega) x4.cell hT0 rfl
  (fun pre V=>Y.StI w mb (w.heap.size+1) (w.heap.size+1+1+1) ((Y.ba pre).map (Y.bJ ps)) V) (fun _ _ _=>False)
  (fun pre A C row h hg hr=>h.gr hg (fun r e=>⟨zas,(hr r e).2⟩))
  (fun _ _ _ _ _ hs _ _=>hs) hI0
  (fun x a' _=>a'={ tmps:=#[.pointer (some ⟨mb,0,none⟩),.string ev,.pointer (some ⟨w.heap.size,0,none⟩),undef,.pointer (some ⟨w.heap.size+1,0,none⟩),.pointer (some ⟨w.heap.size+1+1+1,0,none⟩),.int .i64 x.1,.pointer (some ⟨mb,0,none⟩),.pointer (some ⟨mb,0,none⟩),.pointer (some ⟨mb,1,none⟩),.int .u32 r.act,.int .i64 nl,.slice (some ⟨w.heap.size+1+1,0,none⟩) 0 nl,.pointer (some ⟨mb,0,none⟩),.pointer (some ⟨mb,0,none⟩),.pointer (some ⟨mb,1,none⟩),.int .u32 r.act,.func (.func 148) #[] #[.pointer (some ⟨w.heap.size+1+1+1+1,0,none⟩)],.int .i64 x.1,undef,undef,undef,undef,undef,undef,undef,undef,undef,undef,undef,undef,undef,undef,undef,undef,undef,undef,undef,undef],defers:=[] }) (fun _ _ _ _ _ _ hs _ _=>hs) ?assign ?body ?done ?stop
 case assign=>
  exact zeG
 case body=>
  rintro l pre x a' V hl ⟨rl,V6⟩ ⟨sv,UI,hN,hB,ZP,U5⟩ rfl Uo;have VR:=Ux x.1 x.2;obtain⟨p,hp⟩:∃p,ps[x.1]?=some p:=⟨_,Ou VR⟩;have hxi:((x.1:Int)<(ps.length:Int)):=zaa;have Uq:Y.bJ ps x.1=p.name:=by unfold Y.bJ;rw[hp]
  have HSN:Hid ((Y.ba (pre++[x])).map (Y.bJ ps)=(Y.ba pre).map (Y.bJ ps)++[p.name]):=by
   unfold Hid;rw[Y.ej,Pk,<- Uq];rfl
  have Xs:((Y.ba pre).map (Y.bJ ps)).length<=32:=by rw[OK,Y.cG,OK];omega
  generalize(Y.ba pre).map (Y.bJ ps)=L at *;obtain⟨sa,sc,rfl⟩:=hN.n;have YD:=hB.size;have Yd:=hP.below (hB.mono TT);have UA:Below V V (V.drew.alloc (.cells #[p.name] 9)):=(Oy _ V).drew.alloc (Ow _) _;have UF:∀W:World,Below V.heap.size V W->(fun V=>V.cell? w=some ↑mb/\V.cell? mb=some ↑pb/\V.cell? pb=some (.slice b ps.length cap)/\V.cell? (b,x.1*10+1)=some ↑p.name) W:=fun W hW=>⟨(aB ZP hW ZP.lt).cell,((h.below TW hB).below TW hW).c0.1,(Yd.below (hW.mono (Ox TT YD))).bG.row,((Yd.below (hW.mono (Ox TT YD))).bG.at' x.1 p hp).c1⟩;have cx1:V.drew.cell? ↑(w.heap.size+1+1+1)=some (.slice sa L.length sc):=UI.cell;have cx2:(V.drew.alloc (.cells #[p.name] 9)).cell? ↑(w.heap.size+1+1+1)=some (.slice sa L.length sc):=(aB UI UA UI.lt).cell;have cx3:(V.alloc (.cells #[p.name] 9)).drew.cell? ↑(w.heap.size+1+1+1)=some (.slice sa L.length sc):=cx2;have hpbl:pb<w.heap.size:=by have:=hP.pb';omega
  have hbbl:b<w.heap.size:=by have:=hP.b';omega
  have U8:=hN.kind;have HG:Hid (∀(w5:World),(V.drew.alloc (.cells #[p.name] 9)).grownBy w5 (Value.ownBlock (.slice sa L.length sc))->(fun V=>V.cell? w=some ↑mb/\V.cell? mb=some ↑pb/\V.cell? pb=some (.slice b ps.length cap)/\V.cell? (b,x.1*10+1)=some ↑p.name) w5/\Boxed w5 (w.heap.size+1+1+1) 22 (.slice sa L.length sc)/\Below w w w5/\Boxed w5 w 71 mb/\w5.heap[w.heap.size+1]?=some (.cells #[.string ⟨#[]⟩,.int .u64 0,.slice none 0 0] 38 (0,0))/\KeepsOthers V w5):=fun w5 hg=>by
   have hm:Mo (fun k=>Value.ownBlock (.slice sa L.length sc)=some k) V w5:=(az UA).trans ⟨hg.os,hg.tape,hg.output,hg.size,fun k hk hn=>hg.block k hk (fun e=>hn e.symm)⟩;have ne:∀(k:Nat) (c:Array Value) (t:TypeId) (f:Nat×Nat),V.heap[k]?=some (.cells c t f)->t≠9->¬(Value.ownBlock (.slice sa L.length sc)=some k):=fun k c t f hk ht e=>by
    obtain⟨_,_,c',TZ⟩:=U8 k e;rw[hk]at TZ;cases TZ
    exact ht rfl
   have UE:Below w w w5:=hm.below hB YD (fun i hi e=>by have:=(U8 i e).1;omega);have Ug:Boxed w5 w 71 mb:=Boxed.mo ZP hm (ne _ _ _ _ ZP zac);exact⟨⟨Ug.cell,(h.below TW UE).c0.1,(hP.below (UE.mono TT)).bG.row,((hP.below (UE.mono TT)).bG.at' x.1 p hp).c1⟩,Boxed.mo UI hm (ne _ _ _ _ UI zac),UE,Ug,(hm.block _ (Ov.1 U5).1 (ne _ _ _ _ U5 zac)).trans U5,⟨hm.size,fun k o hk ho=>(hm.block k (Ov.1 hk).1 (fun e=>by
    obtain⟨_,_,c',TZ⟩:=U8 k e;rw[hk]at TZ;cases TZ
    cases ho)).trans hk⟩⟩
  have TN:(V.drew.alloc (.cells #[p.name] 9)).ownsRow w 9 1 (.slice sa L.length sc) L.length (L.flatMap Y.Dg):=(show V.drew.ownsRow _ _ _ _ _ _ from hN).alloc _;gi_wp2;refine dd (S:=(fun V=>V.cell? w=some ↑mb/\V.cell? mb=some ↑pb/\V.cell? pb=some (.slice b ps.length cap)/\V.cell? (b,x.1*10+1)=some ↑p.name)) zab zab zbm (UF _ (Oy _ V).drew) (fun u0=>?_);refine tD (some 20) 1 mb rfl u0 ?_;refine tD (some 21) 2 mb rfl u0 ?_;refine tD (some 22) 3 mb rfl u0 ?_;refine tD (some 23) 4 pb rfl u0 ?_;refine tD (some 24) 5 pb rfl u0 ?_;refine tD (some 25) 6 pb rfl u0 ?_;refine tD (some 26) 7 (.slice b ps.length cap) rfl u0 ?_;refine tD (some 27) 8 (.int .i64 x.1) rfl u0 ?_;refine tD (some 28) 9 (b,x.1*10) rfl u0 ?_;refine tD (some 29) 10 (b,x.1*10+1) rfl u0 ?_;refine tD (some 30) 11 (.string p.name) rfl u0 ?_;refine yH [0,12] ?_;refine Pb rfl (fun K hK=>?rg1) (Pb rfl (fun K hK=>?rg2) P1)
  case' rg1=>
   go_simp;refine hK.out _ _ u0 (fun u0=>?_);clear hK K;refine zH 12 rfl fun K hK=>?_;go_simp;refine hK.out _ _ (UF _ UA) (fun u0=>?_);clear hK K;refine zH 13 rfl fun K hK=>?_;refine step_append_lies _ zaf _ _ _ zaf w.heap.size 9 i0 _ 1 16 underlying22 hi Ue Ub Uf rfl zac (.slice sa L.length sc) L.length (L.flatMap Y.Dg) zaf TN ⟨V.drew.heap.size,0,none⟩ 1 1 [p.name] zaf zaf (World.news_of_block (cs:=#[p.name]) (t:=9) (fr:=(0,0)) (OH V.drew _)) (fun u hu=>zaL) zaa zah zaa (Ox YD UA.size) _ rfl ?_;intro g5 cap5 w5 TQ L8 Uy U2;obtain⟨hS5,XL,Vz,hbm5,hbs5,hko5⟩:=HG.out w5 L8;have c5:=XL.cell;have f5:=XL.frozen;refine hK.out _ _ hS5 (fun u0=>?_);clear hK K;refine zH 14 rfl fun K hK=>?_;go_simp;refine hK.out _ _ (by
    exact⟨(ay zap).trans u0.1,(ay zap).trans u0.2.1,(ay zap).trans u0.2.2.1,(ay zap).trans u0.2.2.2⟩) (fun u0=>?_)
   clear hK K u0;refine OY zab ?_ _;gi_wp2;have hne5:∀k,Value.ownBlock (.slice g5 (L.length+1) cap5)=some k->¬(k=w.heap.size+1+1+1):=fun k hk e=>by
    exact zdp
   have UQ:Mo (·=w.heap.size+1+1+1) w5 (w5.setCell ↑(w.heap.size+1+1+1) (.slice g5 (L.length+1) cap5)):=(Mo.refl _ _).set _ _ rfl;have hBf:=Vz.setCell (p:=↑(w.heap.size+1+1+1)) zae (.slice g5 (L.length+1) cap5);refine⟨(hko5.trans (Ps _ _ _)).from _,fun hT=>Y.b8 TW (hBf.mono TT) h.tab5,_,XL.set _,?_,hBf,bs hbm5 (p:=↑(w.heap.size+1+1+1)) (by show w.heap.size≠w.heap.size+1+1+1;omega) _,(O9 w5 ⟨w.heap.size+1+1+1,0,none⟩ _ _ zcA).trans hbs5⟩;have hof:=UQ.own TQ hne5;show Y.Nms _ _ _ ((Y.ba (pre++[x])).map (Y.bJ ps));rw[HSN.out];show World.ownsRow _ _ _ _ _ (L++[p.name]).length ((L++[p.name]).flatMap Y.Dg);rw[OM,Ph];exact hof
  case' rg2=>
   go_simp;refine hK.out _ _ (UF _ UA) (fun u0=>?_);clear hK K;refine zH 0 rfl fun K hK=>?_;go_simp;refine hK.out _ _ u0 (fun u0=>?_);clear hK K;refine zH 13 rfl fun K hK=>?_;refine step_append_lies _ zaf _ _ _ zaf w.heap.size 9 i0 _ 1 16 underlying22 hi Ue Ub Uf rfl zac (.slice sa L.length sc) L.length (L.flatMap Y.Dg) zaf TN ⟨V.drew.heap.size,0,none⟩ 1 1 [p.name] zaf zaf (World.news_of_block (cs:=#[p.name]) (t:=9) (fr:=(0,0)) (OH V.drew _)) (fun u hu=>zaL) zaa zah zaa (Ox YD UA.size) _ rfl ?_;intro g5 cap5 w5 TQ L8 Uy U2;obtain⟨hS5,XL,Vz,hbm5,hbs5,hko5⟩:=HG.out w5 L8;have c5:=XL.cell;have f5:=XL.frozen;refine hK.out _ _ hS5 (fun u0=>?_);clear hK K;refine zH 14 rfl fun K hK=>?_;go_simp;refine hK.out _ _ (by
    exact⟨(ay zap).trans u0.1,(ay zap).trans u0.2.1,(ay zap).trans u0.2.2.1,(ay zap).trans u0.2.2.2⟩) (fun u0=>?_)
   clear hK K u0;refine OY zab ?_ _;gi_wp2;have hne5:∀k,Value.ownBlock (.slice g5 (L.length+1) cap5)=some k->¬(k=w.heap.size+1+1+1):=fun k hk e=>by
    exact zdp
   have UQ:Mo (·=w.heap.size+1+1+1) w5 (w5.setCell ↑(w.heap.size+1+1+1) (.slice g5 (L.length+1) cap5)):=(Mo.refl _ _).set _ _ rfl;have hBf:=Vz.setCell (p:=↑(w.heap.size+1+1+1)) zae (.slice g5 (L.length+1) cap5);refine⟨(hko5.trans (Ps _ _ _)).from _,fun hT=>Y.b8 TW (hBf.mono TT) h.tab5,_,XL.set _,?_,hBf,bs hbm5 (p:=↑(w.heap.size+1+1+1)) (by show w.heap.size≠w.heap.size+1+1+1;omega) _,(O9 w5 ⟨w.heap.size+1+1+1,0,none⟩ _ _ zcA).trans hbs5⟩;have hof:=UQ.own TQ hne5;show Y.Nms _ _ _ ((Y.ba (pre++[x])).map (Y.bJ ps));rw[HSN.out];show World.ownsRow _ _ _ _ _ (L++[p.name]).length ((L++[p.name]).flatMap Y.Dg);rw[OM,Ph];exact hof
 case done=>
  rintro D ys V hD VA ⟨sv,UI,hN,hB,ZP,U5⟩ T7;rw[VA]at hN;obtain⟨L,hL⟩:∃L,Hid ((Y.els r.act).map (Y.bJ ps)=L):=⟨_,rfl⟩;rw[hL.out]at hN;obtain⟨sa,sc,rfl⟩:=hN.n;have h1c:(#[ev,.int .u64 r.now,.slice sa L.length sc]:Array Value).toList.all (·.oneCell')=true:=rfl;have UB:=(Oy V V).drew;have U8:=hN.kind;have hcl2:∀W:World,Below V V W->() 95 #[ev] W fun e w'=>e=.returned ev/\Below V V w':=fun W hW=>(Um W).mono (fun e w' y=>⟨y.1,hW.trans (y.2.mono hW.size)⟩);have Uc:∀W:World,Below V V W->() 56 #[mb] W fun e w'=>e=.returned (.int .u64 r.now)/\Below V V w':=fun W hW=>by
   obtain⟨qv,wh,a,_⟩:=((h.below TW hB).below TW hW).ex;exact(Lf W lo mb pb qv (r.m wh) a).mono (fun e w' y=>⟨y.1,by rw[y.2];exact hW⟩)
  have UF:∀W:World,Below V.heap.size V W->(fun V=>V.cell? w=some ↑mb/\V.cell? ↑(w.heap.size+1+1+1)=some (.slice sa L.length sc)) W:=fun W hW=>⟨(aB ZP hW ZP.lt).cell,(aB UI hW UI.lt).cell⟩;have HB:Hid (∀W:World,Below V.heap.size V W->W.heap[w.heap.size+1]?=some (.cells #[.string ⟨#[]⟩,.int .u64 0,.slice none 0 0] 38 (0,0))/\(fun V=>V.cell? w=some ↑mb/\V.cell? ↑(w.heap.size+1+1+1)=some (.slice sa L.length sc)) (W.setRow (w.heap.size+1) #[ev,.int .u64 r.now,.slice sa L.length sc])/\(W.setRow (w.heap.size+1) #[ev,.int .u64 r.now,.slice sa L.length sc]).heap[D]?=some (.deferred (some []))/\((W.setRow (w.heap.size+1) #[ev,.int .u64 r.now,.slice sa L.length sc]).putObj D (.deferred none)).heap[w.heap.size+1]?=some (.cells #[ev,.int .u64 r.now,.slice sa L.length sc] 38 (0,0))/\Y.Nms ((W.setRow (w.heap.size+1) #[ev,.int .u64 r.now,.slice sa L.length sc]).putObj D (.deferred none)) w.heap.size (.slice sa L.length sc) L/\Below w w ((W.setRow (w.heap.size+1) #[ev,.int .u64 r.now,.slice sa L.length sc]).putObj D (.deferred none))):=fun W hW=>by
   have hbW:=(hW.block _ (Ov.1 U5).1).trans U5;obtain⟨k1,k2⟩:=UF W hW;have hDV:=(Ov.1 T7).1;have hDf:(W.setRow (w.heap.size+1) #[ev,.int .u64 r.now,.slice sa L.length sc]).heap[D]?=some (.deferred (some [])):=(Rc W _ _ _ zaa).trans ((hW.block D hDV).trans T7);have TO:(W.setRow (w.heap.size+1) #[ev,.int .u64 r.now,.slice sa L.length sc]).heap[w.heap.size+1]?=_:=Tq W _ _ #[ev,.int .u64 r.now,.slice sa L.length sc] _ _ hbW;have hmf:Mo (fun k=>k=w.heap.size+1\/k=D) V (W.setRow (w.heap.size+1) #[ev,.int .u64 r.now,.slice sa L.length sc]):=(az hW).trans ((Ea (iA W (w.heap.size+1) _)).mono (fun i _ e=>.inl e));have hmp:Mo (fun k=>k=w.heap.size+1\/k=D) (W.setRow (w.heap.size+1) #[ev,.int .u64 r.now,.slice sa L.length sc]) ((W.setRow (w.heap.size+1) #[ev,.int .u64 r.now,.slice sa L.length sc]).putObj D (.deferred none)):=by
    have hg:=Qa (W.setRow (w.heap.size+1) #[ev,.int .u64 r.now,.slice sa L.length sc]) D (.deferred none);exact⟨hg.os,hg.tape,hg.output,hg.size,fun k hk hn=>hg.block k hk (fun e=>hn (.inr zba))⟩
   have hBf:Below w w ((W.setRow (w.heap.size+1) #[ev,.int .u64 r.now,.slice sa L.length sc]).putObj D (.deferred none)):=(hmf.trans hmp).below hB hB.size (fun i hi e=>by rcases e with e|e<;>omega);refine⟨hbW,⟨(OO (w:=W) (Rc W _ _ _ (by show w.heap.size≠w.heap.size+1;omega))).trans k1,(OO (w:=W) (Rc W _ _ _ (by show w.heap.size+1+1+1≠w.heap.size+1;omega))).trans k2⟩,hDf,(Pn zaa).trans TO,?_,hBf⟩;refine(hmf.trans (hmp)).own hN (fun g hg e=>?_);obtain⟨_,gl,c',TZ⟩:=U8 g hg
   rcases e with e|e
   ·rw[e,U5]at TZ;simp at TZ
   ·rw[e,T7]at TZ;simp at TZ
  gi_wp2;refine Ty.2 (kz ?_);refine OQ (S:=(fun V=>V.cell? w=some ↑mb/\V.cell? ↑(w.heap.size+1+1+1)=some (.slice sa L.length sc))) zab (UF _ (Oy _ V).drew) (fun u0=>?_);refine tD (some 33) 0 (.string ev) rfl u0 ?_;refine tD (some 35) 2 mb rfl u0 ?_;refine tD (some 37) 4 (.slice sa L.length sc) rfl u0 ?_;refine zH 1 rfl fun K hK=>?_;go_simp;refine(hcl2 _ zam).mono ?_;rintro e wA ⟨rfl,hA⟩;refine hK.out _ _ (UF wA hA) (fun u0=>?_);clear hK K;refine zH 3 rfl fun K hK=>?_;go_simp;refine(Uc _ zam).mono ?_;rintro e wA ⟨rfl,hA⟩;refine hK.out _ _ (UF wA hA) (fun u0=>?_);clear hK K;refine tD (some 38) 5 (.agg #[ev,.int .u64 r.now,.slice sa L.length sc]) rfl u0 ?_;refine yH [6] ?_;refine pg rfl zab (fun K hK=>?_) P1;refine lx 38 _ _ rfl (w.heap.size+1) 38 #[.string ⟨#[]⟩,.int .u64 0,.slice none 0 0] #[ev,.int .u64 r.now,.slice sa L.length sc] rfl rfl (HB.out wA hA).1 zab rfl h1c ?_;refine hK.out _ _ (HB.out wA hA).2.1 (fun u0=>?_);clear hK K;refine OY zab ?_ _;obtain⟨y1,y2,y3,y4,y5,y6⟩:=HB.out wA hA;unfold oX;gi_wp2;refine⟨zad,.inl ⟨_,_,rfl,Pj y3,?_⟩⟩;refine⟨.agg #[ev,.int .u64 r.now,.slice sa L.length sc],?_,_,rfl,(by rw[hL.out];exact y5),y6⟩;rw[iT rfl];have hld:=run_loadVar_mid (P:=prog) ((wA.setRow (w.heap.size+1) #[ev,.int .u64 r.now,.slice sa L.length sc]).putObj D (.deferred none)) (w.heap.size+1) 0 38 [ev,.int .u64 r.now,.slice sa L.length sc] _ (kZ y4) underlying38 rfl zab;simpa[asAddr] using hld
 case stop=>
  exact zfz
namespace Y
def whz(i:Nat):Value:=if(i-28) % 65=64/\i<418 then .int .u64 0 else .pointer none
def r0:RSt:=⟨0,fun _=>0,[],0,[],0⟩
def mz(pb:Nat):Array Value:=((List.range 420).map (fw pb (.slice none 0 0) (r0.m whz))).toArray
end Y
theorem He(pb:Nat):Tryz.prog.built 120 [(0,.pointer (some ⟨pb,0,none⟩))]=some (Y.mz pb):=zab
theorem pw(pb:Nat)(w:World):(Instr.build 120 #[(0,.pointer (some ⟨pb,0,none⟩))]).run prog w=.ok (.agg (Y.mz pb)) w:=run_build w _ _ _ (He pb)
namespace Y
theorem JL{r:Nat}(h:isR r):whz (28+r)=.pointer none:=by
 unfold whz;rw[OB (by rcases h with h|h<;>omega)]
theorem JK{k:Nat}(h:k<6):whz (28+(k*65+64))=.int .u64 0:=by
 unfold whz;rw[OD zaa]
theorem MT.made(hl:Lw lo)(TT:lo<=w.heap.size)(TV:lo.s<=w.heap.size)(h6:TabAt 3 Lib.deBruijn64tab w)(h5:TabAt 1 Lib.deBruijn32tab w):MT (w.alloc (.cells (mz pb) 120)) lo w pb r0/\Rf lo w (w.alloc (.cells (mz pb) 120)):=by
 have hb:Below w w (w.alloc (.cells (mz pb) 120)):=(Oy _ w).alloc (Ow _) _;refine⟨⟨⟨.slice none 0 0,whz,⟨⟨mz pb,OH w _,?_,fun i hi=>?_⟩,QAt.nil _ _,lo.new _ TV,fun g hg=>(by cases hg),Ox TV hb.size⟩,fun _=>[],⟨⟨fun r hr=>JL hr,fun r hr i x hx=>(by simp at hx),fun r hr x hx=>zau,fun r q _ _ _ x hx=>zau,fun r hr=>TH⟩,fun k hk=>⟨0,zac,JK hk,fun s hs=>zad⟩⟩,fun r hr=>rfl,fun t ht=>by cases ht⟩,Ox TT hb.size,zac,zac,zac,gH hl (hb.mono TT) h6,b8 hl (hb.mono TT) h5⟩,RfE.of hb TT⟩
 ·unfold mz;simp
 ·unfold mz;rw[Q0,OF,RF hi];rfl
theorem nF{lo:Nat}{n:Nat}(hP:jW w lo pb b cap ps fin EN LV hvs H D mbm n T M Lr pmF acF)(hz:SzP ps EN LV)(hza:∀m,∀a∈acF m,PA.sz a)(hr:ROK ps r)(hq:QOK r)(x:()):ROK ps (aT ps fin EN LV H D M Lr pmF acF r x)/\QOK (aT ps fin EN LV H D M Lr pmF acF r x):=by
 refine⟨DI hP.inn hr (fun m hm=>?_),DJ hz hq (fun m _=>hza m)⟩;obtain⟨c1,_⟩:=eW ps r.act (fun m=>(pmF m).lv) (fun m=>(pmF m).own) (gJ M Lr x (els (inn ps r.act))) _ (Ow _);rw[Pw]at c1;exact(hP.want x _ m (c1 m hm)).en
theorem Jb{ps:List PS}{step:RSt->()->RSt}(hs:∀r x,ROK ps r->QOK r->ROK ps (step r x)/\QOK (step r x)):∀(n:Nat) (r:RSt),ROK ps r->QOK r->ROK ps (dZ step n r)/\QOK (dZ step n r):=fun n=>by
 induction n with
 |zero=>
  intro r h k;cases hq:r.q with
  |nil=>rw[mW hq];exact⟨h,k⟩
  |cons x qs=>
   by_cases hf:r.fin=0
   ·rw[tO hq hf];exact⟨⟨h.act,h.kept⟩,⟨k.q,.inr (.inr rfl),k.tm⟩⟩
   ·rw[qj hf];exact⟨h,k⟩
 |succ n ih=>
  intro r h k;cases hq:r.q with
  |nil=>rw[mW hq];exact⟨h,k⟩
  |cons x qs=>
   by_cases hf:r.fin=0
   ·rw[tN hq hf];obtain⟨a,b⟩:=hs { r with q:=qs } x ⟨h.act,h.kept⟩ ⟨fun e he=>k.q e (by rw[hq];exact OZ _ he),k.fin,k.tm⟩;exact ih _ a b
   ·rw[qj hf];exact⟨h,k⟩
theorem nZ(hs:∀r x,ROK ps r->QOK r->ROK ps (step r x)/\QOK (step r x))(h:ROK ps r)(k:QOK r):ROK ps (fo step r)/\QOK (fo step r):=by
 obtain⟨a,b⟩:=Jb hs 60 r h k;exact⟨⟨a.act,a.kept⟩,⟨fun e he=>(by cases he),b.fin,b.tm⟩⟩
def dV(ps:List PS)(fin:Nat)(EN LV:Nat->List PA)(H:List HV)(D:Nat->Bool)(M:()->Option Nat)(Lr:Nat->List (Option Nat))(pmF:Nat->PM)(acF:Nat->List PA)(s:Nat):RSt:=
 fo (aT ps fin EN LV H D M Lr pmF acF) (bZ ps fin EN r0 (els s))
def fuelV(e:Nat):Value:=if e=6 then fj 6 else .nilIface
end Y
theorem Dx{op:Oper}{a:Act}{K:Act->World->Prop}{Q:Exit->Act->World->Prop}(x:Operand)(ho:op.op=.build 120 #[(0,x)])(pb:Nat)(hx:a.eval x=.pointer (some ⟨pb,0,none⟩))(h:K (a.put op.dst (.agg (Y.mz pb))) w):op.wp prog a w K Q:=by
 unfold Oper.wp execOp;simp only[ho,List.map_toArray,List.map_cons,List.map_nil,hx,Sem.run_bind,pw,Result.andThen_ok,Sem.run_pure];exact h
theorem C7(w:World)(lo:Y.Lo)(pb b cap:Nat)(ps:List Y.PS)(fin:Nat)(EN LV:Nat->List Y.PA)(hvs:U.Sl)(H:List Y.HV)(D:Nat->Bool)(mbm n:Nat)(T:()->Option (List (Option Y.PM)))(M:()->Option Nat)(Lr:Nat->List (Option Nat))(pmF:Nat->Y.PM)(acF:Nat->List Y.PA)(p0:Y.PS)(hP:Y.jW w lo pb b cap ps fin EN LV hvs H D mbm n T M Lr pmF acF)(hz:Y.SzP ps EN LV)(hza:∀m,∀a∈acF m,Y.PA.sz a)(YE:ps[0]?=some p0)(Ym:p0.wth<2 ^ ps.length)(TT:lo<=w.heap.size)(TV:lo.s<=w.heap.size)(h6:TabAt 3 Lib.deBruijn64tab w)(h5:TabAt 1 Lib.deBruijn32tab w)(Um:∀V:World,() 95 #[.string ⟨#[]⟩] V fun e w'=>e=.returned (.string ⟨#[]⟩)/\Below V V w'):
  () 37 #[pb] w fun e w'=>∃mb sb sv,e=.returned (.tuple #[.pointer (some ⟨mb,0,none⟩),.slice (some ⟨sb,0,none⟩) 1 1,Y.fuelV (Y.dV ps fin EN LV H D M Lr pmF acF p0.wth).fin])/\w'.heap[sb]?=some (.cells #[.string ⟨#[]⟩,.int .u64 (Y.dV ps fin EN LV H D M Lr pmF acF p0.wth).now,sv] 38 (0,0))/\Y.Nms w' lo sv ((Y.els (Y.dV ps fin EN LV H D M Lr pmF acF p0.wth).act).map (Y.bJ ps))/\Y.MT w' lo mb pb (Y.dV ps fin EN LV H D M Lr pmF acF p0.wth)/\Y.Rf lo w w'/\lo<=sb/\Y.Idl w' mb:=by
 have TW:=hP.bG.lw;have hN:=hP.N;obtain⟨hM0,V7⟩:=Y.MT.made (pb:=pb) TW TT TV h6 h5;have Xt:0<ps.length:=(Oz.1 YE).1;have YQ:Y.ROK ps Y.r0:=⟨PU _,fun _=>PU _⟩;have Yc:Y.QOK Y.r0:=⟨fun e he=>(by cases he),.inl rfl,zac,fun x hx=>zau⟩;have ZY:=Y.mK (fin:=fin) (EN:=EN) (Y.els p0.wth) Y.r0 YQ (Y.iy Ym);have YZ:=Y.mL hz (fin:=fin) (Y.els p0.wth) Y.r0 Yc;have hlq1:=Y.oB hP.bG (Y.els p0.wth) Y.r0 (Y.iy Ym);have hle:=Y.rF p0.wth;obtain⟨Wr,WY⟩:=Y.nZ (fun r x h k=>Y.nF hP hz hza h k x) ZY YZ;have HEN:Hid (() 62 #[w,.int .u32 p0.wth] (w.alloc (.cells (Y.mz pb) 120)) fun e w'=>e=.returned (.tuple #[])/\Hid (Y.MT w' lo w pb (Y.bZ ps fin EN Y.r0 (Y.els p0.wth))/\Y.Rf lo w w')):=
  (vM _ lo w pb b cap Y.r0 ps fin p0.wth EN LV (hP.bG.below V7.bel) hM0 (Y.qZ hN Ym) (Y.iy Ym) (by show 0<=_;omega)).mono (fun e w' x=>⟨x.1,x.2.1,V7.trans x.2.2⟩)
 have HAR:Hid (∀V,Hid (Y.MT V lo w pb (Y.bZ ps fin EN Y.r0 (Y.els p0.wth))/\Y.Rf lo w V)->() 63 #[w] V fun e w'=>e=.returned (.tuple #[])/\Hid ((Y.MT w' lo w pb (Y.dV ps fin EN LV H D M Lr pmF acF p0.wth)/\Y.Idl w' w)/\Y.Rf lo w w')):=fun V hV=>
  (j0 V lo w pb b cap _ ps fin EN LV hvs H D mbm n T M Lr pmF acF (hP.rf hV.out.2) hz hza hV.out.1 ZY YZ (by have:Y.r0.q.length=0:=rfl;omega)).mono (fun e w' x=>⟨x.1,⟨x.2.1,x.2.2.2⟩,hV.out.2.trans x.2.2.1⟩)
 have XS:(Y.dV ps fin EN LV H D M Lr pmF acF p0.wth).act<2 ^ ps.length:=Wr.act;have hrf:(Y.dV ps fin EN LV H D M Lr pmF acF p0.wth).fin=0\/(Y.dV ps fin EN LV H D M Lr pmF acF p0.wth).fin=5\/(Y.dV ps fin EN LV H D M Lr pmF acF p0.wth).fin=6:=WY.fin;clear Wr WY ZY YZ YQ Yc hlq1 hle;generalize Y.dV ps fin EN LV H D M Lr pmF acF p0.wth=r2 at *;have XQ:Hid (∀V,Hid ((Y.MT V lo w pb r2/\Y.Idl V w)/\Y.Rf lo w V)->() 64 #[w,.string ⟨#[]⟩] V fun e w'=>∃a k c,e=.returned (.agg #[.string ⟨#[]⟩,.int .u64 r2.now,.slice a k c])/\Hid ((Y.MT w' lo w pb r2/\Y.Idl w' w)/\Y.Rf lo w w'/\Y.Nms w' lo (.slice a k c) ((Y.els r2.act).map (Y.bJ ps)))):=fun V hV=>
  (A7 V lo w pb b cap r2 ps fin EN LV ⟨#[]⟩ (hP.rf hV.out.2).bG hV.out.1.1 (Y.iy XS) Um).mono (fun e w' x=>by
   obtain⟨sv,x1,x2,x3⟩:=x;obtain⟨a,c,rfl⟩:=x2.n;exact⟨a,_,c,x1,⟨hV.out.1.1.below TW x3,hV.out.1.2.bel hV.out.1.1.lt x3⟩,hV.out.2.trans (Y.RfE.of x3 hV.out.1.1.lo'),x2.1,x2.2.imp id (fun⟨g,cp,cu,y1,y2,y3⟩=>⟨g,cp,cu,y1,Ox hV.out.1.1.lo' y2,y3⟩)⟩)
 have HOF:Hid (∀V,Hid (Y.MT V lo w pb r2)->() 41 #[w] V fun e w'=>e=.returned (Y.fuelV r2.fin)/\w'=V):=fun V hV=>by
  obtain⟨qv,wh,a,_⟩:=hV.out.ex;exact jM V lo w pb qv (r2.m wh) r2.fin a rfl hrf
 have hPa:=(hP.bG.below V7.bel).bG;have c0:=hPa.row;have c7:=(hPa.at' 0 p0 YE).c7;simp only[Nat.zero_mul,Nat.zero_add]at c7;have hn0':((0:Int)<(ps.length:Int)):=zaa;have HB:Hid (∀(V:World) (o:Obj),Below V.heap.size V (V.alloc o)):=fun V o=>(Oy _ V).alloc (Ow _) _;clear hP hza hz hM0 V7 hPa h5 h6 Um XS hrf;go_enter func37,ntmps37;go_wp2_with(first
  |(show wpList _ _ _ (Oper.mk _ (.build _ _) _ _ _ _::_) _ _;refine wpList_plain rfl (fun _ hK=>Dx _ rfl pb rfl (hK _ _ ?_)))
  |(go_at_call 62;refine HEN.out.mono ?_;rintro e w1 ⟨rfl,h1⟩)
  |(go_at_call 63;refine(HAR.out _ h1).mono ?_;rintro e w2 ⟨rfl,h2⟩)
  |(go_at_call 64;refine(XQ.out _ h2).mono ?_;rintro e w3 ⟨sa,sk,sc,rfl,h3⟩)
  |(go_at_call 41;refine(HOF.out _ (h3.out.1.1.below TW (HB.out _ _))).mono ?_;rintro e w4 ⟨rfl,Zt⟩;rw[Zt];clear Zt w4))
 go_ret3;have UE:=HB.out w3 (.cells #[.string ⟨#[]⟩,.int .u64 r2.now,.slice sa sk sc] 38);exact⟨_,_,_,rfl,OH _ _,Kd.row (bE (E:=fun _=>False) UE) h3.out.2.2 (fun h=>h),h3.out.1.1.below TW UE,h3.out.2.1.trans (Y.RfE.of UE h3.out.1.1.lo'),h3.out.1.1.lo',h3.out.1.2.bel h3.out.1.1.lt UE⟩
