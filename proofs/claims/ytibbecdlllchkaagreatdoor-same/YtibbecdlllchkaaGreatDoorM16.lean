import Derived.Test.YtibbecdlllchkaaGreatDoorM15
set_option maxRecDepth 100000
set_option maxHeartbeats 8000000
namespace Go.Proofs.YtibbecdlllchkaaGreatDoor
variable {zp:Prop}
theorem zfA(h:zp:=by
 have hXr:=HX1.out.wr X6 Vg;obtain⟨mb,cm,hvm⟩:=U.dy hXr.aa zaa;simp only[U.Sl.v,Value.slice.injEq]at hvm;obtain⟨rfl,_,rfl⟩:=hvm;have Vp:wr.ownsRow 0 207 5 (.slice mb M.length mc) M.length (M.flatMap J.aQ):=hXr.aa;have Va:=Row.range (f:=J.aQ) (n:=5) (fun _=>rfl) Vp Vx;have hcm:M.length<=mc:=by
  rcases Vp.2 with⟨h,_⟩|⟨g',cap',cur,h,_,_,hle,_⟩
  ·cases h
  ·simp at h;rw[h.2];exact hle
 obtain⟨y,hy⟩:∃y,y=M[k]:=⟨_,rfl⟩;have hym:y∈M:=zbo;rw[<- hy]at Va;unfold J.aQ at Va;have hyA:=hXr.ai y hym;have hyn:y.v.n=y.m.ai.length:=iO hyA;unfold U.Sl.v at hyA;rw[hyn]at hyA Va;obtain⟨hyS,hyG⟩:=hXr.actsG y hym;have hysz:=J.fy hyS;have hye:=hyS.event;have hyt:=hyS.dst;have HN:Hid (J.aX (dn+1) s.aa (k+1)=J.aX (dn+1) s.aa k++J.iK (dn+1) (J.ee y.m) y.m.ai):=by
  unfold Hid;rw[J.aX,show s.aa=M.map (·.m) from hXr.mv.symm,Pv,Pp Vx,<- hy];rfl
 have hTs:(T3++J.aX (dn+1) s.aa k).size<=8300000000000:=by
  have h1:=J.iL (d:=dn+1) (M:=s.aa) zaa (fun m hm=>by
   rw[show s.aa=M.map (·.m) from hXr.mv.symm]at hm;obtain⟨z,hz,rfl⟩:=P0.1 hm;exact hXr.actsG z hz) k
  have h2:k*2002000000<=4096*2002000000:=Qx _ zaa;rw[P2];omega
 have HAr:Hid _:=hyA;have HGr:Hid _:=hyG;clear hyA hyG hyS Vp hy hym hXr;go_wp2_with(first
  |(refine QA rfl 207 (.tmp 39) rfl mb (k*5) rfl _ _ Va underlying207 rfl gE ?_)
  |(refine aB rfl 207 (.tmp 5) (.tmp 40) rfl 207 _ _ rfl rfl gE rfl rfl ?_)
  |fail)
 have VU:Below wr wr (wr.alloc (.cells #[y.m.event,y.m.after,.int .u64 y.m.delay,y.m.to,.slice y.v.a y.m.ai.length y.v.c] 207)):=(Pq _ _).alloc (Po _) _;have Zy:(wr.alloc (.cells #[y.m.event,y.m.after,.int .u64 y.m.delay,y.m.to,.slice y.v.a y.m.ai.length y.v.c] 207)).heap[wr.heap.size]?=some (.cells #[y.m.event,y.m.after,.int .u64 y.m.delay,y.m.to,.slice y.v.a y.m.ai.length y.v.c] 207 (0,0)):=PG _ _;obtain⟨W5,hW5⟩:∃z,z=wr.alloc (.cells #[y.m.event,y.m.after,.int .u64 y.m.delay,y.m.to,.slice y.v.a y.m.ai.length y.v.c] 207):=⟨_,rfl⟩;change Code.wp _ _ _ _ (wr.alloc (.cells #[y.m.event,y.m.after,.int .u64 y.m.delay,y.m.to,.slice y.v.a y.m.ai.length y.v.c] 207));rw[<- hW5]at VU Zy⊢;clear hW5 Va;have VN:aY b wr W5:=bf VU;have YP:=Xd.aq VU;have Yu:=bQ hsbr VN Xd zac zac;have WY:Below B w W5:=VR.trans (VU.mono zaa);have hs5:=WY.size;have hkw5:aY b W1 W5:=X6.trans VN;have HA5:Hid _:=gX HAr.out VN Xd zac zac;clear VU VN Xd VR X6 HAr hsbr;have hmlt:=(Pn.1 Zy).1;refine PJ (S:=(fun W=>W.cell? ⟨w,2,none⟩=some ↑(dn:Int)/\W.cell? wr=some ↑y.m.event/\W.cell? ⟨wr,1,none⟩=some (.bool y.m.after)/\W.cell? ⟨wr,2,none⟩=some (.int .u64 y.m.delay)/\W.cell? ⟨wr,3,none⟩=some ↑y.m.to/\W.cell? ⟨wr,4,none⟩=some (.slice y.v.a y.m.ai.length y.v.c))) zab (fX Yu Zy) (fun Pm=>?_);refine tH 0 b rfl Pm ?_;refine tH 1 (w,2) rfl Pm ?_;refine tH 2 (.int .i64 dn) rfl Pm ?_;refine RS (i:=3) (v:=.int .i64 (dn+1)) rfl zab zab zab (fun _ _ _ h=>h) (Or.inl ⟨zae,fun w VF=>zbb⟩) Pm ?_;refine tH 4 (.agg #[y.m.event,y.m.after,.int .u64 y.m.delay,y.m.to,.slice y.v.a y.m.ai.length y.v.c]) rfl Pm ?_;refine tH 6 (wr,4) rfl Pm ?_;refine tH 7 (.slice y.v.a y.m.ai.length y.v.c) rfl Pm ?_;refine zH 5 rfl fun K hK=>?_;go_simp;refine Pw zba ?_;rintro e w6 ⟨rfl,Z9⟩;have WK:Below W5 W5 w6:=((Pq _ _).drew).trans Z9;have hsb6:=(WK.block _ (Pn.1 Yu).1).trans Yu;have hm6:=(WK.block _ hmlt).trans Zy;have hw6:=YP.aq WK;have XS:aY b W1 w6:=hkw5.trans (bf WK);have XQ:Below B w w6:=WY.trans (WK.mono zaa);have hs6:=XQ.size;have hA6:=gX HA5.out (bf WK) YP zac zac;dsimp only;refine hK.out _ _ (fX hsb6 hm6) (fun Pm=>?_);clear hK K Z9 WK YP hkw5 WY Yu Zy HA5 hs5;refine zH 8 rfl fun K hK=>?_;go_simp;rw[<- ed];refine Pw (gH B b _ (dn+1) (J.ee y.m) y.m.ai y.v.a y.m.ai.length y.v.c w6 hw6 zaa hA6 HGr.out.shape HGr.out.small HGr.out.len zaa zaa zaC (a7.below Yv.out XQ)) ?_;rintro e w7 ⟨rfl,hw7,hb7,hk7⟩;have hsb7:=bQ hsb6 hk7 hw6 zac zac;have hm7:=bQ hm6 hk7 hw6 zac zac;have hk7':aY b W1 w7:=XS.trans hk7;have hbw7:=XQ.trans hb7;have hw7':dS B b (bs++Lib.strCells (T3++J.aX (dn+1) s.aa (k+1))) w7:=by
  rw[HN.out,<- Ss,bX (T3++_),<- Qd];exact hw7
 dsimp only;refine hK.out _ _ (fX hsb7 hm7) (fun Pm=>?_);clear hK K hb7 hk7 hw7 hw6 XS XQ hsb6 hm6 hA6 hsb7 hm7 hs6;refine PX zab ?_ _;clear Pm;go_wp2
 go_roundg (M.length-(k+1))
 case measure=>omega
 case rel=>exact⟨k+1,rfl,zaa,zah,hw7',hbw7,hk7'⟩):zp:=h
theorem zfC(h:zp:=by
 unfold J.ej J.pw;rw[hdn,QR,<- hT1,<- hT2,<- Zk,show s.aa.length=M.length by rw[show s.aa=M.map (·.m) from HX1.out.mv.symm,PE]];exact Xd):zp:=h
theorem za5(h:zp:=by
 have HX1:Hid _:=Zh;have Wk:=Zh.mlen;clear Zh;go_wp2;clear hE hE' hL hL'
 go_loopg[37] M.length (fun q i wr=>∃k:Nat,q=M.length-k/\k<=M.length/\i=.int .i64 k/\dS B b (bs++Lib.strCells (T3++J.aX (dn+1) s.aa k)) wr/\Below B w wr/\aY b W1 wr)
 case atStart=>exact⟨0,rfl,PK _,rfl,zcl,WY,Y0⟩
 case round=>
  clear c0 c1 c2 c3 c4 c5 c6 c7 Yu WY Y0 YP hs5;obtain⟨k,hq,hk,rfl,Xd,VR,X6⟩:=hrel;have VZ:=VR.size;have hsbr:=bQ ZQ X6 Vg zac zac;by_cases Vx:k<M.length
  ·exact zfA
  ·have ZM:k=M.length:=zaa;subst ZM;have hwE:dS B b (bs++Lib.strCells (J.ej s)) wr:=by
    exact zfC
   go_wp2;go_end0;exact⟨rfl,hwE,VR,YB.trans X6⟩):zp:=h
theorem zcB(h:zp:=by
 obtain⟨k,hq,hk,rfl,Xd,VR,X6⟩:=hrel;have VZ:=VR.size;have hsbr:=bQ ZQ X6 Vg zac zac;by_cases Vx:k<M.length
 ·exact zfA
 ·have ZM:k=M.length:=zaa;subst ZM;have hwE:dS B b (bs++Lib.strCells (J.ej s)) wr:=by
   exact zfC
  go_wp2;go_end0;exact⟨rfl,hwE,VR,YB.trans X6⟩):zp:=h
theorem zdB(h:zp:=by
 rcases h.2 with⟨h,h0⟩|⟨g,cap,cur,h,_⟩
 ·simp[U.Sl.v]at h;rw[h0];exact h.2.1
 ·simp[U.Sl.v]at h;exact h.2.1):zp:=h
theorem zeb(h:zp:=by
 rcases Rr b w1 with h'|h'
 ·exact h'
 ·simp[Array.getElem?_eq_none h']at Wl):zp:=h
theorem zek(h:zp:=by
 simp only[ByteArray.size_append',U.iR];have:U.bNl.size=1:=rfl;omega):zp:=h
theorem zeu(h:zp:=by
 rw[Zk,bX,<- Qd];unfold J.mg;rw[Pu (by rw[Rg];omega)];exact YP):zp:=h
theorem zeX(h:zp:=by
 rw[Zk];unfold J.mg;rw[PC (by rw[Rg];exact hL),Rt]):zp:=h
theorem zeY(h:zp:=by
 split<;>simp only[ByteArray.size_append']<;>omega):zp:=h
theorem zaC(h:zp:=by rw[PI,bY];omega):zp:=h
theorem za1(h:zp:=by rw[PO];exact hu):zp:=h
theorem za9(h:zp:=by rw[Sb];rfl):zp:=h
theorem zba(h:zp:=by have h:=je y W5.drew (by omega) (by omega);rw[hyn]at h;exact h):zp:=h
theorem zbb(h:zp:=by(try dsimp only at VF);go_simp;exact Ut _ (by omega)):zp:=h
theorem zbo(h:zp:=by rw[hy];exact P7 Vx):zp:=h
theorem zbu(h:zp:=by rw[RJ Wl];rfl):zp:=h
theorem zbv(h:zp:=by rw[RJ U4];rfl):zp:=h
theorem zcl(h:zp:=by rw[show T3++J.aX (dn+1) s.aa 0=T3 from Rt];exact YP):zp:=h
open Tryz
variable {b p c base size n d sb mb:Nat}{bs xs:List Value}{w' wc w5:World}{e:TypeId}{v:Value}{a:U.Act}{A:List U.Act}{h:()}{m:U.Move}{S:List U.State}
section
open Go.RowKit Go.Proofs
abbrev KR(B b:Nat)(p:Value)(bs:List Value)(w:World):Prop:=Lib.BuilderAtF 129 5 B b p bs w
def dS(B b:Nat)(bs:List Value)(w:World):Prop:=Lib.IsBuilderF 129 5 B b bs w
abbrev aY(b:Nat)(w w':World):Prop:=Lib.OthersKept 5 (some b) w w'
theorem NS:Lays.n240 prog Oc:={ NT with }
theorem qQ(b:Nat)(w:World)(h0:w.cell? b=some (.pointer none))(WD:w.shape? b=some (129,2))(Xj:w.frozen? b=false):
  () 180 #[b] w fun e w'=>e=.returned (.tuple #[])/\w'=w.setCell b b:=by
 obtain⟨j,hj,hjs⟩:=PU.1 td.sizeBuilder;have x1:=@run_callFunc_extern prog 219 _ Extern.AbiNoEscape.same func219 zab zab zab zab;have x2:∀(x:Value) (w:World),(Extern.AbiNoEscape.same #[x]).run prog w=.ok x w:=fun _ _=>rfl;have x3:=Lib.run_to_unsafe w ⟨b,0,none⟩ underlying124 underlying137 hj (by rw[hjs];decide) WD (Nat.zero_lt_succ 1);have x4:=Lib.run_from_unsafe w ⟨b,0,none⟩ underlying137 underlying124 hj WD zab;go_enter func180,ntmps180;go_wp2;go_end0;exact⟨rfl,rfl⟩
theorem uT(B b:Nat)(bs:List Value)(w:World)(h:dS B b bs w):
  () 180 #[b] w fun e w'=>e=.returned (.tuple #[])/\(KR B b b bs w'/\Below B w w'/\aY b w w'):=by
 rcases h with h|h
 ·refine(qQ b w h.cell0 h.shape h.frozen0).mono ?_;rintro e w' ⟨rfl,rfl⟩;exact⟨rfl,h.used _,(Pq B w).setCell (p:=b) h.1 _,(Lib.OthersKept.refl _ _ w).setCell b rfl _⟩
 ·refine(Any.Builder_copyCheck_used NS td.toX72 b w h.cell0).mono ?_;rintro e w' ⟨rfl,rfl⟩;exact⟨rfl,h,Pq B _,Lib.OthersKept.refl _ _ _⟩
theorem Eh(B b:Nat)(bs:List Value)(c:Int)(w:World)(h:dS B b bs w)(hlen:bs.length+1<=140737488355328)(hBw:B<=w.heap.size):
  () 124 #[b,.int .u8 c] w fun e w'=>e=.returned .nilIface/\(dS B b (bs++[.int .u8 c]) w'/\Below B w w'/\aY b w w'):=by
 obtain⟨i0,hi,Vv,Vk,Vl⟩:=QV td.infoByte;go_enter func124,ntmps124;go_wp2_with fail;refine(uT B b bs _ h).mono ?_;rintro e w1 ⟨rfl,h1,U3,YB⟩;obtain⟨hB,v,Wl,U2,U9⟩:=h1;have c0:w1.cell? b=some ↑b:=zbu;have c1:w1.cell? (b,1)=some v:=zbu;go_wp2_with(at_builtin;refine wpList_append_ownF _ rfl _ _ 125 rfl B 5 i0 (.int .u8 0) 1 1 underlying125 hi Vv Vk Vl rfl zac _ _ _ rfl (U2.alloc _) ⟨w1,0,none⟩ 1 1 [.int .u8 c] rfl rfl ?c1 ?c2 ?c3 ?c4 ?c5 ?_)
 case c1=>
  intro j u hj
  match j,hj with
  |0,hj=>simp at hj;subst hj;simp[Addr.add]
 case c2=>intro u hu;simp at hu;subst hu;rfl
 case c3=>unfold maxLen;omega
 case c4=>omega
 case c5=>have:=U3.size;simp;omega
 intro v' w2 Vt Pg _;have Vd:b<w1.heap.size:=by
  exact zeb
 have U4:w2.heap[b]?=some (.cells #[b,v] 129 (0,0)):=by
  rw[Pg.block b zaf (fun e=>U9 e.symm),Lib.alloc_old w1 _ b Vd];exact Wl
 have d0:w2.cell? b=some ↑b:=zbv;have d1:w2.cell? (b,1)=some v:=zbv;have f1:w2.frozen? (b,1)=false:=Lib.frozen_of_heap U4 1;obtain⟨g,cap,rfl⟩:∃g cap,v'=.slice (some ⟨g,0,none⟩) (bs.length+1) cap:=by
  rcases Vt.2 with⟨_,h0⟩|⟨g,cap,cur,fz,hv,_⟩
  ·omega
  ·exact⟨g,cap,hv⟩
 go_wp2;go_ret;refine⟨rfl,?_,?_,((YB.alloc _).grown Pg (Lib.ownsRowF_kind (U2.alloc _))).setCell (b,1) rfl _⟩
 ·exact .inr (Lib.BuilderAtF.put (T:=129) (e:=5) hB U4 (bs':=bs++[.int .u8 c]) (by simpa using Vt) zac)
 ·exact((U3.alloc (by have:=U3.size;omega) _).grown Pg (by have:=U3.size;simp;omega) (fun k hk=>(U2.lt k hk).1)).setCell (p:=⟨b,1,none⟩) hB _
theorem jo(B b:Nat)(bs:List Value)(s:())(w:World)(h:dS B b bs w)(hlen:bs.length+s.size<=140737488355328)(hBw:B<=w.heap.size):
  () 122 #[b,s] w fun e w'=>e=.returned (.tuple #[(s.size:Int),.nilIface])/\(dS B b (bs++Lib.strCells s) w'/\Below B w w'/\aY b w w'):=by
 obtain⟨i0,hi,Vv,Vk,Vl⟩:=QV td.infoByte;go_enter func122,ntmps122;go_wp2_with fail;refine(uT B b bs _ h).mono ?_;rintro e w1 ⟨rfl,h1,U3,YB⟩;obtain⟨hB,v,Wl,U2,U9⟩:=h1;have c0:w1.cell? b=some ↑b:=zbu;have c1:w1.cell? (b,1)=some v:=zbu;go_wp2_with(at_builtin;refine Lib.wpList_append_own_stringF _ rfl _ _ 125 9 rfl B 5 i0 underlying125 underlying9 hi Vv Vk Vl _ _ _ rfl U2 s rfl ?c3 ?c4 ?c5 ?_)
 case c3=>unfold maxLen;omega
 case c4=>omega
 case c5=>have:=U3.size;omega
 intro v' w2 Vt Pg _;have Vd:b<w1.heap.size:=by
  exact zeb
 have U4:w2.heap[b]?=some (.cells #[b,v] 129 (0,0)):=by
  rw[Pg.block b Vd (fun e=>U9 e.symm)];exact Wl
 have d0:w2.cell? b=some ↑b:=zbv;have d1:w2.cell? (b,1)=some v:=zbv;have f1:w2.frozen? (b,1)=false:=Lib.frozen_of_heap U4 1;obtain⟨ao,n',cap,rfl⟩:∃ao n' cap,v'=.slice ao n' cap:=by
  rcases Vt.2 with⟨hv,_⟩|⟨g,cap,cur,fz,hv,_⟩
  ·exact⟨_,_,_,hv⟩
  ·exact⟨_,_,_,hv⟩
 go_wp2;go_ret2;refine⟨rfl,?_,?_,(YB.grown Pg (Lib.ownsRowF_kind U2)).setCell (b,1) rfl _⟩
 ·exact .inr (Lib.BuilderAtF.put (T:=129) (e:=5) hB U4 (bs':=bs++Lib.strCells s) (by simpa[Lib.strCells_length] using Vt) zac)
 ·exact(U3.grown Pg (by have:=U3.size;omega) (fun k hk=>(U2.lt k hk).1)).setCell (p:=⟨b,1,none⟩) hB _
theorem MP(B b:Nat)(l:List UInt8)(w:World)(h:dS B b (Lib.byteCells l) w)(h0:l≠[]):
  () 45 #[b] w fun e w'=>e=.returned (.string ⟨l.toArray⟩)/\Below B w w':=by
 obtain⟨p,hAt⟩:∃p,KR B b p (Lib.byteCells l) w:=by
  rcases h with h|h
  ·exact⟨_,h⟩
  ·exact⟨_,h⟩
 obtain⟨hB,v,Wl,U2,U9⟩:=hAt;have hl0:l.length≠0:=by simpa using h0
 rw[Lib.byteCells_length]at U2;obtain⟨g,cap,cur,fz,rfl,hbg,hg,Xj,hnc,hcm,YJ,htake⟩:∃g cap cur fz,v=.slice (some ⟨g,0,none⟩) l.length cap/\B<=g/\w.heap[g]?=some (.cells cur 5 fz)/\fz.2<=l.length*1/\l.length<=cap/\cap<=maxLen/\cur.size=cap*1/\cur.toList.take (l.length*1)=Lib.byteCells l:=by
  rcases U2.2 with⟨_,hz⟩|⟨g,cap,cur,fz,hv,r⟩
  ·exact absurd hz hl0
  ·exact⟨g,cap,cur,fz,hv,r⟩
 have c1:w.drew.cell? (b,1)=some (.slice g l.length cap):=by
  have:w.drew.heap[b]?=some (.cells #[p,.slice g l.length cap] 129 (0,0)):=Wl;rw[RJ this];rfl
 have hSD:(Builtin.unsafeSliceData_ #[125] 209 #[.slice g l.length cap]).run prog w.drew=.ok g w.drew:=
  Lib.run_unsafeSliceData_row _ _ _ _ _ _ zaa
 have hUS:(Builtin.unsafeString_ #[209,3] 9 #[g,(l.length:Int)]).run prog w.drew=.ok (.string ⟨l.toArray⟩) (w.drew.freeze ⟨g,0,none⟩ l.length):=by
  refine Lib.run_unsafeString_row w.drew 209 3 9 5 underlying209 td.cellsByte g cur.size (by have Xb:w.drew.heap[g]?=some (.cells cur 5 fz):=hg;simp[World.shape?,Xb]) l h0 zaa (by unfold maxLen at hcm;omega) ?_;intro j x hx;have:=U2.cells (g:=g) rfl j (.int .u8 x.toNat) (by simp[Lib.byteCells,hx]);exact this
 have hbf:Below B w (w.drew.freeze ⟨g,0,none⟩ l.length):=Lib.below_freeze (Below.drew (Pq B w)) (p:=g) hbg _;clear U2 htake YJ hcm hnc Xj hg;have mixed:Tryz.prog.follows .mixedOrders=true:=zab;go_enter func45,ntmps45;go_wp2;go_region_o
 all_goals(go_wp2;go_ret;exact⟨rfl,hbf⟩)
theorem Cf(B b:Nat)(p:Value)(w:World)(Wl:w.heap[b]?=some (.cells #[p,.slice none 0 0] 129 (0,0))):
  () 45 #[b] w fun e w'=>e=.returned (.string .empty)/\Below B w w':=by
 have hUS:∀(W:World) (q:Option Addr),(Builtin.unsafeString_ #[209,3] 9 #[.pointer q,(0:Int)]).run prog W=.ok (.string .empty) W:=fun W q=>Lib.run_unsafeString_none W _ _ _ q;have c1:w.drew.cell? (b,1)=some (.slice none 0 0):=by
  have:w.drew.heap[b]?=some (.cells #[p,.slice none 0 0] 129 (0,0)):=Wl;rw[RJ this];rfl
 have hSD:(Builtin.unsafeSliceData_ #[125] 209 #[.slice none 0 0]).run prog w.drew=.ok (.pointer none) w.drew:=rfl;have mixed:Tryz.prog.follows .mixedOrders=true:=zab;go_enter func45,ntmps45;go_wp2;go_region_o
 all_goals(go_wp2;go_ret;exact⟨rfl,Below.drew (Pq B w)⟩)
theorem KM{B:Nat}{w:World}(h:dS B b bs w):B<=b/\∃p v,w.heap[b]?=some (.cells #[p,v] 129 (0,0)):=by
 rcases h with⟨hB,v,hb,_⟩|⟨hB,v,hb,_⟩
 ·exact⟨hB,_,v,hb⟩
 ·exact⟨hB,_,v,hb⟩
theorem dS.aq{B:Nat}{w:World}(h:dS B b bs w)(k:Below w w w'):dS B b bs w':=by
 have h1:∀p,KR B b p bs w->KR B b p bs w':=fun p ⟨hB,v,hb,ho,U9⟩=>by
  refine⟨hB,v,?_,⟨ho.1,?_⟩,U9⟩
  ·rw[k.block b (Pn.1 hb).1];exact hb
  ·rcases ho.2 with h'|⟨g,cap,cur,fz,hv,hbg,hg,r⟩
   ·exact .inl h'
   ·refine .inr ⟨g,cap,cur,fz,hv,hbg,?_,r⟩;rw[k.block g (Pn.1 hg).1];exact hg
 rcases h with h|h
 ·exact .inl (h1 _ h)
 ·exact .inr (h1 _ h)
theorem bf{w:World}(k:Below w w w'):aY b w w':=fun i o hi _ _=>by
 rw[k.block i (Pn.1 hi).1];exact hi
theorem a7.below{w:World}(h:a7 p w)(k:Below p w w'):a7 p w':=
 let⟨w0,h1,h2,h3⟩:=h
 ⟨w0,h1,h2,h3.trans (k.mono h1)⟩
theorem bQ{g:Nat}{c:Array Value}{fz:Nat×Nat}{w:World}{B:Nat}(h:w.heap[g]?=some (.cells c e fz))(k:aY b w w')(hb:dS B b bs w)(h1:e≠5)(h2:e≠129):w'.heap[g]?=some (.cells c e fz):=by
 refine k g _ h ?_ ?_
 ·intro e0;obtain⟨_,p,v,hb⟩:=KM hb;simp at e0;subst e0;rw[h]at hb;simp at hb;exact h2 hb.2.1
 ·intro c' fz' h';simp at h';exact h1 h'.2.1
theorem gX{w:World}{B:Nat}(h:w.ownsRow base e size v n xs)(k:aY b w w')(hb:dS B b bs w)(h1:e≠5)(h2:e≠129):w'.ownsRow base e size v n xs:=by
 refine⟨h.1,?_⟩
 rcases h.2 with h'|⟨g,cap,cur,hv,hbg,hg,r⟩
 ·exact .inl h'
 ·exact .inr ⟨g,cap,cur,hv,hbg,bQ hg k hb h1 h2,r⟩
theorem bX(s t:()):Lib.strCells (s++t)=Lib.strCells s++Lib.strCells t:=by
 simp[Lib.strCells]
theorem bY(s:()):(Lib.strCells s).length=s.size:=by simp[Lib.strCells]
theorem tX:∀d,(⟨(Lib.repeatL U.b1.data.toList d).toArray⟩:())=U.pad d
 |0=>rfl
 |d+1=>by
  rw[Lib.repeatL_add _ d 1,U.pad,<- tX d];apply ByteArray.ext
  simp[Lib.repeatL]
namespace J
def l6(a:U.Act):():=
 if a.how.toList == U.cd then gb++U.b1++a.event
 else if a.how.toList == U.bO then cZ++U.b1++a.id
 else if a.id.size=0 then jJ a.event a.delay.toNat
 else jJ a.event a.delay.toNat++U.bAs++a.id
theorem xB(h:Shape a)(t:()):U.Hl t a=t++U.bDo++l6 a:=by
 unfold U.Hl l6
 rcases h with⟨h1,h2⟩|⟨h1,h2⟩|h1
 ·rw[h1,iz];simp only[show(U.cd == U.bO)=false by decide,show(U.cd == U.cd)=true by decide,if_true,Bool.false_eq_true,if_false,ByteArray.append_assoc]
 ·rw[h1,eB];simp only[show(U.bO == U.bO)=true by decide,show(U.bO == U.cd)=false by decide,if_true,Bool.false_eq_true,if_false,ByteArray.append_assoc]
 ·rw[h1,fB];simp only[show(U.fD == U.bO)=false by decide,show(U.fD == U.cd)=false by decide,Bool.false_eq_true,if_false];by_cases h3:a.id.size=0
  ·have:a.id.toList=[]:=by rw[P1];exact Rp h3
   rw[PC h3,this,PC zac];simp only[jJ,ByteArray.append_assoc]
  ·have:¬(a.id.toList == [])=true:=by
    rw[P1];intro e;simp at e;exact h3 (by rw[ByteArray.size];simp[e])
   rw[Pu h3,Pu this];simp only[jJ,ByteArray.append_assoc]
end J
theorem a7.MZ{w:World}(h:a7 p w):Env w.drew:=h.here.aq (Pq _ _).drew
theorem zO(x:U.Act)(dl:Nat)(hd:x.delay=dl):(bo x=.iface 425 (.agg #[x.event])/\J.l6 x=J.gb++U.b1++x.event)\/(bo x=.iface 284 (.agg #[x.id])/\J.l6 x=J.cZ++U.b1++x.id)\/(bo x=.iface 280 (.agg #[x.event,.int .u64 dl])/\J.l6 x=J.jJ x.event dl)\/(bo x=.iface 282 (.agg #[x.event,.int .u64 dl,x.id])/\J.l6 x=J.jJ x.event dl++U.bAs++x.id):=by
 unfold bo J.l6;rw[hd];cases h1:(x.how.toList == U.cd)
 ·cases h2:(x.how.toList == U.bO)
  ·simp only[Bool.false_eq_true,if_false,Int.toNat_natCast];exact zdw
  ·exact zec
 ·simp only[if_true];exact .inl ⟨zav,zav⟩
theorem Ik{w:World}{a:Option Addr}(hA:w.ownsRow 0 275 1 (.slice a n c) A.length (A.map bo)){k:Nat}(hk:k<A.length):∃ab,a=some ⟨ab,0,none⟩/\w.cell? ⟨ab,k,none⟩=some (bo A[k])/\A.length<=c:=by
 rcases hA.2 with⟨_,h0⟩|⟨g,cap,cur,h,_,hg,hle,_,_,h4⟩
 ·omega
 ·simp at h;refine⟨g,h.1,?_,by rw[h.2.2];exact hle⟩;exact zdq
theorem KV{w:World}{a:Option Addr}(hA:w.ownsRow 0 275 1 (.slice a n c) A.length (A.map bo)):n=A.length:=by
 exact zdM
theorem NY(a:Value)(w:World):(method 596 425 (.agg #[a]) "Text").run prog w=.ok (363,.agg #[a]) w:=zab
theorem NX(a:Value)(w:World):(method 596 284 (.agg #[a]) "Text").run prog w=.ok (346,.agg #[a]) w:=zab
theorem NZ(a b:Value)(w:World):(method 596 280 (.agg #[a,b]) "Text").run prog w=.ok (339,.agg #[a,b]) w:=zab
theorem NW(a b c:Value)(w:World):(method 596 282 (.agg #[a,b,c]) "Text").run prog w=.ok (344,.agg #[a,b,c]) w:=zab
theorem gH(B b:Nat)(bs:List Value)(d:Nat)(hd:())(A:List U.Act)(a:Option Addr)(n c:Nat)(w:World)(h:dS B b bs w)(hBw:B<=w.heap.size)(hA:w.ownsRow 0 275 1 (.slice a n c) A.length (A.map bo))(hS:∀x∈A,J.Shape x)(Xz:∀x∈A,U.gq x)(hl:A.length<=100000)(hd0:d<=100000)(hh:hd.size<=1000000)(hlen:bs.length<=100000000000000)(hv:a7 B w):
  () 78 #[b,(d:Int),hd,.slice a n c] w fun e w'=>e=.returned (.tuple #[])/\dS B b (bs++Lib.strCells (U.pad d++hd++U.written A++U.bNl)) w'/\Below B w w'/\aY b w w':=by
 go_enter func78,ntmps78;have Yv:Hid _:=hv;clear hv
 go_upto_region 1 with fail
 refine TT zab ?_;change wpAny _ _ _ _ _ _ _ (World.drew _);refine tA 0 b rfl ?_;refine tA 1 b rfl ?_;refine tA 2 b rfl ?_;refine tA 3 (.int .i64 d) rfl ?_;refine zA 4 rfl fun K hK=>?_;go_simp;refine Pw (strings_Repeat U.b1 d _ zaa (by have:U.b1.size=1:=rfl;rw[this];omega)) ?_;rintro e w1 ⟨rfl,U3⟩;rw[tX];have Xt:Below w w w1:=((Pq _ _).drew).trans U3;have Vg:=h.aq Xt;have YB:aY b w w1:=bf Xt;have WR:=Xt.size;dsimp only;refine hK _ _ ?_;clear hK K;refine zA 5 rfl fun K hK=>?_;go_simp;refine Pw (jo B b bs (U.pad d) w1 Vg (by rw[U.iR];omega) zaa) ?_;rintro e w2 ⟨rfl,Zf,U4,Wy⟩;have Vn:Below B w w2:=(Xt.mono hBw).trans U4;have hk2':aY b w w2:=YB.trans Wy;have Zp:=Vn.size;clear U3 Xt Vg YB U4 Wy WR;dsimp only;refine hK _ _ ?_;clear hK K w1;refine UP zab ?_ _;go_wp2_with fail;refine Pw (jo B b _ hd w2 Zf (by rw[PI,bY,U.iR];omega) zaa) ?_;rintro e w3 ⟨rfl,ZN,VA,ZX⟩;have XY:Below B w w3:=Vn.trans VA;have Y5:aY b w w3:=hk2'.trans ZX;have Xx:=XY.size;rw[Qd,<- bX]at ZN;clear Vn hk2' VA ZX Zp;have hn:=KV hA;subst hn;have HA:Hid _:=hA;have HSh:Hid _:=hS;have HSm:Hid _:=Xz;have HW:Hid _:=h;clear hA hS Xz h;go_wp2
 go_loopg[23] A.length (fun q i wr=>∃k:Nat,q=A.length-k/\k<=A.length/\i=.int .i64 k/\dS B b (bs++Lib.strCells (U.pad d++hd++U.ew A k)) wr/\Below B w wr/\aY b w wr)
 case atStart=>exact⟨0,rfl,PK _,rfl,by rw[show U.pad d++hd++U.ew A 0=U.pad d++hd from Rt];exact ZN,XY,Y5⟩
 case round=>
  obtain⟨k,hq,hk,rfl,Xd,VR,X6⟩:=hrel;have VZ:=VR.size;have hrw:∀j,(U.ew A j).size<=j*20000:=U.lZ HSm.out;have Zu:=hrw k;by_cases Vx:k<A.length
  ·have hAr:=gX HA.out X6 HW.out zac zac;obtain⟨ab,ha,ck,hcc⟩:=Ik hAr Vx;subst ha;obtain⟨x,hx⟩:∃x,x=A[k]:=⟨_,rfl⟩;rw[<- hx]at ck;have hxS:J.Shape x:=HSh.out x (by rw[hx];exact P7 Vx);have hxm:U.gq x:=HSm.out x (by rw[hx];exact P7 Vx);obtain⟨dl,V4,hdl2⟩:=hxm.delay;have Wq:=hxm.event;have hid:=hxm.id;have HN:Hid (U.ew A (k+1)=U.ew A k++U.bDo++J.l6 x):=by
    unfold Hid;rw[U.ew,Pp Vx,<- hx];exact J.xB hxS _
   have Vf:(U.pad d++hd++U.ew A k).size<=2002000000:=by
    rw[P2,P2,U.iR];have:k*20000<=100000*20000:=Qx _ zaa;omega
   clear Zu hrw hAr hx hxS hxm;have hR:=NY;have hC:=NX;have hS:=NZ;have hT:=NW
   rcases zO x dl V4 with⟨hvv,VD⟩|⟨hvv,VD⟩|⟨hvv,VD⟩|⟨hvv,VD⟩
   all_goals
    rw[hvv]at ck;have HL:Hid _:=VD;clear hvv VD;have hts:(J.l6 x).size<=20000:=by
     rw[HL.out]
     try unfold J.jJ
     simp only[ByteArray.size_append'];have e1:U.b1.size=1:=rfl;have e2:J.gb.size=5:=rfl;have e3:J.cZ.size=6:=rfl;have e4:J.gP.size=4:=rfl;have e5:U.bAs.size=4:=rfl;have e6:=U.im (n:=dl) zaa;omega
    go_wp2_with fail;refine Pw (jo B b _ U.bDo _ Xd (by rw[PI,bY];have:U.bDo.size=4:=rfl;omega) zaa) ?_;rintro e w5 ⟨rfl,YP,VU,VN⟩;have hb5':Below B w w5:=VR.trans VU;have Y0:aY b w w5:=X6.trans VN;have hs5:=hb5'.size;rw[Qd,<- bX]at YP;have HEnv2:Hid (a7 B w5):=a7.below Yv.out hb5';clear VU VN
    go_upto_region 1 with fail
    refine TT zab ?_;change wpAny _ _ _ _ _ _ _ (World.drew _);refine tA 0 b rfl ?_;refine tA 1 b rfl ?_;refine tA 2 b rfl ?_;refine zA 3 rfl fun K hK=>?_;go_simp;refine hK _ _ ?_;clear hK K;refine zA 4 rfl fun K hK=>?_;go_simp
    first|refine Pw (vG x.event _ zaa) ?_|refine Pw (sK x.id _ zaa) ?_|refine Pw (p6 x.event dl _ zaa zaa (a7.MZ HEnv2.out)) ?_|refine Pw (uv x.event x.id dl _ zaa zaa zaa (a7.MZ HEnv2.out)) ?_
    rw[<- HL.out];rintro e w6 ⟨rfl,Z9⟩;have WK:Below w5 w5 w6:=((Pq _ _).drew).trans Z9;have hw6:=YP.aq WK;have XS:aY b w w6:=Y0.trans (bf WK);have XQ:Below B w w6:=hb5'.trans (WK.mono zaa);have hs6:=XQ.size;clear Z9 WK YP Y0 hb5';dsimp only;refine hK _ _ ?_;clear hK K;refine zA 5 rfl fun K hK=>?_;go_simp;refine Pw (jo B b _ (J.l6 x) _ hw6 (by rw[PI,bY,P2];have:U.bDo.size=4:=rfl;omega) zaa) ?_;rintro e w7 ⟨rfl,hw7,hb7,hk7⟩;have hb7':Below B w w7:=XQ.trans hb7;have hk7':aY b w w7:=XS.trans hk7;rw[Qd,<- bX]at hw7;have hw7':dS B b (bs++Lib.strCells (U.pad d++hd++U.ew A (k+1))) w7:=by rw[HN.out];simpa only[ByteArray.append_assoc] using hw7
    clear hb7 hk7 hw7 hw6 XS XQ;dsimp only;refine hK _ _ ?_;clear hK K;refine UP zab ?_ _;go_wp2
    go_roundg (A.length-(k+1))
    case measure=>omega
    case rel=>exact⟨k+1,rfl,zaa,zah,hw7',hb7',hk7'⟩
  ·have ZM:k=A.length:=zaa;subst ZM;have Vf:(U.pad d++hd++U.ew A A.length).size<=2002000000:=by
    rw[P2,P2,U.iR];have:A.length*20000<=100000*20000:=Qx _ zaa;omega
   clear Zu hrw;go_wp2_with fail;refine Pw (Eh B b _ 10 _ Xd zaC zaa) ?_;rintro e w5 ⟨rfl,YP,VU,VN⟩;have ZR:dS B b (bs++Lib.strCells (U.pad d++hd++U.written A++U.bNl)) w5:=by
    rw[bX,<- Qd];exact YP
   go_wp2;go_end0;exact⟨rfl,ZR,VR.trans VU,X6.trans VN⟩
namespace J
def fU:():=⟨#[101,110,116,101,114]⟩
def eS:():=⟨#[108,101,97,118,101]⟩
def iK(d:Nat)(h:())(A:List U.Act):():=U.pad d++h++U.written A++U.bNl
def mg(d:Nat)(h:())(A:List U.Act):():=if A.isEmpty then ByteArray.empty else iK d h A
def aX(d:Nat)(M:List U.Move):Nat->()
 |0=>ByteArray.empty
 |j+1=>match M[j]? with
  |some m=>aX d M j++iK d (ee m) m.ai
  |none=>aX d M j
def pw(x:U.State):():=iK x.depth.toNat (eH (aj x) x.name) []++mg (x.depth.toNat+1) fU x.enter++mg (x.depth.toNat+1) eS x.leave
def ej(x:U.State):():=pw x++aX (x.depth.toNat+1) x.aa x.aa.length
structure iE(A:List U.Act):Prop where
 shape:∀a∈A,Shape a
 small:∀a∈A,U.gq a
 len:A.length<=100000
theorem iE.nil:iE []:=⟨zad,zad,zad⟩
theorem jX(hd:d<=100000)(hh:h.size<=1000000)(hA:iE A):(iK d h A).size<=2002000000:=by
 unfold iK;have h1:=U.fT hA.small hA.len;exact zek
theorem jB(hd:d<=100000)(hh:h.size<=1000000)(hA:iE A):(mg d h A).size<=2002000000:=by
 unfold mg;split
 ·exact PK _
 ·exact jX hd hh hA
theorem wG(x:U.State):0<=aj x/\aj x<=4:=by
 unfold aj
 repeat' split
 all_goals decide
theorem jm{k:Int}{n:()}(h:n.size<=4096):(eH k n).size<=5000:=by
 have e1:U.b1.size=1:=rfl;have e2:U.Ac.size=5:=rfl;have e3:(bm k).size<=8:=by unfold bm;(repeat' split);all_goals decide
 unfold eH;exact zeY
theorem fy(h:U.gL m):(ee m).size<=9000:=by
 have e1:Lc.size=3:=rfl;have e2:U.bTo.size=4:=rfl;have h1:=h.event;have h2:=h.dst;unfold ee;exact zeY
theorem iL{d:Nat}{M:List U.Move}(hd:d<=100000)(h:∀m∈M,U.gL m/\iE m.ai):∀j,(aX d M j).size<=j*2002000000
 |0=>Po _
 |j+1=>by
  have ih:=iL hd h j;rw[aX];split
  ·rename_i m hm;have X7:=h m (PD hm);have h1:=jX (d:=d) (h:=ee m) (A:=m.ai) hd (by have:=fy X7.1;omega) X7.2;rw[P2,R1];exact Nat.add_le_add ih h1
  ·exact Pr ih (Qx _ (UX j))
end J
theorem gE:(Tryz.prog.info? 207).map (·.size)=some 5:=zab
theorem iO{w:World}{v:U.Sl}(h:w.ownsRow base e size v.v n xs):v.n=n:=by
 exact zdB
structure eF(w:World)(x:J.DS)(M:List J.PV):Prop where
 dep0:0<=x.s.depth
 dep:x.s.depth<=5
 name:x.s.name.size<=4096
 mv:M.map (·.m)=x.s.aa
 mlen:M.length<=4096
 aa:w.ownsRow 0 207 5 x.vm.v M.length (M.flatMap J.aQ)
 ai:∀y∈M,w.ownsRow 0 275 1 y.v.v y.m.ai.length (y.m.ai.map bo)
 actsG:∀y∈M,U.gL y.m/\J.iE y.m.ai
 enter:w.ownsRow 0 275 1 x.ve.v x.s.enter.length (x.s.enter.map bo)
 enterG:J.iE x.s.enter
 leave:w.ownsRow 0 275 1 x.vl.v x.s.leave.length (x.s.leave.map bo)
 leaveG:J.iE x.s.leave
theorem eF.wr{B:Nat}{w:World}{x:J.DS}{M:List J.PV}(h:eF w x M)(k:aY b w w')(hb:dS B b bs w):eF w' x M:=
 ⟨h.dep0,h.dep,h.name,h.mv,h.mlen,gX h.aa k hb zac zac,fun y hy=>gX (h.ai y hy) k hb zac zac,h.actsG,gX h.enter k hb zac zac,h.enterG,gX h.leave k hb zac zac,h.leaveG⟩
def OB(x:J.DS):Array Value:=#[.int .i64 (J.aj x.s),x.s.name,(x.s.depth:Int),(x.s.up:Int),.slice x.vp.a x.vp.n x.vp.c,.slice x.ve.a x.ve.n x.ve.c,.slice x.vl.a x.vl.n x.vl.c,.slice x.vm.a x.vm.n x.vm.c]
theorem gy{w:World}{v0 v1 v2 v3 v4 v5 v6 v7:Value}(h:w.heap[sb]?=some (.cells #[v0,v1,v2,v3,v4,v5,v6,v7] 134 (0,0))):w.cell? sb=some v0/\w.cell? (sb,1)=some v1/\w.cell? (sb,2)=some v2/\w.cell? (sb,3)=some v3/\w.cell? (sb,4)=some v4/\w.cell? (sb,5)=some v5/\w.cell? (sb,6)=some v6/\w.cell? (sb,7)=some v7:=by
 refine⟨?_,?_,?_,?_,?_,?_,?_,?_⟩<;>rw[Pt w _ _ _ _ _ h]<;>rfl
theorem fX{W:World}{v0 v1 v2 v3 v4 v5 v6 v7 u0 u1 u2 u3 u4:Value}(h:W.heap[sb]?=some (.cells #[v0,v1,v2,v3,v4,v5,v6,v7] 134 (0,0)))(hm:W.heap[mb]?=some (.cells #[u0,u1,u2,u3,u4] 207 (0,0))):
  W.cell? (sb,2)=some v2/\W.cell? mb=some u0/\W.cell? (mb,1)=some u1/\W.cell? (mb,2)=some u2/\W.cell? (mb,3)=some u3/\W.cell? (mb,4)=some u4:=by
 refine⟨(gy h).2.2.1,?_,?_,?_,?_,?_⟩<;>rw[Pt W _ _ _ _ _ hm]<;>rfl
theorem Eo(B b:Nat)(bs:List Value)(x:J.DS)(M:List J.PV)(w:World)(h:dS B b bs w)(hBw:B<=w.heap.size)(hv:a7 B w)(hX:eF w x M)(hlen:bs.length<=80000000000000):
  () 44 #[b,.agg (OB x)] w fun e w'=>e=.returned (.tuple #[])/\dS B b (bs++Lib.strCells (J.ej x.s)) w'/\Below B w w'/\aY b w w':=by
 obtain⟨s,⟨pa,pn,pc⟩,⟨ea,en,ec⟩,⟨la,ln,lc⟩,⟨ma,mn,mc⟩⟩:=x;have hnE:en=s.enter.length:=iO (v:=⟨ea,en,ec⟩) hX.enter;have hnL:ln=s.leave.length:=iO (v:=⟨la,ln,lc⟩) hX.leave;have hnM:mn=M.length:=iO (v:=⟨ma,mn,mc⟩) hX.aa;subst hnE hnL hnM;obtain⟨x,hx⟩:∃x:J.DS,x=⟨s,⟨pa,pn,pc⟩,⟨ea,s.enter.length,ec⟩,⟨la,s.leave.length,lc⟩,⟨ma,M.length,mc⟩⟩:=⟨_,rfl⟩;have WE:x.s=s:=by rw[hx]
 change Calls _ _ #[b,.agg #[.int .i64 (J.aj s),s.name,(s.depth:Int),(s.up:Int),.slice pa pn pc,.slice ea s.enter.length ec,.slice la s.leave.length lc,.slice ma M.length mc]] w fun e w'=>e=.returned (.tuple #[])/\dS B b (bs++Lib.strCells (J.ej s)) w'/\Below B w w'/\aY b w w';obtain⟨dn,hdn⟩:∃dn:Nat,s.depth=dn:=⟨s.depth.toNat,(Int.toNat_of_nonneg hX.dep0).symm⟩;have hdn5:dn<=5:=by have:s.depth<=5:=hX.dep;omega
 have Yv:Hid _:=hv;have VD:s.name.size<=4096:=hX.name;have U3:Below w w (w.alloc (.cells #[.int .i64 (J.aj s),s.name,(s.depth:Int),(s.up:Int),.slice pa pn pc,.slice ea s.enter.length ec,.slice la s.leave.length lc,.slice ma M.length mc] 134)):=(Pq _ _).alloc (Po _) _;have ZQ:(w.alloc (.cells #[.int .i64 (J.aj s),s.name,(s.depth:Int),(s.up:Int),.slice pa pn pc,.slice ea s.enter.length ec,.slice la s.leave.length lc,.slice ma M.length mc] 134)).heap[w.heap.size]?=some (.cells #[.int .i64 (J.aj s),s.name,(s.depth:Int),(s.up:Int),.slice pa pn pc,.slice ea s.enter.length ec,.slice la s.leave.length lc,.slice ma M.length mc] 134 (0,0)):=PG _ _;have WQ:=hdn;obtain⟨W1,Vj⟩:∃y,y=w.alloc (.cells #[.int .i64 (J.aj s),s.name,(s.depth:Int),(s.up:Int),.slice pa pn pc,.slice ea s.enter.length ec,.slice la s.leave.length lc,.slice ma M.length mc] 134):=⟨_,rfl⟩;rw[<- Vj]at U3 ZQ;have YB:aY b w W1:=bf U3;have Vg:=h.aq U3;have Zh:=hX.wr YB h;have WR:=U3.size;have ZG:=gy ZQ;have Vc:=(Pn.1 ZQ).1;clear hX hv;rw[hdn]at Vj ZQ ZG⊢;go_enter func44,ntmps44
 go_upto_region 1 with fail
 change Code.wp _ _ _ _ (w.alloc (.cells #[.int .i64 (J.aj s),s.name,(dn:Int),(s.up:Int),.slice pa pn pc,.slice ea s.enter.length ec,.slice la s.leave.length lc,.slice ma M.length mc] 134));rw[<- Vj];clear Vj;refine PJ (S:=(fun W=>W.cell? w=some (.int .i64 (J.aj s))/\W.cell? ⟨w,1,none⟩=some ↑s.name/\W.cell? ⟨w,2,none⟩=some ↑(dn:Int)/\W.cell? ⟨w,3,none⟩=some ↑(s.up:Int)/\W.cell? ⟨w,4,none⟩=some (.slice pa pn pc)/\W.cell? ⟨w,5,none⟩=some (.slice ea s.enter.length ec)/\W.cell? ⟨w,6,none⟩=some (.slice la s.leave.length lc)/\W.cell? ⟨w,7,none⟩=some (.slice ma M.length mc))) zab ZG (fun Pm=>?_);refine tH 0 b rfl Pm ?_;refine tH 1 (w,2) rfl Pm ?_;refine tH 2 (.int .i64 dn) rfl Pm ?_;refine tH 3 (.agg #[.int .i64 (J.aj s),s.name,(dn:Int),(s.up:Int),.slice pa pn pc,.slice ea s.enter.length ec,.slice la s.leave.length lc,.slice ma M.length mc]) rfl Pm ?_;refine zH 4 rfl fun K hK=>?_;go_simp;refine Pw (vJ (J.aj s) s.name dn s.up ⟨pa,pn,pc⟩ ⟨ea,s.enter.length,ec⟩ ⟨la,s.leave.length,lc⟩ ⟨ma,M.length,mc⟩ _ (J.wG s).1 (J.wG s).2 zaa) ?_;rintro e w2 ⟨rfl,U4⟩;have Vn:Below W1 W1 w2:=((Pq _ _).drew).trans U4;have hsb2:=(Vn.block _ Vc).trans ZQ;have Zf:=Vg.aq Vn;have Wy:aY b W1 w2:=bf Vn;have Wm:Below B w w2:=(U3.mono hBw).trans (Vn.mono zaa);have Zp:=Wm.size;dsimp only;refine hK.out _ _ (gy hsb2) (fun Pm=>?_);clear hK K U4 Vn ZG;refine zH 5 rfl fun K hK=>?_;go_simp;refine Pw (gH B b bs dn (J.eH (J.aj s) s.name) [] none 0 0 w2 Zf zaa ⟨rfl,.inl ⟨rfl,rfl⟩⟩ zad zad zad zaa (by have:=J.jm (k:=J.aj s) VD;omega) zaa (a7.below Yv.out Wm)) ?_;rintro e w3 ⟨rfl,ZN,VA,ZX⟩;have hsb3:=bQ hsb2 ZX Zf zac zac;have Y5:aY b W1 w3:=Wy.trans ZX;have WX:=Wm.trans VA;have Xx:=WX.size;dsimp only;refine hK.out _ _ (gy hsb3) (fun Pm=>?_);clear hK K VA ZX Wy Zf hsb2 Wm Zp;obtain⟨T1,hT1⟩:∃T,T=J.iK dn (J.eH (J.aj s) s.name) []:=⟨_,rfl⟩;change dS B b (bs++Lib.strCells (J.iK dn (J.eH (J.aj s) s.name) [])) w3 at ZN;have hT1s:T1.size<=2002000000:=by rw[hT1];exact J.jX zaa (by have:=J.jm (k:=J.aj s) VD;omega) J.iE.nil
 rw[<- hT1]at ZN;refine PX zab ?_ _;clear Pm;obtain⟨c0,c1,c2,c3,c4,c5,c6,c7⟩:=gy hsb3;have ed:((dn+1:Nat):Int)=(dn:Int)+1:=rfl;by_cases hE:s.enter.length=0
 ·skip
  obtain⟨T2,hT2⟩:∃T,T=T1++J.mg (dn+1) J.fU s.enter:=⟨_,rfl⟩;have hT2e:T2=T1:=by
   rw[hT2];unfold J.mg;rw[PC (by rw[Rg];exact hE),Rt]
  have hT2s:T2.size<=T1.size+2002000000:=by rw[hT2e];omega
  rw[<- hT2e]at ZN;clear hT2e;have hE':s.enter.length=0:=zaa;by_cases hL:s.leave.length=0
  ·skip
   obtain⟨T3,Zk⟩:∃T,T=T2++J.mg (dn+1) J.eS s.leave:=⟨_,rfl⟩;have ZS:T3=T2:=by
    exact zeX
   have hT3s:T3.size<=T2.size+2002000000:=by rw[ZS];omega
   rw[<- ZS]at ZN;clear ZS;have hL':s.leave.length=0:=zaa;have HX1:Hid _:=Zh;have Wk:=Zh.mlen;clear Zh;go_wp2;clear hE hE' hL hL'
   go_loopg[37] M.length (fun q i wr=>∃k:Nat,q=M.length-k/\k<=M.length/\i=.int .i64 k/\dS B b (bs++Lib.strCells (T3++J.aX (dn+1) s.aa k)) wr/\Below B w wr/\aY b W1 wr)
   case atStart=>exact⟨0,rfl,PK _,rfl,by rw[show T3++J.aX (dn+1) s.aa 0=T3 from Rt];exact ZN,WX,Y5⟩
   case round=>
    clear c0 c1 c2 c3 c4 c5 c6 c7 hsb3 WX Y5 ZN Xx;exact zcB
  ·have hL':0<s.leave.length:=zaa;go_wp2_with fail;rw[<- ed];have hX3:=Zh.wr Y5 Vg;refine Pw (gH B b _ (dn+1) J.eS s.leave la s.leave.length lc w3 ZN zaa hX3.leave hX3.leaveG.shape hX3.leaveG.small hX3.leaveG.len zaa zac zaC (a7.below Yv.out WX)) ?_;rintro e w5 ⟨rfl,YP,VU,VN⟩;have Yu:=bQ hsb3 VN ZN zac zac;have Y0:aY b W1 w5:=Y5.trans VN;have WY:=WX.trans VU;have hs5:=WY.size;obtain⟨c0,c1,c2,c3,c4,c5,c6,c7⟩:=gy Yu;obtain⟨T3,Zk⟩:∃T,T=T2++J.mg (dn+1) J.eS s.leave:=⟨_,rfl⟩;have hT3s:T3.size<=T2.size+2002000000:=by rw[Zk,P2];have:=J.jB (d:=dn+1) (h:=J.eS) (A:=s.leave) zaa zac hX3.leaveG;omega
   have ZR:dS B b (bs++Lib.strCells T3) w5:=by
    exact zeu
   clear YP;have YP:=ZR;clear ZR;clear VU VN hX3;exact za5
 ·have hE':0<s.enter.length:=zaa;go_wp2_with fail;rw[<- ed];have hX3:=Zh.wr Y5 Vg;refine Pw (gH B b _ (dn+1) J.fU s.enter ea s.enter.length ec w3 ZN zaa hX3.enter hX3.enterG.shape hX3.enterG.small hX3.enterG.len zaa zac zaC (a7.below Yv.out WX)) ?_;rintro e w4 ⟨rfl,Xm,WH,hk4⟩;have hsb4:=bQ hsb3 hk4 ZN zac zac;have hk4':aY b W1 w4:=Y5.trans hk4;have hbw4:=WX.trans WH;have hs4:=hbw4.size;obtain⟨c0,c1,c2,c3,c4,c5,c6,c7⟩:=gy hsb4;obtain⟨T2,hT2⟩:∃T,T=T1++J.mg (dn+1) J.fU s.enter:=⟨_,rfl⟩;have hT2s:T2.size<=T1.size+2002000000:=by rw[hT2,P2];have:=J.jB (d:=dn+1) (h:=J.fU) (A:=s.enter) zaa zac hX3.enterG;omega
  have hw4':dS B b (bs++Lib.strCells T2) w4:=by
   rw[hT2,bX,<- Qd];unfold J.mg;rw[Pu (by rw[Rg];omega)];exact Xm
  clear Xm;have Xm:=hw4';clear hw4';clear WH hk4 hX3;by_cases hL:s.leave.length=0
  ·skip
   obtain⟨T3,Zk⟩:∃T,T=T2++J.mg (dn+1) J.eS s.leave:=⟨_,rfl⟩;have ZS:T3=T2:=by
    exact zeX
   have hT3s:T3.size<=T2.size+2002000000:=by rw[ZS];omega
   rw[<- ZS]at Xm;clear ZS;have hL':s.leave.length=0:=zaa;have HX1:Hid _:=Zh;have Wk:=Zh.mlen;clear Zh;go_wp2;clear hE hE' hL hL'
   go_loopg[37] M.length (fun q i wr=>∃k:Nat,q=M.length-k/\k<=M.length/\i=.int .i64 k/\dS B b (bs++Lib.strCells (T3++J.aX (dn+1) s.aa k)) wr/\Below B w wr/\aY b W1 wr)
   case atStart=>exact⟨0,rfl,PK _,rfl,by rw[show T3++J.aX (dn+1) s.aa 0=T3 from Rt];exact Xm,hbw4,hk4'⟩
   case round=>
    clear c0 c1 c2 c3 c4 c5 c6 c7 hsb4 hbw4 hk4' Xm hs4;exact zcB
  ·have hL':0<s.leave.length:=zaa;go_wp2_with fail;rw[<- ed];have hX4:=Zh.wr hk4' Vg;refine Pw (gH B b _ (dn+1) J.eS s.leave la s.leave.length lc w4 Xm zaa hX4.leave hX4.leaveG.shape hX4.leaveG.small hX4.leaveG.len zaa zac zaC (a7.below Yv.out hbw4)) ?_;rintro e w5 ⟨rfl,YP,VU,VN⟩;have Yu:=bQ hsb4 VN Xm zac zac;have Y0:aY b W1 w5:=hk4'.trans VN;have WY:=hbw4.trans VU;have hs5:=WY.size;obtain⟨c0,c1,c2,c3,c4,c5,c6,c7⟩:=gy Yu;obtain⟨T3,Zk⟩:∃T,T=T2++J.mg (dn+1) J.eS s.leave:=⟨_,rfl⟩;have hT3s:T3.size<=T2.size+2002000000:=by rw[Zk,P2];have:=J.jB (d:=dn+1) (h:=J.eS) (A:=s.leave) zaa zac hX4.leaveG;omega
   have ZR:dS B b (bs++Lib.strCells T3) w5:=by
    exact zeu
   clear YP;have YP:=ZR;clear ZR;clear VU VN hX4;exact za5
theorem lR{α:Type}{f:α->List Value}(hf:∀x,(f x).length=n){w:World}{B g cap u j:Nat}{X:List α}{x':α}(hs:w.ownsRow B e n (.slice g X.length cap) X.length (X.flatMap f))(hu:u<X.length)(hj:j<n)(hx:f x'=(f X[u]).set j v):
  (w.setCell (g,u*n+j) v).ownsRow B e n (.slice g X.length cap) X.length ((X.set u x').flatMap f)/\Touch e w (w.setCell (g,u*n+j) v):=by
 rcases hs.2 with⟨h,_⟩|⟨g',cap',cur,h,hb,hg,h1,h2,h3,h4⟩
 ·cases h
 ·simp only[Value.slice.injEq,Option.some.injEq,Addr.mk.injEq,and_true,true_and]at h;obtain⟨rfl,rfl⟩:=h;have oo:=ag w g (u*n+j) v;refine⟨⟨?_,.inr ⟨g,cap,cur.setIfInBounds (u*n+j) v,rfl,hb,PR w g _ _ _ v hg,h1,h2,za4,?_⟩⟩,jM oo hg⟩
  ·have:=U.kK (f:=f) (n:=n) hf (X.set u x');rw[PO]at this;exact this
  ·rw[Sy,List.take_set,h4];exact tf (f:=f) (n:=n) hf X u j v x' hj hu hx
theorem lX{g:Nat}{w wr:World}{row:Option Nat}(h:au g w wr)(hb:Below wr wr wc)(hg:wc.grownBy w5 row)(hr:∀k,row=some k->w.heap.size<=k):au g w w5:=by
 have s1:=h.size;have s2:=hb.size;exact⟨hg.os.trans (hb.os.trans h.os),hg.tape.trans (hb.tape.trans h.tape),hg.output.trans (hb.output.trans h.output),Pr s1 (Pr s2 hg.size),fun k hk hp=>(hg.block k zaa (fun e=>by have:=hr k e.symm;omega)).trans ((hb.block k zaa).trans (h.block k hk hp))⟩
theorem jN{g o:Nat}{w:World}(h:au g w w5):au g w (w5.setCell (g,o) v):=h.trans (ag _ _ _ _).al
theorem rA{g o:Nat}{w:World}(h:au g w w5)(hm:w.heap.size<=mb):au g w (w5.setCell (mb,o) v):=by
 have oo:=ag w5 mb o v;exact⟨oo.os.trans h.os,oo.tape.trans h.tape,oo.output.trans h.output,by rw[oo.size];exact h.size,fun k hk hp=>(oo.block k zaa).trans (h.block k hk hp)⟩
structure cY(w wr:World)(B g cap:Nat)(X:List J.DS)(u:Nat)(x:J.DS)(ve vl vm:U.Sl)(E L:List U.Act)(Q:List J.PV):Prop where
 al:au g w wr
 states:wr.ownsRow B 134 8 (.slice g X.length cap) X.length ((X.set u { x with ve:=ve,vl:=vl,vm:=vm }).flatMap J.aM)
 enter:wr.ownsRow w 275 1 ve.v E.length (E.map bo)
 leave:wr.ownsRow w 275 1 vl.v L.length (L.map bo)
 aa:wr.ownsRow w 207 5 vm.v Q.length (Q.flatMap J.aQ)
 ap:apart ve vl
section
variable {w wr:World}{B g cap:Nat}{X:List J.DS}{u:Nat}{x:J.DS}{ve vl vm:U.Sl}{E L:List U.Act}{Q:List J.PV}
theorem cY.aq{wr':World}(G:cY w wr B g cap X u x ve vl vm E L Q)(hb:Below wr wr wr'):cY w wr' B g cap X u x ve vl vm E L Q:=
 ⟨G.al.trans (aU hb),bz G.states hb,bz G.enter hb,bz G.leave hb,bz G.aa hb,G.ap⟩
theorem cY.cell(G:cY w wr B g cap X u x ve vl vm E L Q)(hu:u<X.length)(j:Nat)(hj:j<8):wr.cell? (g,u*8+j)=(J.aM { x with ve:=ve,vl:=vl,vm:=vm })[j]?:=by
 have Vd:u*8+j<X.length*8:=zaa;have hu':u<(X.set u { x with ve:=ve,vl:=vl,vm:=vm }).length:=za1;rw[G.states.cellAt (u*8+j) Vd,U.kJ (f:=J.aM) (n:=8) (fun _=>rfl) _ u j hj hu',Sb]
theorem cY.frozen(G:cY w wr B g cap X u x ve vl vm E L Q)(j:Nat):wr.frozen? (g,j)=false:=RI (aJ G.states (PK _)) _
theorem cY.glt(G:cY w wr B g cap X u x ve vl vm E L Q):B<=g/\g<wr.heap.size:=Qf G.states g rfl
theorem cY.NG(G:cY w wr B g cap X u x ve vl vm E L Q):some g≠ve.v.ownBlock/\some g≠vl.v.ownBlock/\some g≠vm.v.ownBlock:=by
 obtain⟨c',Ve⟩:=b8 G.states g rfl;refine⟨fun e=>?_,fun e=>?_,fun e=>?_⟩
 ·obtain⟨c,hc⟩:=b8 G.enter _ e.symm;exact zfz
 ·obtain⟨c,hc⟩:=b8 G.leave _ e.symm;exact zfz
 ·obtain⟨c,hc⟩:=b8 G.aa _ e.symm;exact zfz
theorem cY.Il{ve':U.Sl}(G:cY w wr B g cap X u x ve vl vm E L Q)(hu:u<X.length)(hb:Below wr wr wc)(hg:wc.grownBy w5 ve.v.ownBlock)
  (U2:w5.ownsRow w 275 1 ve'.v (E.length+1) (E.map bo++[bo a])) (VJ:ve'.v.ownBlock=ve.v.ownBlock\/ve'.v.ownBlock=some wc.heap.size):
  cY w (w5.setCell (g,u*8+5) ve'.v) B g cap X u x ve' vl vm (E++[a]) L Q:=by
 have Gc:=G.aq hb;have Vd:=fun k h=>(Qf Gc.enter k h).1;have T1:=dN Gc.enter hg;have hu':u<(X.set u { x with ve:=ve,vl:=vl,vm:=vm }).length:=za1;have hs5:=ah Gc.states T1 zac;have hr:=lR (f:=J.aM) (n:=8) (fun _=>rfl) (X:=X.set u { x with ve:=ve,vl:=vl,vm:=vm }) (u:=u) (j:=5) (v:=ve'.v) (x':={ x with ve:=ve',vl:=vl,vm:=vm }) (by rw[PO];exact hs5) hu' zac za9;obtain⟨U5,T2⟩:=hr;rw[S1,PO]at U5;refine⟨jN (lX G.al hb hg Vd),U5,?_,?_,ah (ah Gc.aa T1 zac) T2 zac,?_⟩
 ·rw[PI,Qj];exact ah U2 T2 zac
 ·refine ah (Gc.leave.kept hg ?_) T2 zac
  rcases G.ap with h1|h1
  ·rw[h1];cases vl.v.ownBlock<;>simp
  ·exact .inr (fun e=>h1 e.symm)
 ·have XW:=G.ap;unfold apart at XW⊢
  rcases VJ with e|e
  ·rw[e];exact XW
  ·rw[e];refine .inr (fun e2=>?_);have:=(Qf Gc.leave _ e2.symm).2;omega
theorem cY.Im{vl':U.Sl}(G:cY w wr B g cap X u x ve vl vm E L Q)(hu:u<X.length)(hb:Below wr wr wc)(hg:wc.grownBy w5 vl.v.ownBlock)
  (U2:w5.ownsRow w 275 1 vl'.v (L.length+1) (L.map bo++[bo a])) (VJ:vl'.v.ownBlock=vl.v.ownBlock\/vl'.v.ownBlock=some wc.heap.size):
  cY w (w5.setCell (g,u*8+6) vl'.v) B g cap X u x ve vl' vm E (L++[a]) Q:=by
 have Gc:=G.aq hb;have Vd:=fun k h=>(Qf Gc.leave k h).1;have T1:=dN Gc.leave hg;have hu':u<(X.set u { x with ve:=ve,vl:=vl,vm:=vm }).length:=za1;have hs5:=ah Gc.states T1 zac;have hr:=lR (f:=J.aM) (n:=8) (fun _=>rfl) (X:=X.set u { x with ve:=ve,vl:=vl,vm:=vm }) (u:=u) (j:=6) (v:=vl'.v) (x':={ x with ve:=ve,vl:=vl',vm:=vm }) (by rw[PO];exact hs5) hu' zac za9;obtain⟨U5,T2⟩:=hr;rw[S1,PO]at U5;refine⟨jN (lX G.al hb hg Vd),U5,?_,?_,ah (ah Gc.aa T1 zac) T2 zac,?_⟩
 ·exact ah (Gc.enter.kept hg G.ap) T2 zac
 ·rw[PI,Qj];exact ah U2 T2 zac
 ·have XW:=G.ap;unfold apart at XW⊢
  rcases VJ with e|e
  ·rw[e];exact XW
  ·rw[e];refine .inr (fun e2=>?_);have:=(Qf Gc.enter _ e2).2;omega
theorem cY.Mz{cm j:Nat}(G:cY w wr B g cap X u x ve vl ⟨some ⟨mb,0,none⟩,Q.length,cm⟩ E L Q)(hj:j<Q.length):
  cY w ((wr.setCell (mb,j*5+1) (.bool false)).setCell (mb,j*5+2) (.int .u64 0)) B g cap X u x ve vl ⟨some ⟨mb,0,none⟩,Q.length,cm⟩ E L (Q.set j { Q[j] with m:={ Q[j].m with after:=false,delay:=0 } }):=by
 have hmb:=(Qf G.aa mb rfl).1;obtain⟨r1,T1⟩:=lR (f:=J.aQ) (n:=5) (fun _=>rfl) (X:=Q) (u:=j) (j:=1) (v:=.bool false) (x':={ Q[j] with m:={ Q[j].m with after:=false } }) (show wr.ownsRow w 207 5 (.slice mb Q.length cm) Q.length (Q.flatMap J.aQ) from G.aa) hj zac rfl;have hj':j<(Q.set j { Q[j] with m:={ Q[j].m with after:=false } }).length:=by rw[PO];exact hj
 obtain⟨r2,T2⟩:=lR (f:=J.aQ) (n:=5) (fun _=>rfl) (X:=Q.set j { Q[j] with m:={ Q[j].m with after:=false } }) (u:=j) (j:=2) (v:=.int .u64 0) (x':={ Q[j] with m:={ Q[j].m with after:=false,delay:=0 } }) (by rw[PO];exact r1) hj' zac za9;rw[S1,PO]at r2;refine⟨rA (rA G.al hmb) hmb,ah (ah G.states T1 zac) T2 zac,ah (ah G.enter T1 zac) T2 zac,ah (ah G.leave T1 zac) T2 zac,?_,G.ap⟩;rw[PO];exact r2
theorem cY.begin{w3:World}(hs:w.ownsRow B 134 8 (.slice g X.length cap) X.length (X.flatMap J.aM))(hu:u<X.length)(hx:X[u]=x)(hb:Below w w w3)
  (he:w3.ownsRow w 275 1 ve.v E.length (E.map bo)) (hl:w3.ownsRow w 275 1 vl.v L.length (L.map bo)) (hm:w3.ownsRow w 207 5 vm.v Q.length (Q.flatMap J.aQ)) (XW:apart ve vl):
  cY w (((w3.setCell (g,u*8+5) ve.v).setCell (g,u*8+6) vl.v).setCell (g,u*8+7) vm.v) B g cap X u x ve vl vm E L Q:=by
 have Xx:=bz hs hb;obtain⟨r1,T1⟩:=lR (f:=J.aM) (n:=8) (fun _=>rfl) (X:=X) (u:=u) (j:=5) (v:=ve.v) (x':={ x with ve:=ve }) Xx hu zac (by rw[hx];rfl);have hu1:u<(X.set u { x with ve:=ve }).length:=za1;obtain⟨r2,T2⟩:=lR (f:=J.aM) (n:=8) (fun _=>rfl) (X:=X.set u { x with ve:=ve }) (u:=u) (j:=6) (v:=vl.v) (x':={ x with ve:=ve,vl:=vl }) (by rw[PO];exact r1) hu1 zac za9;rw[S1,PO]at r2;have hu2:u<(X.set u { x with ve:=ve,vl:=vl }).length:=za1;obtain⟨r3,T3⟩:=lR (f:=J.aM) (n:=8) (fun _=>rfl) (X:=X.set u { x with ve:=ve,vl:=vl }) (u:=u) (j:=7) (v:=vm.v) (x':={ x with ve:=ve,vl:=vl,vm:=vm }) (by rw[PO];exact r2) hu2 zac za9;rw[S1,PO]at r3;have T:=(T1.trans T2).trans T3;exact⟨jN (jN (jN (aU hb))),r3,ah he T zac,ah hl T zac,ah hm T zac,XW⟩
end
namespace J
def dq(m:U.Move):U.Move:=if m.after then{ m with after:=false,delay:=0 } else m
def fj(x:U.State):U.State:={ x with enter:=U.dA x x.aa.length,leave:=U.bS x x.aa.length,aa:=x.aa.map dq }
end J
def J.iX(y:J.PV):J.PV:={ y with m:=J.dq y.m }
def J.bu(M:List J.PV)(j:Nat):List J.PV:=(M.take j).map J.iX++M.drop j
theorem J.mN(M:List J.PV)(j:Nat)(hj:j<=M.length):(J.bu M j).length=M.length:=by
 unfold J.bu;simp only[List.length_append,List.length_map,List.length_take,List.length_drop];omega
theorem J.oJ(M:List J.PV)(j i:Nat)(hj:j<=M.length):(J.bu M j)[i]?=if i<j then(M[i]?).map J.iX else M[i]?:=by
 have hl:((M.take j).map J.iX).length=j:=by rw[PE,QN];omega
 unfold J.bu;by_cases c:i<j
 ·rw[PC c,Qo (by rw[hl];exact c),Pv,QK c]
 ·rw[Pu c,Qr (by rw[hl];omega),hl,List.getElem?_drop]
  congr 1;omega
theorem J.mM(M:List J.PV)(j:Nat)(hj:j<M.length)(h:j<(J.bu M j).length):(J.bu M j)[j]=M[j]:=by
 have:=J.oJ M j j zaa;rw[Pu zaa,Pp h,Pp hj]at this;exact Qh this
theorem J.pM(M:List J.PV)(j:Nat)(hj:j<M.length):J.bu M (j+1)=(J.bu M j).set j (J.iX M[j]):=by
 have hl:=J.mN M j zaa;apply RA
 intro i;rw[J.oJ M (j+1) i zaa,RN,J.oJ M j i zaa];by_cases e:j=i
 ·subst e;rw[PC zaa,PC rfl,PC (by rw[hl];exact hj),Pp hj];rfl
 ·rw[Pu e];by_cases c:i<j
  ·rw[PC zaa,PC c]
  ·rw[Pu zaa,Pu c]
theorem J.yT(M:List J.PV)(j:Nat)(hj:j<M.length)(ha:M[j].m.after=false):J.bu M (j+1)=J.bu M j:=by
 rw[J.pM M j hj];have e:J.iX M[j]=M[j]:=by
  unfold J.iX J.dq;rw[ha];rfl
 rw[e,<- J.mM M j hj (by rw[J.mN M j zaa];exact hj)];exact List.set_getElem_self _
theorem J.Be(M:List J.PV):J.bu M M.length=M.map J.iX:=by
 unfold J.bu;simp
end
section
open Go.RowKit
namespace J
def cn(X:List U.State):Nat->()
 |0=>ByteArray.empty
 |k+1=>match X[k]? with
  |some x=>cn X k++ej x
  |none=>cn X k
theorem pG(m:U.Move):(dq m).ai=m.ai:=by unfold dq;split<;>rfl
theorem Di{num:Nat}{l r:List ()}{ev t:()}{d:Int}{A:List U.Act}(h:bj num l=some (.move ev true d t A,r)):ev.size≠0:=by
 have h6:U.bA.size=6:=rfl;cases l with
 |nil=>cases h
 |cons x l=>
  rw[bj]at h
  repeat' split at h
  all_goals first
   |(cases h;done)
   | (obtain ⟨q,h1,h2⟩:=PU.1 h
      first
       |(cases h2;done)
       |(cases h2;rw[P2];omega))
structure nY(x:U.State):Prop where
 dep0:0<=x.depth
 dep:x.depth<=5
 name:x.name.size<=4096
 mlen:x.aa.length<=4096
 aa:∀m∈x.aa,U.gL m/\iE m.ai
 event:∀m∈x.aa,m.after=true->m.event.size≠0
 enter:iE x.enter
 elen:x.enter.length<=4096
 leave:iE x.leave
 llen:x.leave.length<=4096
theorem jP{num:Nat}{l:List ()}{L:PL}(h:aS num l=some L):bj num l=some (L,[]):=by
 unfold aS at h;split at h
 ·rename_i L' h1;cases h
  exact h1
 ·cases h
theorem LG{P:List ()}(h:Itm P S n){x:U.State}(hx:x∈S)(hs:U.eE x)(hl:x.aa.length<=4096):nY x:=by
 refine⟨hs.dep0,hs.dep,hs.name,hl,fun m hm=>?_,fun m hm ha=>?_,⟨?_,hs.enter,?_⟩,hs.lenE,⟨?_,hs.leave,?_⟩,hs.lenL⟩
 ·refine⟨hs.aa m hm,?_,(hs.aa m hm).ai,by have:=(hs.aa m hm).len;omega⟩;obtain⟨j,L,_,_,hL,e⟩:=h.fro m.line (.mv m) ⟨rfl,x,hx,hm⟩;cases L with
  |move ev af d t A=>
   cases e
   exact(lE (jP hL)).2.1
  |state k n=>cases e
  |enter A=>cases e
  |leave A=>cases e
 ·obtain⟨j,L,_,_,hL,e⟩:=h.fro m.line (.mv m) ⟨rfl,x,hx,hm⟩;cases L with
  |move ev af d t A=>
   cases e
   simp only at ha;subst ha;exact Di (jP hL)
  |state k n=>cases e
  |enter A=>cases e
  |leave A=>cases e
 ·rcases h.en0 x hx with h0|h0
  ·obtain⟨j,L,_,_,hL,e⟩:=h.fro x.has0 (.en x.enter) ⟨x,hx,rfl,h0,rfl⟩;cases L with
   |enter A=>
    have e':x.enter=A:=by injection e
    rw[e'];exact(lE (jP hL)).1
   |state k n=>cases e
   |move ev af d t A=>cases e
   |leave A=>cases e
  ·rw[h0];simp
 ·have:=hs.lenE;omega
 ·rcases h.lv0 x hx with h0|h0
  ·obtain⟨j,L,_,_,hL,e⟩:=h.fro x.has1 (.lv x.leave) ⟨x,hx,rfl,h0,rfl⟩;cases L with
   |leave A=>
    have e':x.leave=A:=by injection e
    rw[e'];exact(lE (jP hL)).1
   |state k n=>cases e
   |move ev af d t A=>cases e
   |enter A=>cases e
  ·rw[h0];simp
 ·have:=hs.lenL;omega
theorem J8{s:()}(h:U.read s=.dX S):∀x∈S,nY x/\gO x:=by
 obtain⟨_,Vw⟩:=U.Mp h;unfold U.read at h;split at h
 ·cases h
 ·cases hsy:U.syn (U.cut s 10) with
  |some i=>rw[hsy]at h;cases h
  |none=>
   rw[hsy]at h;dsimp only at h;cases ht:U.aT (U.aF (U.cut s 10) ((U.cut s 10).length-1)) ((U.cut s 10).length-1) with
   |none=>rw[ht]at h;cases h
   |some S'=>
    rw[ht]at h;dsimp only at h;have hI:=mG (nR hsy) (Po _) ht;split at h
    ·cases h
    ·split at h
     ·cases h
     ·cases h
      intro x hx;exact⟨LG hI hx (Vw x hx).1 (Vw x hx).2,hI.words x hx⟩
theorem ER{x:U.State}(h:nY x):∀j,(∀a∈U.dA x j,Shape a)/\(∀a∈U.dA x j,U.gq a)
 |0=>⟨h.enter.shape,h.enter.small⟩
 |j+1=>by
  obtain⟨ih1,ih2⟩:=ER h j;rw[U.dA];cases e:x.aa[j]? with
  |none=>exact⟨ih1,ih2⟩
  |some m=>
   dsimp only;have hm:=(h.aa m (PD e)).1;split
   ·refine⟨fun a ha=>?_,fun a ha=>?_⟩
    ·rcases PQ.1 ha with ha|ha
     ·exact ih1 a ha
     ·rw[PB.1 ha];exact .inr (.inr rfl)
    ·rcases PQ.1 ha with ha|ha
     ·exact ih2 a ha
     ·rw[PB.1 ha];exact⟨(show U.gP.size<=4096 by decide),hm.event,hm.event,hm.delay⟩
   ·exact⟨ih1,ih2⟩
theorem Bk{x:U.State}(h:nY x):∀j,(∀a∈U.bS x j,Shape a)/\(∀a∈U.bS x j,U.gq a)
 |0=>⟨h.leave.shape,h.leave.small⟩
 |j+1=>by
  obtain⟨ih1,ih2⟩:=Bk h j;rw[U.bS];cases e:x.aa[j]? with
  |none=>exact⟨ih1,ih2⟩
  |some m=>
   dsimp only;have hm:=(h.aa m (PD e)).1;split
   ·refine⟨fun a ha=>?_,fun a ha=>?_⟩
    ·rcases PQ.1 ha with ha|ha
     ·exact ih1 a ha
     ·rw[PB.1 ha];exact .inr (.inl ⟨rfl,rfl⟩)
    ·rcases PQ.1 ha with ha|ha
     ·exact ih2 a ha
     ·rw[PB.1 ha];exact⟨(show U.cZ.size<=4096 by decide),PK _,hm.event,0,rfl,zac⟩
   ·exact⟨ih1,ih2⟩
theorem Dq(h:U.gL m):U.gL (dq m):=by
 unfold dq;split
 ·exact⟨h.event,h.dst,h.ai,h.len,0,rfl,zac⟩
 ·exact h
