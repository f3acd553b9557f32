import Derived.Test.YtpkhcncoildcnaaGreatDoorM10
import Derived.Test.YtpkhcncoildcnaaGreatDoorM18
import Derived.Test.YtpkhcncoildcnaaGreatDoorM21
import Derived.Test.YtpkhcncoildcnaaGreatDoorM22
set_option maxRecDepth 100000
set_option maxHeartbeats 8000000
namespace Go.Proofs.YtpkhcncoildcnaaGreatDoor
variable {zp:Prop}
theorem zec(h:zp:=by
 have:=hM.cell 419 zac;rw[show Y.fw pb qv (r2.m wh) 419=Y.fj r2.fin from rfl,Z0]at this;exact this):zp:=h
theorem zej(h:zp:=by
 by_cases h0:(J.sAt S i).up=-1
 ·exact .inl h0
 ·exact .inr ⟨(J.sAt S i).up.toNat,zaa,zaa⟩):zp:=h
theorem zfK(h:zp:=by
 exact⟨fun x hx=>zau,g⟩):zp:=h
theorem za1(h:zp:=by have:=(Oz.1 hz).1;omega):zp:=h
theorem zbq(h:zp:=by have:=QF.1 hz;omega):zp:=h
theorem zbC(h:zp:=by simp at hu;rcases hu with rfl|rfl|rfl<;>rfl):zp:=h
theorem zbK(h:zp:=by unfold J.sAt;rw[OJ,Ou hi];rfl):zp:=h
open Tryz
variable {k:Option Nat}{s:Nat->Prop}{o d:Nat}{kept:Nat->Nat}
section
open Go.RowKit Go.Proofs Go.Shelf
namespace Y
abbrev uC(w:World):Prop:=w.cell? ⟨0,0,none⟩=some (.iface 197 (.agg #[.pointer (some ⟨9,48,none⟩)]))
def nK(n:Nat):Value:=if n=0 then .nilIface else .iface 31 (.int .i64 n)
theorem Bg(n:Nat)(w:World)(hg:uC w):() 16 #[nK n] w fun ev w'=>ev=.returned (.tuple #[(n:Int),(0:Int)])/\Below w w w':=by
 unfold nK;by_cases h:n=0
 ·rw[OD h,h];exact Bh w
 ·rw[OB h];exact ui n w hg
abbrev rS(w:World)(xb mb:Nat):Prop:=w.heap[xb]?=some (.cells #[mb] 73 (0,0))
end Y
section
variable (w:World)(xb mb:Nat)(R:Value->Nat->World->Prop)(hx:Y.rS w xb mb)(hR:∀l n V,R l n V->Y.uC V)
theorem ki(hx:Y.rS w xb mb):() 23 #[xb] w fun e w'=>e=.returned false/\w'=w:=by
 have c0:w.cell? xb=some ↑mb:=(OA w _ _ _ _ _ hx).trans rfl;clear hx;go_enter func23,ntmps23;exact zfG
theorem yM(hx:Y.rS w xb mb)(ev:())(h:() 24 #[mb,ev] w fun e w'=>∃l n,e=.returned (.tuple #[l,Y.nK n])/\R l n w'):
  () 15 #[xb,ev] w fun e w'=>∃l n,e=.returned (.tuple #[l,Y.nK n])/\R l n w':=by
 have c0:w.cell? xb=some ↑mb:=(OA w _ _ _ _ _ hx).trans rfl;have HN:Hid _:=ki w xb mb hx;have HE:Hid _:=h;clear hx h;go_enter func15,ntmps15;go_wp2_with(first
  |(go_at_call 23;refine OI HN.out ?_;rintro e w1 ⟨rfl,Ul⟩;rw[Ul];clear Ul w1)
  |(go_at_call 24;refine OI HE.out ?_;rintro e w2 ⟨l,n,rfl,h2⟩;obtain⟨vn,Zg⟩:∃vn,vn=Y.nK n:=⟨_,rfl⟩;rw[<- Zg];have HVN:Hid _:=Zg;clear Zg))
 go_ret2;exact⟨l,n,by rw[<- HVN.out];rfl,h2⟩
theorem yL(hx:Y.rS w xb mb)(t:Nat)(h:() 26 #[mb,.int .u64 t] w fun e w'=>∃l n,e=.returned (.tuple #[l,Y.nK n])/\R l n w'):
  () 17 #[xb,.int .u64 t] w fun e w'=>∃l n,e=.returned (.tuple #[l,Y.nK n])/\R l n w':=by
 have c0:w.cell? xb=some ↑mb:=(OA w _ _ _ _ _ hx).trans rfl;have HN:Hid _:=ki w xb mb hx;have HE:Hid _:=h;clear hx h;go_enter func17,ntmps17;go_wp2_with(first
  |(go_at_call 23;refine OI HN.out ?_;rintro e w1 ⟨rfl,Ul⟩;rw[Ul];clear Ul w1)
  |(go_at_call 26;refine OI HE.out ?_;rintro e w2 ⟨l,n,rfl,h2⟩;obtain⟨vn,Zg⟩:∃vn,vn=Y.nK n:=⟨_,rfl⟩;rw[<- Zg];have HVN:Hid _:=Zg;clear Zg))
 go_ret2;exact⟨l,n,by rw[<- HVN.out];rfl,h2⟩
theorem tE(hx:Y.rS w xb mb)(hR:∀l n V,R l n V->Y.uC V)(ev:())(h:() 24 #[mb,ev] w fun e w'=>∃l n,e=.returned (.tuple #[l,Y.nK n])/\R l n w'):
  () 8 #[xb,ev] w fun e w'=>∃(l:Value) (n:Nat) (V:World),e=.returned (.tuple #[l,(n:Int)])/\R l n V/\Below V V w':=by
 have HS:Hid _:=yM w xb mb R hx ev h;have HT:Hid (∀l n V,R l n V->() 16 #[Y.nK n] V fun ev w'=>ev=.returned (.tuple #[(n:Int),(0:Int)])/\Below V.heap.size V w'):=fun l n V h=>Y.Bg n V (hR l n V h);clear hx h hR;go_enter func8,ntmps8;go_wp2_with(first
  |(go_at_call 15;refine OI HS.out ?_;rintro e w1 ⟨l,n,rfl,h1⟩;have HT1:Hid _:=HT.out l n w1 h1;generalize Y.nK n=vn at *)
  |(go_at_call 16;refine OI HT1.out ?_;rintro e w2 ⟨rfl,TP⟩))
 go_ret2;exact⟨_,_,_,rfl,h1,TP⟩
theorem tC(hx:Y.rS w xb mb)(hR:∀l n V,R l n V->Y.uC V)(t:Nat)(h:() 26 #[mb,.int .u64 t] w fun e w'=>∃l n,e=.returned (.tuple #[l,Y.nK n])/\R l n w'):
  () 9 #[xb,.int .u64 t] w fun e w'=>∃(l:Value) (n:Nat) (V:World),e=.returned (.tuple #[l,(n:Int)])/\R l n V/\Below V V w':=by
 have HS:Hid _:=yL w xb mb R hx t h;have HT:Hid (∀l n V,R l n V->() 16 #[Y.nK n] V fun ev w'=>ev=.returned (.tuple #[(n:Int),(0:Int)])/\Below V.heap.size V w'):=fun l n V h=>Y.Bg n V (hR l n V h);clear hx h hR;go_enter func9,ntmps9;go_wp2_with(first
  |(go_at_call 17;refine OI HS.out ?_;rintro e w1 ⟨l,n,rfl,h1⟩;have HT1:Hid _:=HT.out l n w1 h1;generalize Y.nK n=vn at *)
  |(go_at_call 16;refine OI HT1.out ?_;rintro e w2 ⟨rfl,TP⟩))
 go_ret2;exact⟨_,_,_,rfl,h1,TP⟩
end
attribute [local go_sem] Pp
theorem vR:(Tryz.prog.info? 38).map (fun i=>(i.zero,i.size,i.bytes))=some (some (.agg #[.string ⟨#[]⟩,.int .u64 0,.slice none 0 0]),3,48):=zab
theorem Hs(mb t:Nat)(w:World):() 46 #[(mb,27),.int .u64 t] w fun e w'=>e=.returned (.func (.func 75) #[] #[w,↑(w.heap.size+1)])/\w'=(w.alloc (.cells #[(mb,27)] 209)).alloc (.cells #[.int .u64 t] 35):=by
 go_enter func46,ntmps46;go_wp2;go_ret;exact⟨zad,rfl⟩
namespace Y
theorem xC{w w1 w5:World}{lo:Y.Lo}{mb pb t g5 cap5:Nat}{ps:List PS}{r2:RSt}{ev:()}{sa:Option Addr}{sc:Nat}{L:List (()×RSt)}{nv:Value}{vs:List Value}(hl:Lw lo)(TT:lo<=w.heap.size)(hL:CkL w w1 lo mb pb ps r2)(hS:CkS w w1 mb t (.slice sa L.length sc) L)(hvs:vs.length=L.length)(Uq:Nms w1 lo nv ((els r2.act).map (bJ ps)))(hnms:∀y∈L.zip vs,Nms w1 lo y.2 ((els y.1.2.act).map (bJ ps)))
  (hg:(w1.alloc (.cells #[ev,.int .u64 r2.now,nv] 38)).grownBy w5 (Value.ownBlock (.slice sa L.length sc))) (ho:w5.ownsRow w 38 3 (.slice g5 (L.length+1) cap5) (L.length+1) ((L.zip vs).flatMap stC++[.string ev,.int .u64 r2.now,nv])):
  Boxed w5 (w.heap.size+2) 26 (.slice sa L.length sc)/\Boxed w5 w 71 mb/\(∀(k:Nat) (c:Array Value),w1.heap[k]?=some (.cells c 139 (0,0))->w5.heap[k]?=some (.cells c 139 (0,0)))/\KeepsOthers w1 (w5.setCell ↑(w.heap.size+2) (.slice g5 (L.length+1) cap5)) /\
   CkL w (w5.setCell ↑(w.heap.size+2) (.slice g5 (L.length+1) cap5)) lo mb pb ps r2/\CkS w (w5.setCell ↑(w.heap.size+2) (.slice g5 (L.length+1) cap5)) mb t (.slice g5 (L.length+1) cap5) (L++[(ev,r2)])/\LN (w5.setCell ↑(w.heap.size+2) (.slice g5 (L.length+1) cap5)) w.heap.size lo ps (.slice g5 (L.length+1) cap5) (L++[(ev,r2)]):=by
 have U8:=hS.st.kind;have UA:Below w1 w1 (w1.alloc (.cells #[ev,.int .u64 r2.now,nv] 38)):=(Oy _ w1).alloc (Ow _) _;have hm:Mo (fun k=>Value.ownBlock (.slice sa L.length sc)=some k) w1 w5:=(az UA).trans ⟨hg.os,hg.tape,hg.output,hg.size,fun k hk hn=>hg.block k hk (fun e=>hn e.symm)⟩;have VG:Kd (fun t=>t=38) w1 w5:=gO hm (fun k c t f hp hc=>by
  obtain⟨_,c',TZ⟩:=U8 k hp;rw[hc]at TZ;cases TZ
  rfl)
 have TP:=VG.boxed hS.b2 zac;have hm2:Mo (fun k=>Value.ownBlock (.slice sa L.length sc)=some k\/k=w.heap.size+2) w1 (w5.setCell ↑(w.heap.size+2) (.slice g5 (L.length+1) cap5)):=(hm.mono (fun _ _ h=>.inl h)).set _ _ (.inr rfl);have Yy:Mo (·=w.heap.size+2) w5 (w5.setCell ↑(w.heap.size+2) (.slice g5 (L.length+1) cap5)):=(Mo.refl _ _).set _ _ rfl;have hks:Kd (fun t=>t=26) w5 (w5.setCell ↑(w.heap.size+2) (.slice g5 (L.length+1) cap5)):=gO Yy (fun k c t f hp hc=>by
  subst hp;rw[show w5.heap[w.heap.size+2]?=_ from TP]at hc;cases hc
  rfl)
 have TO:(w5.setCell ↑(w.heap.size+2) (.slice g5 (L.length+1) cap5)).ownsRow w 38 3 (.slice g5 (L.length+1) cap5) (L++[(ev,r2)]).length (((L++[(ev,r2)]).zip (vs++[nv])).flatMap stC):=by
  have:=Kd.row hks ho zac;rw[S1 hvs.symm,Ph,OM];exact this
 refine⟨TP,VG.boxed hS.b0 zac,fun k c hk=>(VG.aq _ _ _ _ hk zac).trans hk,?_,?_,?_,vs++[nv],by simp[hvs],TO,fun y hy=>?_⟩
 ·refine KeepsOthers.trans ⟨hm.size,fun k o hk hc=>hm.block k (Ov.1 hk).1 (fun e=>?_) |>.trans hk⟩ (Ps _ _ _);obtain⟨_,c',TZ⟩:=U8 k e;rw[hk]at TZ;cases TZ
  cases hc
 ·refine hL.own hl TT hm2 (fun k hk=>?_)
  rcases hk with e|rfl
  ·obtain⟨a,c',TZ⟩:=U8 k e;exact⟨a,c',_,TZ,zaq⟩
  ·exact⟨zaa,_,_,hS.b2,zaq⟩
 ·refine⟨hks.boxed (VG.boxed hS.b0 zac) zac,hks.boxed (VG.boxed hS.b1 zac) zac,TP.set _,hks.boxed (VG.boxed hS.b3 zac) zac,hks.boxed (VG.boxed hS.b4 zac) zac,vs++[nv],by simp[hvs],TO⟩
 ·rw[S1 hvs.symm]at hy
  rcases OT.1 hy with hy|hy
  ·exact Kd.row hks (Kd.row VG (hnms y hy) zac) zac
  ·obtain rfl:=OE.1 hy;exact Kd.row hks (Kd.row VG Uq zac) zac
end Y
section
variable (w:World)(lo:Y.Lo)(mb pb b cap:Nat)(ps:List Y.PS)(fin:Nat)(EN LV:Nat->List Y.PA)(hvs:U.Sl)(H:List Y.HV)(D:Nat->Bool)(mbm n:Nat)(T:()->Option (List (Option Y.PM)))(M:()->Option Nat)(Lr:Nat->List (Option Nat))(pmF:Nat->Y.PM)(acF:Nat->List Y.PA)(r:Y.RSt)(t:Nat)
namespace Y
def pN(e:Ending)(w':World):Prop:=
 if r.fin=0 then ∃sv,e=.returned (.tuple #[sv,fuelV (eQ (aT ps fin EN LV H D M Lr pmF acF) t 201 0 r).2.fin])/\xq w' lo sv (eQ (aT ps fin EN LV H D M Lr pmF acF) t 201 0 r).1/\LN w' lo lo ps sv (eQ (aT ps fin EN LV H D M Lr pmF acF) t 201 0 r).1/\Live w' lo mb pb b cap ps fin EN LV hvs H D mbm n T M Lr pmF acF (eQ (aT ps fin EN LV H D M Lr pmF acF) t 201 0 r).2/\Rf lo w w'/\iL w w'
 else e=.returned (.tuple #[.slice none 0 0,fj r.fin])/\Below w w w'
end Y
theorem xD(hP:Y.Live w lo mb pb b cap ps fin EN LV hvs H D mbm n T M Lr pmF acF r)(hf:¬r.fin=0):
  () 26 #[mb,.int .u64 t] w (Y.pN w lo mb pb b cap ps fin EN LV hvs H D mbm n T M Lr pmF acF r t):=by
 obtain⟨qv,wh,hM,_⟩:=hP.mt.ex;have hB:∀o1 o2:Obj,Below w w ((w.alloc o1).alloc o2):=fun o1 o2=>((Oy _ w).alloc (Ow _) _).alloc zad _;have he:Y.fj r.fin=.iface 31 (.int .i64 r.fin):=by unfold Y.fj;rw[OB hf]
 have h5:∀o1 o2:Obj,((w.alloc o1).alloc o2).cell? (mb,419)=some (.iface 31 (.int .i64 r.fin)):=fun o1 o2=>((hB o1 o2).cell (p:=⟨mb,419,none⟩) hM.lt).trans ((hM.cell 419 zac).trans (congrArg some he));have c1:=fun o2=>((O4 w 71 mb).alloc o2).cell;have HF:Hid (¬r.fin=0):=hf;have HE:Hid _:=he;have HB:Hid _:=hB;clear hP hf he hM hB;go_enter func26,ntmps26;go_wp2
 go_quiet(fail)
 go_wp2;go_ret2;unfold Y.pN;rw[OB HF.out,HE.out];exact⟨rfl,QK (HB.out _ _) _⟩
theorem EW(hP:Y.Live w lo mb pb b cap ps fin EN LV hvs H D mbm n T M Lr pmF acF r)(ht:t<18446744073709551616)(Um:∀ev:(),ev.size<=1000000->Bv ev):
  () 26 #[mb,.int .u64 t] w (Y.pN w lo mb pb b cap ps fin EN LV hvs H D mbm n T M Lr pmF acF r t):=by
 by_cases hf:¬r.fin=0
 ·exact xD w lo mb pb b cap ps fin EN LV hvs H D mbm n T M Lr pmF acF r t hP hf
 have hf:r.fin=0:=Decidable.not_not.1 hf;have TW:=hP.run.bG.lw;have TT:=hP.mt.lo';obtain⟨an,han⟩:∃an,Y.aT ps fin EN LV H D M Lr pmF acF=an:=⟨_,rfl⟩;have HTN:Hid (∀(r1:Y.RSt) (ev:()) (V:World),ev.size<=1000000->Y.CkL w V lo mb pb ps r1->() 40 #[mb,.string ev] V fun e w'=>∃a k c,e=.returned (.agg #[.string ev,.int .u64 (Y.bY an r1 ev).now,.slice a k c])/\Hid (Y.CkL w w' lo mb pb ps (Y.bY an r1 ev)/\Y.Rf lo V w'/\Y.Nms w' lo (.slice a k c) ((Y.els (Y.bY an r1 ev).act).map (Y.bJ ps))/\Y.iL V w')):=fun r1 ev V he h1=>by
  refine OI (Bo V lo mb pb b cap ps fin EN LV hvs H D mbm n T M Lr pmF acF r1 ev ⟨hP.run.rf h1.rf,hP.sz,hP.sza,h1.mt,h1.ok,h1.qk,h1.q0,h1.idl⟩ he (Um ev he)) ?_;rintro e w' ⟨a,k,c,rfl,h2⟩;obtain⟨h3,h4,h5,h6⟩:=h2.out;rw[han]at h3 h5⊢;exact⟨a,k,c,rfl,⟨h3.mt,h1.rf.trans h4,h3.ok,h3.qk,h3.q0,h3.idl,h1.str.trans h6⟩,h4,h5,h6⟩
 have Wx:Hid (∀(sv:Value) (L:List (()×Y.RSt)) (r2:Y.RSt) (V:World),Y.CkL w V lo mb pb ps r2->Y.CkS w V mb t sv L->Y.LN V w lo ps sv L->Y.eQ an t 201 0 r=(L,r2)->Y.pN w lo mb pb b cap ps fin EN LV hvs H D mbm n T M Lr pmF acF r t (.returned (.tuple #[sv,Y.fuelV r2.fin])) V):=fun sv L r2 V h1 h2 hN h3=>by
  unfold Y.pN;rw[OD hf,han,h3];obtain⟨vs,y1,y2⟩:=h2.st;exact⟨sv,rfl,⟨vs,y1,y2.1,y2.2.imp id (fun⟨g,cp,cu,z1,z2,z3⟩=>⟨g,cp,cu,z1,Ox TT z2,z3⟩)⟩,by
   obtain⟨vs,y1,y2,y3⟩:=hN;exact⟨vs,y1,⟨y2.1,y2.2.imp id (fun⟨g,cp,cu,z1,z2,z3⟩=>⟨g,cp,cu,z1,Ox TT z2,z3⟩)⟩,y3⟩,⟨hP.run.rf h1.rf,hP.sz,hP.sza,h1.mt,h1.ok,h1.qk,h1.q0,h1.idl⟩,h1.rf,h1.str⟩
 have hL0:∀V:World,Below w w V->Y.CkL w V lo mb pb ps r:=fun V hV=>⟨hP.mt.below TW hV,Y.RfE.of hV TT,hP.ok,hP.qk,hP.q0,hP.idl.bel hP.mt.lt hV,.bel hV⟩;have h5:∀V:World,Below w w V->V.cell? ⟨mb,419,none⟩=some .nilIface:=fun V hV=>by
  obtain⟨qv,wh,hM,_⟩:=(hL0 V hV).mt.ex;have:=hM.cell 419 zac;rw[show Y.fw pb qv (r.m wh) 419=Y.fj r.fin from rfl,hf]at this;exact this
 obtain⟨i0,hi,Ue,Ub,Uf⟩:=PZ vR;clear hP Um han;have UU:∀o1 o2:Obj,Below w w ((w.alloc o1).alloc o2):=fun o1 o2=>((Oy _ w).alloc (Ow _) _).alloc zad _;have VP:∀o1 o2 o3:Obj,Below w w (((w.alloc o1).alloc o2).alloc o3):=fun o1 o2 o3=>(UU o1 o2).alloc zae _;have h52:=fun o1 o2=>h5 _ (UU o1 o2);have c1:=fun o2=>((O4 w 71 mb).alloc o2).cell;refine(O3 (n:=8)).1 ?_;refine Pq func26 rfl trivial ?_ rfl;simp only[ntmps26,List.size_toArray,List.length_cons,List.length_nil,Nat.reduceAdd,Nat.reduceSub,Array.replicate_succ,Array.replicate_zero,List.push_toArray,List.append_toArray,List.nil_append,List.cons_append];gi_wp2;obtain⟨W3,YR⟩:∃W3,((w.alloc (.cells #[mb] 71)).alloc (.cells #[.int .u64 t] 35)).alloc (.cells #[.slice none 0 0] 26)=W3:=⟨_,rfl⟩;have hB30:=VP (.cells #[mb] 71) (.cells #[.int .u64 t] 35) (.cells #[.slice none 0 0] 26);have x0:Boxed W3 w 71 mb:=YR▸((O4 w 71 mb).alloc _).alloc _;have x1:Boxed W3 (w.heap.size+1) 35 (.int .u64 t):=by
  have:=(O4 (w.alloc (.cells #[mb] 71)) 35 (.int .u64 t)).alloc (.cells #[.slice none 0 0] 26);rw[YR,Py]at this;exact this
 have x2:Boxed W3 (w.heap.size+2) 26 (.slice none 0 0):=by
  have:=O4 ((w.alloc (.cells #[mb] 71)).alloc (.cells #[.int .u64 t] 35)) 26 (.slice none 0 0);rw[YR,Py,Py]at this;exact this
 have Wv:W3.heap.size=w.heap.size+3:=by rw[<- YR];simp
 rw[YR]at hB30⊢;clear YR h52 VP UU c1;have y0:W3.drew.cell? w=_:=x0.cell;have y1:W3.drew.cell? ↑(w.heap.size+1)=_:=x1.cell;refine aW np 4 zab zab zab ?_;simp only[List.take_succ_cons,List.take_zero,List.drop_succ_cons,List.drop_zero]
 repeat still_step
 refine P8 ?_;gi_wp2_with(refine⟨trivial,?_⟩;gi_at_call 46;refine(O3.2 (Hs mb t _)).mono ?_;rintro e w9 ⟨rfl,Pg⟩;rw[Pg];clear Pg w9);have Ut:Below w w ((W3.alloc (.cells #[(mb,27)] 209)).alloc (.cells #[.int .u64 t] 35)).drew:=((hB30.alloc zaa _).alloc zae _).drew;have UB:Below W3 W3 ((W3.alloc (.cells #[(mb,27)] 209)).alloc (.cells #[.int .u64 t] 35)).drew:=(((Oy _ W3).alloc (Ow _) _).alloc (by rw[Py];exact Nat.le_succ _) _).drew;have x3:Boxed ((W3.alloc (.cells #[(mb,27)] 209)).alloc (.cells #[.int .u64 t] 35)).drew (w.heap.size+3) 209 (mb,27):=by
  have:=(O4 W3 209 (mb,27)).alloc (.cells #[.int .u64 t] 35);rw[Wv]at this;exact this
 have x4:Boxed ((W3.alloc (.cells #[(mb,27)] 209)).alloc (.cells #[.int .u64 t] 35)).drew (w.heap.size+4) 35 (.int .u64 t):=by
  have:=O4 (W3.alloc (.cells #[(mb,27)] 209)) 35 (.int .u64 t);rw[Py,Wv]at this;exact this
 have XR:(((W3.alloc (.cells #[(mb,27)] 209)).alloc (.cells #[.int .u64 t] 35)).drew).heap.size=w.heap.size+5:=by show((W3.alloc _).alloc _).heap.size=_;rw[Py,Py,Wv]
 (try simp only[Wv])
 generalize((W3.alloc (.cells #[(mb,27)] 209)).alloc (.cells #[.int .u64 t] 35)).drew=W0 at *;have hI0:Y.CkI w lo mb pb ps an t r (0,r) W0:=⟨[],.slice none 0 0,rfl,OL _,(fun h=>by have h:(0:Nat)=200:=h;omega),hf,hL0 W0 Ut,⟨aB x0 UB x0.lt,aB x1 UB x1.lt,aB x2 UB x2.lt,x3,x4,[],rfl,Pt ..⟩,⟨[],rfl,Pt ..,fun y hy=>(by cases hy)⟩,rfl⟩;clear x0 x1 x2 x3 x4 y0 y1 hL0 h5 hB30 UB Wv hf;have TQ:∀(row:Option Nat) (A:World),(∀r,row=some r->W0.heap.size<=r/\∃o:Obj,A.heap[r]?=some o/\o.isCells=false)->∀r,row=some r->w.heap.size<=r/\∃o:Obj,A.heap[r]?=some o/\o.isCells=false:=fun row A h r e=>⟨by have:=(h r e).1;omega,(h r e).2⟩;refine I3 rfl zaa (gf:=75) rfl trivial (QN func75 zab rfl)
  (MG _ zaa W0 lo mb pb (w.heap.size+3) (w.heap.size+4) t ht TW) (fun _=>rfl)
  (Y.CkI w lo mb pb ps an t r) (Y.CkT w lo mb pb ps an t r) (Y.CkF w lo mb pb ps an t r) (Y.CkF w lo mb pb ps an t r)
  (fun s f a' V=>∃bt,a'=⟨#[.pointer (some ⟨mb,0,none⟩),.int .u64 t,.pointer (some ⟨w.heap.size,0,none⟩),.pointer (some ⟨w.heap.size+1,0,none⟩),.slice none 0 0,.nilIface,.pointer (some ⟨w.heap.size+2,0,none⟩),.pointer (some ⟨bt,0,none⟩),.pointer (some ⟨mb,0,none⟩),.pointer (some ⟨mb,0,none⟩),.pointer (some ⟨mb,419,none⟩),.nilIface,.bool false,undef,undef,undef,undef,.pointer (some ⟨mb,0,none⟩),.pointer (some ⟨mb,0,none⟩),.pointer (some ⟨mb,27,none⟩),.int .u64 t,.func (.func 75) #[] #[.pointer (some ⟨w.heap.size+3,0,none⟩),.pointer (some ⟨w.heap.size+4,0,none⟩)],.agg #[.string f.ev,.string f.nm],undef,undef,undef,undef,undef,undef,undef,undef,undef,undef,undef,undef,undef,undef,undef,undef,undef,undef,undef,undef,undef,undef,undef,undef,undef,undef,undef,undef,undef,undef,undef,undef,undef,undef,undef,undef],[]⟩/\V.heap[bt]?=some (.cells #[.string f.ev,.string f.nm] 139 (0,0))/\Y.CkT w lo mb pb ps an t r s f V) 0
  (fun s A C row h hg hr=>h.gr TW TT hg (TQ row A hr)) (fun _ A C row h hg hr=>h.gr TW TT hg (TQ row A hr)) (fun _ A C row h hg hr=>h.gr TW TT hg (TQ row A hr))
  (fun s f a' _ A C row h hg hr=>by
   obtain⟨bt,e1,e2,e3⟩:=h;exact⟨bt,e1,((Y.iz (E:=fun _=>False) hg (fun r e=>(hr r e).2)).aq _ _ _ _ e2 (fun h=>h)).trans e2,e3.gr TW TT hg (TQ row A hr)⟩)
  (fun s V h=>by
   obtain⟨L,sv,a,b,c,_,d,e,_,g⟩:=h;exact⟨⟨b,d.mt,d.qk.tm,e.b3.cell,e.b4.cell⟩,fun V' hV=>⟨(aB e.b3 hV e.b3.lt).cell,(aB e.b4 hV e.b4.lt).cell⟩⟩)
  (fun s f V V' h k=>h.LM k) (fun s V V' h k=>h.Np k) (fun s f V V' k=>k.2.2.2.1.oth.from _) (fun s V V' k=>k.2.2.1.oth.from _) (0,r) hI0 ?assign ?body ?done ?stop
 case assign=>
  intro l s f V K hI hK;unfold Y.tnV;gi_wp2_with(show wpListIn _ _ _ _ _ (Oper.mk none _ _ _ _ _::_) _ _;refine uz (dQ l) rfl (fun c h=>zav) (fun K2 hK2=>lx 139 (.tmp 7) (.tmp 22) rfl V 139 #[.string ⟨#[]⟩,.string ⟨#[]⟩] #[f.ev,f.nm] rfl rfl (OH V _) nh rfl rfl (hK2 _ _ ?_));rw[World.setRow_alloc_new]);have UA:Below V V (V.alloc (.cells #[f.ev,f.nm] 139)):=(Oy _ V).alloc (Ow _) _;exact hK _ _ ((Y.eE UA).from _) ⟨V.heap.size,rfl,OH V _,hI.below TW UA⟩
 case body=>
  rintro l ⟨k,rs⟩ f a' V hl ⟨bt,rfl,Zu,L,sv,hLk,hk,Vg,hdue,hhd,hCL,hCS,hLN,Yk⟩;dsimp only at hLk hk hdue hhd hCL Yk;obtain⟨sa,sc,rfl⟩:=hCS.st.n;obtain⟨vs,hvs0,TN,hnms⟩:=hLN;have HNM:Hid _:=hnms;clear hnms;obtain⟨r2,Wr⟩:∃r2,Y.bY an (Y.jR rs f) f.ev=r2:=⟨_,rfl⟩;have HN:Hid _:=Y.Hf hk hdue hhd Yk Wr;have UB:Below V V V.drew:=(Oy _ V).drew;have Xi:=hCS.below UB;have HTU:Hid _:=HTN.out (Y.jR rs f) f.ev V.drew Vg (hCL.below TW UB);rw[Wr]at HTU;have TU:¬bt=w.heap.size+2:=fun e=>by
   rw[e,show V.heap[w.heap.size+2]?=_ from hCS.b2]at Zu;cases Zu
  have hS:∀W:World,Y.CkS w W mb t (.slice sa L.length sc) L->W.heap[bt]?=some (.cells #[f.ev,f.nm] 139 (0,0))->(fun V=>V.cell? w=some ↑mb/\V.cell? bt=some ↑f.ev) W:=fun W h1 h2=>⟨h1.b0.cell,(OA W _ _ _ _ _ h2).trans rfl⟩;have hbtd:V.drew.heap[bt]?=some (.cells #[f.ev,f.nm] 139 (0,0)):=Zu;have Y0:Hid (∀w1,Y.Rf lo V.drew w1->Y.CkS w w1 mb t (.slice sa L.length sc) L/\w1.heap[bt]?=some (.cells #[f.ev,f.nm] 139 (0,0))/\w.heap.size<=w1.heap.size/\∀c:Array Value,Y.CkS w (w1.alloc (.cells c 38)) mb t (.slice sa L.length sc) L/\(w1.alloc (.cells c 38)).heap[bt]?=some (.cells #[f.ev,f.nm] 139 (0,0))/\(w1.alloc (.cells c 38)).ownsRow w 38 3 (.slice sa L.length sc) L.length ((L.zip vs).flatMap Y.stC)):=fun w1 h=>by
   have a1:=Xi.rf h;have a2:=(h.kd.aq _ _ _ _ hbtd Y.yt).trans hbtd;have a3:w1.ownsRow w 38 3 (.slice sa L.length sc) L.length ((L.zip vs).flatMap Y.stC):=Kd.row h.kd (Kd.row (bE (E:=fun _=>False) UB) TN (fun h=>h)) Y.qd;refine⟨a1,a2,TC (Pm zaa a1.b0.lt),fun c=>?_⟩;have hb:Below w1 w1 (w1.alloc (.cells c 38)):=(Oy _ w1).alloc (Ow _) _;exact⟨a1.below hb,(hb.block _ (Ov.1 a2).1).trans a2,Kd.row (bE (E:=fun _=>False) hb) a3 (fun h=>h)⟩
  have cx1:V.drew.cell? ↑(w.heap.size+2)=some (.slice sa L.length sc):=Xi.b2.cell;have hS0:=hS _ Xi hbtd;have hLe:L.length<=200:=zaa;have HLK:Hid (L.length=k):=hLk;clear hLk;clear Zu hCS TN hdue hhd Yk Wr Xi hbtd;gi_wp2;refine dd (S:=(fun V=>V.cell? w=some ↑mb/\V.cell? bt=some ↑f.ev)) zab zab zbm hS0 (fun u0=>?_);refine tD (some 24) 1 mb rfl u0 ?_;refine tD (some 25) 2 bt rfl u0 ?_;refine tD (some 26) 3 (.string f.ev) rfl u0 ?_;refine yH [0,4] ?_;refine Pb rfl (fun K hK=>?rg1) (Pb rfl (fun K hK=>?rg2) P1)
  case' rg1=>
   go_simp;refine hK.out _ _ u0 (fun u0=>?_);clear hK K;refine zH 4 rfl fun K hK=>?_;go_simp;refine OI HTU.out ?_;rintro e w1 ⟨na,nk,nc,rfl,h1⟩;obtain⟨q1,q2,q3,q4⟩:=Y0.out w1 h1.out.2.1;obtain⟨q5,q6,q7⟩:=q4 #[f.ev,.int .u64 r2.now,.slice na nk nc];have cx2:=q1.b2.cell;have cx3:=q5.b2.cell;refine hK.out _ _ (hS _ q1 q2) (fun u0=>?_);clear hK K;refine zH 5 rfl fun K hK=>?_;go_simp;refine hK.out _ _ (hS _ q5 q6) (fun u0=>?_);clear hK K;refine zH 6 rfl fun K hK=>?_;refine step_append_lies _ zaf _ _ _ zaf w.heap.size 38 i0 _ 3 48 underlying26 hi Ue Ub Uf rfl zac (.slice sa L.length sc) L.length ((L.zip vs).flatMap Y.stC) zaf q7 ⟨w1,0,none⟩ 1 1 [f.ev,.int .u64 r2.now,.slice na nk nc] zaf zaf (World.news_of_block (cs:=#[f.ev,.int .u64 r2.now,.slice na nk nc]) (t:=38) (fr:=(0,0)) (OH w1 _)) (fun u hu=>zbC) zaa zah zaa (Ox q3 zad) _ rfl ?_;intro g5 cap5 w5 TQ L8 Uy U2;have HK5:Hid _:=Y.xC TW TT h1.out.1 q1 hvs0 h1.out.2.2.1 (fun y hy=>(HNM.out y hy).str ((Y.iL.bel UB).trans h1.out.2.2.2)) L8 TQ;obtain⟨s1,s2,s3,_⟩:=HK5.out;have s4:=s3 bt _ q2;have c5:=s1.cell;have f5:=s1.frozen;refine hK.out _ _ ⟨s2.cell,(OA w5 _ _ _ _ _ s4).trans rfl⟩ (fun u0=>?_);clear hK K;refine zH 7 rfl fun K hK=>?_;go_simp;refine hK.out _ _ (by
    exact⟨(ay zap).trans u0.1,(ay zap).trans u0.2⟩) (fun u0=>?_)
   clear hK K u0;refine OY zab ?_ _
  case' rg2=>
   go_simp;refine OI HTU.out ?_;rintro e w1 ⟨na,nk,nc,rfl,h1⟩;obtain⟨q1,q2,q3,q4⟩:=Y0.out w1 h1.out.2.1;obtain⟨q5,q6,q7⟩:=q4 #[f.ev,.int .u64 r2.now,.slice na nk nc];have cx2:=q1.b2.cell;have cx3:=q5.b2.cell;refine hK.out _ _ (hS _ q1 q2) (fun u0=>?_);clear hK K;refine yH [0,5] ?_;refine Pb rfl (fun K hK=>?rg7) (Pb rfl (fun K hK=>?rg8) P1)
   case' rg7=>
    go_simp;refine hK.out _ _ u0 (fun u0=>?_);clear hK K;refine zH 5 rfl fun K hK=>?_;go_simp;refine hK.out _ _ (hS _ q5 q6) (fun u0=>?_);clear hK K;refine zH 6 rfl fun K hK=>?_;refine step_append_lies _ zaf _ _ _ zaf w.heap.size 38 i0 _ 3 48 underlying26 hi Ue Ub Uf rfl zac (.slice sa L.length sc) L.length ((L.zip vs).flatMap Y.stC) zaf q7 ⟨w1,0,none⟩ 1 1 [f.ev,.int .u64 r2.now,.slice na nk nc] zaf zaf (World.news_of_block (cs:=#[f.ev,.int .u64 r2.now,.slice na nk nc]) (t:=38) (fr:=(0,0)) (OH w1 _)) (fun u hu=>zbC) zaa zah zaa (Ox q3 zad) _ rfl ?_;intro g5 cap5 w5 TQ L8 Uy U2;have HK5:Hid _:=Y.xC TW TT h1.out.1 q1 hvs0 h1.out.2.2.1 (fun y hy=>(HNM.out y hy).str ((Y.iL.bel UB).trans h1.out.2.2.2)) L8 TQ;obtain⟨s1,s2,s3,_⟩:=HK5.out;have s4:=s3 bt _ q2;have c5:=s1.cell;have f5:=s1.frozen;refine hK.out _ _ ⟨s2.cell,(OA w5 _ _ _ _ _ s4).trans rfl⟩ (fun u0=>?_);clear hK K;refine zH 7 rfl fun K hK=>?_;go_simp;refine hK.out _ _ (by
     exact⟨(ay zap).trans u0.1,(ay zap).trans u0.2⟩) (fun u0=>?_)
    clear hK K u0;refine OY zab ?_ _
   case' rg8=>
    go_simp;refine hK.out _ _ (hS _ q5 q6) (fun u0=>?_);clear hK K;refine zH 0 rfl fun K hK=>?_;go_simp;refine hK.out _ _ u0 (fun u0=>?_);clear hK K;refine zH 6 rfl fun K hK=>?_;refine step_append_lies _ zaf _ _ _ zaf w.heap.size 38 i0 _ 3 48 underlying26 hi Ue Ub Uf rfl zac (.slice sa L.length sc) L.length ((L.zip vs).flatMap Y.stC) zaf q7 ⟨w1,0,none⟩ 1 1 [f.ev,.int .u64 r2.now,.slice na nk nc] zaf zaf (World.news_of_block (cs:=#[f.ev,.int .u64 r2.now,.slice na nk nc]) (t:=38) (fr:=(0,0)) (OH w1 _)) (fun u hu=>zbC) zaa zah zaa (Ox q3 zad) _ rfl ?_;intro g5 cap5 w5 TQ L8 Uy U2;have HK5:Hid _:=Y.xC TW TT h1.out.1 q1 hvs0 h1.out.2.2.1 (fun y hy=>(HNM.out y hy).str ((Y.iL.bel UB).trans h1.out.2.2.2)) L8 TQ;obtain⟨s1,s2,s3,_⟩:=HK5.out;have s4:=s3 bt _ q2;have c5:=s1.cell;have f5:=s1.frozen;refine hK.out _ _ ⟨s2.cell,(OA w5 _ _ _ _ _ s4).trans rfl⟩ (fun u0=>?_);clear hK K;refine zH 7 rfl fun K hK=>?_;go_simp;refine hK.out _ _ (by
     exact⟨(ay zap).trans u0.1,(ay zap).trans u0.2⟩) (fun u0=>?_)
    clear hK K u0;refine OY zab ?_ _
  all_goals
   obtain⟨_,_,_,hko,hCL6,hCS6,hLN6⟩:=HK5.out;have HKO:Hid (KeepsFrom W0 V (w5.setCell ↑(w.heap.size+2) (.slice g5 (L.length+1) cap5))):=((Y.eE UB).trans (h1.out.2.1.oth.trans hko)).from _;generalize w5.setCell ↑(w.heap.size+2) (.slice g5 (L.length+1) cap5)=W6 at *;have Wk:Hid _:=hCL6;have HCS:Hid _:=hCS6;have HLS:Hid _:=hLN6;have e0:=hCS6.b0.cell;have e5:W6.cell? (mb,419)=some (Y.fj r2.fin):=by
    obtain⟨qv,wh,hM,_⟩:=hCL6.mt.ex;exact hM.cell 419 zac
   have d0:W6.drew.cell? w=_:=e0;have d1:W6.drew.cell? ↑(w.heap.size+1)=_:=hCS6.b1.cell;have d2:W6.drew.cell? ↑(w.heap.size+2)=_:=hCS6.b2.cell;have d5:W6.drew.cell? (mb,419)=_:=e5;have HLN:Hid ((L++[(f.ev,r2)]).length=k+1):=by
    have:=HLK.out;unfold Hid;rw[OM,this];rfl
   clear HK5 h1 hko hCL6 hCS6 hLN6 HTU Y0 TQ L8 Uy U2;by_cases Z0:r2.fin=0
   ·rw[show Y.fj r2.fin=.nilIface by rw[Z0];rfl]at e5 d5;by_cases h200:k+1=200
    ·have h2i:((L.length:Int)+1 == 200)=true:=by have:=HLK.out;simp;omega
     have Xq:Below W6 W6 W6.drew:=(Oy _ W6).drew;have HHD:Hid _:=qG W6.drew lo mb pb r2 TW (Wk.out.mt.below TW Xq) Wk.out.qk.tm t;have HBW:Hid (∀w7,Below W6.drew.heap.size W6.drew w7->Below W6 W6 w7):=fun w7 h=>Xq.trans h;cases hd:Y.cY r2.now t r2.tm with
     |false=>
      rw[hd]at HHD;have HC7:Hid (∀w7,Below W6 W6 w7->w7.cell? w=some ↑mb/\w7.cell? ⟨mb,419,none⟩=some .nilIface/\Hid (KeepsFrom W0 V w7/\Y.CkI w lo mb pb ps an t r (k+1,r2) w7)):=fun w7 hb=>by
       have y1:=Wk.out.below TW hb;have y2:=HCS.out.below hb;refine⟨y2.b0.cell,?_,HKO.out.trans ((Y.eE hb).from _),_,_,HLN.out,by show k+1<=200;omega,fun _=>hd,Z0,y1,y2,Y.LN.no HLS.out (bE hb),HN.out.2.2 Z0 (fun h=>by rw[hd]at h;cases h.2)⟩;obtain⟨qv,wh,hM,_⟩:=y1.mt.ex;exact zec
      clear hd;gi_wp2;refine aW (dQ l) 15 zab zab zab ?_;simp only[List.take_succ_cons,List.take_zero,List.drop_succ_cons,List.drop_zero]
      repeat still_step
      refine P8 ?_;gi_wp2_with(refine⟨trivial,?_⟩;gi_at_call 47;refine(aI HHD.out).mono ?_;rintro e w7 ⟨rfl,hb7⟩;obtain⟨z0,z1,z2⟩:=HC7.out w7 (HBW.out w7 hb7));exact⟨z2.out.1,(k+1,r2),rfl,z2.out.2⟩
     |true=>
      rw[hd]at HHD;have HC7:Hid (∀w7,Below W6 W6 w7->w7.cell? w=some ↑mb/\w7.cell? ⟨mb,419,none⟩=some .nilIface/\w7.frozen? ⟨mb,419,none⟩=false/\(w7.setCell ⟨mb,419,none⟩ (.iface 31 (.int .i64 6))).cell? w=some ↑mb/\(w7.setCell ⟨mb,419,none⟩ (.iface 31 (.int .i64 6))).cell? (mb,419)=some (.iface 31 (.int .i64 6))/\Hid (KeepsFrom W0 V (w7.setCell ⟨mb,419,none⟩ (.iface 31 (.int .i64 6)))/\Y.CkF w lo mb pb ps an t r (w7.setCell ⟨mb,419,none⟩ (.iface 31 (.int .i64 6))))):=fun w7 hb=>by
       have y1:=Wk.out.below TW hb;have y2:=HCS.out.below hb;obtain⟨m1,m2,m3,m4⟩:=Y.MT.Jm y1.mt TW 6;have y3:=y2.rf m2;obtain⟨qv,wh,hM,_⟩:=y1.mt.ex;obtain⟨qv',wh',YX,_⟩:=m1.ex;refine⟨y2.b0.cell,?_,hM.frozen 419,y3.b0.cell,YX.cell 419 zac,HKO.out.trans (((Y.eE hb).trans m2.oth).from _),_,_,_,by rw[HLN.out];omega,⟨m1,y1.rf.trans m2,⟨y1.ok.act,y1.ok.kept⟩,⟨y1.qk.q,.inr (.inr rfl),y1.qk.tm⟩,y1.q0,m3 y1.idl,y1.str.trans m4⟩,y3,(Y.LN.no HLS.out (bE hb)).str m2 m4,HN.out.2.1 Z0 h200 hd⟩;exact zec
      clear hd;gi_wp2;refine aW (dQ l) 15 zab zab zab ?_;simp only[List.take_succ_cons,List.take_zero,List.drop_succ_cons,List.drop_zero]
      repeat still_step
      refine P8 ?_;gi_wp2_with(refine⟨trivial,?_⟩;gi_at_call 47;refine(aI HHD.out).mono ?_;rintro e w7 ⟨rfl,hb7⟩;obtain⟨z0,z1,z2,z3,z4,z5⟩:=HC7.out w7 (HBW.out w7 hb7));exact⟨rfl,z5.out.1,z5.out.2⟩
    ·have h2i:((L.length:Int)+1 == 200)=false:=by have:=HLK.out;simp;omega
     gi_wp2;refine aW (dQ l) 15 zab zab zab ?_;simp only[List.take_succ_cons,List.take_zero,List.drop_succ_cons,List.drop_zero]
     repeat still_step
     refine P8 ?_;gi_wp2_with(refine⟨trivial,?_⟩);have Xq:Below W6 W6 W6.drew:=(Oy _ W6).drew;exact⟨HKO.out.trans ((Y.eE Xq).from _),(k+1,r2),rfl,_,_,HLN.out,by show k+1<=200;omega,fun h=>absurd h h200,Z0,Wk.out.below TW Xq,HCS.out.below Xq,Y.LN.no HLS.out (bE Xq),HN.out.2.2 Z0 (fun h=>h200 h.1)⟩
   ·rw[show Y.fj r2.fin=.iface 31 (.int .i64 r2.fin) by unfold Y.fj;rw[OB Z0]]at e5 d5;gi_wp2;refine aW (dQ l) 15 zab zab zab ?_;simp only[List.take_succ_cons,List.take_zero,List.drop_succ_cons,List.drop_zero]
    repeat still_step
    refine P8 ?_;gi_wp2_with(refine⟨trivial,?_⟩);have Xq:Below W6 W6 W6.drew:=(Oy _ W6).drew;exact⟨rfl,HKO.out.trans ((Y.eE Xq).from _),_,_,_,by rw[HLN.out];omega,Wk.out.below TW Xq,HCS.out.below Xq,Y.LN.no HLS.out (bE Xq),HN.out.1 Z0⟩
 case' done=>
  rintro D V hD ⟨L,sv,r2,Yt,hCL,hCS,hLS,Yk⟩ T7;gi_wp2
 case' stop=>
  rintro D V hD ⟨L,sv,r2,Yt,hCL,hCS,hLS,Yk⟩ T7;gi_wp2
 all_goals
  have UB:Below V V V.drew:=(Oy _ V).drew;have Xi:=hCS.below UB;have hCLd:=hCL.below TW UB;have HOF:Hid (() 41 #[mb] V.drew fun e w'=>e=.returned (Y.fuelV r2.fin)/\w'=V.drew):=by
   obtain⟨qv,wh,a,_⟩:=hCLd.mt.ex;exact jM V.drew lo mb pb qv (r2.m wh) r2.fin a rfl hCLd.qk.fin
  have hr:∀r,some D=some r->w.heap.size<=r/\∃o:Obj,V.drew.heap[r]?=some o/\o.isCells=false:=fun r e=>by
   cases e
   exact⟨zaa,_,T7,rfl⟩
  have Zd:Hid _:=Wx.out sv L r2 (V.drew.putObj D (.deferred none)) (hCLd.gr TW TT (Qa V.drew D _) hr) (Xi.no (Y.iz (Qa V.drew D _) (fun r e=>(hr r e).2))) (Y.LN.no (Y.LN.no hLS (bE UB)) (Y.iz (Qa V.drew D _) (fun r e=>(hr r e).2))) Yk;have hdefd:V.drew.heap[D]?=some (.deferred (some [])):=T7;have hS0:(fun V=>V.cell? w=some ↑mb/\V.cell? ↑(w.heap.size+2)=some (sv)) V.drew:=⟨Xi.b0.cell,Xi.b2.cell⟩;clear hCL hCS hCLd Xi Yk hr T7 UB hLS;refine Ty.2 (kz ?_);refine OQ (S:=(fun V=>V.cell? w=some ↑mb/\V.cell? ↑(w.heap.size+2)=some (sv))) zab hS0 (fun u0=>?_);refine tD (some 56) 0 sv rfl u0 ?_;refine tD (some 57) 1 mb rfl u0 ?_;refine zH 2 rfl fun K hK=>?_;go_simp;refine OI HOF.out ?_;rintro e wA ⟨rfl,hA⟩;rw[hA];clear hA wA;refine hK.out _ _ u0 (fun u0=>?_);clear hK K;refine tD (some 4) 3 sv rfl u0 ?_;refine tD (some 5) 4 (Y.fuelV r2.fin) rfl u0 ?_;refine OY zab ?_ _;unfold oX;gi_wp2;refine⟨zad,.inl ⟨_,_,rfl,Pj hdefd,?_⟩⟩;exact⟨.tuple #[sv,Y.fuelV r2.fin],results_tmp2 (t:=4) (u:=5) rfl _ _ _,Zd.out⟩
end
namespace Y
structure Par where
 lo:Lo
 mb:Nat
 pb:Nat
 b:Nat
 cap:Nat
 ps:List PS
 fin:Nat
 EN:Nat->List PA
 LV:Nat->List PA
 hvs:U.Sl
 H:List HV
 D:Nat->Bool
 mbm:Nat
 n:Nat
 T:()->Option (List (Option PM))
 M:()->Option Nat
 Lr:Nat->List (Option Nat)
 pmF:Nat->PM
 acF:Nat->List PA
def Par.an(p:Par):RSt->()->RSt:=aT p.ps p.fin p.EN p.LV p.H p.D p.M p.Lr p.pmF p.acF
structure Ses(W:World)(n0 xb:Nat)(p:Par)(r:RSt):Prop where
 at':rS W xb p.mb
 lo:p.lo<=xb
 n0:n0<=p.lo
 lv:Live W p.lo p.mb p.pb p.b p.cap p.ps p.fin p.EN p.LV p.hvs p.H p.D p.mbm p.n p.T p.M p.Lr p.pmF p.acF r
theorem Ses.aq{W W':World}{n0 xb:Nat}{p:Par}{r:RSt}(h:Ses W n0 xb p r)(hb:Below W W W'):Ses W' n0 xb p r:=⟨(hb.block _ (Ov.1 h.at').1).trans h.at',h.lo,h.n0,h.lv.aq hb⟩
structure qT(Z:List J.DS)(S:List U.State):Prop where
 len:Z.length=S.length
 at':∀(i:Nat) (z:J.DS),Z[i]?=some z->z.s=J.td (J.sAt S i)
theorem KZ{w wr:World}{sv:U.Sl}{X Z:List J.DS}(D:lH w wr sv X Z X.length){S:List U.State}(hX:X.map (·.s)=S):qT Z S:=by
 subst hX;refine⟨by rw[D.len,OK],fun i z hz=>?_⟩;obtain⟨hi,rfl⟩:=Oz.1 hz;have Wn:i<X.length:=by have:=D.len;omega
 rw[(D.done i hi Wn Wn).1]
 congr 1
 unfold J.sAt;rw[OJ,OF,Ou Wn];rfl
theorem xW{x:U.State}(h:J.iG x)(hk:isH (J.al x)=true):J.iH x=true:=by
 obtain⟨k,h0,h4,hw,hd⟩:=h;rw[J.eY h0 h4 hw hd]at hk;unfold J.iH;rw[hw];have UD:k=0\/k=1\/k=2\/k=3\/k=4:=zaa
 rcases UD with rfl|rfl|rfl|rfl|rfl
 ·cases hk
 ·cases hk
 ·cases hk
 ·rw[show J.bB 3=J.dt from rfl,J.bV];decide
 ·rw[show J.bB 4=J.dt from rfl,J.bV];decide
theorem k9{S:List U.State}{i:Nat}(hi:i<S.length):J.sAt S i∈S:=by
 unfold J.sAt;rw[OJ,Ou hi];exact Pl _
section
variable {Z:List J.DS}{S:List U.State}
theorem qT.ms(h:qT Z S){i:Nat}{x:MS}(hx:(Z.map aL)[i]?=some x):∃z,Z[i]?=some z/\x=aL z/\z.s=J.td (J.sAt S i)/\i<S.length:=by
 rw[OF]at hx;cases hz:Z[i]? with
 |none=>rw[hz]at hx;cases hx
 |some z=>
  rw[hz]at hx;have hi:=(Oz.1 hz).1;exact⟨z,rfl,by simpa using hx.symm,h.at' i z hz,by have:=h.len;omega⟩
theorem qT.ok(h:qT Z S)(hC:J.gw S)(i:Nat)(x:MS)(hx:(Z.map aL)[i]?=some x):x.owner=-1\/∃o:Nat,x.owner=o/\o<i:=by
 obtain⟨z,_,rfl,e,hi⟩:=h.ms hx;have hu:=hC.shp.wf i hi;have ho:(aL z).owner=(J.sAt S i).up:=by show z.s.up=_;rw[e];rfl
 rw[ho];exact zej
theorem qT.his(h:qT Z S)(hC:J.gw S)(i:Nat)(x:MS)(hx:(Z.map aL)[i]?=some x)(hk:isH x.kind=true):x.owner≠-1:=by
 obtain⟨z,_,rfl,e,hi⟩:=h.ms hx;have UD:isH (J.al (J.sAt S i))=true:=by
  have e2:J.al z.s=J.al (J.sAt S i):=by rw[e];rfl
  rw[<- e2];exact hk
 have:=hC.shp.hup i hi (xW (hC.low _ (k9 hi)).2 UD);have ho:(aL z).owner=(J.sAt S i).up:=by show z.s.up=_;rw[e];rfl
 rw[ho];omega
variable {MM:Nat->List J.PV}{W:World}
theorem qT.NS(h:qT Z S)(hC:J.gw S)(hM:∀i,(∀z,Z[i]?=some z->gz W z (MM i))/\(Z[i]?=none->MM i=[]))(i:Nat):(vOf MM i).length<=30000/\∀v∈vOf MM i,v.event.size<=1000000/\v.dest.size<=1000000/\(v.dest.toList.isEmpty=false->∃d,bH (Z.map aL) (Z.map aL).length v.dest=some d/\d<(Z.map aL).length):=by
 have hl:=h.len;cases hz:Z[i]? with
 |none=>
  unfold vOf;rw[(hM i).2 hz];exact⟨zad,fun v hv=>by cases hv⟩
 |some z=>
  have hi:i<S.length:=za1;have hw:=(hM i).1 z hz;have hm:(MM i).map (·.m)=(J.sAt S i).aj.map J.dX:=by rw[hw.mv,h.at' i z hz];rfl
  refine⟨by unfold vOf;rw[OK];have:=hw.mlen;omega,fun v hv=>?_⟩;obtain⟨y,hy,rfl⟩:=O7.1 hv;obtain⟨m,XB,e⟩:=M7 hm hy;have WB:=(hw.actsG y hy).1;have h1:=WB.event;have h2:=WB.dst;refine⟨by show y.m.event.size<=1000000;omega,by show y.m.to.size<=1000000;omega,fun TU=>?_⟩;have Wo:y.m.to=m.to:=by rw[e];exact(yh m).2
  have TU:y.m.to.toList.isEmpty=false:=TU;rw[Wo]at TU;have hp:=hC.tos _ (k9 hi) m XB TU;obtain⟨d,hd,hdn⟩:∃d,d<S.length/\(J.sAt S d).name=m.to:=by
   unfold U.place at hp;cases hf:(S.map U.emb).findIdx? (U.Ik m.to) with
   |none=>rw[hf]at hp;exact absurd hp zac
   |some d=>
    rw[Sy]at hf;obtain⟨hd,h1,_⟩:=hf;have hd':d<S.length:=by simpa using hd
    rw[QO]at h1;refine⟨d,hd',?_⟩;have h1:(S[d].name.toList == m.to.toList)=true:=h1;have hs:J.sAt S d=S[d]:=by unfold J.sAt;rw[OJ,Ou hd'];rfl
    rw[hs];exact Qf fun TU=>by
     rw[Lw.KY TU]at h1;cases h1
  obtain⟨zd,hzd⟩:∃z,Z[d]?=some z:=⟨_,Ou zaa⟩;have hx:(Z.map aL)[d]?=some (aL zd):=by rw[OF,hzd];rfl
  have VI:=(Oz.1 hx).1;obtain⟨a,ha⟩:=sP (n:=m.to) hx (by show m.to=zd.s.name;rw[h.at' d zd hzd,<- hdn];rfl) (Z.map aL).length VI (Ow _);refine⟨a,by show bH _ _ y.m.to=_;rw[Wo];exact ha,(sN _ (Ow _) ha).1⟩
end
def X0(S:List U.State):List MS:=S.map fun x=>⟨J.al x,x.name,x.depth,x.up,U.Sl.nil,U.Sl.nil,U.Sl.nil,U.Sl.nil⟩
def EN0(S:List U.State)(i:Nat):List PA:=match S[i]? with|some x=>(J.td x).enter.map o0|none=>[]
def quiet(S:List U.State):Bool:=let r:=bZ (psF (X0 S)) (bn (X0 S) (X0 S).length) (EN0 S) r0 (els (bW (psF (X0 S)) 0));r.q.isEmpty&&r.fin == 0
theorem kN(X:List MS):∀k,bn (X.map bare) k=bn X k
 |0=>rfl
 |k+1=>by
  rw[bn,bn,kN X k,OF];cases X[k]?<;>rfl
theorem qT.bare{Z:List J.DS}{S:List U.State}(h:qT Z S):(Z.map aL).map bare=X0 S:=by
 have hl:=h.len;apply Qo
 intro i;unfold X0;rw[OF,OF,OF];cases hz:Z[i]? with
 |none=>rw[OV zbq];rfl
 |some z=>
  have hi:i<S.length:=za1;have e:=h.at' i z hz;have hs:J.sAt S i=S[i]:=zbK;rw[Ou hi];show some (Y.bare (aL z))=some _;unfold aL Y.bare;dsimp only;rw[e,hs];rfl
theorem sO(X:List MS):∀k,bH (X.map Y.bare) k=bH X k
 |0=>rfl
 |k+1=>by
  rw[bH,bH,sO X k,OF];cases X[k]?<;>rfl
theorem vP(X:List MS):∀k,jq (X.map Y.bare) k=jq X k
 |0=>rfl
 |k+1=>by
  rw[jq,jq,vP X k,OF];cases X[k]?<;>rfl
theorem D2(X:List MS):∀(k:Nat) (y:Nat×Nat),y∈jq X k->y.1<k
 |0,y,h=>by cases h
 |k+1,y,h=>by
  have ih:=D2 X k y;rw[jq]at h;split at h
  ·split at h
   ·rcases OT.1 h with h|h
    ·have:=ih h;omega
    ·rw[OE.1 h];exact RL k
   ·have:=ih h;omega
  ·have:=ih h;omega
def LV0(S:List U.State)(i:Nat):List PA:=match S[i]? with|some x=>(J.td x).leave.map o0|none=>[]
def mvB(S:List U.State)(i:Nat):List (()×(PM×List PA)):=match S[i]? with
 |some x=>(J.td x).aj.map fun m=>(m.event,(dL (psF (X0 S)) (bH (X0 S) (X0 S).length) i ⟨m.event,false,0,m.to,U.Sl.nil⟩,m.aw.map o0))
 |none=>[]
def H0(S:List U.State):List HV:=(jq (X0 S) (X0 S).length).map fun x=>⟨x.1,x.2,.nilIface⟩
def D0(S:List U.State)(k:Nat):Bool:=match (H0 S)[k]? with
 |some h=>match S[h.idx]? with|some x=>decide (J.al x=4)|none=>false
 |none=>false
def anS(S:List U.State)(r:RSt)(ev:()):RSt:=r9 (psF (X0 S)) (bn (X0 S) (X0 S).length) (EN0 S) (LV0 S) (H0 S) (D0 S) (uZ (psF (X0 S)).length (mvB S) (X0 S).length ev) r
def stS(S:List U.State):RSt:=fo (anS S) (bZ (psF (X0 S)) (bn (X0 S) (X0 S).length) (EN0 S) r0 (els (bW (psF (X0 S)) 0)))
theorem NH(AV:U.Sl->List PA)(ps:List PS)(F:()->Option Nat)(i:Nat)(m:MV):gK AV (dL ps F i m)=(dL ps F i ⟨m.event,false,0,m.dest,U.Sl.nil⟩,AV m.aw):=by
 unfold gK dL;dsimp only;split
 ·rfl
 ·split<;>rfl
theorem Lv{w0 W:World}{pb:Nat}{Z:List J.DS}{S:List U.State}{MM:Nat->List J.PV}(h:qT Z S)(hC:J.gw S)(hM:∀i,(∀z,Z[i]?=some z->gz W z (MM i))/\(Z[i]?=none->MM i=[]))(hN:Gw w0 W pb (Z.map aL) (vOf MM))(hl:Lw W.heap.size):
  ∃EN LV b hvs H D mbm n M Lr pmF acF,jW W W pb b (Z.map aL).length (psF (Z.map aL)) (bn (Z.map aL) (Z.map aL).length) EN LV hvs H D mbm n (Dh (Z.map aL) (vOf MM)) M Lr pmF acF/\SzP (psF (Z.map aL)) EN LV/\(∀m,∀a∈acF m,a.sz)/\EN=EN0 S/\∀r ev,aT (psF (Z.map aL)) (bn (Z.map aL) (Z.map aL).length) EN LV H D M Lr pmF acF r ev=anS S r ev:=by
 have hlen:=h.len;have WT:=hC.shp.len;have Wz:=hC.pos;have hzs:∀(i:Nat) (x:MS),(Z.map aL)[i]?=some x->∃z,x=aL z/\gz W z (MM i):=fun i x hx=>by
  obtain⟨z,hz,e,_⟩:=h.ms hx;exact⟨z,e,(hM i).1 z hz⟩
 have Wm:∀{v:U.Sl} {A:List U.Act},W.ownsRow 0 271 1 v.v A.length (A.map bm)->J.nq A->fW W W.heap.size v (oh W W.heap.size v)/\(∀a∈oh W W.heap.size v,a.sz)/\oh W W.heap.size v=A.map o0:=fun hr hG=>by
  rw[Ka (DD hr hG)];exact⟨DD hr hG,fun a ha=>by
   obtain⟨x,hx,rfl⟩:=O7.1 ha;exact(Ee (hG.small x hx)).2,rfl⟩
 obtain⟨b,hvs,H,D,mbm,n,M,Lr,pmF,acF,hR,r1,r2,r3,r4,r5,L0,r6⟩:=Jj (oh W W) hN za8 za8 (h.ok hC) (h.his hC) hl (fun i x hx=>by
  obtain⟨z,rfl,hw⟩:=hzs i x hx;exact⟨(Wm hw.enter hw.enterG).1,(Wm hw.leave hw.leaveG).1⟩) (fun i hi v hv=>by
  rw[OK]at hi;have hw:=(hM i).1 Z[i] (Ou hi);obtain⟨y,hy,rfl⟩:=O7.1 hv;have:=Wm (hw.aw y hy) (hw.actsG y hy).2;exact⟨this.1,this.2.1⟩)
 have hsA:∀{i:Nat} (hi:i<S.length),J.sAt S i=S[i]:=fun hi=>zbK;have hEN:enF (Z.map aL) (oh W W)=EN0 S:=by
  funext i;unfold enF EN0;rw[OF];cases hz:Z[i]? with
  |none=>rw[OV zbq];rfl
  |some z=>
   have hi:i<S.length:=za1;have hw:=(hM i).1 z hz;rw[Ou hi,<- hsA hi];show oh W W z.ve=(J.td (J.sAt S i)).enter.map o0;rw[<- h.at' i z hz];exact(Wm hw.enter hw.enterG).2.2
 have hLV:lvF (Z.map aL) (oh W W)=LV0 S:=by
  funext i;unfold lvF LV0;rw[OF];cases hz:Z[i]? with
  |none=>rw[OV zbq];rfl
  |some z=>
   have hi:i<S.length:=za1;have hw:=(hM i).1 z hz;rw[Ou hi,<- hsA hi];show oh W W z.vl=(J.td (J.sAt S i)).leave.map o0;rw[<- h.at' i z hz];exact(Wm hw.leave hw.leaveG).2.2
 have hAN:∀r ev,aT (psF (Z.map aL)) (bn (Z.map aL) (Z.map aL).length) (enF (Z.map aL) (oh W W)) (lvF (Z.map aL) (oh W W)) H D M Lr pmF acF r ev=anS S r ev:=fun r ev=>by
  have e0:=h.bare;have el:(X0 S).length=(Z.map aL).length:=by rw[<- e0,OK]
  have e1:psF (X0 S)=(psF (Z.map aL)).map PS.e:=by rw[<- e0,I0]
  have e2:bn (X0 S) (X0 S).length=bn (Z.map aL) (Z.map aL).length:=by rw[<- e0,kN,OK]
  have e3:bH (X0 S) (X0 S).length=bH (Z.map aL) (Z.map aL).length:=by rw[<- e0,sO,OK]
  have e4:jq (X0 S) (X0 S).length=jq (Z.map aL) (Z.map aL).length:=by rw[<- e0,vP,OK]
  have Uo:=ig (Z.map aL);rw[BL (AV:=oh W W) (L0:=L0) (T0:=ef (psF (Z.map aL)) (bH (Z.map aL) (Z.map aL).length) (vOf MM) (Z.map aL).length) r4 (fun ev g hg=>by rw[Uo];exact r6 ev g hg) (fun ev hn=>by
   have:=r3 ev;rw[hn]at this;unfold Dh at this;cases ht:ef (psF (Z.map aL)) (bH (Z.map aL) (Z.map aL).length) (vOf MM) (Z.map aL).length ev with
   |none=>rfl
   |some row=>rw[ht]at this;cases this) (wP _) r ev,wN,hEN,hLV]
  have hV:(fun i=>(vOf MM i).map fun m=>(m.event,gK (oh W W) (dL (psF (Z.map aL)) (bH (Z.map aL) (Z.map aL).length) i m)))=mvB S:=by
   funext i;unfold mvB vOf;rw[e1,M0,e3];cases hz:Z[i]? with
   |none=>rw[(hM i).2 hz,OV zbq];rfl
   |some z=>
    have hi:i<S.length:=za1;have hw:=(hM i).1 z hz;rw[Ou hi,<- hsA hi];dsimp only;rw[<- h.at' i z hz,<- hw.mv,Q6,Q6];refine S4 (fun y hy=>?_);show((LK y).event,gK _ (dL _ _ i (LK y)))=(y.m.event,(dL _ _ i ⟨y.m.event,false,0,y.m.to,U.Sl.nil⟩,y.m.aw.map o0));rw[NH,<- (Wm (hw.aw y hy) (hw.actsG y hy).2).2.2];rfl
  rw[hV];unfold anS;rw[e1,Mr,show((psF (Z.map aL)).map PS.e).length=(psF (Z.map aL)).length from OK ..,e2,el];have hHH:H.map (fun h=>(h.idx,h.own))=(H0 S).map (fun h=>(h.idx,h.own)):=by
   unfold H0;rw[r1,Q6,e4];exact(List.map_id _).symm
  refine GO hHH (fun k hk=>?_) _ r;obtain⟨y,hy⟩:∃y,H[k]?=some y:=⟨_,Ou hk⟩;have hq:(H0 S)[k]?.map (fun h=>(h.idx,h.own))=some (y.idx,y.own):=by rw[<- OF,<- hHH,OF,hy];rfl
  have hyl:y.idx<Z.length:=by
   have:=D2 (Z.map aL) (Z.map aL).length (y.idx,y.own) (by rw[<- r1];exact O7.2 ⟨y,OG hy,rfl⟩);rw[OK]at this;exact this
  have hx:(Z.map aL)[y.idx]?=some (aL Z[y.idx]):=by rw[OF,Ou hyl];rfl
  rw[r2 k y _ hy hx];unfold D0;cases h0:(H0 S)[k]? with
  |none=>rw[h0]at hq;cases hq
  |some y'=>
   rw[h0]at hq;simp only[Option.map_some,Option.some.injEq,Prod.mk.injEq]at hq;dsimp only;have hi:y.idx<S.length:=zaa;rw[hq.1,Ou hi,<- hsA hi];dsimp only;have:J.al Z[y.idx].s=J.al (J.sAt S y.idx):=by rw[h.at' y.idx _ (Ou hyl)];rfl
   rw[<- this];rfl
 refine⟨_,_,b,hvs,H,D,mbm,n,M,Lr,pmF,acF,hR,⟨fun i a ha=>?_,fun i a ha=>?_,fun i p hp=>?_⟩,r5,hEN,hAN⟩
 ·unfold enF at ha;split at ha
  ·rename_i x hx;obtain⟨z,rfl,hw⟩:=hzs i x hx;exact(Wm hw.enter hw.enterG).2.1 a ha
  ·cases ha
 ·unfold lvF at ha;split at ha
  ·rename_i x hx;obtain⟨z,rfl,hw⟩:=hzs i x hx;exact(Wm hw.leave hw.leaveG).2.1 a ha
  ·cases ha
 ·obtain⟨x,hx,e⟩:=nW _ (h.ok hC) hp;obtain⟨z,rfl,hw⟩:=hzs i x hx;have:=hw.name;have h5:(aL z).name=z.s.name:=rfl;rw[show p.done=rE++(aL z).name from congrArg St.done e,h5,Re];have:rE.size=5:=rfl;omega
def StM(W:World)(S:List U.State)(sb:Nat)(p:Par)(r:RSt):Prop:=∃sv,r=stS S/\bJ p.ps=bJ (psF (X0 S))/\p.an=anS S/\W.heap[sb]?=some (.cells #[.string ⟨#[]⟩,.int .u64 r.now,sv] 38 (0,0))/\Nms W p.lo sv ((els r.act).map (bJ p.ps))/\p.lo<=sb
def BD(s:())(w:World)(e:Ending)(w':World):Prop:=Below w w w'/\match J.read s with
 |.fault c l=>∃b,e=.returned (.tuple #[.pointer none,.slice none 0 0,.iface 74 (.pointer (some ⟨b,0,none⟩))])/\w'.heap[b]?=some (.cells #[.int .i64 c,.int .i64 l] 78 (0,0))
 |.fu S=>∃xb sb p r,e=.returned (.tuple #[.pointer (some ⟨xb,0,none⟩),.slice (some ⟨sb,0,none⟩) 1 1,fuelV r.fin])/\Ses w' w.heap.size xb p r/\r.now=0/\(quiet S=true->r.fin=0)/\StM w' S sb p r
end Y
theorem Df(s:())(w:World)(hv:xi w)(hs:s.size<=1073741824):
  () 20 #[s] w (Y.BD s w):=by
 have HR:Hid _:=I7 s w hv.lib hs;have HV:Hid _:=hv;clear hv;go_enter func20,ntmps20;go_wp2_with fail;refine OI HR.out ?_;rintro e w1 ⟨TM,hp⟩;cases hR:J.read s with
 |fault c l=>
  rw[hR]at hp;obtain⟨b,rfl,V5⟩:=hp;have XD:Hid _:=hR;clear hR;dsimp only;go_wp2;go_ret3;unfold Y.BD;rw[XD.out];exact⟨TM,b,rfl,V5⟩
 |fu S=>
  rw[hR]at hp;obtain⟨cb,sv,X,rfl,VS,hXS,hC,ZT⟩:=hp;have Y7:=hR;rw[J.wu]at Y7;have hCK:=J.tK Y7;have Wp:X.length<=24:=by rw[<- hXS,OK]at ZT;exact ZT
  have HT:Hid _:=Ca cb sv X w1 VS hC zaa (fun x hx=>(hCK.low x.s (by rw[<- hXS];exact Qt hx)).1);have XD:Hid _:=hR;have HXS:Hid _:=hXS;have HCK:Hid _:=hCK;clear hR Y7 hXS ZT Wp hC VS hCK;dsimp only;go_wp2_with fail;refine OI HT.out ?_;rintro e w2 ⟨TP,cb2,sv2,Z,rfl,hcb2,hD⟩;have TT:=Y.KZ hD HXS.out;obtain⟨MM,hMM⟩:=Y.M8 hD;have hZl:Z.length=S.length:=TT.len;obtain⟨cg,cc,hch⟩:=Y.MB hD hcb2 (by have:=HCK.out.pos;omega) hMM;have XE:=(HV.out.aq TM).aq TP;have HN:Hid _:=Le w2 cb2 cg cc (Z.map Y.aL) (Y.vOf MM) hch (by rw[OK,hZl];exact HCK.out.shp.len) (fun i x hx=>by
   obtain⟨z,hz,rfl,_⟩:=TT.ms hx;have:=((hMM i).1 z hz).name;show z.s.name.size<=1000000;omega) (TT.ok HCK.out) (TT.his HCK.out) XE.lw.g5 XE.t5 XE.k5 (fun i=>(TT.NS HCK.out hMM i).1) (fun i=>(TT.NS HCK.out hMM i).2)
  have HB2:Hid (Below w w w2):=TM.trans (TP.mono TM.size);have HV2:Hid _:=XE;have HLO:Hid _:=TT;have HMM:Hid _:=hMM;clear XE TM TP hD hcb2 hch TT hMM hZl;dsimp only;go_wp2_with fail;refine OI HN.out ?_;rintro e w3 ⟨pb,rfl,hNP⟩;have Ug:Below w2 w2 w3:=by
   obtain⟨_,_,_,_,_,_,_,hb,_⟩:=hNP;exact hb
  have YF:=HV2.out.aq Ug;obtain⟨EN,LV,b,hvs,H,D,mbm,n,M,Lr,pmF,acF,hRP,hSz,T6,hEN,hAN⟩:=Y.Lv HLO.out HCK.out (fun i=>⟨fun z hz=>((HMM.out i).1 z hz).aq Ug,(HMM.out i).2⟩) hNP YF.lw;have Uo:(Y.psF (Z.map Y.aL)).length=S.length:=by rw[Y.ig,OK];exact HLO.out.len
  obtain⟨p0,YE⟩:∃p0,(Y.psF (Z.map Y.aL))[0]?=some p0:=⟨_,Ou (by have:=HCK.out.pos;omega)⟩;have Ym:p0.wth=Y.bW (Y.psF (Z.map Y.aL)) 0:=by unfold Y.bW;rw[YE]
  have hwl:p0.wth<2 ^ (Y.psF (Z.map Y.aL)).length:=by rw[Ym,Y.ig];exact Y.kA (Y.o9 _ (HLO.out.ok HCK.out)) 0
  have HS:Hid _:=C7 w3 (Y.Lo.all w3) pb b _ _ _ _ _ hvs H D mbm n _ M Lr pmF acF p0 hRP hSz T6 YE hwl (Ow _) (Ow _) YF.t6 YF.t5 (fun V=>pV _ V zac);have HB3:Hid (Below w w w3):=HB2.out.trans (Ug.mono HB2.out.size);have HQ:Hid (Y.quiet S=true->(Y.dV (Y.psF (Z.map Y.aL)) (Y.bn (Z.map Y.aL) (Z.map Y.aL).length) EN LV H D M Lr pmF acF p0.wth).fin=0):=fun hq=>by
   have e0:=HLO.out.bare;unfold Y.quiet at hq;dsimp only at hq;have e1:Y.psF (Y.X0 S)=(Y.psF (Z.map Y.aL)).map Y.PS.e:=by rw[<- e0,Y.I0]
   have e2:Y.bn (Y.X0 S) (Y.X0 S).length=Y.bn (Z.map Y.aL) (Z.map Y.aL).length:=by rw[<- e0,Y.kN,OK]
   rw[e1,Y.sD,Y.uA,e2,<- hEN,<- Ym,O2,Rp,Sc]at hq;unfold Y.dV Y.fo;rw[Y.mW hq.1];exact hq.2
  have HMO:Hid (Y.dV (Y.psF (Z.map Y.aL)) (Y.bn (Z.map Y.aL) (Z.map Y.aL).length) EN LV H D M Lr pmF acF p0.wth=Y.stS S/\Y.bJ (Y.psF (Z.map Y.aL))=Y.bJ (Y.psF (Y.X0 S))/\∀r ev,Y.aT (Y.psF (Z.map Y.aL)) (Y.bn (Z.map Y.aL) (Z.map Y.aL).length) EN LV H D M Lr pmF acF r ev=Y.anS S r ev):=by
   have e0:=HLO.out.bare;have e1:Y.psF (Y.X0 S)=(Y.psF (Z.map Y.aL)).map Y.PS.e:=by rw[<- e0,Y.I0]
   have e2:Y.bn (Y.X0 S) (Y.X0 S).length=Y.bn (Z.map Y.aL) (Z.map Y.aL).length:=by rw[<- e0,Y.kN,OK]
   refine⟨?_,by rw[e1,Y.Lc],hAN⟩;unfold Y.dV Y.stS;rw[e1,Y.sD,Y.uA,e2,<- hEN,<- Ym]
   congr 1
   funext r ev;exact hAN r ev
  have Uw:Y.ROK (Y.psF (Z.map Y.aL)) (Y.dV (Y.psF (Z.map Y.aL)) (Y.bn (Z.map Y.aL) (Z.map Y.aL).length) EN LV H D M Lr pmF acF p0.wth)/\Y.QOK (Y.dV (Y.psF (Z.map Y.aL)) (Y.bn (Z.map Y.aL) (Z.map Y.aL).length) EN LV H D M Lr pmF acF p0.wth):=
   Y.nZ (fun r x h k=>Y.nF hRP hSz T6 h k x) (Y.mK _ _ ⟨PU _,fun _=>PU _⟩ (Y.iy hwl)) (Y.mL hSz _ _ ⟨fun e he=>(by cases he),.inl rfl,zac,fun x hx=>zau⟩)
  have Uc:(Y.dV (Y.psF (Z.map Y.aL)) (Y.bn (Z.map Y.aL) (Z.map Y.aL).length) EN LV H D M Lr pmF acF p0.wth).now=0:=(Y.wy (fun r x=>Y.zq r x) 60 _).trans (Y.sE _ _ _ _ _);have Yc:(Y.dV (Y.psF (Z.map Y.aL)) (Y.bn (Z.map Y.aL) (Z.map Y.aL).length) EN LV H D M Lr pmF acF p0.wth).q=[]:=rfl;have Wx:Hid (∀(w4:World) (mb:Nat),Y.MT w4 (Y.Lo.all w3) mb pb (Y.dV (Y.psF (Z.map Y.aL)) (Y.bn (Z.map Y.aL) (Z.map Y.aL).length) EN LV H D M Lr pmF acF p0.wth)->Y.Rf (Y.Lo.all w3) w3 w4->Y.Idl w4 mb->Below w w (w4.alloc (.cells #[.pointer (some ⟨mb,0,none⟩)] 73))/\Y.Ses (w4.alloc (.cells #[.pointer (some ⟨mb,0,none⟩)] 73)) w.heap.size w4.heap.size ⟨Y.Lo.all w3.heap.size,mb,pb,b,_,Y.psF (Z.map Y.aL),Y.bn (Z.map Y.aL) (Z.map Y.aL).length,EN,LV,hvs,H,D,mbm,n,Y.Dh (Z.map Y.aL) (Y.vOf MM),M,Lr,pmF,acF⟩ (Y.dV (Y.psF (Z.map Y.aL)) (Y.bn (Z.map Y.aL) (Z.map Y.aL).length) EN LV H D M Lr pmF acF p0.wth)):=fun w4 mb Xw Y7 hid=>by
   have TY:Below w4 w4 (w4.alloc (.cells #[mb] 73)):=(Oy _ _).alloc (Ow _) _;have hs34:=Y7.bel.size;exact⟨HB3.out.trans ((Y7.bel.mono HB3.out.size).trans (TY.mono (Ox HB3.out.size hs34))),OH _ _,hs34,HB3.out.size,⟨Y.jW.rf (lo:=Y.Lo.all w3.heap.size) (Y.jW.rf (lo:=Y.Lo.all w3.heap.size) hRP Y7) (Y.RfE.of TY hs34),hSz,T6,Xw.below YF.lw TY,Uw.1,Uw.2,Yc,hid.bel Xw.lt TY⟩⟩
  generalize Y.dV (Y.psF (Z.map Y.aL)) (Y.bn (Z.map Y.aL) (Z.map Y.aL).length) EN LV H D M Lr pmF acF p0.wth=r at *;have HNW:Hid _:=Uc;clear Ug YF hNP hRP hSz T6 hEN hAN Ym hwl YE Uw Uc Yc Uo;dsimp only;go_wp2_with fail;refine OI HS.out ?_;rintro e w4 ⟨mb,sb,sv4,rfl,hst,Uq,Xw,Y7,hsb,hid⟩;have HE:Hid _:=Wx.out w4 mb Xw Y7 hid;have HS4:Hid (w4.heap[sb]?=_/\Y.Nms w4 w3 sv4 _/\w3.heap.size<=sb):=⟨hst,Uq,hsb⟩;clear hst Uq Xw Y7 hsb hid;dsimp only;go_wp2;go_ret3;unfold Y.BD;rw[XD.out];obtain⟨m1,m2,m3⟩:=HMO.out;have TY:Below w4 w4 (w4.alloc (.cells #[mb] 73)):=(Oy _ _).alloc (Ow _) _;exact⟨HE.out.1,_,_,_,r,rfl,HE.out.2,HNW.out,HQ.out,sv4,m1,m2,funext fun r=>funext fun ev=>m3 r ev,(TY.block _ (Ov.1 HS4.out.1).1).trans HS4.out.1,Kd.row (bE (E:=fun _=>False) TY) HS4.out.2.1 (fun h=>h),HS4.out.2.2⟩
end
section
open Go.RowKit Go.Proofs Go.Shelf Lg
namespace Y
variable {X:List MS}{h:uE X}
theorem L.N1{t:Tr}(g:L t True k s):L t False k s:=⟨g.un,g.up,g.c1,fun x=>x.elim⟩
theorem L.congr{t:Tr}{f:Prop}{r:Nat->Prop}(g:L t f k s)(e:∀i,r i↔s i):L t f k r:=by
 rw[show r=s from funext fun i=>propext (e i)];exact g
theorem MF:∃k:Option Nat,(∀i,Bt (dom (psF X) o d) i↔Un (trX X h) k i/\i<X.length)/\Un (trX X h) k o/\Un (trX X h) k d/\¬pj (trX X h) k:=by
 unfold dom;split
 ·rename_i k e;have hm:=List.mem_of_find?_eq_some e;have hk:=List.find?_some e;rw[RK,cC]at hm;have hm:=fB.1 hm.2;refine⟨some k,fun i=>xU.trans ⟨fun x=>⟨x,JE x⟩,(·.1)⟩,mI.1 hm.1,mI.1 hm.2,fun⟨p,q,y,y1,y2⟩=>?_⟩;cases q
  obtain⟨p,hp,e,_⟩:=pf h y1;unfold lB at hk;rw[hp]at hk;dsimp only at hk;rw[e,y2]at hk;cases hk
 ·refine⟨none,fun i=>⟨fun x=>⟨iW i i (Ow _),?_⟩,fun x=>?_⟩,iW o o (Ow _),iW d d (Ow _),fun⟨_,q,_⟩=>by cases q⟩
  ·rw[ig]at x;exact L4 (Nat.sub_lt (PU _) Nat.one_pos) x
  ·unfold Bt;rw[ig,Nat.testBit_two_pow_sub_one,RU];exact x.2
def KI(X:List MS)(h:uE X)(kept:Nat->Nat):Prop:=∀d u,(trX X h).H d->js X d=some u->kept d=0\/∃A,L (trX X h) True (some u) A/\(∀a,Bt (kept d) a->A a)/\∀a b,Bt (kept d) a->Bt (kept d) b->¬Un (trX X h) (some a) b
theorem AM{ps:List PS}{ow i:Nat}:∀(l:List Nat) (o:Nat),Bt (l.foldl (fun o i=>o|||(bW ps i|||(dc ps i&&&fm ps ow))) o) i↔Bt o i\/∃a∈l,Bt (bW ps a) i\/(Bt (dc ps a) i/\Bt (fm ps ow) i)
 |[],o=>by simp
 |k::l,o=>by
  rw[QB,AM l,jx,jx,fB];exact ze7
theorem F0(hK:KI X h kept){u:Nat}(hd:(trX X h).H d)(hu:js X d=some u):L (trX X h) False (some u) (Bt (dE (psF X) u (kept d))):=by
 have WT:=h.len;have hW:=rK (h:=h);have huH:¬(trX X h).H u:=(trX X h).noh hu;have hul:u<X.length:=(trX X h).top huH;unfold dE;by_cases e:kept d=0
 ·rw[OD e];refine L.congr (L.N1 (hW.all huH)) fun i=>?_;have e32:(2:Nat) ^ u<4294967296:=OS (QM zac (show u<32 by omega)) zac;rw[fB];refine and_congr_right fun x=>?_;have hi:i<X.length:=(trX X h).top (hW.sub huH x).2;unfold Bt;rw[yu e32,Pe (show i<32 by omega),Rn,QS,<- Bool.not_eq_true];exact not_congr pT
 ·rw[OB e];obtain⟨A,a1,a2,a3⟩:=(hK d u hd hu).resolve_left e;refine L.congr (hW.kept a1 a2 a3 (Nat.exists_testBit_of_ne_zero e)) fun i=>(AM (els (kept d)) 0).trans ?_;refine⟨fun x=>?_,fun⟨a,x,y⟩=>.inr ⟨a,cC.2 ⟨?_,x⟩,y.imp id fun y=>⟨mI.2 y.1,xU.2 y.2⟩⟩⟩
  ·rcases x with x|⟨a,x,y⟩
   ·simp[Bt]at x
   ·exact⟨a,(cC.1 x).2,y.imp id fun y=>⟨mI.1 y.1,xU.1 y.2⟩⟩
  ·have:a<X.length:=(trX X h).top (a1.un a (a2 a x)).2;omega
theorem MN(hK:KI X h kept)(hd:d<X.length):∃k,(∀i,Bt (dom (psF X) o d) i↔Un (trX X h) k i/\i<X.length)/\¬pj (trX X h) k/\Un (trX X h) k o/\L (trX X h) True k (Bt (enters (psF X) kept (fD (psF X) o d))):=by
 have hW:=rK (h:=h);obtain⟨k,k1,k2,k3,k4⟩:=MF (h:=h) (o:=o) (d:=d);refine⟨k,k1,k4,k2,?_⟩;obtain⟨p,hp,e,e2⟩:=pf h (Ou hd);have YU:p.around=dc (psF X) d:=by unfold dc;rw[hp]
 have hpw:p.wth=bW (psF X) d:=by unfold bW;rw[hp]
 have hco:∀{s},L (trX X h) False k (Bt s)->L (trX X h) True k (Bt (complete (psF X) s)):=fun g=>L.congr (hW.full g) (Hh g);have hb:∀{i},(Bt (p.around&&&dom (psF X) o d) i↔Un (trX X h) (some i) d/\Un (trX X h) k i):=fun{i}=>by
  rw[fB,YU,k1,mI (h:=h)];exact⟨fun x=>⟨x.1,x.2.1⟩,fun x=>⟨x.1,x.2,by have:=mB x.1;omega⟩⟩
 unfold fD;rw[hp];dsimp only;by_cases hH:isH p.kind=true
 ·rw[OD hH];have hHd:(trX X h).H d:=fun x hx=>by rw[Ou hd]at hx;cases hx;rw[<- e];exact hH
  obtain⟨u,hu⟩:∃u:Nat,X[d].owner=u:=by
   rcases h.own d _ (Ou hd) with q|⟨u,q,_⟩
   ·exact(h.his d _ (Ou hd) (by rw[<- e];exact hH) q).elim
   ·exact⟨u,q⟩
  have hou:js X d=some u:=(dM h.own).2 ⟨_,Ou hd,hu⟩;have hoA:rh (psF X) d=u:=by unfold rh;rw[hp];show p.owner.toNat=u;rw[e2,hu];rfl
  refine hco (L.congr (L.chain (F0 hK hHd hou) ((trX X h).noh hou) ((lj k3 hou).imp Eq.symm id)) fun i=>?_);rw[jx,hb,hoA];refine or_congr ?_ Iff.rfl;exact⟨fun x=>⟨x.2,(lj x.1 hou).imp (fun z=>(Pd z).symm) id⟩,fun x=>⟨x.2.elim (fun z=>.one (z▸hou)) (.up hou),x.1⟩⟩
 ·rw[OB hH];have hHd:¬(trX X h).H d:=fun x=>hH (by rw[e];exact x _ (Ou hd));refine hco (L.congr (L.chain (L.N1 (hW.all hHd)) hHd (.inr k3)) fun i=>?_);rw[jx,hb,hpw];constructor
  ·rintro(x|x)
   ·exact .inl ⟨x.2,.inr x.1⟩
   ·by_cases q:i=d
    ·exact .inl ⟨q▸k3,.inl q⟩
    ·exact .inr ⟨x,q⟩
  ·rintro(⟨x,rfl|y⟩|x)
   ·exact .inr (hW.self hHd)
   ·exact .inl ⟨y,x⟩
   ·exact .inr x.1
def MvG(X:List MS)(h:uE X)(act l e:Nat):Prop:=(l=0/\e=0)\/∃k o,(∀i,Bt l i↔Un (trX X h) k i/\i<X.length)/\¬pj (trX X h) k/\Un (trX X h) k o/\Bt act o/\L (trX X h) True k (Bt e)
theorem AD{act:Nat}(g:L (trX X h) True none (Bt act))(lv en:Nat->Nat):∀C:List Nat,C.Pairwise (fun m n=>eC act (lv m) (lv n)=false)->(∀m∈C,MvG X h act (lv m) (en m))->L (trX X h) True none (fun i=>(Bt act i/\¬∃m∈C,Bt (lv m) i)\/∃m∈C,Bt (en m) i)
 |[],_,_=>L.congr g fun i=>by simp
 |m::C,hp,hm=>by
  obtain⟨p1,p2⟩:=Qq.1 hp;have ih:=AD g lv en C p2 (fun n hn=>hm n (OZ _ hn));have U9:∀{i},Bt act i->i<X.length:=fun x=>(trX X h).top (g.un _ x).2;simp only[List.mem_cons,exists_eq_or_imp]
  rcases hm m (O1 ..) with⟨e1,e2⟩|⟨k,o,k1,k2,k3,k4,k5⟩
  ·rw[e1,e2];exact L.congr ih fun i=>by simp[Bt]
  have Va:∀{i},i<X.length->Bt act i->Un (trX X h) k i->∀n∈C,¬Bt (lv n) i:=fun{i} hi a b n hn x=>by
   have:=p1 n hn;unfold eC at this;have h1:Bt ((lv m&&&act)&&&(lv n&&&act)) i:=fB.2 ⟨fB.2 ⟨(k1 i).2 ⟨b,hi⟩,a⟩,fB.2 ⟨x,a⟩⟩;rw[bne_eq_false_iff_eq.1 this]at h1;simp[Bt]at h1
  have hdis:∀{i},Un (trX X h) k i->i<X.length->∀n∈C,¬Bt (lv n) i:=fun{i} a hi n hn x=>by
   rcases hm n (OZ _ hn) with⟨e1,_⟩|⟨k',o',q1,_,q3,q4,_⟩
   ·rw[e1]at x;simp[Bt]at x
   have hx:=((q1 i).1 x).1;have f1:¬Un (trX X h) k' o:=fun z=>Va (U9 k4) k4 k3 n hn ((q1 o).2 ⟨z,U9 k4⟩);have f2:¬Un (trX X h) k o':=fun z=>Va (U9 q4) q4 z n hn ((q1 o').2 ⟨q3,U9 q4⟩);cases k with
   |none=>exact f2 (iW o' o' (Ow _))
   |some k=>cases k' with
    |none=>exact f1 (iW o o (Ow _))
    |some k'=>
     rcases Dp a hx with z|z|z
     ·exact f2 (z▸q3)
     ·exact f2 (dx q3 z)
     ·exact f1 (dx k3 z)
  refine L.congr (ih.step k5 (fun u e=>.inl ⟨?_,fun⟨n,hn,x⟩=>?_⟩) k2) fun i=>?_
  ·subst e;exact g.upS k3 k4 (iW u u (Ow _))
  ·subst e
   rcases hm n (OZ _ hn) with⟨e1,_⟩|⟨k',o',q1,_,q3,q4,_⟩
   ·rw[e1]at x;simp[Bt]at x
   ·exact Va (U9 k4) k4 k3 n hn ((q1 o).2 ⟨dx k3 ((q1 u).1 x).1,U9 k4⟩)
  ·have hE:(∃n∈C,Bt (en n) i)->¬Un (trX X h) k i:=fun⟨n,hn,x⟩ y=>by
    rcases hm n (OZ _ hn) with⟨_,e1⟩|⟨k',o',q1,_,_,_,q5⟩
    ·rw[e1]at x;simp[Bt]at x
    ·have hi:i<X.length:=(trX X h).top (q5.un i x).2;exact hdis y hi n hn ((q1 i).2 ⟨(q5.un i x).1,hi⟩)
   constructor
   ·rintro(⟨a,b⟩|a|a)
    ·exact .inl ⟨.inl ⟨a,fun z=>b (.inr z)⟩,fun z=>b (.inl ((k1 i).2 ⟨z,U9 a⟩))⟩
    ·exact .inr a
    ·exact .inl ⟨.inr a,hE a⟩
   ·rintro(⟨⟨a,b⟩|a,c⟩|a)
    ·exact .inl ⟨a,fun z=>z.elim (fun z=>c ((k1 i).1 z).1) b⟩
    ·exact .inr (.inr a)
    ·exact .inr (.inl a)
def Inv(X:List MS)(h:uE X)(r:RSt):Prop:=L (trX X h) True none (Bt r.act)/\KI X h r.kept
theorem pY(ps:List PS)(fin:Nat)(EN:Nat->List PA):∀(l:List Nat) (r:RSt),(bZ ps fin EN r l).kept=r.kept/\∀i,Bt (bZ ps fin EN r l).act i↔Bt r.act i\/i∈l
 |[],r=>⟨rfl,fun i=>by simp[bZ]⟩
 |a::l,r=>by
  have e:(iN ps fin EN r a).act=r.act|||2 ^ a/\(iN ps fin EN r a).kept=r.kept:=by
   unfold iN;dsimp only;split
   ·split
    ·rw[(j9 ..).1,(j9 ..).2.2.2.1,jz,iw];exact⟨rfl,rfl⟩
    ·rw[jz,iw];exact⟨rfl,rfl⟩
   ·rw[jz,iw];exact⟨rfl,rfl⟩
  obtain⟨i1,i2⟩:=pY ps fin EN l (iN ps fin EN r a);refine⟨i1.trans e.2,fun i=>(i2 i).trans ?_⟩;rw[e.1,jx,pT,P2,or_assoc]
theorem vU(LV:Nat->List PA):∀(l:List Nat) (r:RSt),(∀i∈l,i<32)->(∀i,Bt r.act i->i<32)->(dU LV r l).kept=r.kept/\∀i,Bt (dU LV r l).act i↔Bt r.act i/\i ∉ l
 |[],r,_,_=>⟨rfl,fun i=>by simp[dU]⟩
 |a::l,r,hl,hr=>by
  have ha:(2:Nat) ^ a<4294967296:=OS (QM zac (hl a (O1 ..))) zac;have e:∀i,Bt (qY LV r a).act i↔Bt r.act i/\i≠a:=fun i=>by
   show Bt ((doL r (LV a)).act&&&(4294967295-2 ^ a)) i↔_;rw[fB,jz];refine and_congr_right fun x=>?_;unfold Bt;rw[yu ha,Pe (hr i x),Rn,QS,<- Bool.not_eq_true];exact not_congr pT
  obtain⟨i1,i2⟩:=vU LV l (qY LV r a) (fun i hi=>hl i (OZ _ hi)) (fun i x=>hr i ((e i).1 x).1);refine⟨i1.trans (iw _ _),fun i=>(i2 i).trans ?_⟩;rw[e,P2,not_or,and_assoc]
theorem vW{act:Nat}{pmF:Nat->PM}{i:Nat}:∀(C:List Nat) (a:Nat),Bt (C.foldl (fun a m=>a|||((pmF m).lv&&&act)) a) i↔Bt a i\/(Bt act i/\∃m∈C,Bt (pmF m).lv i)
 |[],a=>by simp
 |m::C,a=>by
  rw[QB,vW C,jx,fB];simp only[List.mem_cons,exists_eq_or_imp,or_assoc,and_or_left];exact or_congr Iff.rfl (or_congr and_comm Iff.rfl)
theorem DG(ps:List PS)(pmF:Nat->PM)(acF:Nat->List PA):∀(C:List Nat) (z:RSt×Nat),(fA ps pmF acF z C).1.act=z.1.act/\(fA ps pmF acF z C).1.kept=z.1.kept/\∀i,Bt (fA ps pmF acF z C).2 i↔Bt z.2 i\/∃m∈C,Bt (enters ps z.1.kept (pmF m).en) i
 |[],z=>⟨rfl,rfl,fun i=>by simp[fA]⟩
 |m::C,z=>by
  obtain⟨a,b,c⟩:=DG ps pmF acF C (nE ps pmF acF z m);refine⟨a.trans (jz _ _),b.trans (iw _ _),fun i=>(c i).trans ?_⟩;simp only[nE,iw,jx,List.mem_cons,exists_eq_or_imp,or_assoc]
theorem KE(ps:List PS)(s a:Nat)(x:Bt (inn ps s) a):Bt s a:=by
 have:∀(l:List Nat) (o:Nat),Bt (qW ps o l) a->Bt o a:=fun l=>by
  induction l with
  |nil=>exact fun o x=>x
  |cons i l ih=>exact fun o x=>(fB.1 (ih _ x)).1
 exact this _ _ x
theorem Ao{r:RSt}(g:Inv X h r){left:Nat}(hl:∀i,Bt left i->Bt r.act i){D:Nat->Bool}{H:List HV}(hH:∀y∈H,js X y.idx=some y.own):∀n,(dJ (psF X) left D H r n).act=r.act/\KI X h (dJ (psF X) left D H r n).kept
 |0=>⟨rfl,g.2⟩
 |n+1=>by
  obtain⟨i1,i2⟩:=Ao g hl (D:=D) hH n;have e:dJ (psF X) left D H r (n+1)=lE (psF X) left D H (dJ (psF X) left D H r n) n:=by unfold dJ;rw[R4,Px];rfl
  rw[e];refine⟨(p8 ..).1.trans i1,?_⟩;unfold lE;split
  ·exact i2
  ·rename_i y hy;split
   ·exact i2
   ·rename_i po Vr;split
    ·rename_i ht;intro d u hd hu;by_cases ed:d=y.idx
     ·subst ed;cases(hH y (OG hy)).symm.trans hu
      refine .inr ⟨_,g.1.restrict (hl _ ht),?_⟩;show(∀a,Bt (upd _ _ _ y.idx) a->_)/\∀a b,Bt (upd _ _ _ y.idx) a->Bt (upd _ _ _ y.idx) b->_;rw[aD,i1];have UZ:Bt po.inside=Bt (fm (psF X) y.own):=by unfold fm;rw[Vr]
      unfold lX;have Ux:∀(l:List Nat) (o a:Nat),Bt (qW (psF X) o l) a->Bt o a/\∀i∈l,¬Bt (dc (psF X) i) a:=fun l=>by
       induction l with
       |nil=>exact fun o a x=>⟨x,fun i hi=>by cases hi⟩
       |cons i l ih=>
        intro o a x;obtain⟨a1,a2⟩:=ih _ a x;obtain⟨a1,a3⟩:=fB.1 a1;refine⟨a1,fun j hj=>?_⟩
        rcases P2.1 hj with rfl|hj
        ·have ha:dc (psF X) j<4294967296:=by
          refine OS (m:=2 ^ X.length) ?_ (Ox (PX zac h.len) zac);unfold dc;split
          ·rename_i q hq;exact(o9 X h.own j q hq).2.2.1
          ·exact PU _
         unfold Bt at a3⊢;rw[yu ha,O2,QS]at a3;rw[a3.2];decide
        ·exact a2 j hj
      split
      ·refine⟨fun a x=>?_,fun a b x y=>?_⟩
       ·obtain⟨x1,x2⟩:=fB.1 x;rw[UZ]at x2;exact⟨(Ux _ _ a x1).1,xU.1 x2⟩
       ·have hb:=(Ux _ _ b (fB.1 y).1).1;have UE:b<X.length:=(trX X h).top (g.1.un b hb).2;exact fun z=>(Ux _ _ a (fB.1 x).1).2 b (cC.2 ⟨by have:=h.len;omega,hb⟩) (mI.2 z)
      ·have hp:∀{a},Bt (r.act&&&po.parts) a->js X a=some y.own:=fun x=>((AJ (h:=h) Vr).1 (fB.1 x).2).1;exact⟨fun a x=>⟨(fB.1 x).1,.one (hp x)⟩,fun a b x y=>sib (t:=trX X h) (hp x) (hp y)⟩
     ·have:=i2 d u hd hu;dsimp only;rw[aG _ _ ed];exact this
    ·exact i2
theorem zn{r:RSt}(g:Inv X h r){fin:Nat}{EN LV:Nat->List PA}{H:List HV}{D:Nat->Bool}{pmF:Nat->PM}{acF:Nat->List PA}{C:List Nat}(hH:∀y∈H,js X y.idx=some y.own)(hp:C.Pairwise fun m n=>eC r.act (pmF m).lv (pmF n).lv=false)
  (hC:∀m∈C,((pmF m).lv=0/\(pmF m).en=.nil)\/∃o d,Bt r.act o/\d<X.length/\(pmF m).lv=dom (psF X) o d/\(pmF m).en=fD (psF X) o d):Inv X h (jZ (psF X) fin EN LV H D pmF acF r C):=by
 have WT:=h.len;have U9:∀{i},Bt r.act i->i<X.length:=fun x=>(trX X h).top (g.1.un _ x).2;have hlf:∀i,Bt (eo r.act pmF C) i↔Bt r.act i/\∃m∈C,Bt (pmF m).lv i:=fun i=>(vW C 0).trans (by simp[Bt]);unfold jZ;dsimp only;obtain⟨k1,k2⟩:=Ao g (left:=eo r.act pmF C) (fun i x=>((hlf i).1 x).1) (D:=D) hH H.length;obtain⟨l1,l2⟩:=vU LV (els (eo r.act pmF C)).reverse (dJ (psF X) (eo r.act pmF C) D H r H.length) (fun i hi=>(cC.1 (RK.1 hi)).1) (fun i x=>by rw[k1]at x;have:=U9 x;omega)
 generalize dJ (psF X) (eo r.act pmF C) D H r H.length=r1 at *;generalize dU LV r1 (els (eo r.act pmF C)).reverse=r2 at *;obtain⟨a1,a2,a3⟩:=DG (psF X) pmF acF C (r2,0);dsimp only at a1 a2 a3;generalize fA (psF X) pmF acF (r2,0) C=z at *;obtain⟨e1,e2⟩:=pY (psF X) fin EN (els z.2) z.1;refine⟨?_,by rw[e1,a2,l1];exact k2⟩;rw[l1]at a3;have hm:=AD g.1 (fun m=>(pmF m).lv) (fun m=>enters (psF X) r1.kept (pmF m).en) C hp (fun m hm=>by
  rcases hC m hm with⟨q1,q2⟩|⟨o,d,q1,q2,q3,q4⟩
  ·exact .inl ⟨q1,by rw[q2];rfl⟩
  ·obtain⟨k,b1,b2,b3,b4⟩:=MN (o:=o) k2 q2;exact .inr ⟨k,o,by rw[q3];exact b1,b2,b3,q1,by rw[q4];exact b4⟩)
 refine L.congr hm fun i=>?_;have hz:Bt z.2 i↔∃m∈C,Bt (enters (psF X) r1.kept (pmF m).en) i:=(a3 i).trans (by simp[Bt]);rw[e2 i,a1,l2 i,k1,RK,cC,cC];constructor
 ·rintro(x|x)
  ·exact .inl ⟨x.1,fun y=>x.2 ⟨by have:=U9 x.1;omega,(hlf i).2 ⟨x.1,y⟩⟩⟩
  ·exact .inr (hz.1 x.2)
 ·rintro(⟨x,y⟩|x)
  ·exact .inl ⟨x,fun z=>y ((hlf i).1 z.2).2⟩
  ·have:i<X.length:=(trX X h).top (hm.un i (.inr x)).2;exact .inr ⟨zaa,hz.2 x⟩
theorem DU(ps:List PS)(act:Nat)(lF oF:Nat->Nat):∀(WL acc:List Nat),acc.Pairwise (fun m n=>eC act (lF m) (lF n)=false)->(WL.foldl (fun acc v=>mx act lF oF (arA ps (oF v)) acc v) acc).Pairwise fun m n=>eC act (lF m) (lF n)=false
 |[],_,g=>g
 | v::WL,acc,g=>DU ps act lF oF WL _ (by
  show(mx act lF oF (arA ps (oF v)) acc v).Pairwise _;unfold mx;split
  ·exact g
  ·refine List.pairwise_append.2 ⟨g.filter _,List.pairwise_singleton _ _,fun x hx y hy=>?_⟩;rw[OE.1 hy];have:=(P3.1 hx).2
   rwa [QS]at this)
theorem Bp{L:List (Option Nat)}{m:Nat}:∀(l acc:List Nat),m∈l.foldl (eP L) acc->m∈acc\/∃i∈l,L[i]?=some (some m)
 |[],_,x=>.inl x
 |i::l,acc,x=>by
  rcases Bp l _ x with x|⟨j,a,b⟩
  ·unfold eP at x;split at x
   ·rename_i q e;split at x
    ·exact .inl x
    ·rcases OT.1 x with x|x
     ·exact .inl x
     ·exact .inr ⟨i,O1 ..,by rw[e,OE.1 x]⟩
   ·exact .inl x
  ·exact .inr ⟨j,OZ _ a,b⟩
theorem D3{L:List (Option Nat)}(hL:∀i q:Nat,L[i]?=some (some q)->q=i):∀(k i o:Nat),(cA (psF X) L k)[i]?=some (some o)->(o=i\/Un (trX X h) (some o) i)/\L[o]?=some (some o)
 |0,i,o,e=>by cases hL i o e;exact⟨.inl rfl,e⟩
 |k+1,i,o,e=>by
  have ih:=D3 hL k;rw[cA,kO]at e;split at e
  ·rename_i p e1 hp;split at e
   ·exact ih i o e
   ·rename_i Va;by_cases q:k=i
    ·subst q;rw[OR (Oz.1 e1).1,OJ,Ts]at e;obtain⟨x,a,b⟩:=nW X h.own hp;have b:p.owner=x.owner:=congrArg St.owner b
     rcases h.own k x a with z|⟨w,z,_⟩
     ·exact(Va (by rw[b,z];rfl)).elim
     ·have hw:js X k=some w:=(dM h.own).2 ⟨x,a,z⟩;rw[show p.owner.toNat=w by rw[b,z];rfl]at e;cases hq:(cA (psF X) L k)[w]? with
      |none=>rw[hq]at e;cases e
      |some y=>
       rw[hq]at e;have e:y=some o:=e;rw[e]at hq;obtain⟨i1,i2⟩:=ih w o hq;exact⟨.inr (i1.elim (fun z=>.one (z▸hw)) (.up hw)),i2⟩
    ·rw[OU q]at e;exact ih i o e
  ·exact ih i o e
def Nw{β:Type}(V:Nat->List (()×β))(T:()->Option (List (Option β))):Prop:=∀ev row,T ev=some row->∀(o:Nat) (x:β),row[o]?=some (some x)->∃y∈V o,y.2=x
theorem Et{β:Type}(N:Nat)(V:Nat->List (()×β)):∀k,Nw V (uZ N V k)
 |0=>fun _ _ e=>by cases e
 |k+1=>by
  have ih:=Et N V k;have:∀j,Nw V (uH N (uZ N V k) k (V k) j):=fun j=>by
   induction j with
   |zero=>exact ih
   |succ j ih=>
    rw[uH];split
    ·rename_i m hm;intro ev row e o x hx;unfold DQ at e;split at e
     ·have hr:∀(o:Nat) (x:β),((uH N (uZ N V k) k (V k) j m.1).getD (List.replicate N none))[o]?=some (some x)->∃y∈V o,y.2=x:=fun o x hx=>by
       cases hT:uH N (uZ N V k) k (V k) j m.1 with
       |none=>
        rw[hT]at hx;have:=(List.mem_replicate.1 (OG hx)).2;cases this
       |some r=>rw[hT]at hx;exact ih _ r hT o x hx
      generalize(uH N (uZ N V k) k (V k) j m.1).getD (List.replicate N none)=R at hr e;have e:=Pd e;dsimp only at e;split at e
      ·subst e;rw[Qv]at hx;split at hx
       ·rename_i q;split at hx
        ·cases hx;exact⟨m,q▸OG hm,rfl⟩
        ·cases hx
       ·exact hr o x hx
      ·subst e;exact hr o x hx
     ·exact ih ev row e o x hx
    ·exact ih
  exact this _
theorem GN{r:RSt}(g:Inv X h r){fin:Nat}{EN LV:Nat->List PA}{H:List HV}{D:Nat->Bool}{V:Nat->List (()×(PM×List PA))}(hH:∀y∈H,js X y.idx=some y.own)(hV:∀o,∀y∈V o,∃m,y.2.1=dL (psF X) (bH X X.length) o m)(N k:Nat)(ev:()):Inv X h (r9 (psF X) fin EN LV H D (uZ N V k ev) r):=by
 unfold r9;split
 ·exact zn g hH .nil fun m hm=>by cases hm
 ·rename_i row e;have TO:∀{o x},row[o]?=some (some x)->∃m,x.1=dL (psF X) (bH X X.length) o m:=fun{o x} hx=>by
   obtain⟨y,a,rfl⟩:=Et N V k ev row e o x hx;exact hV o y a
  have Wu:∀o m,(dL (psF X) (bH X X.length) o m).own=o/\(((dL (psF X) (bH X X.length) o m).lv=0/\(dL (psF X) (bH X X.length) o m).en=.nil)\/∃d,d<X.length/\(dL (psF X) (bH X X.length) o m).lv=dom (psF X) o d/\(dL (psF X) (bH X X.length) o m).en=fD (psF X) o d):=fun o m=>by
   unfold dL;split
   ·exact⟨rfl,.inl ⟨rfl,rfl⟩⟩
   ·split
    ·rename_i d hd;exact⟨rfl,.inr ⟨d,(sN _ (Ow _) hd).1,rfl,rfl⟩⟩
    ·exact⟨rfl,.inl ⟨rfl,rfl⟩⟩
  refine zn g hH (DU (psF X) r.act (fun m=>(pmA row m).lv) (fun m=>(pmA row m).own) _ [] .nil) fun m hm=>?_;have hm:m∈dC (cA (psF X) (row.map (Option.map (·.1.own))) (psF X).length) (els (inn (psF X) r.act)):=by
   refine(eW (psF X) r.act (fun m=>(pmA row m).lv) (fun m=>(pmA row m).own) _ _ (Ow _)).1 m ?_;rw[Pw];exact hm
  obtain⟨i,hi,hm⟩:=(Bp _ [] hm).resolve_left fun x=>by cases x
  obtain⟨u,hu⟩:=D3 (h:=h) (fun i q e=>by
   rw[OF]at e;cases hr:row[i]? with
   |none=>rw[hr]at e;cases e
   |some y=>cases y with
    |none=>rw[hr]at e;cases e
    |some y=>
     rw[hr]at e;cases e
     obtain⟨m,e⟩:=TO hr;show y.1.own=i;rw[e];exact(Wu i m).1) _ i m hm
  rw[OF]at hu;cases hr:row[m]? with
  |none=>rw[hr]at hu;cases hu
  |some y=>cases y with
   |none=>rw[hr]at hu;cases hu
   |some y=>
    obtain⟨mv,e⟩:=TO hr;have hp:pmA row m=dL (psF X) (bH X X.length) m mv:=by unfold pmA;rw[hr];exact e
    rw[hp];have ha:Bt r.act i:=KE _ _ _ (cC.1 hi).2;refine(Wu m mv).2.imp id fun⟨d,d1,d2⟩=>⟨m,d,?_,d1,d2⟩
    rcases u with rfl|u
    ·exact ha
    ·exact g.1.upS u ha (iW m m (Ow _))
theorem oE(ho:ju X)(hh:∀(i:Nat) (x:MS),X[i]?=some x->isH x.kind=true->x.owner≠-1):∀(k:Nat) (y:Nat×Nat),y∈jq X k->js X y.1=some y.2
 |0,y,e=>by cases e
 |k+1,y,e=>by
  rw[jq]at e;split at e
  ·rename_i x hx;split at e
   ·rename_i hk
    rcases OT.1 e with e|e
    ·exact oE ho hh k y e
    ·rw[OE.1 e]
     rcases ho k x hx with q|⟨o,q,_⟩
     ·exact(hh k x hx hk q).elim
     ·exact(dM ho).2 ⟨x,hx,by rw[q];rfl⟩
   ·exact oE ho hh k y e
  ·exact oE ho hh k y e
section
variable {an:RSt->()->RSt}
theorem qn(ha:∀r ev,Inv X h r->Inv X h (an r ev)):∀(n:Nat) (r:RSt),Inv X h r->Inv X h (dZ an n r)
 |0,r,g=>by
  unfold dZ;split
  ·exact g
  ·split<;>exact g
 |n+1,r,g=>by
  unfold dZ;split
  ·exact g
  ·split
   ·exact qn ha n _ (ha _ _ g)
   ·exact g
theorem wU(ha:∀r ev,Inv X h r->Inv X h (an r ev)){r:RSt}(g:Inv X h r)(ev:()):Inv X h (bY an r ev):=qn ha 60 _ g
theorem zE(ha:∀r ev,Inv X h r->Inv X h (an r ev))(t:Nat):∀(n k:Nat) (r:RSt),Inv X h r->(∀x∈(eQ an t n k r).1,Inv X h x.2)/\Inv X h (eQ an t n k r).2
 |0,_,r,g=>⟨fun x hx=>zau,g⟩
 |n+1,k,r,g=>by
  unfold eQ;split
  ·split
   ·exact zfK
   ·rename_i f _;have g2:Inv X h (bY an (jR r f) f.ev):=wU ha (r:=jR r f) g f.ev;split
    ·split
     ·exact⟨fun x hx=>by rw[OE.1 hx];exact g2,g2⟩
     ·obtain⟨i1,i2⟩:=zE ha t n (k+1) _ g2;exact⟨fun x hx=>(P2.1 hx).elim (fun e=>by rw[e];exact g2) (i1 x),i2⟩
    ·exact⟨fun x hx=>by rw[OE.1 hx];exact g2,g2⟩
  ·exact zfK
end
end Y
end
section
open Go.RowKit Go.Proofs Go.Shelf
theorem ph{fn:Func}{t u v x:Tmp}(h:fn.results=#[.tmp t,.tmp u,.tmp v,.tmp x])(tmps:Array Value)(P:Program)(w:World):(results fn tmps).run P w=.ok (.tuple #[tmps.getD t undef,tmps.getD u undef,tmps.getD v undef,tmps.getD x undef]) w:=by
 simp[results,h]
namespace Y
theorem fuel_err(n:Nat)(h:n=0\/n=5\/n=6):∃k,fuelV n=nK k/\(k=if n=6 then 6 else 0):=by
 rcases h with rfl|rfl|rfl
 ·exact⟨0,rfl,rfl⟩
 ·exact⟨0,rfl,rfl⟩
 ·exact⟨6,rfl,rfl⟩
end Y
end
section
namespace F
def mk(l:List UInt8):():=⟨⟨l⟩⟩
def kt:Nat->List UInt8
 |0=>[115,116,97,116,101,32,115,104,117,116,10,32,111,110,32,111,112,101,110,32,116,111,32,111,112,101,110,10,115,116,97,116,101,32,111,112,101,110,10,32,97,102,116,101,114,32,53,32,116,111,32,115,104,117,116,10,32,111,110,32,99,108,111,115,101,32,116,111,32,115,104,117,116,10]
 |1=>kt 0
 |2=>[112,97,114,97,108,108,101,108,32,112,10,32,115,116,97,116,101,32,97,10,32,32,115,116,97,116,101,32,97,49,10,32,32,32,111,110,32,120,32,116,111,32,97,50,10,32,32,102,105,110,97,108,32,97,50,10,32,115,116,97,116,101,32,98,10,32,32,115,116,97,116,101,32,98,49,10,32,32,32,111,110,32,121,32,116,111,32,98,50,10,32,32,102,105,110,97,108,32,98,50,10,32,111,110,32,100,111,110,101,46,112,32,116,111,32,101,10,115,116,97,116,101,32,101,10]
 |3=>[115,116,97,116,101,32,109,10,32,115,116,97,116,101,32,105,10,32,32,111,110,32,110,32,116,111,32,107,10,32,115,116,97,116,101,32,107,10,32,32,115,116,97,116,101,32,107,49,10,32,32,32,111,110,32,110,32,116,111,32,107,50,10,32,32,115,116,97,116,101,32,107,50,10,32,104,105,115,116,111,114,121,32,104,10,32,104,105,115,116,111,114,121,32,103,32,100,101,101,112,10,32,111,110,32,111,117,116,32,116,111,32,111,10,115,116,97,116,101,32,111,10,32,111,110,32,104,32,116,111,32,104,10,32,111,110,32,103,32,116,111,32,103,10,32,111,110,32,109,32,116,111,32,109,10]
 |4=>kt 3
 |5=>[115,116,97,116,101,32,97,10,32,111,110,32,120,32,116,111,32,98,32,100,111,32,114,97,105,115,101,32,114,10,32,108,101,97,118,101,32,100,111,32,114,97,105,115,101,32,108,10,115,116,97,116,101,32,98,10,32,101,110,116,101,114,32,100,111,32,114,97,105,115,101,32,110,10,32,111,110,32,108,32,116,111,32,99,10,115,116,97,116,101,32,99,10,32,111,110,32,114,32,116,111,32,100,10,115,116,97,116,101,32,100,10,32,111,110,32,110,32,116,111,32,101,10,102,105,110,97,108,32,101,10]
 |6=>[115,116,97,116,101,32,97,10,32,115,116,97,116,101,32,98,10,32,32,111,110,32,120,32,116,111,32,98,10,32,32,97,102,116,101,114,32,51,32,100,111,32,115,101,110,100,32,115,32,50,10,32,101,110,116,101,114,32,100,111,32,115,101,110,100,32,116,32,52,10,32,111,110,32,115,32,116,111,32,99,10,32,111,110,32,116,10,115,116,97,116,101,32,99,10]
 |7=>[115,116,97,116,101,32,97,10,32,97,102,116,101,114,32,48,32,116,111,32,98,10,115,116,97,116,101,32,98,10,32,97,102,116,101,114,32,48,32,116,111,32,99,10,115,116,97,116,101,32,99,10]
 |8=>[115,116,97,116,101,32,97,10,32,101,110,116,101,114,32,100,111,32,115,101,110,100,32,120,32,49,32,100,111,32,115,101,110,100,32,120,32,50,32,100,111,32,115,101,110,100,32,120,32,51,32,97,115,32,107,10,32,111,110,32,120,32,100,111,32,99,97,110,99,101,108,32,107,10]
 |9=>[115,116,97,116,101,32,97,10,32,111,110,32,120,32,116,111,32,98,10,32,115,116,97,116,101,32,98,10,32,32,111,110,32,120,10,32,115,116,97,116,101,32,99,10,32,32,111,110,32,120,32,116,111,32,97,10]
 |10=>[112,97,114,97,108,108,101,108,32,112,10,32,115,116,97,116,101,32,97,10,32,32,111,110,32,120,32,116,111,32,99,10,32,115,116,97,116,101,32,98,10,32,32,111,110,32,120,32,116,111,32,100,10,115,116,97,116,101,32,99,10,115,116,97,116,101,32,100,10]
 |_=>[112,97,114,97,108,108,101,108,32,112,10,32,115,116,97,116,101,32,97,10,32,32,115,116,97,116,101,32,97,49,10,32,32,32,111,110,32,120,32,116,111,32,98,50,10,32,115,116,97,116,101,32,98,10,32,32,115,116,97,116,101,32,98,49,10,32,32,115,116,97,116,101,32,98,50,10]
def kd:Nat->List (List UInt8)
 |0=>[[111,112,101,110],[46,52],[46,53],[111,112,101,110],[99,108,111,115,101],[46,57,57]]
 |1=>[[99,108,111,115,101],[111,112,101,110],[46,51],[46,50],[46,49,48,48]]
 |2=>[[121],[120]]
 |3=>[[110],[110],[111,117,116],[104],[111,117,116],[103],[111,117,116],[109]]
 |4=>[[111,117,116],[103],[110],[110],[111,117,116],[103]]
 |5=>[[120],[121]]
 |6=>[[46,51],[46,49,48]]
 |7=>[[46,48]]
 |8=>[[46,57]]
 |9=>[[120]]
 |10=>[[120]]
 |_=>[[120]]
