import Derived.Test.YtibbecdlllchkaaGreatDoorM20
import Derived.Test.YtibbecdlllchkaaGreatDoorM21
set_option maxRecDepth 100000
set_option maxHeartbeats 8000000
namespace Go.Proofs.YtibbecdlllchkaaGreatDoor
theorem zdQ{zp:Prop}(h:zp:=by
 have:=hM.cell 419 zac;rw[show Y.fF pb qv (r2.m wh) 419=Y.fw r2.fin from rfl,hf2]at this;exact this):zp:=h
theorem zbC{zp:Prop}(h:zp:=by simp at hu;rcases hu with rfl|rfl|rfl<;>rfl):zp:=h
open Tryz
section
open Go.RowKit Go.Proofs Go.Shelf
namespace Y
abbrev sg(w:World):Prop:=w.cell? ⟨0,0,none⟩=some (.iface 211 (.agg #[.pointer (some ⟨9,42,none⟩)]))
def oB(n:Nat):Value:=if n=0 then .nilIface else .iface 29 (.int .i64 n)
theorem BY(n:Nat)(w:World)(hg:sg w):() 15 #[oB n] w fun ev w'=>ev=.returned (.tuple #[(n:Int),(0:Int)])/\Below w w w':=by
 unfold oB;by_cases h:n=0
 ·rw[PC h,h];exact uJ w
 ·rw[Pu h];exact uH n w hg
abbrev sj(w:World)(xb mb:Nat):Prop:=w.heap[xb]?=some (.cells #[mb] 107 (0,0))
end Y
section
variable (w:World)(xb mb:Nat)(R:Value->Nat->World->Prop)(hx:Y.sj w xb mb)(hR:∀l n V,R l n V->Y.sg V)
theorem kQ(hx:Y.sj w xb mb):() 50 #[xb] w fun e w'=>e=.returned false/\w'=w:=by
 have c0:w.cell? xb=some ↑mb:=(Pt w _ _ _ _ _ hx).trans rfl;clear hx;go_enter func50,ntmps50;exact zfr
theorem zw(hx:Y.sj w xb mb)(ev:())(h:() 51 #[mb,ev] w fun e w'=>∃l n,e=.returned (.tuple #[l,Y.oB n])/\R l n w'):
  () 27 #[xb,ev] w fun e w'=>∃l n,e=.returned (.tuple #[l,Y.oB n])/\R l n w':=by
 have c0:w.cell? xb=some ↑mb:=(Pt w _ _ _ _ _ hx).trans rfl;have HN:Hid _:=kQ w xb mb hx;have HE:Hid _:=h;clear hx h;go_enter func27,ntmps27;go_wp2_with(first
  |(go_at_call 50;refine Pw HN.out ?_;rintro e w1 ⟨rfl,Vg⟩;rw[Vg];clear Vg w1)
  |(go_at_call 51;refine Pw HE.out ?_;rintro e w2 ⟨l,n,rfl,h2⟩;obtain⟨vn,hvn⟩:∃vn,vn=Y.oB n:=⟨_,rfl⟩;rw[<- hvn];have HVN:Hid _:=hvn;clear hvn))
 go_ret2;exact⟨l,n,by rw[<- HVN.out];rfl,h2⟩
theorem zu(hx:Y.sj w xb mb)(t:Nat)(h:() 52 #[mb,.int .u64 t] w fun e w'=>∃l n,e=.returned (.tuple #[l,Y.oB n])/\R l n w'):
  () 28 #[xb,.int .u64 t] w fun e w'=>∃l n,e=.returned (.tuple #[l,Y.oB n])/\R l n w':=by
 have c0:w.cell? xb=some ↑mb:=(Pt w _ _ _ _ _ hx).trans rfl;have HN:Hid _:=kQ w xb mb hx;have HE:Hid _:=h;clear hx h;go_enter func28,ntmps28;go_wp2_with(first
  |(go_at_call 50;refine Pw HN.out ?_;rintro e w1 ⟨rfl,Vg⟩;rw[Vg];clear Vg w1)
  |(go_at_call 52;refine Pw HE.out ?_;rintro e w2 ⟨l,n,rfl,h2⟩;obtain⟨vn,hvn⟩:∃vn,vn=Y.oB n:=⟨_,rfl⟩;rw[<- hvn];have HVN:Hid _:=hvn;clear hvn))
 go_ret2;exact⟨l,n,by rw[<- HVN.out];rfl,h2⟩
theorem ui(hx:Y.sj w xb mb)(hR:∀l n V,R l n V->Y.sg V)(ev:())(h:() 51 #[mb,ev] w fun e w'=>∃l n,e=.returned (.tuple #[l,Y.oB n])/\R l n w'):
  () 17 #[xb,ev] w fun e w'=>∃(l:Value) (n:Nat) (V:World),e=.returned (.tuple #[l,(n:Int)])/\R l n V/\Below V V w':=by
 have HS:Hid _:=zw w xb mb R hx ev h;have HT:Hid (∀l n V,R l n V->() 15 #[Y.oB n] V fun ev w'=>ev=.returned (.tuple #[(n:Int),(0:Int)])/\Below V.heap.size V w'):=fun l n V h=>Y.BY n V (hR l n V h);clear hx h hR;go_enter func17,ntmps17;go_wp2_with(first
  |(go_at_call 27;refine Pw HS.out ?_;rintro e w1 ⟨l,n,rfl,h1⟩;have HT1:Hid _:=HT.out l n w1 h1;generalize Y.oB n=vn at *)
  |(go_at_call 15;refine Pw HT1.out ?_;rintro e w2 ⟨rfl,U4⟩))
 go_ret2;exact⟨_,_,_,rfl,h1,U4⟩
theorem uh(hx:Y.sj w xb mb)(hR:∀l n V,R l n V->Y.sg V)(t:Nat)(h:() 52 #[mb,.int .u64 t] w fun e w'=>∃l n,e=.returned (.tuple #[l,Y.oB n])/\R l n w'):
  () 18 #[xb,.int .u64 t] w fun e w'=>∃(l:Value) (n:Nat) (V:World),e=.returned (.tuple #[l,(n:Int)])/\R l n V/\Below V V w':=by
 have HS:Hid _:=zu w xb mb R hx t h;have HT:Hid (∀l n V,R l n V->() 15 #[Y.oB n] V fun ev w'=>ev=.returned (.tuple #[(n:Int),(0:Int)])/\Below V.heap.size V w'):=fun l n V h=>Y.BY n V (hR l n V h);clear hx h hR;go_enter func18,ntmps18;go_wp2_with(first
  |(go_at_call 28;refine Pw HS.out ?_;rintro e w1 ⟨l,n,rfl,h1⟩;have HT1:Hid _:=HT.out l n w1 h1;generalize Y.oB n=vn at *)
  |(go_at_call 15;refine Pw HT1.out ?_;rintro e w2 ⟨rfl,U4⟩))
 go_ret2;exact⟨_,_,_,rfl,h1,U4⟩
end
attribute [local go_sem] Qu
theorem wC:(Tryz.prog.info? 50).map (fun i=>(i.zero,i.size,i.bytes))=some (some (.agg #[.string ⟨#[]⟩,.int .u64 0,.slice none 0 0]),3,48):=zab
theorem I4(mb t:Nat)(w:World):() 85 #[(mb,27),.int .u64 t] w fun e w'=>e=.returned (.func (.func 126) #[] #[w,↑(w.heap.size+1)])/\w'=(w.alloc (.cells #[(mb,27)] 296)).alloc (.cells #[.int .u64 t] 48):=by
 go_enter func85,ntmps85;go_wp2;go_ret;exact⟨zad,rfl⟩
namespace Y
theorem yh{w w1 w5:World}{lo:Y.Lo}{mb pb t g5 cap5:Nat}{ps:List PS}{r2:RSt}{ev:()}{sa:Option Addr}{sc:Nat}{L:List (()×RSt)}{nv:Value}{vs:List Value}(hl:Lw lo)(U8:lo<=w.heap.size)(hL:CkL w w1 lo mb pb ps r2)(hS:CkS w w1 mb t (.slice sa L.length sc) L)(hvs:vs.length=L.length)(VD:Nms w1 lo nv ((els r2.act).map (bR ps)))(hnms:∀y∈L.zip vs,Nms w1 lo y.2 ((els y.1.2.act).map (bR ps)))
  (hg:(w1.alloc (.cells #[ev,.int .u64 r2.now,nv] 50)).grownBy w5 (Value.ownBlock (.slice sa L.length sc))) (ho:w5.ownsRow w 50 3 (.slice g5 (L.length+1) cap5) (L.length+1) ((L.zip vs).flatMap stC++[.string ev,.int .u64 r2.now,nv])):
  Boxed w5 (w.heap.size+2) 26 (.slice sa L.length sc)/\Boxed w5 w 100 mb/\(∀(k:Nat) (c:Array Value),w1.heap[k]?=some (.cells c 227 (0,0))->w5.heap[k]?=some (.cells c 227 (0,0)))/\KeepsOthers w1 (w5.setCell ↑(w.heap.size+2) (.slice g5 (L.length+1) cap5)) /\
   CkL w (w5.setCell ↑(w.heap.size+2) (.slice g5 (L.length+1) cap5)) lo mb pb ps r2/\CkS w (w5.setCell ↑(w.heap.size+2) (.slice g5 (L.length+1) cap5)) mb t (.slice g5 (L.length+1) cap5) (L++[(ev,r2)])/\LN (w5.setCell ↑(w.heap.size+2) (.slice g5 (L.length+1) cap5)) w.heap.size lo ps (.slice g5 (L.length+1) cap5) (L++[(ev,r2)]):=by
 have Wj:=hS.st.kind;have VK:Below w1 w1 (w1.alloc (.cells #[ev,.int .u64 r2.now,nv] 50)):=(Pq _ w1).alloc (Po _) _;have hm:Mo (fun k=>Value.ownBlock (.slice sa L.length sc)=some k) w1 w5:=(az VK).trans ⟨hg.os,hg.tape,hg.output,hg.size,fun k hk hn=>hg.block k hk (fun e=>hn e.symm)⟩;have VN:Kd (fun t=>t=50) w1 w5:=gS hm (fun k c t f hp hc=>by
  obtain⟨_,c',Ve⟩:=Wj k hp;rw[hc]at Ve;cases Ve
  rfl)
 have U4:=VN.boxed hS.b2 zac;have hm2:Mo (fun k=>Value.ownBlock (.slice sa L.length sc)=some k\/k=w.heap.size+2) w1 (w5.setCell ↑(w.heap.size+2) (.slice g5 (L.length+1) cap5)):=(hm.mono (fun _ _ h=>.inl h)).set _ _ (.inr rfl);have Z8:Mo (·=w.heap.size+2) w5 (w5.setCell ↑(w.heap.size+2) (.slice g5 (L.length+1) cap5)):=(Mo.refl _ _).set _ _ rfl;have hks:Kd (fun t=>t=26) w5 (w5.setCell ↑(w.heap.size+2) (.slice g5 (L.length+1) cap5)):=gS Z8 (fun k c t f hp hc=>by
  subst hp;rw[show w5.heap[w.heap.size+2]?=_ from U4]at hc;cases hc
  rfl)
 have U5:(w5.setCell ↑(w.heap.size+2) (.slice g5 (L.length+1) cap5)).ownsRow w 50 3 (.slice g5 (L.length+1) cap5) (L++[(ev,r2)]).length (((L++[(ev,r2)]).zip (vs++[nv])).flatMap stC):=by
  have:=Kd.row hks ho zac;rw[Ue hvs.symm,Qc,PI];exact this
 refine⟨U4,VN.boxed hS.b0 zac,fun k c hk=>(VN.aq _ _ _ _ hk zac).trans hk,?_,?_,?_,vs++[nv],by simp[hvs],U5,fun y hy=>?_⟩
 ·refine KeepsOthers.trans ⟨hm.size,fun k o hk hc=>hm.block k (Pn.1 hk).1 (fun e=>?_) |>.trans hk⟩ (Qz _ _ _);obtain⟨_,c',Ve⟩:=Wj k e;rw[hk]at Ve;cases Ve
  cases hc
 ·refine hL.own hl U8 hm2 (fun k hk=>?_)
  rcases hk with e|rfl
  ·obtain⟨a,c',Ve⟩:=Wj k e;exact⟨a,c',_,Ve,zau⟩
  ·exact⟨zaa,_,_,hS.b2,zau⟩
 ·refine⟨hks.boxed (VN.boxed hS.b0 zac) zac,hks.boxed (VN.boxed hS.b1 zac) zac,U4.set _,hks.boxed (VN.boxed hS.b3 zac) zac,hks.boxed (VN.boxed hS.b4 zac) zac,vs++[nv],by simp[hvs],U5⟩
 ·rw[Ue hvs.symm]at hy
  rcases PQ.1 hy with hy|hy
  ·exact Kd.row hks (Kd.row VN (hnms y hy) zac) zac
  ·obtain rfl:=PB.1 hy;exact Kd.row hks (Kd.row VN VD zac) zac
end Y
section
variable (w:World)(lo:Y.Lo)(mb pb b cap:Nat)(ps:List Y.PS)(fin:Nat)(EN LV:Nat->List Y.PA)(hvs:U.Sl)(H:List Y.HV)(D:Nat->Bool)(mbm n:Nat)(T:()->Option (List (Option Y.PM)))(M:()->Option Nat)(Lr:Nat->List (Option Nat))(pmF:Nat->Y.PM)(acF:Nat->List Y.PA)(r:Y.RSt)(t:Nat)
namespace Y
def qo(e:Ending)(w':World):Prop:=
 if r.fin=0 then ∃sv,e=.returned (.tuple #[sv,fuelV (fI (aZ ps fin EN LV H D M Lr pmF acF) t 201 0 r).2.fin])/\xP w' lo sv (fI (aZ ps fin EN LV H D M Lr pmF acF) t 201 0 r).1/\LN w' lo lo ps sv (fI (aZ ps fin EN LV H D M Lr pmF acF) t 201 0 r).1/\Live w' lo mb pb b cap ps fin EN LV hvs H D mbm n T M Lr pmF acF (fI (aZ ps fin EN LV H D M Lr pmF acF) t 201 0 r).2/\Rf lo w w'/\iU w w'
 else e=.returned (.tuple #[.slice none 0 0,fw r.fin])/\Below w w w'
end Y
theorem yi(hP:Y.Live w lo mb pb b cap ps fin EN LV hvs H D mbm n T M Lr pmF acF r)(hf:¬r.fin=0):
  () 52 #[mb,.int .u64 t] w (Y.qo w lo mb pb b cap ps fin EN LV hvs H D mbm n T M Lr pmF acF r t):=by
 obtain⟨qv,wh,hM,_⟩:=hP.mt.ex;have hB:∀o1 o2:Obj,Below w w ((w.alloc o1).alloc o2):=fun o1 o2=>((Pq _ w).alloc (Po _) _).alloc zad _;have he:Y.fw r.fin=.iface 29 (.int .i64 r.fin):=by unfold Y.fw;rw[Pu hf]
 have h5:∀o1 o2:Obj,((w.alloc o1).alloc o2).cell? (mb,419)=some (.iface 29 (.int .i64 r.fin)):=fun o1 o2=>((hB o1 o2).cell (p:=⟨mb,419,none⟩) hM.lt).trans ((hM.cell 419 zac).trans (congrArg some he));have c1:=fun o2=>((P9 w 100 mb).alloc o2).cell;have HF:Hid (¬r.fin=0):=hf;have HE:Hid _:=he;have HB:Hid _:=hB;clear hP hf he hM hB;go_enter func52,ntmps52;go_wp2
 go_quiet(fail)
 go_wp2;go_ret2;unfold Y.qo;rw[Pu HF.out,HE.out];exact⟨rfl,RM (HB.out _ _) _⟩
theorem FJ(hP:Y.Live w lo mb pb b cap ps fin EN LV hvs H D mbm n T M Lr pmF acF r)(ht:t<18446744073709551616)(Vu:∀ev:(),ev.size<=1000000->sf ev):
  () 52 #[mb,.int .u64 t] w (Y.qo w lo mb pb b cap ps fin EN LV hvs H D mbm n T M Lr pmF acF r t):=by
 by_cases hf:¬r.fin=0
 ·exact yi w lo mb pb b cap ps fin EN LV hvs H D mbm n T M Lr pmF acF r t hP hf
 have hf:r.fin=0:=Decidable.not_not.1 hf;have Vc:=hP.run.bJ.lw;have U8:=hP.mt.lo';obtain⟨an,han⟩:∃an,Y.aZ ps fin EN LV H D M Lr pmF acF=an:=⟨_,rfl⟩;have HTN:Hid (∀(r1:Y.RSt) (ev:()) (V:World),ev.size<=1000000->Y.CkL w V lo mb pb ps r1->() 84 #[mb,.string ev] V fun e w'=>∃a k c,e=.returned (.agg #[.string ev,.int .u64 (Y.cR an r1 ev).now,.slice a k c])/\Hid (Y.CkL w w' lo mb pb ps (Y.cR an r1 ev)/\Y.Rf lo V w'/\Y.Nms w' lo (.slice a k c) ((Y.els (Y.cR an r1 ev).act).map (Y.bR ps))/\Y.iU V w')):=fun r1 ev V he h1=>by
  refine Pw (Cd V lo mb pb b cap ps fin EN LV hvs H D mbm n T M Lr pmF acF r1 ev ⟨hP.run.rf h1.rf,hP.sz,hP.sza,h1.mt,h1.ok,h1.qk,h1.q0,h1.idl⟩ he (Vu ev he)) ?_;rintro e w' ⟨a,k,c,rfl,h2⟩;obtain⟨h3,h4,h5,h6⟩:=h2.out;rw[han]at h3 h5⊢;exact⟨a,k,c,rfl,⟨h3.mt,h1.rf.trans h4,h3.ok,h3.qk,h3.q0,h3.idl,h1.str.trans h6⟩,h4,h5,h6⟩
 have XU:Hid (∀(sv:Value) (L:List (()×Y.RSt)) (r2:Y.RSt) (V:World),Y.CkL w V lo mb pb ps r2->Y.CkS w V mb t sv L->Y.LN V w lo ps sv L->Y.fI an t 201 0 r=(L,r2)->Y.qo w lo mb pb b cap ps fin EN LV hvs H D mbm n T M Lr pmF acF r t (.returned (.tuple #[sv,Y.fuelV r2.fin])) V):=fun sv L r2 V h1 h2 hN h3=>by
  unfold Y.qo;rw[PC hf,han,h3];obtain⟨vs,y1,y2⟩:=h2.st;exact⟨sv,rfl,⟨vs,y1,y2.1,y2.2.imp id (fun⟨g,cp,cu,z1,z2,z3⟩=>⟨g,cp,cu,z1,Pr U8 z2,z3⟩)⟩,by
   obtain⟨vs,y1,y2,y3⟩:=hN;exact⟨vs,y1,⟨y2.1,y2.2.imp id (fun⟨g,cp,cu,z1,z2,z3⟩=>⟨g,cp,cu,z1,Pr U8 z2,z3⟩)⟩,y3⟩,⟨hP.run.rf h1.rf,hP.sz,hP.sza,h1.mt,h1.ok,h1.qk,h1.q0,h1.idl⟩,h1.rf,h1.str⟩
 have hL0:∀V:World,Below w w V->Y.CkL w V lo mb pb ps r:=fun V hV=>⟨hP.mt.below Vc hV,Y.RfE.of hV U8,hP.ok,hP.qk,hP.q0,hP.idl.bel hP.mt.lt hV,.bel hV⟩;have h5:∀V:World,Below w w V->V.cell? ⟨mb,419,none⟩=some .nilIface:=fun V hV=>by
  obtain⟨qv,wh,hM,_⟩:=(hL0 V hV).mt.ex;have:=hM.cell 419 zac;rw[show Y.fF pb qv (r.m wh) 419=Y.fw r.fin from rfl,hf]at this;exact this
 obtain⟨i0,hi,Vv,Vk,Vl⟩:=QV wC;clear hP Vu han;have V6:∀o1 o2:Obj,Below w w ((w.alloc o1).alloc o2):=fun o1 o2=>((Pq _ w).alloc (Po _) _).alloc zad _;have Xi:∀o1 o2 o3:Obj,Below w w (((w.alloc o1).alloc o2).alloc o3):=fun o1 o2 o3=>(V6 o1 o2).alloc zaf _;have h52:=fun o1 o2=>h5 _ (V6 o1 o2);have c1:=fun o2=>((P9 w 100 mb).alloc o2).cell;refine(P8 (n:=8)).1 ?_;refine Qv func52 rfl trivial ?_ rfl;simp only[ntmps52,List.size_toArray,List.length_cons,List.length_nil,Nat.reduceAdd,Nat.reduceSub,Array.replicate_succ,Array.replicate_zero,List.push_toArray,List.append_toArray,List.nil_append,List.cons_append];gi_wp2;obtain⟨W3,hW3⟩:∃W3,((w.alloc (.cells #[mb] 100)).alloc (.cells #[.int .u64 t] 48)).alloc (.cells #[.slice none 0 0] 26)=W3:=⟨_,rfl⟩;have hB30:=Xi (.cells #[mb] 100) (.cells #[.int .u64 t] 48) (.cells #[.slice none 0 0] 26);have x0:Boxed W3 w 100 mb:=hW3▸((P9 w 100 mb).alloc _).alloc _;have x1:Boxed W3 (w.heap.size+1) 48 (.int .u64 t):=by
  have:=(P9 (w.alloc (.cells #[mb] 100)) 48 (.int .u64 t)).alloc (.cells #[.slice none 0 0] 26);rw[hW3,QL]at this;exact this
 have x2:Boxed W3 (w.heap.size+2) 26 (.slice none 0 0):=by
  have:=P9 ((w.alloc (.cells #[mb] 100)).alloc (.cells #[.int .u64 t] 48)) 26 (.slice none 0 0);rw[hW3,QL,QL]at this;exact this
 have Xx:W3.heap.size=w.heap.size+3:=by rw[<- hW3];simp
 rw[hW3]at hB30⊢;clear hW3 h52 Xi V6 c1;have y0:W3.drew.cell? w=_:=x0.cell;have y1:W3.drew.cell? ↑(w.heap.size+1)=_:=x1.cell;refine bc nV 4 zab zab zab ?_;simp only[List.take_succ_cons,List.take_zero,List.drop_succ_cons,List.drop_zero]
 repeat still_step
 refine QY ?_;gi_wp2_with(refine⟨trivial,?_⟩;gi_at_call 85;refine(P8.2 (I4 mb t _)).mono ?_;rintro e w9 ⟨rfl,U1⟩;rw[U1];clear U1 w9);have VG:Below w w ((W3.alloc (.cells #[(mb,27)] 296)).alloc (.cells #[.int .u64 t] 48)).drew:=((hB30.alloc zaa _).alloc zaf _).drew;have VL:Below W3 W3 ((W3.alloc (.cells #[(mb,27)] 296)).alloc (.cells #[.int .u64 t] 48)).drew:=(((Pq _ W3).alloc (Po _) _).alloc (by rw[QL];exact UX _) _).drew;have x3:Boxed ((W3.alloc (.cells #[(mb,27)] 296)).alloc (.cells #[.int .u64 t] 48)).drew (w.heap.size+3) 296 (mb,27):=by
  have:=(P9 W3 296 (mb,27)).alloc (.cells #[.int .u64 t] 48);rw[Xx]at this;exact this
 have x4:Boxed ((W3.alloc (.cells #[(mb,27)] 296)).alloc (.cells #[.int .u64 t] 48)).drew (w.heap.size+4) 48 (.int .u64 t):=by
  have:=P9 (W3.alloc (.cells #[(mb,27)] 296)) 48 (.int .u64 t);rw[QL,Xx]at this;exact this
 have Y2:(((W3.alloc (.cells #[(mb,27)] 296)).alloc (.cells #[.int .u64 t] 48)).drew).heap.size=w.heap.size+5:=by show((W3.alloc _).alloc _).heap.size=_;rw[QL,QL,Xx]
 (try simp only[Xx])
 generalize((W3.alloc (.cells #[(mb,27)] 296)).alloc (.cells #[.int .u64 t] 48)).drew=W0 at *;have hI0:Y.CkI w lo mb pb ps an t r (0,r) W0:=⟨[],.slice none 0 0,rfl,PK _,(fun h=>by have h:(0:Nat)=200:=h;omega),hf,hL0 W0 VG,⟨aD x0 VL x0.lt,aD x1 VL x1.lt,aD x2 VL x2.lt,x3,x4,[],rfl,QC ..⟩,⟨[],rfl,QC ..,fun y hy=>(by cases hy)⟩,rfl⟩;clear x0 x1 x2 x3 x4 y0 y1 hL0 h5 hB30 VL Xx hf;have U6:∀(row:Option Nat) (A:World),(∀r,row=some r->W0.heap.size<=r/\∃o:Obj,A.heap[r]?=some o/\o.isCells=false)->∀r,row=some r->w.heap.size<=r/\∃o:Obj,A.heap[r]?=some o/\o.isCells=false:=fun row A h r e=>⟨by have:=(h r e).1;omega,(h r e).2⟩;refine J6 rfl zaa (gf:=126) rfl trivial (RT func126 zab rfl)
  (NC _ zaa W0 lo mb pb (w.heap.size+3) (w.heap.size+4) t ht Vc) (fun _=>rfl)
  (Y.CkI w lo mb pb ps an t r) (Y.CkT w lo mb pb ps an t r) (Y.CkF w lo mb pb ps an t r) (Y.CkF w lo mb pb ps an t r)
  (fun s f a' V=>∃bt,a'=⟨#[.pointer (some ⟨mb,0,none⟩),.int .u64 t,.pointer (some ⟨w.heap.size,0,none⟩),.pointer (some ⟨w.heap.size+1,0,none⟩),.slice none 0 0,.nilIface,.pointer (some ⟨w.heap.size+2,0,none⟩),.pointer (some ⟨bt,0,none⟩),.pointer (some ⟨mb,0,none⟩),.pointer (some ⟨mb,0,none⟩),.pointer (some ⟨mb,419,none⟩),.nilIface,.bool false,undef,undef,undef,undef,.pointer (some ⟨mb,0,none⟩),.pointer (some ⟨mb,0,none⟩),.pointer (some ⟨mb,27,none⟩),.int .u64 t,.func (.func 126) #[] #[.pointer (some ⟨w.heap.size+3,0,none⟩),.pointer (some ⟨w.heap.size+4,0,none⟩)],.agg #[.string f.ev,.string f.nm],undef,undef,undef,undef,undef,undef,undef,undef,undef,undef,undef,undef,undef,undef,undef,undef,undef,undef,undef,undef,undef,undef,undef,undef,undef,undef,undef,undef,undef,undef,undef,undef,undef,undef,undef,undef],[]⟩/\V.heap[bt]?=some (.cells #[.string f.ev,.string f.nm] 227 (0,0))/\Y.CkT w lo mb pb ps an t r s f V) 0
  (fun s A C row h hg hr=>h.gr Vc U8 hg (U6 row A hr)) (fun _ A C row h hg hr=>h.gr Vc U8 hg (U6 row A hr)) (fun _ A C row h hg hr=>h.gr Vc U8 hg (U6 row A hr))
  (fun s f a' _ A C row h hg hr=>by
   obtain⟨bt,e1,e2,e3⟩:=h;exact⟨bt,e1,((Y.iJ (E:=fun _=>False) hg (fun r e=>(hr r e).2)).aq _ _ _ _ e2 (fun h=>h)).trans e2,e3.gr Vc U8 hg (U6 row A hr)⟩)
  (fun s V h=>by
   obtain⟨L,sv,a,b,c,_,d,e,_,g⟩:=h;exact⟨⟨b,d.mt,d.qk.tm,e.b3.cell,e.b4.cell⟩,fun V' hV=>⟨(aD e.b3 hV e.b3.lt).cell,(aD e.b4 hV e.b4.lt).cell⟩⟩)
  (fun s f V V' h k=>h.MH k) (fun s V V' h k=>h.Oh k) (fun s f V V' k=>k.2.2.2.1.oth.from _) (fun s V V' k=>k.2.2.1.oth.from _) (0,r) hI0 ?assign ?body ?done ?stop
 case assign=>
  intro l s f V K hI hK;unfold Y.tnV;gi_wp2_with(show wpListIn _ _ _ _ _ (Oper.mk none _ _ _ _ _::_) _ _;refine uV (dP l) rfl (fun c h=>zaE) (fun K2 hK2=>lY 227 (.tmp 7) (.tmp 22) rfl V 227 #[.string ⟨#[]⟩,.string ⟨#[]⟩] #[f.ev,f.nm] rfl rfl (PG V _) nP rfl rfl (hK2 _ _ ?_));rw[World.setRow_alloc_new]);have VK:Below V V (V.alloc (.cells #[f.ev,f.nm] 227)):=(Pq _ V).alloc (Po _) _;exact hK _ _ ((Y.eJ VK).from _) ⟨V.heap.size,rfl,PG V _,hI.below Vc VK⟩
 case body=>
  rintro l ⟨k,rs⟩ f a' V hl ⟨bt,rfl,hbt,L,sv,hLk,hk,Wq,hdue,hhd,hCL,hCS,hLN,ZV⟩;dsimp only at hLk hk hdue hhd hCL ZV;obtain⟨sa,sc,rfl⟩:=hCS.st.n;obtain⟨vs,hvs0,U2,hnms⟩:=hLN;have HNM:Hid _:=hnms;clear hnms;obtain⟨r2,XN⟩:∃r2,Y.cR an (Y.lW rs f) f.ev=r2:=⟨_,rfl⟩;have HN:Hid _:=Y.IT hk hdue hhd ZV XN;have VL:Below V V V.drew:=(Pq _ V).drew;have Yw:=hCS.below VL;have HTU:Hid _:=HTN.out (Y.lW rs f) f.ev V.drew Wq (hCL.below Vc VL);rw[XN]at HTU;have U9:¬bt=w.heap.size+2:=fun e=>by
   rw[e,show V.heap[w.heap.size+2]?=_ from hCS.b2]at hbt;cases hbt
  have hS:∀W:World,Y.CkS w W mb t (.slice sa L.length sc) L->W.heap[bt]?=some (.cells #[f.ev,f.nm] 227 (0,0))->(fun V=>V.cell? w=some ↑mb/\V.cell? bt=some ↑f.ev) W:=fun W h1 h2=>⟨h1.b0.cell,(Pt W _ _ _ _ _ h2).trans rfl⟩;have hbtd:V.drew.heap[bt]?=some (.cells #[f.ev,f.nm] 227 (0,0)):=hbt;have HC1:Hid (∀w1,Y.Rf lo V.drew w1->Y.CkS w w1 mb t (.slice sa L.length sc) L/\w1.heap[bt]?=some (.cells #[f.ev,f.nm] 227 (0,0))/\w.heap.size<=w1.heap.size/\∀c:Array Value,Y.CkS w (w1.alloc (.cells c 50)) mb t (.slice sa L.length sc) L/\(w1.alloc (.cells c 50)).heap[bt]?=some (.cells #[f.ev,f.nm] 227 (0,0))/\(w1.alloc (.cells c 50)).ownsRow w 50 3 (.slice sa L.length sc) L.length ((L.zip vs).flatMap Y.stC)):=fun w1 h=>by
   have a1:=Yw.rf h;have a2:=(h.kd.aq _ _ _ _ hbtd Y.yX).trans hbtd;have a3:w1.ownsRow w 50 3 (.slice sa L.length sc) L.length ((L.zip vs).flatMap Y.stC):=Kd.row h.kd (Kd.row (bB (E:=fun _=>False) VL) U2 (fun h=>h)) Y.qG;refine⟨a1,a2,UO (Qq zaa a1.b0.lt),fun c=>?_⟩;have hb:Below w1 w1 (w1.alloc (.cells c 50)):=(Pq _ w1).alloc (Po _) _;exact⟨a1.below hb,(hb.block _ (Pn.1 a2).1).trans a2,Kd.row (bB (E:=fun _=>False) hb) a3 (fun h=>h)⟩
  have cx1:V.drew.cell? ↑(w.heap.size+2)=some (.slice sa L.length sc):=Yw.b2.cell;have hS0:=hS _ Yw hbtd;have hLe:L.length<=200:=zaa;have HLK:Hid (L.length=k):=hLk;clear hLk;clear hbt hCS U2 hdue hhd ZV XN Yw hbtd;gi_wp2;refine dr (S:=(fun V=>V.cell? w=some ↑mb/\V.cell? bt=some ↑f.ev)) zab zab zbl hS0 (fun Pm=>?_);refine tD (some 24) 1 mb rfl Pm ?_;refine tD (some 25) 2 bt rfl Pm ?_;refine tD (some 26) 3 (.string f.ev) rfl Pm ?_;refine yH [0,4] ?_;refine Qk rfl (fun K hK=>?rg1) (Qk rfl (fun K hK=>?rg2) QX)
  case' rg1=>
   go_simp;refine hK.out _ _ Pm (fun Pm=>?_);clear hK K;refine zH 4 rfl fun K hK=>?_;go_simp;refine Pw HTU.out ?_;rintro e w1 ⟨na,nk,nc,rfl,h1⟩;obtain⟨q1,q2,q3,q4⟩:=HC1.out w1 h1.out.2.1;obtain⟨q5,q6,q7⟩:=q4 #[f.ev,.int .u64 r2.now,.slice na nk nc];have cx2:=q1.b2.cell;have cx3:=q5.b2.cell;refine hK.out _ _ (hS _ q1 q2) (fun Pm=>?_);clear hK K;refine zH 5 rfl fun K hK=>?_;go_simp;refine hK.out _ _ (hS _ q5 q6) (fun Pm=>?_);clear hK K;refine zH 6 rfl fun K hK=>?_;refine step_append_lies _ zae _ _ _ zae w.heap.size 50 i0 _ 3 48 underlying26 hi Vv Vk Vl rfl zac (.slice sa L.length sc) L.length ((L.zip vs).flatMap Y.stC) zae q7 ⟨w1,0,none⟩ 1 1 [f.ev,.int .u64 r2.now,.slice na nk nc] zae zae (World.news_of_block (cs:=#[f.ev,.int .u64 r2.now,.slice na nk nc]) (t:=50) (fr:=(0,0)) (PG w1 _)) (fun u hu=>zbC) zaa zag zaa (Pr q3 zad) _ rfl ?_;intro g5 cap5 w5 U6 Pg VJ We;have HK5:Hid _:=Y.yh Vc U8 h1.out.1 q1 hvs0 h1.out.2.2.1 (fun y hy=>(HNM.out y hy).str ((Y.iU.bel VL).trans h1.out.2.2.2)) Pg U6;obtain⟨s1,s2,s3,_⟩:=HK5.out;have s4:=s3 bt _ q2;have c5:=s1.cell;have f5:=s1.frozen;refine hK.out _ _ ⟨s2.cell,(Pt w5 _ _ _ _ _ s4).trans rfl⟩ (fun Pm=>?_);clear hK K;refine zH 7 rfl fun K hK=>?_;go_simp;refine hK.out _ _ (by
    exact⟨(aA zaq).trans Pm.1,(aA zaq).trans Pm.2⟩) (fun Pm=>?_)
   clear hK K Pm;refine PX zab ?_ _
  case' rg2=>
   go_simp;refine Pw HTU.out ?_;rintro e w1 ⟨na,nk,nc,rfl,h1⟩;obtain⟨q1,q2,q3,q4⟩:=HC1.out w1 h1.out.2.1;obtain⟨q5,q6,q7⟩:=q4 #[f.ev,.int .u64 r2.now,.slice na nk nc];have cx2:=q1.b2.cell;have cx3:=q5.b2.cell;refine hK.out _ _ (hS _ q1 q2) (fun Pm=>?_);clear hK K;refine yH [0,5] ?_;refine Qk rfl (fun K hK=>?rg7) (Qk rfl (fun K hK=>?rg8) QX)
   case' rg7=>
    go_simp;refine hK.out _ _ Pm (fun Pm=>?_);clear hK K;refine zH 5 rfl fun K hK=>?_;go_simp;refine hK.out _ _ (hS _ q5 q6) (fun Pm=>?_);clear hK K;refine zH 6 rfl fun K hK=>?_;refine step_append_lies _ zae _ _ _ zae w.heap.size 50 i0 _ 3 48 underlying26 hi Vv Vk Vl rfl zac (.slice sa L.length sc) L.length ((L.zip vs).flatMap Y.stC) zae q7 ⟨w1,0,none⟩ 1 1 [f.ev,.int .u64 r2.now,.slice na nk nc] zae zae (World.news_of_block (cs:=#[f.ev,.int .u64 r2.now,.slice na nk nc]) (t:=50) (fr:=(0,0)) (PG w1 _)) (fun u hu=>zbC) zaa zag zaa (Pr q3 zad) _ rfl ?_;intro g5 cap5 w5 U6 Pg VJ We;have HK5:Hid _:=Y.yh Vc U8 h1.out.1 q1 hvs0 h1.out.2.2.1 (fun y hy=>(HNM.out y hy).str ((Y.iU.bel VL).trans h1.out.2.2.2)) Pg U6;obtain⟨s1,s2,s3,_⟩:=HK5.out;have s4:=s3 bt _ q2;have c5:=s1.cell;have f5:=s1.frozen;refine hK.out _ _ ⟨s2.cell,(Pt w5 _ _ _ _ _ s4).trans rfl⟩ (fun Pm=>?_);clear hK K;refine zH 7 rfl fun K hK=>?_;go_simp;refine hK.out _ _ (by
     exact⟨(aA zaq).trans Pm.1,(aA zaq).trans Pm.2⟩) (fun Pm=>?_)
    clear hK K Pm;refine PX zab ?_ _
   case' rg8=>
    go_simp;refine hK.out _ _ (hS _ q5 q6) (fun Pm=>?_);clear hK K;refine zH 0 rfl fun K hK=>?_;go_simp;refine hK.out _ _ Pm (fun Pm=>?_);clear hK K;refine zH 6 rfl fun K hK=>?_;refine step_append_lies _ zae _ _ _ zae w.heap.size 50 i0 _ 3 48 underlying26 hi Vv Vk Vl rfl zac (.slice sa L.length sc) L.length ((L.zip vs).flatMap Y.stC) zae q7 ⟨w1,0,none⟩ 1 1 [f.ev,.int .u64 r2.now,.slice na nk nc] zae zae (World.news_of_block (cs:=#[f.ev,.int .u64 r2.now,.slice na nk nc]) (t:=50) (fr:=(0,0)) (PG w1 _)) (fun u hu=>zbC) zaa zag zaa (Pr q3 zad) _ rfl ?_;intro g5 cap5 w5 U6 Pg VJ We;have HK5:Hid _:=Y.yh Vc U8 h1.out.1 q1 hvs0 h1.out.2.2.1 (fun y hy=>(HNM.out y hy).str ((Y.iU.bel VL).trans h1.out.2.2.2)) Pg U6;obtain⟨s1,s2,s3,_⟩:=HK5.out;have s4:=s3 bt _ q2;have c5:=s1.cell;have f5:=s1.frozen;refine hK.out _ _ ⟨s2.cell,(Pt w5 _ _ _ _ _ s4).trans rfl⟩ (fun Pm=>?_);clear hK K;refine zH 7 rfl fun K hK=>?_;go_simp;refine hK.out _ _ (by
     exact⟨(aA zaq).trans Pm.1,(aA zaq).trans Pm.2⟩) (fun Pm=>?_)
    clear hK K Pm;refine PX zab ?_ _
  all_goals
   obtain⟨_,_,_,hko,hCL6,hCS6,hLN6⟩:=HK5.out;have HKO:Hid (KeepsFrom W0 V (w5.setCell ↑(w.heap.size+2) (.slice g5 (L.length+1) cap5))):=((Y.eJ VL).trans (h1.out.2.1.oth.trans hko)).from _;generalize w5.setCell ↑(w.heap.size+2) (.slice g5 (L.length+1) cap5)=W6 at *;have XF:Hid _:=hCL6;have HCS:Hid _:=hCS6;have HLS:Hid _:=hLN6;have e0:=hCS6.b0.cell;have e5:W6.cell? (mb,419)=some (Y.fw r2.fin):=by
    obtain⟨qv,wh,hM,_⟩:=hCL6.mt.ex;exact hM.cell 419 zac
   have d0:W6.drew.cell? w=_:=e0;have d1:W6.drew.cell? ↑(w.heap.size+1)=_:=hCS6.b1.cell;have d2:W6.drew.cell? ↑(w.heap.size+2)=_:=hCS6.b2.cell;have d5:W6.drew.cell? (mb,419)=_:=e5;have HLN:Hid ((L++[(f.ev,r2)]).length=k+1):=by
    have:=HLK.out;unfold Hid;rw[PI,this];rfl
   clear HK5 h1 hko hCL6 hCS6 hLN6 HTU HC1 U6 Pg VJ We;by_cases hf2:r2.fin=0
   ·rw[show Y.fw r2.fin=.nilIface by rw[hf2];rfl]at e5 d5;by_cases h200:k+1=200
    ·have h2i:((L.length:Int)+1 == 200)=true:=by have:=HLK.out;simp;omega
     have YG:Below W6 W6 W6.drew:=(Pq _ W6).drew;have HHD:Hid _:=qW W6.drew lo mb pb r2 Vc (XF.out.mt.below Vc YG) XF.out.qk.tm t;have HBW:Hid (∀w7,Below W6.drew.heap.size W6.drew w7->Below W6 W6 w7):=fun w7 h=>YG.trans h;cases hd:Y.dh r2.now t r2.tm with
     |false=>
      rw[hd]at HHD;have HC7:Hid (∀w7,Below W6 W6 w7->w7.cell? w=some ↑mb/\w7.cell? ⟨mb,419,none⟩=some .nilIface/\Hid (KeepsFrom W0 V w7/\Y.CkI w lo mb pb ps an t r (k+1,r2) w7)):=fun w7 hb=>by
       have y1:=XF.out.below Vc hb;have y2:=HCS.out.below hb;refine⟨y2.b0.cell,?_,HKO.out.trans ((Y.eJ hb).from _),_,_,HLN.out,by show k+1<=200;omega,fun _=>hd,hf2,y1,y2,Y.LN.no HLS.out (bB hb),HN.out.2.2 hf2 (fun h=>by rw[hd]at h;cases h.2)⟩;obtain⟨qv,wh,hM,_⟩:=y1.mt.ex;exact zdQ
      clear hd;gi_wp2;refine bc (dP l) 15 zab zab zab ?_;simp only[List.take_succ_cons,List.take_zero,List.drop_succ_cons,List.drop_zero]
      repeat still_step
      refine QY ?_;gi_wp2_with(refine⟨trivial,?_⟩;gi_at_call 86;refine(aI HHD.out).mono ?_;rintro e w7 ⟨rfl,hb7⟩;obtain⟨z0,z1,z2⟩:=HC7.out w7 (HBW.out w7 hb7));exact⟨z2.out.1,(k+1,r2),rfl,z2.out.2⟩
     |true=>
      rw[hd]at HHD;have HC7:Hid (∀w7,Below W6 W6 w7->w7.cell? w=some ↑mb/\w7.cell? ⟨mb,419,none⟩=some .nilIface/\w7.frozen? ⟨mb,419,none⟩=false/\(w7.setCell ⟨mb,419,none⟩ (.iface 29 (.int .i64 6))).cell? w=some ↑mb/\(w7.setCell ⟨mb,419,none⟩ (.iface 29 (.int .i64 6))).cell? (mb,419)=some (.iface 29 (.int .i64 6))/\Hid (KeepsFrom W0 V (w7.setCell ⟨mb,419,none⟩ (.iface 29 (.int .i64 6)))/\Y.CkF w lo mb pb ps an t r (w7.setCell ⟨mb,419,none⟩ (.iface 29 (.int .i64 6))))):=fun w7 hb=>by
       have y1:=XF.out.below Vc hb;have y2:=HCS.out.below hb;obtain⟨m1,m2,m3,m4⟩:=Y.MT.Kn y1.mt Vc 6;have y3:=y2.rf m2;obtain⟨qv,wh,hM,_⟩:=y1.mt.ex;obtain⟨qv',wh',Ze,_⟩:=m1.ex;refine⟨y2.b0.cell,?_,hM.frozen 419,y3.b0.cell,Ze.cell 419 zac,HKO.out.trans (((Y.eJ hb).trans m2.oth).from _),_,_,_,by rw[HLN.out];omega,⟨m1,y1.rf.trans m2,⟨y1.ok.act,y1.ok.kept⟩,⟨y1.qk.q,.inr (.inr rfl),y1.qk.tm⟩,y1.q0,m3 y1.idl,y1.str.trans m4⟩,y3,(Y.LN.no HLS.out (bB hb)).str m2 m4,HN.out.2.1 hf2 h200 hd⟩;exact zdQ
      clear hd;gi_wp2;refine bc (dP l) 15 zab zab zab ?_;simp only[List.take_succ_cons,List.take_zero,List.drop_succ_cons,List.drop_zero]
      repeat still_step
      refine QY ?_;gi_wp2_with(refine⟨trivial,?_⟩;gi_at_call 86;refine(aI HHD.out).mono ?_;rintro e w7 ⟨rfl,hb7⟩;obtain⟨z0,z1,z2,z3,z4,z5⟩:=HC7.out w7 (HBW.out w7 hb7));exact⟨rfl,z5.out.1,z5.out.2⟩
    ·have h2i:((L.length:Int)+1 == 200)=false:=by have:=HLK.out;simp;omega
     gi_wp2;refine bc (dP l) 15 zab zab zab ?_;simp only[List.take_succ_cons,List.take_zero,List.drop_succ_cons,List.drop_zero]
     repeat still_step
     refine QY ?_;gi_wp2_with(refine⟨trivial,?_⟩);have YG:Below W6 W6 W6.drew:=(Pq _ W6).drew;exact⟨HKO.out.trans ((Y.eJ YG).from _),(k+1,r2),rfl,_,_,HLN.out,by show k+1<=200;omega,fun h=>absurd h h200,hf2,XF.out.below Vc YG,HCS.out.below YG,Y.LN.no HLS.out (bB YG),HN.out.2.2 hf2 (fun h=>h200 h.1)⟩
   ·rw[show Y.fw r2.fin=.iface 29 (.int .i64 r2.fin) by unfold Y.fw;rw[Pu hf2]]at e5 d5;gi_wp2;refine bc (dP l) 15 zab zab zab ?_;simp only[List.take_succ_cons,List.take_zero,List.drop_succ_cons,List.drop_zero]
    repeat still_step
    refine QY ?_;gi_wp2_with(refine⟨trivial,?_⟩);have YG:Below W6 W6 W6.drew:=(Pq _ W6).drew;exact⟨rfl,HKO.out.trans ((Y.eJ YG).from _),_,_,_,by rw[HLN.out];omega,XF.out.below Vc YG,HCS.out.below YG,Y.LN.no HLS.out (bB YG),HN.out.1 hf2⟩
 case' done=>
  rintro D V hD ⟨L,sv,r2,Z2,hCL,hCS,hLS,ZV⟩ Vm;gi_wp2
 case' stop=>
  rintro D V hD ⟨L,sv,r2,Z2,hCL,hCS,hLS,ZV⟩ Vm;gi_wp2
 all_goals
  have VL:Below V V V.drew:=(Pq _ V).drew;have Yw:=hCS.below VL;have hCLd:=hCL.below Vc VL;have HOF:Hid (() 66 #[mb] V.drew fun e w'=>e=.returned (Y.fuelV r2.fin)/\w'=V.drew):=by
   obtain⟨qv,wh,a,_⟩:=hCLd.mt.ex;exact ki V.drew lo mb pb qv (r2.m wh) r2.fin a rfl hCLd.qk.fin
  have hr:∀r,some D=some r->w.heap.size<=r/\∃o:Obj,V.drew.heap[r]?=some o/\o.isCells=false:=fun r e=>by
   cases e
   exact⟨zaa,_,Vm,rfl⟩
  have HEND:Hid _:=XU.out sv L r2 (V.drew.putObj D (.deferred none)) (hCLd.gr Vc U8 (Q4 V.drew D _) hr) (Yw.no (Y.iJ (Q4 V.drew D _) (fun r e=>(hr r e).2))) (Y.LN.no (Y.LN.no hLS (bB VL)) (Y.iJ (Q4 V.drew D _) (fun r e=>(hr r e).2))) ZV;have hdefd:V.drew.heap[D]?=some (.deferred (some [])):=Vm;have hS0:(fun V=>V.cell? w=some ↑mb/\V.cell? ↑(w.heap.size+2)=some (sv)) V.drew:=⟨Yw.b0.cell,Yw.b2.cell⟩;clear hCL hCS hCLd Yw ZV hr Vm VL hLS;refine UG.2 (kX ?_);refine PJ (S:=(fun V=>V.cell? w=some ↑mb/\V.cell? ↑(w.heap.size+2)=some (sv))) zab hS0 (fun Pm=>?_);refine tD (some 56) 0 sv rfl Pm ?_;refine tD (some 57) 1 mb rfl Pm ?_;refine zH 2 rfl fun K hK=>?_;go_simp;refine Pw HOF.out ?_;rintro e wA ⟨rfl,hA⟩;rw[hA];clear hA wA;refine hK.out _ _ Pm (fun Pm=>?_);clear hK K;refine tD (some 4) 3 sv rfl Pm ?_;refine tD (some 5) 4 (Y.fuelV r2.fin) rfl Pm ?_;refine PX zab ?_ _;unfold pQ;gi_wp2;refine⟨zad,.inl ⟨_,_,rfl,Qn hdefd,?_⟩⟩;exact⟨.tuple #[sv,Y.fuelV r2.fin],results_tmp2 (t:=4) (u:=5) rfl _ _ _,HEND.out⟩
