import Derived.Test.YtegmoddppafkfaaGreatDoorM17
import Derived.Test.YtegmoddppafkfaaGreatDoorM20
import Derived.Test.YtegmoddppafkfaaGreatDoorM21
set_option maxRecDepth 100000
set_option maxHeartbeats 8000000
namespace Go.Proofs.YtegmoddppafkfaaGreatDoor
variable {zp:Prop}
theorem zdY (h:zp:=by
 have:=hM.cell 419 zac;rw [show Pg.eI pb qv (r2.m wh) 419=Pg.fc r2.fin from rfl,hf2] at this;exact this):zp:=h
theorem zeD (h:zp:=by
 exact (hf.bel.cell (p:=⟨0,0,none⟩) (Lu hg h.n0)).trans hE):zp:=h
theorem zbs (h:zp:=by simp at hu;rcases hu with rfl | rfl | rfl <;> rfl):zp:=h
theorem zbP (h:zp:=by have:=(Lc.1 hz).1;omega):zp:=h
open Tryz
variable {k:Nat}
section
open Go.RowKit Go.Proofs Go.Shelf
namespace Pg
abbrev qp (w:World):Prop:=w.cell? ⟨0,0,none⟩=some (.iface 269 (.agg #[.pointer (some ⟨9,101,none⟩)]))
def mD (n:Nat):Value:=if n=0 then .nilIface else .iface 47 (.int .i64 n)
theorem zo (n:Nat) (w:World) (hg:qp w):() 49 #[mD n] w fun ev w'=>ev = .returned (.tuple #[(n:Int),(0:Int)])/\Below w w w':=by
 unfold mD;by_cases h:n=0
 ·rw [Lg h,h];exact zq w
 ·rw [Ld h];exact sD n w hg
abbrev ng (w:World) (xb mb:Nat):Prop:=w.heap[xb]?=some (.cells #[mb] 94 (0,0))
end Pg
section
variable (w:World) (xb mb:Nat) (R:Value->Nat->World->Prop) (hx:Pg.ng w xb mb) (hR:∀ l n V,R l n V->Pg.qp V)
theorem eG (hx:Pg.ng w xb mb):() 44 #[xb] w fun e w'=>e = .returned false/\w'=w:=by
 have c0:w.cell? xb=some ↑mb:=(Lb w _ _ _ _ _ hx).trans rfl;clear hx;go_enter func44,ntmps44;exact zfi
theorem wL (hx:Pg.ng w xb mb) (ev:ByteArray) (h:() 68 #[mb,ev] w fun e w'=>∃ l n,e = .returned (.tuple #[l,Pg.mD n])/\R l n w') :
  () 48 #[xb,ev] w fun e w'=>∃ l n,e = .returned (.tuple #[l,Pg.mD n])/\R l n w':=by
 have c0:w.cell? xb=some ↑mb:=(Lb w _ _ _ _ _ hx).trans rfl;have HN:Hid _:=eG w xb mb hx;have HE:Hid _:=h;clear hx h;go_enter func48,ntmps48;go_wp2_with (first
  | (go_at_call 44;refine Lh HN.out ?_;rintro e w1 ⟨rfl,hw1⟩;rw [hw1];clear hw1 w1)
  | (go_at_call 68;refine Lh HE.out ?_;rintro e w2 ⟨l,n,rfl,h2⟩;obtain ⟨vn,hvn⟩:∃ vn,vn=Pg.mD n:=⟨_,rfl⟩;rw [<- hvn];have HVN:Hid _:=hvn;clear hvn))
 go_ret2;exact ⟨l,n,by rw [<- HVN.out];rfl,h2⟩
theorem wK (hx:Pg.ng w xb mb) (t:Nat) (h:() 70 #[mb,.int .u64 t] w fun e w'=>∃ l n,e = .returned (.tuple #[l,Pg.mD n])/\R l n w') :
  () 50 #[xb,.int .u64 t] w fun e w'=>∃ l n,e = .returned (.tuple #[l,Pg.mD n])/\R l n w':=by
 have c0:w.cell? xb=some ↑mb:=(Lb w _ _ _ _ _ hx).trans rfl;have HN:Hid _:=eG w xb mb hx;have HE:Hid _:=h;clear hx h;go_enter func50,ntmps50;go_wp2_with (first
  | (go_at_call 44;refine Lh HN.out ?_;rintro e w1 ⟨rfl,hw1⟩;rw [hw1];clear hw1 w1)
  | (go_at_call 70;refine Lh HE.out ?_;rintro e w2 ⟨l,n,rfl,h2⟩;obtain ⟨vn,hvn⟩:∃ vn,vn=Pg.mD n:=⟨_,rfl⟩;rw [<- hvn];have HVN:Hid _:=hvn;clear hvn))
 go_ret2;exact ⟨l,n,by rw [<- HVN.out];rfl,h2⟩
theorem rU (hx:Pg.ng w xb mb) (hR:∀ l n V,R l n V->Pg.qp V) (ev:ByteArray) (h:() 68 #[mb,ev] w fun e w'=>∃ l n,e = .returned (.tuple #[l,Pg.mD n])/\R l n w') :
  () 25 #[xb,ev] w fun e w'=>∃ (l:Value) (n:Nat) (V:World),e = .returned (.tuple #[l,(n:Int)])/\R l n V/\Below V V w':=by
 have HS:Hid _:=wL w xb mb R hx ev h;have HT:Hid (∀ l n V,R l n V->() 49 #[Pg.mD n] V fun ev w'=>ev = .returned (.tuple #[(n:Int),(0:Int)])/\Below V.heap.size V w'):=fun l n V h=>Pg.zo n V (hR l n V h);clear hx h hR;go_enter func25,ntmps25;go_wp2_with (first
  | (go_at_call 48;refine Lh HS.out ?_;rintro e w1 ⟨l,n,rfl,h1⟩;have HT1:Hid _:=HT.out l n w1 h1;generalize Pg.mD n=vn at *)
  | (go_at_call 49;refine Lh HT1.out ?_;rintro e w2 ⟨rfl,hb2⟩))
 go_ret2;exact ⟨_,_,_,rfl,h1,hb2⟩
theorem rT (hx:Pg.ng w xb mb) (hR:∀ l n V,R l n V->Pg.qp V) (t:Nat) (h:() 70 #[mb,.int .u64 t] w fun e w'=>∃ l n,e = .returned (.tuple #[l,Pg.mD n])/\R l n w') :
  () 26 #[xb,.int .u64 t] w fun e w'=>∃ (l:Value) (n:Nat) (V:World),e = .returned (.tuple #[l,(n:Int)])/\R l n V/\Below V V w':=by
 have HS:Hid _:=wK w xb mb R hx t h;have HT:Hid (∀ l n V,R l n V->() 49 #[Pg.mD n] V fun ev w'=>ev = .returned (.tuple #[(n:Int),(0:Int)])/\Below V.heap.size V w'):=fun l n V h=>Pg.zo n V (hR l n V h);clear hx h hR;go_enter func26,ntmps26;go_wp2_with (first
  | (go_at_call 50;refine Lh HS.out ?_;rintro e w1 ⟨l,n,rfl,h1⟩;have HT1:Hid _:=HT.out l n w1 h1;generalize Pg.mD n=vn at *)
  | (go_at_call 49;refine Lh HT1.out ?_;rintro e w2 ⟨rfl,hb2⟩))
 go_ret2;exact ⟨_,_,_,rfl,h1,hb2⟩
end
attribute [local go_sem] L3
theorem tZ:(Tryz.prog.info? 63).map (fun i=>(i.zero,i.size,i.bytes))=some (some (.agg #[.string ⟨#[]⟩,.int .u64 0,.slice none 0 0]),3,48):=zab
theorem E2 (mb t:Nat) (w:World):() 103 #[.pointer (some ⟨mb,27,none⟩),.int .u64 t] w fun e w'=>e = .returned (.func (.func 135) #[] #[w,↑(w.heap.size+1)])/\w'=(w.alloc (.cells #[.pointer (some ⟨mb,27,none⟩)] 198)).alloc (.cells #[.int .u64 t] 37):=by
 go_enter func103,ntmps103;go_wp2;go_ret;exact ⟨zad,rfl⟩
namespace Pg
theorem vC {w w1 w5:World} {lo mb pb t g5 cap5:Nat} {ps:List PS} {r2:RSt} {ev:ByteArray} {sa:Option Addr} {sc:Nat} {L:List (ByteArray×RSt)} {nv:Value} {vs:List Value} (hl:Lw lo) (hlo:lo<=w.heap.size) (hL:CkL w w1 lo mb pb ps r2) (hS:CkS w w1 mb t (.slice sa L.length sc) L) (hvs:vs.length=L.length) (hnm:Nms w1 lo nv ((els r2.act).map (eQ ps)))
  (hg:(w1.alloc (.cells #[ev,.int .u64 r2.now,nv] 63)).grownBy w5 (Value.ownBlock (.slice sa L.length sc))) (ho:w5.ownsRow w 63 3 (.slice g5 (L.length+1) cap5) (L.length+1) ((L.zip vs).flatMap stC++[.string ev,.int .u64 r2.now,nv])) :
  Boxed w5 (w.heap.size+2) 53 (.slice sa L.length sc)/\Boxed w5 w 92 mb/\(∀ (k:Nat) (c:Array Value),w1.heap[k]?=some (.cells c 154 (0,0))->w5.heap[k]?=some (.cells c 154 (0,0)))/\KeepsOthers w1 (w5.setCell ⟨w.heap.size+2,0,none⟩ (.slice g5 (L.length+1) cap5)) /\
   CkL w (w5.setCell ⟨w.heap.size+2,0,none⟩ (.slice g5 (L.length+1) cap5)) lo mb pb ps r2/\CkS w (w5.setCell ⟨w.heap.size+2,0,none⟩ (.slice g5 (L.length+1) cap5)) mb t (.slice g5 (L.length+1) cap5) (L++[(ev,r2)])/\LN (w5.setCell ⟨w.heap.size+2,0,none⟩ (.slice g5 (L.length+1) cap5)) w.heap.size lo ps (.slice g5 (L.length+1) cap5) (L++[(ev,r2)]):=by
 have hkd:=hS.st.kind;have hBa:Below w1 w1 (w1.alloc (.cells #[ev,.int .u64 r2.now,nv] 63)):=(K9 _ w1).alloc (K7 _) _;have hm:Mo (fun k=>Value.ownBlock (.slice sa L.length sc)=some k) w1 w5:=(az hBa).trans ⟨hg.os,hg.tape,hg.output,hg.size,fun k hk hn=>hg.block k hk (fun e=>hn e.symm)⟩;have hk5:Kd (fun t=>t=63) w1 w5:=iB hm (fun k c t f hp hc=>by
  obtain ⟨_,c',hc'⟩:=hkd k hp;rw [hc] at hc';cases hc'
  rfl)
 have hb2:=hk5.boxed hS.b2 zac;have hm2:Mo (fun k=>Value.ownBlock (.slice sa L.length sc)=some k\/k=w.heap.size+2) w1 (w5.setCell ⟨w.heap.size+2,0,none⟩ (.slice g5 (L.length+1) cap5)):=(hm.mono (fun _ _ h => .inl h)).set _ _ (.inr rfl);have hms:Mo (· = w.heap.size+2) w5 (w5.setCell ⟨w.heap.size+2,0,none⟩ (.slice g5 (L.length+1) cap5)):=(Mo.refl _ _).set _ _ rfl;have hks:Kd (fun t=>t=53) w5 (w5.setCell ⟨w.heap.size+2,0,none⟩ (.slice g5 (L.length+1) cap5)):=iB hms (fun k c t f hp hc=>by
  subst hp;rw [show w5.heap[w.heap.size+2]?=_ from hb2] at hc;cases hc
  rfl)
 have hrow:(w5.setCell ⟨w.heap.size+2,0,none⟩ (.slice g5 (L.length+1) cap5)).ownsRow w 63 3 (.slice g5 (L.length+1) cap5) (L++[(ev,r2)]).length (((L++[(ev,r2)]).zip (vs++[nv])).flatMap stC):=by
  have:=Kd.row hks ho zac;rw [List.zip_append hvs.symm,L7,Ls];exact this
 refine ⟨hb2,hk5.boxed hS.b0 zac,fun k c hk=>(hk5.aq _ _ _ _ hk zac).trans hk,?_,?_,?_,vs++[nv],by simp [hvs],hrow,fun x nv' h1 h2 => ?_⟩
 ·refine KeepsOthers.trans ⟨hm.size,fun k o hk hc=>hm.block k (K6.1 hk).1 (fun e => ?_) |>.trans hk⟩ (Me _ _ _);obtain ⟨_,c',hc'⟩:=hkd k e;rw [hk] at hc';cases hc'
  cases hc
 ·refine hL.own hl hlo hm2 (fun k hk => ?_)
  rcases hk with e | rfl
  ·obtain ⟨a,c',hc'⟩:=hkd k e;exact ⟨a,c',_,hc',zau⟩
  ·exact ⟨zaa,_,_,hS.b2,zau⟩
 ·refine ⟨hks.boxed (hk5.boxed hS.b0 zac) zac,hks.boxed (hk5.boxed hS.b1 zac) zac,hb2.set _,hks.boxed (hk5.boxed hS.b3 zac) zac,hks.boxed (hk5.boxed hS.b4 zac) zac,vs++[nv],by simp [hvs],hrow⟩
 ·simp at h1 h2;subst h1 h2;exact Kd.row hks (Kd.row hk5 hnm zac) zac
end Pg
section
variable (w:World) (lo mb pb b cap:Nat) (ps:List Pg.PS) (fin:Nat) (EN LV:Nat->List Pg.PA) (hvs:Ref.Sl) (H:List Pg.HV) (D:Nat->Bool) (mbm n:Nat) (T:ByteArray->Option (List (Option Pg.PM))) (M:ByteArray->Option Nat) (Lr:Nat->List (Option Nat)) (pmF:Nat->Pg.PM) (acF:Nat->List Pg.PA) (r:Pg.RSt) (t:Nat)
namespace Pg
def oA (e:Ending) (w':World):Prop :=
 if r.fin=0 then ∃ sv,e = .returned (.tuple #[sv,fuelV (dM (ba ps fin EN LV H D M Lr pmF acF) t 201 0 r).2.fin])/\pO w' lo sv (dM (ba ps fin EN LV H D M Lr pmF acF) t 201 0 r).1/\((dM (ba ps fin EN LV H D M Lr pmF acF) t 201 0 r).2.fin≠6->LN w' lo lo ps sv (dM (ba ps fin EN LV H D M Lr pmF acF) t 201 0 r).1)/\Live w' lo mb pb b cap ps fin EN LV hvs H D mbm n T M Lr pmF acF (dM (ba ps fin EN LV H D M Lr pmF acF) t 201 0 r).2/\Rf lo w w'
 else e = .returned (.tuple #[.slice none 0 0,fc r.fin])/\Below w w w'
end Pg
theorem vD (hP:Pg.Live w lo mb pb b cap ps fin EN LV hvs H D mbm n T M Lr pmF acF r) (hf:¬ r.fin=0) :
  () 70 #[mb,.int .u64 t] w (Pg.oA w lo mb pb b cap ps fin EN LV hvs H D mbm n T M Lr pmF acF r t):=by
 obtain ⟨qv,wh,hM,_⟩:=hP.mt.ex;have hB:∀ o1 o2:Obj,Below w w ((w.alloc o1).alloc o2):=fun o1 o2=>((K9 _ w).alloc (K7 _) _).alloc zad _;have he:Pg.fc r.fin = .iface 47 (.int .i64 r.fin):=by unfold Pg.fc;rw [Ld hf]
 have h5:∀ o1 o2:Obj,((w.alloc o1).alloc o2).cell? ⟨mb,419,none⟩=some (.iface 47 (.int .i64 r.fin)):=fun o1 o2=>((hB o1 o2).cell (p:=⟨mb,419,none⟩) hM.lt).trans ((hM.cell 419 zac).trans (congrArg some he));have c1:=fun o2=>((LB w 92 mb).alloc o2).cell;have HF:Hid (¬ r.fin=0):=hf;have HE:Hid _:=he;have HB:Hid _:=hB;clear hP hf he hM hB;go_enter func70,ntmps70;go_wp2
 go_quiet (fail)
 go_wp2;go_ret2;unfold Pg.oA;rw [Ld HF.out,HE.out];exact ⟨rfl,Ng (HB.out _ _) _⟩
theorem CS (hP:Pg.Live w lo mb pb b cap ps fin EN LV hvs H D mbm n T M Lr pmF acF r) (ht:t<18446744073709551616) (hcl:∀ ev:ByteArray,ev.size<=1000000->uU ev) :
  () 70 #[mb,.int .u64 t] w (Pg.oA w lo mb pb b cap ps fin EN LV hvs H D mbm n T M Lr pmF acF r t):=by
 by_cases hf:¬ r.fin=0
 ·exact vD w lo mb pb b cap ps fin EN LV hvs H D mbm n T M Lr pmF acF r t hP hf
 have hf:r.fin=0:=Decidable.not_not.1 hf;have hlw:=hP.run.cH.lw;have hlo:=hP.mt.lo';obtain ⟨an,han⟩:∃ an,Pg.ba ps fin EN LV H D M Lr pmF acF=an:=⟨_,rfl⟩;have HTN:Hid (∀ (r1:Pg.RSt) (ev:ByteArray) (V:World),ev.size<=1000000->Pg.CkL w V lo mb pb ps r1->() 97 #[mb,.string ev] V fun e w'=>∃ a k c,e = .returned (.agg #[.string ev,.int .u64 (Pg.cU an r1 ev).now,.slice a k c])/\Hid (Pg.CkL w w' lo mb pb ps (Pg.cU an r1 ev)/\Pg.Rf lo V w'/\Pg.Nms w' lo (.slice a k c) ((Pg.els (Pg.cU an r1 ev).act).map (Pg.eQ ps)))):=fun r1 ev V he h1=>by
  refine Lh (zz V lo mb pb b cap ps fin EN LV hvs H D mbm n T M Lr pmF acF r1 ev ⟨hP.run.rf h1.rf,hP.sz,hP.sza,h1.mt,h1.ok,h1.qk,h1.q0⟩ he (hcl ev he)) ?_;rintro e w' ⟨a,k,c,rfl,h2⟩;obtain ⟨h3,h4,h5⟩:=h2.out;rw [han] at h3 h5 ⊢;exact ⟨a,k,c,rfl,⟨h3.mt,h1.rf.trans h4,h3.ok,h3.qk,h3.q0⟩,h4,h5⟩
 have HFIN:Hid (∀ (sv:Value) (L:List (ByteArray×Pg.RSt)) (r2:Pg.RSt) (V:World),Pg.CkL w V lo mb pb ps r2->Pg.CkS w V mb t sv L->(r2.fin≠6->Pg.LN V w lo ps sv L)->Pg.dM an t 201 0 r=(L,r2)->Pg.oA w lo mb pb b cap ps fin EN LV hvs H D mbm n T M Lr pmF acF r t (.returned (.tuple #[sv,Pg.fuelV r2.fin])) V):=fun sv L r2 V h1 h2 hN h3=>by
  unfold Pg.oA;rw [Lg hf,han,h3];obtain ⟨vs,y1,y2⟩:=h2.st;exact ⟨sv,rfl,⟨vs,y1,y2.1,y2.2.imp id (fun ⟨g,cp,cu,z1,z2,z3⟩=>⟨g,cp,cu,z1,La hlo z2,z3⟩)⟩,fun h=>by
   obtain ⟨vs,y1,y2,y3⟩:=hN h;exact ⟨vs,y1,⟨y2.1,y2.2.imp id (fun ⟨g,cp,cu,z1,z2,z3⟩=>⟨g,cp,cu,z1,La hlo z2,z3⟩)⟩,y3⟩,⟨hP.run.rf h1.rf,hP.sz,hP.sza,h1.mt,h1.ok,h1.qk,h1.q0⟩,h1.rf⟩
 have hL0:∀ V:World,Below w w V->Pg.CkL w V lo mb pb ps r:=fun V hV=>⟨hP.mt.below hlw hV,Pg.RfE.of hV hlo,hP.ok,hP.qk,hP.q0⟩;have h5:∀ V:World,Below w w V->V.cell? ⟨mb,419,none⟩=some .nilIface:=fun V hV=>by
  obtain ⟨qv,wh,hM,_⟩:=(hL0 V hV).mt.ex;have:=hM.cell 419 zac;rw [show Pg.eI pb qv (r.m wh) 419=Pg.fc r.fin from rfl,hf] at this;exact this
 obtain ⟨i0,hi,hz0,hz1,hz2⟩:=MC tZ;clear hP hcl han;have hB2:∀ o1 o2:Obj,Below w w ((w.alloc o1).alloc o2):=fun o1 o2=>((K9 _ w).alloc (K7 _) _).alloc zad _;have hB3:∀ o1 o2 o3:Obj,Below w w (((w.alloc o1).alloc o2).alloc o3):=fun o1 o2 o3=>(hB2 o1 o2).alloc zaf _;have h52:=fun o1 o2=>h5 _ (hB2 o1 o2);have c1:=fun o2=>((LB w 92 mb).alloc o2).cell;refine (LA (n:=8)).1 ?_;refine LY func70 rfl trivial ?_ rfl;simp only [ntmps70,List.size_toArray,List.length_cons,List.length_nil,Nat.reduceAdd,Nat.reduceSub,Array.replicate_succ,Array.replicate_zero,List.push_toArray,List.append_toArray,List.nil_append,List.cons_append];gi_wp2;obtain ⟨W3,hW3⟩:∃ W3,((w.alloc (.cells #[mb] 92)).alloc (.cells #[.int .u64 t] 37)).alloc (.cells #[.slice none 0 0] 53)=W3:=⟨_,rfl⟩;have hB30:=hB3 (.cells #[mb] 92) (.cells #[.int .u64 t] 37) (.cells #[.slice none 0 0] 53);have x0:Boxed W3 w 92 mb:=hW3 ▸ ((LB w 92 mb).alloc _).alloc _;have x1:Boxed W3 (w.heap.size+1) 37 (.int .u64 t):=by
  have:=(LB (w.alloc (.cells #[mb] 92)) 37 (.int .u64 t)).alloc (.cells #[.slice none 0 0] 53);rw [hW3,Ml] at this;exact this
 have x2:Boxed W3 (w.heap.size+2) 53 (.slice none 0 0):=by
  have:=LB ((w.alloc (.cells #[mb] 92)).alloc (.cells #[.int .u64 t] 37)) 53 (.slice none 0 0);rw [hW3,Ml,Ml] at this;exact this
 have hs3:W3.heap.size=w.heap.size+3:=by rw [<- hW3];simp
 rw [hW3] at hB30 ⊢;clear hW3 h52 hB3 hB2 c1;have y0:W3.drew.cell? w=_:=x0.cell;have y1:W3.drew.cell? ⟨w.heap.size+1,0,none⟩=_:=x1.cell;refine aQ kg 4 zab zab zab ?_;simp only [List.take_succ_cons,List.take_zero,List.drop_succ_cons,List.drop_zero]
 repeat still_step
 refine MD ?_;gi_wp2_with (refine ⟨trivial,?_⟩;gi_at_call 103;refine (LA.2 (E2 mb t _)).mono ?_;rintro e w9 ⟨rfl,hw9⟩;rw [hw9];clear hw9 w9);have hB0:Below w w ((W3.alloc (.cells #[.pointer (some ⟨mb,27,none⟩)] 198)).alloc (.cells #[.int .u64 t] 37)).drew:=((hB30.alloc zaa _).alloc zaf _).drew;have hBd:Below W3 W3 ((W3.alloc (.cells #[.pointer (some ⟨mb,27,none⟩)] 198)).alloc (.cells #[.int .u64 t] 37)).drew:=(((K9 _ W3).alloc (K7 _) _).alloc (by rw [Ml];exact Nat.le_succ _) _).drew;have x3:Boxed ((W3.alloc (.cells #[.pointer (some ⟨mb,27,none⟩)] 198)).alloc (.cells #[.int .u64 t] 37)).drew (w.heap.size+3) 198 (.pointer (some ⟨mb,27,none⟩)):=by
  have:=(LB W3 198 (.pointer (some ⟨mb,27,none⟩))).alloc (.cells #[.int .u64 t] 37);rw [hs3] at this;exact this
 have x4:Boxed ((W3.alloc (.cells #[.pointer (some ⟨mb,27,none⟩)] 198)).alloc (.cells #[.int .u64 t] 37)).drew (w.heap.size+4) 37 (.int .u64 t):=by
  have:=LB (W3.alloc (.cells #[.pointer (some ⟨mb,27,none⟩)] 198)) 37 (.int .u64 t);rw [Ml,hs3] at this;exact this
 have hs0:(((W3.alloc (.cells #[.pointer (some ⟨mb,27,none⟩)] 198)).alloc (.cells #[.int .u64 t] 37)).drew).heap.size=w.heap.size+5:=by show ((W3.alloc _).alloc _).heap.size=_;rw [Ml,Ml,hs3]
 (try simp only [hs3])
 generalize ((W3.alloc (.cells #[.pointer (some ⟨mb,27,none⟩)] 198)).alloc (.cells #[.int .u64 t] 37)).drew=W0 at *;have hI0:Pg.CkI w lo mb pb ps an t r (0,r) W0:=⟨[],.slice none 0 0,rfl,Lk _,(fun h=>by have h:(0:Nat)=200:=h;omega),hf,hL0 W0 hB0,⟨aB x0 hBd x0.lt,aB x1 hBd x1.lt,aB x2 hBd x2.lt,x3,x4,[],rfl,Mf ..⟩,⟨[],rfl,Mf ..,fun x nv h _=>zap⟩,rfl⟩;clear x0 x1 x2 x3 x4 y0 y1 hL0 h5 hB30 hBd hs3 hf;have hown5:∀ (row:Option Nat) (A:World),(∀ r,row=some r->W0.heap.size<=r/\∃ o:Obj,A.heap[r]?=some o/\o.isCells=false)->∀ r,row=some r->w.heap.size<=r/\∃ o:Obj,A.heap[r]?=some o/\o.isCells=false:=fun row A h r e=>⟨by have:=(h r e).1;omega,(h r e).2⟩;refine FW rfl zaa (gf:=135) rfl trivial (Nk func135 zab rfl)
  (JJ _ zaa W0 lo mb pb (w.heap.size+3) (w.heap.size+4) t ht hlw) (fun _=>rfl)
  (Pg.CkI w lo mb pb ps an t r) (Pg.CkT w lo mb pb ps an t r) (Pg.CkF w lo mb pb ps an t r) (Pg.CkF w lo mb pb ps an t r)
  (fun s f a' V=>∃ bt,a'=⟨#[.pointer (some ⟨mb,0,none⟩),.int .u64 t,.pointer (some ⟨w.heap.size,0,none⟩),.pointer (some ⟨w.heap.size+1,0,none⟩),.slice none 0 0,.nilIface,.pointer (some ⟨w.heap.size+2,0,none⟩),.pointer (some ⟨bt,0,none⟩),.pointer (some ⟨mb,0,none⟩),.pointer (some ⟨mb,0,none⟩),.pointer (some ⟨mb,419,none⟩),.nilIface,.bool false,undef,undef,undef,undef,.pointer (some ⟨mb,0,none⟩),.pointer (some ⟨mb,0,none⟩),.pointer (some ⟨mb,27,none⟩),.int .u64 t,.func (.func 135) #[] #[.pointer (some ⟨w.heap.size+3,0,none⟩),.pointer (some ⟨w.heap.size+4,0,none⟩)],.agg #[.string f.ev,.string f.nm],undef,undef,undef,undef,undef,undef,undef,undef,undef,undef,undef,undef,undef,undef,undef,undef,undef,undef,undef,undef,undef,undef,undef,undef,undef,undef,undef,undef,undef,undef,undef,undef,undef,undef,undef,undef],[]⟩/\V.heap[bt]?=some (.cells #[.string f.ev,.string f.nm] 154 (0,0))/\Pg.CkT w lo mb pb ps an t r s f V) 0
  (fun s A C row h hg hr=>h.gr hlw hlo hg (hown5 row A hr)) (fun _ A C row h hg hr=>h.gr hlw hlo hg (hown5 row A hr)) (fun _ A C row h hg hr=>h.gr hlw hlo hg (hown5 row A hr))
  (fun s f a' _ A C row h hg hr=>by
   obtain ⟨bt,e1,e2,e3⟩:=h;exact ⟨bt,e1,((Pg.gP (E:=fun _=>False) hg (fun r e=>(hr r e).2)).aq _ _ _ _ e2 (fun h=>h)).trans e2,e3.gr hlw hlo hg (hown5 row A hr)⟩)
  (fun s V h=>by
   obtain ⟨L,sv,a,b,c,_,d,e,_,g⟩:=h;exact ⟨⟨b,d.mt,d.qk.tm,e.b3.cell,e.b4.cell⟩,fun V' hV=>⟨(aB e.b3 hV e.b3.lt).cell,(aB e.b4 hV e.b4.lt).cell⟩⟩)
  (fun s f V V' h k=>h.I7 k) (fun s V V' h k=>h.J9 k) (fun s f V V' k=>k.2.2.2.oth.from _) (fun s V V' k=>k.2.2.oth.from _) (0,r) hI0 ?assign ?body ?done ?stop
 case assign =>
  intro l s f V K hI hK;unfold Pg.tnV;gi_wp2_with (show wpListIn _ _ _ _ _ (Oper.mk none _ _ _ _ _::_) _ _;refine ly (cB l) rfl (fun c h=>zap) (fun K2 hK2=>ie 154 (.tmp 7) (.tmp 22) rfl V 154 #[.string ⟨#[]⟩,.string ⟨#[]⟩] #[f.ev,f.nm] rfl rfl (Lf V _) jE rfl rfl (hK2 _ _ ?_));rw [OU]);have hBa:Below V V (V.alloc (.cells #[f.ev,f.nm] 154)):=(K9 _ V).alloc (K7 _) _;exact hK _ _ ((Pg.dI hBa).from _) ⟨V.heap.size,rfl,Lf V _,hI.below hlw hBa⟩
 case body =>
  rintro l ⟨k,rs⟩ f a' V hl ⟨bt,rfl,hbt,L,sv,hLk,hk,hev,hdue,hhd,hCL,hCS,hclk⟩;dsimp only at hLk hk hdue hhd hCL hclk;obtain ⟨sa,sc,rfl⟩:=hCS.st.n;obtain ⟨vs,hvs0,hown⟩:=hCS.st;obtain ⟨r2,hr2⟩:∃ r2,Pg.cU an (Pg.iO rs f) f.ev=r2:=⟨_,rfl⟩;have HN:Hid _:=Pg.EP hk hdue hhd hclk hr2;have hBd:Below V V V.drew:=(K9 _ V).drew;have hCSd:=hCS.below hBd;have HTU:Hid _:=HTN.out (Pg.iO rs f) f.ev V.drew hev (hCL.below hlw hBd);rw [hr2] at HTU;have hne:¬ bt=w.heap.size+2:=fun e=>by
   rw [e,show V.heap[w.heap.size+2]?=_ from hCS.b2] at hbt;cases hbt
  have hS:∀ W:World,Pg.CkS w W mb t (.slice sa L.length sc) L->W.heap[bt]?=some (.cells #[f.ev,f.nm] 154 (0,0))->(fun V=>V.cell? w=some ↑mb/\V.cell? bt=some ↑f.ev) W:=fun W h1 h2=>⟨h1.b0.cell,(Lb W _ _ _ _ _ h2).trans rfl⟩;have hbtd:V.drew.heap[bt]?=some (.cells #[f.ev,f.nm] 154 (0,0)):=hbt;have HC1:Hid (∀ w1,Pg.Rf lo V.drew w1->Pg.CkS w w1 mb t (.slice sa L.length sc) L/\w1.heap[bt]?=some (.cells #[f.ev,f.nm] 154 (0,0))/\w.heap.size<=w1.heap.size/\∀ c:Array Value,Pg.CkS w (w1.alloc (.cells c 63)) mb t (.slice sa L.length sc) L/\(w1.alloc (.cells c 63)).heap[bt]?=some (.cells #[f.ev,f.nm] 154 (0,0))/\(w1.alloc (.cells c 63)).ownsRow w 63 3 (.slice sa L.length sc) L.length ((L.zip vs).flatMap Pg.stC)):=fun w1 h=>by
   have a1:=hCSd.rf h;have a2:=(h.kd.aq _ _ _ _ hbtd Pg.wm).trans hbtd;have a3:w1.ownsRow w 63 3 (.slice sa L.length sc) L.length ((L.zip vs).flatMap Pg.stC):=Kd.row h.kd (Kd.row (bR (E:=fun _=>False) hBd) hown (fun h=>h)) Pg.oU;refine ⟨a1,a2,P1 (LZ zaa a1.b0.lt),fun c => ?_⟩;have hb:Below w1 w1 (w1.alloc (.cells c 63)):=(K9 _ w1).alloc (K7 _) _;exact ⟨a1.below hb,(hb.block _ (K6.1 a2).1).trans a2,Kd.row (bR (E:=fun _=>False) hb) a3 (fun h=>h)⟩
  have cx1:V.drew.cell? ⟨w.heap.size+2,0,none⟩=some (.slice sa L.length sc):=hCSd.b2.cell;have hS0:=hS _ hCSd hbtd;have hLe:L.length<=200:=zaa;have HLK:Hid (L.length=k):=hLk;clear hLk;clear hbt hCS hown hdue hhd hclk hr2 hCSd hbtd;gi_wp2;refine cM (S:=(fun V=>V.cell? w=some ↑mb/\V.cell? bt=some ↑f.ev)) zab zab zbf hS0 (fun u0 => ?_);refine tD (some 24) 1 mb rfl u0 ?_;refine tD (some 25) 2 bt rfl u0 ?_;refine tD (some 26) 3 (.string f.ev) rfl u0 ?_;refine yH [0,4] ?_;refine LP rfl (fun K hK => ?rg1) (LP rfl (fun K hK => ?rg2) MA)
  case' rg1 =>
   go_simp;refine hK.out _ _ u0 (fun u0 => ?_);clear hK K;refine zH 4 rfl fun K hK => ?_;go_simp;refine Lh HTU.out ?_;rintro e w1 ⟨na,nk,nc,rfl,h1⟩;obtain ⟨q1,q2,q3,q4⟩:=HC1.out w1 h1.out.2.1;obtain ⟨q5,q6,q7⟩:=q4 #[f.ev,.int .u64 r2.now,.slice na nk nc];have cx2:=q1.b2.cell;have cx3:=q5.b2.cell;refine hK.out _ _ (hS _ q1 q2) (fun u0 => ?_);clear hK K;refine zH 5 rfl fun K hK => ?_;go_simp;refine hK.out _ _ (hS _ q5 q6) (fun u0 => ?_);clear hK K;refine zH 6 rfl fun K hK => ?_;refine step_append_lies _ zae _ _ _ zae w.heap.size 63 i0 _ 3 48 underlying53 hi hz0 hz1 hz2 rfl zac (.slice sa L.length sc) L.length ((L.zip vs).flatMap Pg.stC) zae q7 ⟨w1,0,none⟩ 1 1 [f.ev,.int .u64 r2.now,.slice na nk nc] zae zae (World.news_of_block (cs:=#[f.ev,.int .u64 r2.now,.slice na nk nc]) (t:=63) (fr:=(0,0)) (Lf w1 _)) (fun u hu=>zbs) zaa zag zaa (La q3 zad) _ rfl ?_;intro g5 cap5 w5 hown5 hgrow hat hlt5;have HK5:Hid _:=Pg.vC hlw hlo h1.out.1 q1 hvs0 h1.out.2.2 hgrow hown5;obtain ⟨s1,s2,s3,_⟩:=HK5.out;have s4:=s3 bt _ q2;have c5:=s1.cell;have f5:=s1.frozen;refine hK.out _ _ ⟨s2.cell,(Lb w5 _ _ _ _ _ s4).trans rfl⟩ (fun u0 => ?_);clear hK K;refine zH 7 rfl fun K hK => ?_;go_simp;refine hK.out _ _ (by
    exact ⟨(ay zaq).trans u0.1,(ay zaq).trans u0.2⟩) (fun u0 => ?_)
   clear hK K u0;refine Ly zab ?_ _
  case' rg2 =>
   go_simp;refine Lh HTU.out ?_;rintro e w1 ⟨na,nk,nc,rfl,h1⟩;obtain ⟨q1,q2,q3,q4⟩:=HC1.out w1 h1.out.2.1;obtain ⟨q5,q6,q7⟩:=q4 #[f.ev,.int .u64 r2.now,.slice na nk nc];have cx2:=q1.b2.cell;have cx3:=q5.b2.cell;refine hK.out _ _ (hS _ q1 q2) (fun u0 => ?_);clear hK K;refine yH [0,5] ?_;refine LP rfl (fun K hK => ?rg7) (LP rfl (fun K hK => ?rg8) MA)
   case' rg7 =>
    go_simp;refine hK.out _ _ u0 (fun u0 => ?_);clear hK K;refine zH 5 rfl fun K hK => ?_;go_simp;refine hK.out _ _ (hS _ q5 q6) (fun u0 => ?_);clear hK K;refine zH 6 rfl fun K hK => ?_;refine step_append_lies _ zae _ _ _ zae w.heap.size 63 i0 _ 3 48 underlying53 hi hz0 hz1 hz2 rfl zac (.slice sa L.length sc) L.length ((L.zip vs).flatMap Pg.stC) zae q7 ⟨w1,0,none⟩ 1 1 [f.ev,.int .u64 r2.now,.slice na nk nc] zae zae (World.news_of_block (cs:=#[f.ev,.int .u64 r2.now,.slice na nk nc]) (t:=63) (fr:=(0,0)) (Lf w1 _)) (fun u hu=>zbs) zaa zag zaa (La q3 zad) _ rfl ?_;intro g5 cap5 w5 hown5 hgrow hat hlt5;have HK5:Hid _:=Pg.vC hlw hlo h1.out.1 q1 hvs0 h1.out.2.2 hgrow hown5;obtain ⟨s1,s2,s3,_⟩:=HK5.out;have s4:=s3 bt _ q2;have c5:=s1.cell;have f5:=s1.frozen;refine hK.out _ _ ⟨s2.cell,(Lb w5 _ _ _ _ _ s4).trans rfl⟩ (fun u0 => ?_);clear hK K;refine zH 7 rfl fun K hK => ?_;go_simp;refine hK.out _ _ (by
     exact ⟨(ay zaq).trans u0.1,(ay zaq).trans u0.2⟩) (fun u0 => ?_)
    clear hK K u0;refine Ly zab ?_ _
   case' rg8 =>
    go_simp;refine hK.out _ _ (hS _ q5 q6) (fun u0 => ?_);clear hK K;refine zH 0 rfl fun K hK => ?_;go_simp;refine hK.out _ _ u0 (fun u0 => ?_);clear hK K;refine zH 6 rfl fun K hK => ?_;refine step_append_lies _ zae _ _ _ zae w.heap.size 63 i0 _ 3 48 underlying53 hi hz0 hz1 hz2 rfl zac (.slice sa L.length sc) L.length ((L.zip vs).flatMap Pg.stC) zae q7 ⟨w1,0,none⟩ 1 1 [f.ev,.int .u64 r2.now,.slice na nk nc] zae zae (World.news_of_block (cs:=#[f.ev,.int .u64 r2.now,.slice na nk nc]) (t:=63) (fr:=(0,0)) (Lf w1 _)) (fun u hu=>zbs) zaa zag zaa (La q3 zad) _ rfl ?_;intro g5 cap5 w5 hown5 hgrow hat hlt5;have HK5:Hid _:=Pg.vC hlw hlo h1.out.1 q1 hvs0 h1.out.2.2 hgrow hown5;obtain ⟨s1,s2,s3,_⟩:=HK5.out;have s4:=s3 bt _ q2;have c5:=s1.cell;have f5:=s1.frozen;refine hK.out _ _ ⟨s2.cell,(Lb w5 _ _ _ _ _ s4).trans rfl⟩ (fun u0 => ?_);clear hK K;refine zH 7 rfl fun K hK => ?_;go_simp;refine hK.out _ _ (by
     exact ⟨(ay zaq).trans u0.1,(ay zaq).trans u0.2⟩) (fun u0 => ?_)
    clear hK K u0;refine Ly zab ?_ _
  all_goals
   obtain ⟨_,_,_,hko,hCL6,hCS6,hLN6⟩:=HK5.out;have HKO:Hid (KeepsFrom W0 V (w5.setCell ⟨w.heap.size+2,0,none⟩ (.slice g5 (L.length+1) cap5))):=((Pg.dI hBd).trans (h1.out.2.1.oth.trans hko)).from _;generalize w5.setCell ⟨w.heap.size+2,0,none⟩ (.slice g5 (L.length+1) cap5)=W6 at *;have HCL:Hid _:=hCL6;have HCS:Hid _:=hCS6;have HLS:Hid _:=hLN6;have e0:=hCS6.b0.cell;have e5:W6.cell? ⟨mb,419,none⟩=some (Pg.fc r2.fin):=by
    obtain ⟨qv,wh,hM,_⟩:=hCL6.mt.ex;exact hM.cell 419 zac
   have d0:W6.drew.cell? w=_:=e0;have d1:W6.drew.cell? ⟨w.heap.size+1,0,none⟩=_:=hCS6.b1.cell;have d2:W6.drew.cell? ⟨w.heap.size+2,0,none⟩=_:=hCS6.b2.cell;have d5:W6.drew.cell? ⟨mb,419,none⟩=_:=e5;have HLN:Hid ((L++[(f.ev,r2)]).length=k+1):=by
    have:=HLK.out;unfold Hid;rw [Ls,this];rfl
   clear HK5 h1 hko hCL6 hCS6 hLN6 HTU HC1 hown5 hgrow hat hlt5;by_cases hf2:r2.fin=0
   ·rw [show Pg.fc r2.fin = .nilIface by rw [hf2];rfl] at e5 d5;by_cases h200:k+1=200
    ·have h2i:((L.length:Int)+1 == 200)=true:=by have:=HLK.out;simp;omega
     have hB6:Below W6 W6 W6.drew:=(K9 _ W6).drew;have HHD:Hid _:=pw W6.drew lo mb pb r2 hlw (HCL.out.mt.below hlw hB6) HCL.out.qk.tm t;have HBW:Hid (∀ w7,Below W6.drew.heap.size W6.drew w7->Below W6 W6 w7):=fun w7 h=>hB6.trans h;cases hd:Pg.bA r2.now t r2.tm with
     | false =>
      rw [hd] at HHD;have HC7:Hid (∀ w7,Below W6 W6 w7->w7.cell? w=some ↑mb/\w7.cell? ⟨mb,419,none⟩=some .nilIface/\Hid (KeepsFrom W0 V w7/\Pg.CkI w lo mb pb ps an t r (k+1,r2) w7)):=fun w7 hb=>by
       have y1:=HCL.out.below hlw hb;have y2:=HCS.out.below hb;refine ⟨y2.b0.cell,?_,HKO.out.trans ((Pg.dI hb).from _),_,_,HLN.out,by show k+1<=200;omega,fun _=>hd,hf2,y1,y2,Pg.LN.no HLS.out (bR hb),HN.out.2.2 hf2 (fun h=>by rw [hd] at h;cases h.2)⟩;obtain ⟨qv,wh,hM,_⟩:=y1.mt.ex;exact zdY
      clear hd;gi_wp2;refine aQ (cB l) 15 zab zab zab ?_;simp only [List.take_succ_cons,List.take_zero,List.drop_succ_cons,List.drop_zero]
      repeat still_step
      refine MD ?_;gi_wp2_with (refine ⟨trivial,?_⟩;gi_at_call 104;refine (aH HHD.out).mono ?_;rintro e w7 ⟨rfl,hb7⟩;obtain ⟨z0,z1,z2⟩:=HC7.out w7 (HBW.out w7 hb7));exact ⟨z2.out.1,(k+1,r2),rfl,z2.out.2⟩
     | true =>
      rw [hd] at HHD;have HC7:Hid (∀ w7,Below W6 W6 w7->w7.cell? w=some ↑mb/\w7.cell? ⟨mb,419,none⟩=some .nilIface/\w7.frozen? ⟨mb,419,none⟩=false/\(w7.setCell ⟨mb,419,none⟩ (.iface 47 (.int .i64 6))).cell? w=some ↑mb/\(w7.setCell ⟨mb,419,none⟩ (.iface 47 (.int .i64 6))).cell? ⟨mb,419,none⟩=some (.iface 47 (.int .i64 6))/\Hid (KeepsFrom W0 V (w7.setCell ⟨mb,419,none⟩ (.iface 47 (.int .i64 6)))/\Pg.CkF w lo mb pb ps an t r (w7.setCell ⟨mb,419,none⟩ (.iface 47 (.int .i64 6))))):=fun w7 hb=>by
       have y1:=HCL.out.below hlw hb;have y2:=HCS.out.below hb;obtain ⟨m1,m2⟩:=Pg.MT.Gf y1.mt hlw 6;have y3:=y2.rf m2;obtain ⟨qv,wh,hM,_⟩:=y1.mt.ex;obtain ⟨qv',wh',hM',_⟩:=m1.ex;refine ⟨y2.b0.cell,?_,hM.frozen 419,y3.b0.cell,hM'.cell 419 zac,HKO.out.trans (((Pg.dI hb).trans m2.oth).from _),_,_,_,by rw [HLN.out];omega,⟨m1,y1.rf.trans m2,⟨y1.ok.act,y1.ok.kept⟩,⟨y1.qk.q,.inr (.inr rfl),y1.qk.tm⟩,y1.q0⟩,y3,fun h=>absurd rfl h,HN.out.2.1 hf2 h200 hd⟩;exact zdY
      clear hd;gi_wp2;refine aQ (cB l) 15 zab zab zab ?_;simp only [List.take_succ_cons,List.take_zero,List.drop_succ_cons,List.drop_zero]
      repeat still_step
      refine MD ?_;gi_wp2_with (refine ⟨trivial,?_⟩;gi_at_call 104;refine (aH HHD.out).mono ?_;rintro e w7 ⟨rfl,hb7⟩;obtain ⟨z0,z1,z2,z3,z4,z5⟩:=HC7.out w7 (HBW.out w7 hb7));exact ⟨rfl,z5.out.1,z5.out.2⟩
    ·have h2i:((L.length:Int)+1 == 200)=false:=by have:=HLK.out;simp;omega
     gi_wp2;refine aQ (cB l) 15 zab zab zab ?_;simp only [List.take_succ_cons,List.take_zero,List.drop_succ_cons,List.drop_zero]
     repeat still_step
     refine MD ?_;gi_wp2_with (refine ⟨trivial,?_⟩);have hB6:Below W6 W6 W6.drew:=(K9 _ W6).drew;exact ⟨HKO.out.trans ((Pg.dI hB6).from _),(k+1,r2),rfl,_,_,HLN.out,by show k+1<=200;omega,fun h=>absurd h h200,hf2,HCL.out.below hlw hB6,HCS.out.below hB6,Pg.LN.no HLS.out (bR hB6),HN.out.2.2 hf2 (fun h=>h200 h.1)⟩
   ·rw [show Pg.fc r2.fin = .iface 47 (.int .i64 r2.fin) by unfold Pg.fc;rw [Ld hf2]] at e5 d5;gi_wp2;refine aQ (cB l) 15 zab zab zab ?_;simp only [List.take_succ_cons,List.take_zero,List.drop_succ_cons,List.drop_zero]
    repeat still_step
    refine MD ?_;gi_wp2_with (refine ⟨trivial,?_⟩);have hB6:Below W6 W6 W6.drew:=(K9 _ W6).drew;exact ⟨rfl,HKO.out.trans ((Pg.dI hB6).from _),_,_,_,by rw [HLN.out];omega,HCL.out.below hlw hB6,HCS.out.below hB6,fun _=>Pg.LN.no HLS.out (bR hB6),HN.out.1 hf2⟩
 case' done =>
  rintro D V hD ⟨L,sv,r2,hLl,hCL,hCS,hLS,hclk⟩ hdef;gi_wp2
 case' stop =>
  rintro D V hD ⟨L,sv,r2,hLl,hCL,hCS,hLS,hclk⟩ hdef;gi_wp2
 all_goals
  have hBd:Below V V V.drew:=(K9 _ V).drew;have hCSd:=hCS.below hBd;have hCLd:=hCL.below hlw hBd;have HOF:Hid (() 98 #[mb] V.drew fun e w'=>e = .returned (Pg.fuelV r2.fin)/\w'=V.drew):=by
   obtain ⟨qv,wh,a,_⟩:=hCLd.mt.ex;exact jc V.drew lo mb pb qv (r2.m wh) r2.fin a rfl hCLd.qk.fin
  have hr:∀ r,some D=some r->w.heap.size<=r/\∃ o:Obj,V.drew.heap[r]?=some o/\o.isCells=false:=fun r e=>by
   cases e
   exact ⟨zaa,_,hdef,rfl⟩
  have HEND:Hid _:=HFIN.out sv L r2 (V.drew.putObj D (.deferred none)) (hCLd.gr hlw hlo (MK V.drew D _) hr) (hCSd.no (Pg.gP (MK V.drew D _) (fun r e=>(hr r e).2))) (fun h=>Pg.LN.no (Pg.LN.no (hLS h) (bR hBd)) (Pg.gP (MK V.drew D _) (fun r e=>(hr r e).2))) hclk;have hdefd:V.drew.heap[D]?=some (.deferred (some [])):=hdef;have hS0:(fun V=>V.cell? w=some ↑mb/\V.cell? ⟨w.heap.size+2,0,none⟩=some (sv)) V.drew:=⟨hCSd.b0.cell,hCSd.b2.cell⟩;clear hCL hCS hCLd hCSd hclk hr hdef hBd hLS;refine PY.2 (jH ?_);refine Lq (S:=(fun V=>V.cell? w=some ↑mb/\V.cell? ⟨w.heap.size+2,0,none⟩=some (sv))) zab hS0 (fun u0 => ?_);refine tD (some 56) 0 sv rfl u0 ?_;refine tD (some 57) 1 mb rfl u0 ?_;refine zH 2 rfl fun K hK => ?_;go_simp;refine Lh HOF.out ?_;rintro e wA ⟨rfl,hA⟩;rw [hA];clear hA wA;refine hK.out _ _ u0 (fun u0 => ?_);clear hK K;refine tD (some 4) 3 sv rfl u0 ?_;refine tD (some 5) 4 (Pg.fuelV r2.fin) rfl u0 ?_;refine Ly zab ?_ _;unfold nS;gi_wp2;refine ⟨zad,.inl ⟨_,_,rfl,LU hdefd,?_⟩⟩;exact ⟨.tuple #[sv,Pg.fuelV r2.fin],results_tmp2 (t:=4) (u:=5) rfl _ _ _,HEND.out⟩
end
namespace Pg
structure Par where
 lo:Nat
 mb:Nat
 pb:Nat
 b:Nat
 cap:Nat
 ps:List PS
 fin:Nat
 EN:Nat->List PA
 LV:Nat->List PA
 hvs:Ref.Sl
 H:List HV
 D:Nat->Bool
 mbm:Nat
 n:Nat
 T:ByteArray->Option (List (Option PM))
 M:ByteArray->Option Nat
 Lr:Nat->List (Option Nat)
 pmF:Nat->PM
 acF:Nat->List PA
def Par.an (p:Par):RSt->ByteArray->RSt:=ba p.ps p.fin p.EN p.LV p.H p.D p.M p.Lr p.pmF p.acF
structure Ses (W:World) (n0 xb:Nat) (p:Par) (r:RSt):Prop where
 at':ng W xb p.mb
 lo:p.lo<=xb
 n0:n0<=p.lo
 lv:Live W p.lo p.mb p.pb p.b p.cap p.ps p.fin p.EN p.LV p.hvs p.H p.D p.mbm p.n p.T p.M p.Lr p.pmF p.acF r
theorem Ses.aq {W W':World} {n0 xb:Nat} {p:Par} {r:RSt} (h:Ses W n0 xb p r) (hb:Below W W W'):Ses W' n0 xb p r:=⟨(hb.block _ (K6.1 h.at').1).trans h.at',h.lo,h.n0,h.lv.aq hb⟩
structure pN (Z:List Pro.DS) (S:List Ref.State):Prop where
 len:Z.length=S.length
 at':∀ (i:Nat) (z:Pro.DS),Z[i]?=some z->z.s=Pro.yB (Pro.sAt S i)
theorem Is {w wr:World} {sv:Ref.Sl} {X Z:List Pro.DS} (D:kB w wr sv X Z X.length) {S:List Ref.State} (hX:X.map (·.s)=S):pN Z S:=by
 subst hX;refine ⟨by rw [D.len,Lt],fun i z hz => ?_⟩;obtain ⟨hi,rfl⟩:=Lc.1 hz;have hi':i<X.length:=by have:=D.len;omega
 rw [(D.done i hi hi' hi').1]
 congr 1
 unfold Pro.sAt;rw [Lm,Lv,K8 hi'];rfl
theorem Ia {x:Ref.State} (h:Pro.gL x) (hk:isH (Pro.ao x)=true):Pro.gO x=true:=by
 obtain ⟨k,h0,h4,hw,hd⟩:=h;rw [Pro.fk h0 h4 hw hd] at hk;unfold Pro.gO;rw [hw];have hk':k=0\/k=1\/k=2\/k=3\/k=4:=zaa
 rcases hk' with rfl | rfl | rfl | rfl | rfl
 ·cases hk
 ·cases hk
 ·cases hk
 ·rw [show Pro.bp 3=Pro.cW from rfl,Pro.bO];decide
 ·rw [show Pro.bp 4=Pro.cW from rfl,Pro.bO];decide
theorem Cn {S:List Ref.State} {i:Nat} (hi:i<S.length):Pro.sAt S i∈S:=by
 unfold Pro.sAt;rw [Lm,K8 hi];exact L9 _
section
variable {Z:List Pro.DS} {S:List Ref.State}
theorem pN.ms (h:pN Z S) {i:Nat} {x:MS} (hx:(Z.map bF)[i]?=some x):∃ z,Z[i]?=some z/\x=bF z/\z.s=Pro.yB (Pro.sAt S i)/\i<S.length:=by
 rw [Lv] at hx;cases hz:Z[i]? with
 | none=>rw [hz] at hx;cases hx
 | some z =>
  rw [hz] at hx;have hi:=(Lc.1 hz).1;exact ⟨z,rfl,by simpa using hx.symm,h.at' i z hz,by have:=h.len;omega⟩
theorem pN.ok (h:pN Z S) (hC:Pro.mY S) (i:Nat) (x:MS) (hx:(Z.map bF)[i]?=some x):x.owner = -1\/∃ o:Nat,x.owner=o/\o<i:=by
 obtain ⟨z,_,rfl,e,hi⟩:=h.ms hx;have hu:=hC.shp.wf i hi;have ho:(bF z).owner=(Pro.sAt S i).up:=by show z.s.up=_;rw [e];rfl
 rw [ho];by_cases h0:(Pro.sAt S i).up = -1
 ·exact .inl h0
 ·exact .inr ⟨(Pro.sAt S i).up.toNat,zaa,zaa⟩
theorem pN.his (h:pN Z S) (hC:Pro.mY S) (i:Nat) (x:MS) (hx:(Z.map bF)[i]?=some x) (hk:isH x.kind=true):x.owner ≠ -1:=by
 obtain ⟨z,_,rfl,e,hi⟩:=h.ms hx;have hk':isH (Pro.ao (Pro.sAt S i))=true:=by
  have e2:Pro.ao z.s=Pro.ao (Pro.sAt S i):=by rw [e];rfl
  rw [<- e2];exact hk
 have:=hC.shp.hup i hi (Ia (hC.low _ (Cn hi)).2 hk');have ho:(bF z).owner=(Pro.sAt S i).up:=by show z.s.up=_;rw [e];rfl
 rw [ho];omega
variable {MM:Nat->List Pro.PV} {W:World}
theorem pN.Kz (h:pN Z S) (hC:Pro.mY S) (hM:∀ i,(∀ z,Z[i]?=some z->fD W z (MM i))/\(Z[i]?=none->MM i=[])) (i:Nat):(vOf MM i).length<=30000/\∀ v∈vOf MM i,v.event.size<=1000000/\v.dest.size<=1000000/\(v.dest.toList.isEmpty=false->∃ d,dw (Z.map bF) (Z.map bF).length v.dest=some d/\d<(Z.map bF).length):=by
 have hl:=h.len;cases hz:Z[i]? with
 | none =>
  unfold vOf;rw [(hM i).2 hz];exact ⟨zad,fun v hv=>by cases hv⟩
 | some z =>
  have hi:i<S.length:=zbP;have hw:=(hM i).1 z hz;have hm:(MM i).map (·.m)=(Pro.sAt S i).aj.map Pro.dG:=by rw [hw.mv,h.at' i z hz];rfl
  refine ⟨by unfold vOf;rw [Lt];have:=hw.mlen;omega,fun v hv => ?_⟩;obtain ⟨y,hy,rfl⟩:=LQ.1 hv;obtain ⟨m,hmm,e⟩:=JX hm hy;have hsm:=(hw.actsG y hy).1;have h1:=hsm.event;have h2:=hsm.dst;refine ⟨by show y.m.event.size<=1000000;omega,by show y.m.to.size<=1000000;omega,fun hne => ?_⟩;have hto:y.m.to=m.to:=by rw [e];exact (v7 m).2
  have hne:y.m.to.toList.isEmpty=false:=hne;rw [hto] at hne;have hp:=hC.tos _ (Cn hi) m hmm hne;obtain ⟨d,hd,hdn⟩:∃ d,d<S.length/\(Pro.sAt S d).name=m.to:=by
   unfold Ref.place at hp;cases hf:(S.map Ref.emb).findIdx? (Ref.Fj m.to) with
   | none=>rw [hf] at hp;exact absurd hp zac
   | some d =>
    rw [OT] at hf;obtain ⟨hd,h1,_⟩:=hf;have hd':d<S.length:=by simpa using hd
    rw [Ns] at h1;refine ⟨d,hd',?_⟩;have h1:(S[d].name.toList == m.to.toList)=true:=h1;have hs:Pro.sAt S d=S[d]:=by unfold Pro.sAt;rw [Lm,K8 hd'];rfl
    rw [hs];exact OI fun hne=>by
     rw [Lw.Ir hne] at h1;cases h1
  obtain ⟨zd,hzd⟩:∃ z,Z[d]?=some z:=⟨_,K8 zaa⟩;have hx:(Z.map bF)[d]?=some (bF zd):=by rw [Lv,hzd];rfl
  have hxl:=(Lc.1 hx).1;obtain ⟨a,ha⟩:=qY (n:=m.to) hx (by show m.to=zd.s.name;rw [h.at' d zd hzd,<- hdn];rfl) (Z.map bF).length hxl (K7 _);refine ⟨a,by show dw _ _ y.m.to=_;rw [hto];exact ha,(xZ _ (K7 _) ha).1⟩
end
def X0 (S:List Ref.State) (u v:Nat->Ref.Sl):List MS:=S.mapIdx fun i x=>⟨Pro.ao x,x.name,x.depth,x.up,Ref.Sl.nil,u i,v i,Ref.Sl.nil⟩
def EN0 (S:List Ref.State) (i:Nat):List PA:=match S[i]? with | some x=>(Pro.yB x).enter.map th | none=>[]
def quiet (S:List Ref.State) (u v:Nat->Ref.Sl):Bool:=let r:=dE (psF (X0 S u v)) (bL (X0 S u v) (X0 S u v).length) (EN0 S) r0 (els (gj (psF (X0 S u v)) 0));r.q.isEmpty&&r.fin == 0
def bare (x:MS):MS:=⟨x.kind,x.name,x.depth,x.owner,Ref.Sl.nil,x.ve,x.vl,Ref.Sl.nil⟩
theorem qz (X:List MS):∀ k,bC (X.map bare) k=bC X k
 | 0=>by unfold bC;rw [Lt]
 | k+1=>by
  rw [bC,bC,qz X k,Lv];cases X[k]? with
  | none=>rfl
  | some x =>
   show l6 (bC X k) k (bare x)=l6 (bC X k) k x;unfold l6 Dw bare;rfl
theorem qP (X:List MS):∀ k,bL (X.map bare) k=bL X k
 | 0=>rfl
 | k+1=>by
  rw [bL,bL,qP X k,Lv];cases X[k]? <;> rfl
theorem pN.bare {Z:List Pro.DS} {S:List Ref.State} (h:pN Z S):∃ u v,(Z.map bF).map bare=X0 S u v:=by
 have hl:=h.len;refine ⟨fun i=>(Z[i]?.map (·.ve)).getD Ref.Sl.nil,fun i=>(Z[i]?.map (·.vl)).getD Ref.Sl.nil,?_⟩;apply Np
 intro i;unfold X0;rw [Lv,Lv,List.getElem?_mapIdx];cases hz:Z[i]? with
 | none=>rw [LR (by have:=List.getElem?_eq_none_iff.1 hz;omega)];rfl
 | some z =>
  have hi:i<S.length:=zbP;have e:=h.at' i z hz;have hs:Pro.sAt S i=S[i]:=by unfold Pro.sAt;rw [Lm,K8 hi];rfl
  rw [K8 hi];show some (Pg.bare (bF z))=some _;unfold bF Pg.bare;dsimp only;rw [e,hs,hz];rfl
theorem IV {w0 W:World} {pb:Nat} {Z:List Pro.DS} {S:List Ref.State} {MM:Nat->List Pro.PV} (h:pN Z S) (hC:Pro.mY S) (hM:∀ i,(∀ z,Z[i]?=some z->fD W z (MM i))/\(Z[i]?=none->MM i=[])) (hN:Ej w0 W pb (Z.map bF) (vOf MM)) (hl:Lw W.heap.size) :
  ∃ EN LV b hvs H D mbm n M Lr pmF acF,mZ W W pb b (Z.map bF).length (psF (Z.map bF)) (bL (Z.map bF) (Z.map bF).length) EN LV hvs H D mbm n (D4 (Z.map bF) (vOf MM)) M Lr pmF acF/\SzP (psF (Z.map bF)) EN LV/\(∀ m,∀ a∈acF m,a.sz)/\EN=EN0 S:=by
 have hlen:=h.len;have h24:=hC.shp.len;have hpos:=hC.pos;have hzs:∀ (i:Nat) (x:MS),(Z.map bF)[i]?=some x->∃ z,x=bF z/\fD W z (MM i):=fun i x hx=>by
  obtain ⟨z,hz,e,_⟩:=h.ms hx;exact ⟨z,e,(hM i).1 z hz⟩
 have hac:∀ {v:Ref.Sl} {A:List Ref.Act},W.ownsRow 0 324 1 v.v A.length (A.map bf)->Pro.l9 A->fT W W.heap.size v (zZ W W.heap.size v)/\(∀ a∈zZ W W.heap.size v,a.sz)/\zZ W W.heap.size v=A.map th:=fun hr hG=>by
  rw [Hb (BP hr hG)];exact ⟨BP hr hG,fun a ha=>by
   obtain ⟨x,hx,rfl⟩:=LQ.1 ha;exact (Ck (hG.small x hx)).2,rfl⟩
 obtain ⟨b,hvs,H,D,mbm,n,M,Lr,pmF,acF,hR,_,_,_,_,r5,_⟩:=Gb (zZ W W) hN za2 za2 (h.ok hC) (h.his hC) hl (fun i x hx=>by
  obtain ⟨z,rfl,hw⟩:=hzs i x hx;exact ⟨(hac hw.enter hw.enterG).1,(hac hw.leave hw.leaveG).1⟩) (fun i hi v hv=>by
  rw [Lt] at hi;have hw:=(hM i).1 Z[i] (K8 hi);obtain ⟨y,hy,rfl⟩:=LQ.1 hv;have:=hac (hw.ax y hy) (hw.actsG y hy).2;exact ⟨this.1,this.2.1⟩)
 refine ⟨_,_,b,hvs,H,D,mbm,n,M,Lr,pmF,acF,hR,⟨fun i a ha => ?_,fun i a ha => ?_,fun i p hp => ?_⟩,r5,?_⟩
 ·unfold enF at ha;split at ha
  ·rename_i x hx;obtain ⟨z,rfl,hw⟩:=hzs i x hx;exact (hac hw.enter hw.enterG).2.1 a ha
  ·cases ha
 ·unfold lvF at ha;split at ha
  ·rename_i x hx;obtain ⟨z,rfl,hw⟩:=hzs i x hx;exact (hac hw.leave hw.leaveG).2.1 a ha
  ·cases ha
 ·obtain ⟨x,hx,e⟩:=FU _ (h.ok hC) hp;obtain ⟨z,rfl,hw⟩:=hzs i x hx;have:=hw.name;have h5:(bF z).name=z.s.name:=rfl;rw [show p.done=p8++(bF z).name from congrArg St.done e,h5,NS];have:p8.size=5:=rfl;omega
 ·funext i;unfold enF EN0;rw [Lv];cases hz:Z[i]? with
  | none=>rw [LR (by have:=List.getElem?_eq_none_iff.1 hz;omega)];rfl
  | some z =>
   have hi:i<S.length:=zbP;have hw:=(hM i).1 z hz;have hs:Pro.sAt S i=S[i]:=by unfold Pro.sAt;rw [Lm,K8 hi];rfl
   rw [K8 hi,<- hs];show zZ W W z.ve=(Pro.yB (Pro.sAt S i)).enter.map th;rw [<- h.at' i z hz];exact (hac hw.enter hw.enterG).2.2
def zK (s:ByteArray) (w:World) (e:Ending) (w':World):Prop:=Below w w w'/\match Pro.read s with
 | .fault c l=>∃ b,e = .returned (.tuple #[.pointer none,.slice none 0 0,.iface 159 (.pointer (some ⟨b,0,none⟩))])/\w'.heap[b]?=some (.cells #[.int .i64 c,.int .i64 l] 163 (0,0))
 | .fF S=>∃ xb sb p r,e = .returned (.tuple #[.pointer (some ⟨xb,0,none⟩),.slice (some ⟨sb,0,none⟩) 1 1,fuelV r.fin])/\Ses w' w.heap.size xb p r/\r.now=0/\((∀ u v,quiet S u v=true)->r.fin=0)
end Pg
theorem Bu (s:ByteArray) (w:World) (hv:uW w) (hs:s.size<=1073741824) :
  () 53 #[s] w (Pg.zK s w):=by
 have HR:Hid _:=F0 s w hv.lib hs;have HV:Hid _:=hv;clear hv;go_enter func53,ntmps53;go_wp2_with fail;refine Lh HR.out ?_;rintro e w1 ⟨hb1,hp⟩;cases hR:Pro.read s with
 | fault c l =>
  rw [hR] at hp;obtain ⟨b,rfl,hbk⟩:=hp;have HRR:Hid _:=hR;clear hR;dsimp only;go_wp2;go_ret3;unfold Pg.zK;rw [HRR.out];exact ⟨hb1,b,rfl,hbk⟩
 | fF S =>
  rw [hR] at hp;obtain ⟨cb,sv,X,rfl,hcb,hXS,hC,hSl⟩:=hp;have hRf:=hR;rw [Pro.DP] at hRf;have hCK:=Pro.Bg hRf;have hXl:X.length<=24:=by rw [<- hXS,Lt] at hSl;exact hSl
  have HT:Hid _:=Ah cb sv X w1 hcb hC zaa (fun x hx=>(hCK.low x.s (by rw [<- hXS];exact NC hx)).1);have HRR:Hid _:=hR;have HXS:Hid _:=hXS;have HCK:Hid _:=hCK;clear hR hRf hXS hSl hXl hC hcb hCK;dsimp only;go_wp2_with fail;refine Lh HT.out ?_;rintro e w2 ⟨hb2,cb2,sv2,Z,rfl,hcb2,hD⟩;have hlo:=Pg.Is hD HXS.out;obtain ⟨MM,hMM⟩:=Pg.JY hD;have hZl:Z.length=S.length:=hlo.len;obtain ⟨cg,cc,hch⟩:=Pg.JF hD hcb2 (by have:=HCK.out.pos;omega) hMM;have hv2:=(HV.out.aq hb1).aq hb2;have HN:Hid _:=IH w2 cb2 cg cc (Z.map Pg.bF) (Pg.vOf MM) hch (by rw [Lt,hZl];exact HCK.out.shp.len) (fun i x hx=>by
   obtain ⟨z,hz,rfl,_⟩:=hlo.ms hx;have:=((hMM i).1 z hz).name;show z.s.name.size<=1000000;omega) (hlo.ok HCK.out) (hlo.his HCK.out) hv2.lw.g5 hv2.t5 hv2.k5 (fun i=>(hlo.Kz HCK.out hMM i).1) (fun i=>(hlo.Kz HCK.out hMM i).2)
  have HB2:Hid (Below w w w2):=hb1.trans (hb2.mono hb1.size);have HV2:Hid _:=hv2;have HLO:Hid _:=hlo;have HMM:Hid _:=hMM;clear hv2 hb1 hb2 hD hcb2 hch hlo hMM hZl;dsimp only;go_wp2_with fail;refine Lh HN.out ?_;rintro e w3 ⟨pb,rfl,hNP⟩;have hb3:Below w2 w2 w3:=by
   obtain ⟨_,_,_,_,_,_,_,hb,_⟩:=hNP;exact hb
  have hv3:=HV2.out.aq hb3;obtain ⟨EN,LV,b,hvs,H,D,mbm,n,M,Lr,pmF,acF,hRP,hSz,hsz,hEN⟩:=Pg.IV HLO.out HCK.out (fun i=>⟨fun z hz=>((HMM.out i).1 z hz).aq hb3,(HMM.out i).2⟩) hNP hv3.lw;have hpl:(Pg.psF (Z.map Pg.bF)).length=S.length:=by rw [Pg.qg,Lt];exact HLO.out.len
  obtain ⟨p0,hp0⟩:∃ p0,(Pg.psF (Z.map Pg.bF))[0]?=some p0:=⟨_,K8 (by have:=HCK.out.pos;omega)⟩;have hwt:p0.wth=Pg.gj (Pg.psF (Z.map Pg.bF)) 0:=by unfold Pg.gj;rw [hp0]
  have hwl:p0.wth<2 ^ (Pg.psF (Z.map Pg.bF)).length:=by rw [hwt,Pg.qg];exact Pg.jI (Pg.yP _ (HLO.out.ok HCK.out)) 0
  have HS:Hid _:=Bk w3 w3 pb b _ _ _ _ _ hvs H D mbm n _ M Lr pmF acF p0 hRP hSz hsz hp0 hwl (K7 _) hv3.t6 hv3.t5 (fun V=>oI _ V zac);have HB3:Hid (Below w w w3):=HB2.out.trans (hb3.mono HB2.out.size);have HQ:Hid ((∀ u v,Pg.quiet S u v=true)->(Pg.dP (Pg.psF (Z.map Pg.bF)) (Pg.bL (Z.map Pg.bF) (Z.map Pg.bF).length) EN LV H D M Lr pmF acF p0.wth).fin=0):=fun hq=>by
   obtain ⟨u,v,e0⟩:=HLO.out.bare;have hq:=hq u v;unfold Pg.quiet at hq;dsimp only at hq;have e1:Pg.psF (Pg.X0 S u v)=Pg.psF (Z.map Pg.bF):=by rw [<- e0];unfold Pg.psF;rw [Pg.qz,Lt]
   have e2:Pg.bL (Pg.X0 S u v) (Pg.X0 S u v).length=Pg.bL (Z.map Pg.bF) (Z.map Pg.bF).length:=by rw [<- e0,Pg.qP,Lt]
   rw [e1,e2,<- hEN,<- hwt,LJ,NX,PE] at hq;unfold Pg.dP Pg.eZ;rw [Pg.lS hq.1];exact hq.2
  have hok:Pg.ROK (Pg.psF (Z.map Pg.bF)) (Pg.dP (Pg.psF (Z.map Pg.bF)) (Pg.bL (Z.map Pg.bF) (Z.map Pg.bF).length) EN LV H D M Lr pmF acF p0.wth)/\Pg.QOK (Pg.dP (Pg.psF (Z.map Pg.bF)) (Pg.bL (Z.map Pg.bF) (Z.map Pg.bF).length) EN LV H D M Lr pmF acF p0.wth) :=
   Pg.j8 (fun r x h k=>Pg.jO hRP hSz hsz h k x) (Pg.lE _ _ ⟨MJ _,fun _=>MJ _⟩ (Pg.gD hwl)) (Pg.lG hSz _ _ ⟨fun e he=>(by cases he),.inl rfl,zac,fun x hx=>zaw⟩)
  have hnow:(Pg.dP (Pg.psF (Z.map Pg.bF)) (Pg.bL (Z.map Pg.bF) (Z.map Pg.bF).length) EN LV H D M Lr pmF acF p0.wth).now=0:=(Pg.oZ (fun r x=>Pg.kF r x) 60 _).trans (Pg.qM _ _ _ _ _);have hq0:(Pg.dP (Pg.psF (Z.map Pg.bF)) (Pg.bL (Z.map Pg.bF) (Z.map Pg.bF).length) EN LV H D M Lr pmF acF p0.wth).q=[]:=rfl;have HFIN:Hid (∀ (w4:World) (mb:Nat),Pg.MT w4 w3 mb pb (Pg.dP (Pg.psF (Z.map Pg.bF)) (Pg.bL (Z.map Pg.bF) (Z.map Pg.bF).length) EN LV H D M Lr pmF acF p0.wth)->Pg.Rf w3.heap.size w3 w4->Below w w (w4.alloc (.cells #[.pointer (some ⟨mb,0,none⟩)] 94))/\Pg.Ses (w4.alloc (.cells #[.pointer (some ⟨mb,0,none⟩)] 94)) w.heap.size w4.heap.size ⟨w3.heap.size,mb,pb,b,_,Pg.psF (Z.map Pg.bF),Pg.bL (Z.map Pg.bF) (Z.map Pg.bF).length,EN,LV,hvs,H,D,mbm,n,Pg.D4 (Z.map Pg.bF) (Pg.vOf MM),M,Lr,pmF,acF⟩ (Pg.dP (Pg.psF (Z.map Pg.bF)) (Pg.bL (Z.map Pg.bF) (Z.map Pg.bF).length) EN LV H D M Lr pmF acF p0.wth)):=fun w4 mb hMT hRf=>by
   have hb4:Below w4 w4 (w4.alloc (.cells #[mb] 94)):=(K9 _ _).alloc (K7 _) _;have hs34:=hRf.bel.size;exact ⟨HB3.out.trans ((hRf.bel.mono HB3.out.size).trans (hb4.mono (La HB3.out.size hs34))),Lf _ _,hs34,HB3.out.size,⟨(hRP.rf hRf).rf (Pg.RfE.of hb4 hs34),hSz,hsz,hMT.below hv3.lw hb4,hok.1,hok.2,hq0⟩⟩
  generalize Pg.dP (Pg.psF (Z.map Pg.bF)) (Pg.bL (Z.map Pg.bF) (Z.map Pg.bF).length) EN LV H D M Lr pmF acF p0.wth=r at *;have HNW:Hid _:=hnow;clear hb3 hv3 hNP hRP hSz hsz hEN hwt hwl hp0 hok hnow hq0 hpl;dsimp only;go_wp2_with fail;refine Lh HS.out ?_;rintro e w4 ⟨mb,sb,sv4,rfl,hst,hnm,hMT,hRf,hsb⟩;have HE:Hid _:=HFIN.out w4 mb hMT hRf;clear hst hnm hMT hRf hsb;dsimp only;go_wp2;go_ret3;unfold Pg.zK;rw [HRR.out];exact ⟨HE.out.1,_,_,_,r,rfl,HE.out.2,HNW.out,HQ.out⟩
attribute [local go_sem] L3
theorem GR (mb:Nat) (w:World):() 73 #[.pointer (some ⟨mb,27,none⟩)] w fun e w'=>e = .returned (.func (.func 110) #[] #[w])/\w'=w.alloc (.cells #[.pointer (some ⟨mb,27,none⟩)] 198):=by
 go_enter func73,ntmps73;exact zfi
theorem Jz (n:Nat) (hn:7<=n) (Bs mb:Nat) (R:Nat->List Pg.Nd) (hv:Nat->Nat) (hvl:∀ k,k<6->hv k<18446744073709551616) (B:Nat->TypeId->Prop) (w:World) (hN:Pg.sO w mb R hv B) (hc:Boxed w Bs 198 (.pointer (some ⟨mb,27,none⟩))) (hBs:¬ B Bs 198) :
  BN Fence.wide n prog 110 #[Bs] (fun x:Pg.Nd=>#[Value.int .u64 x.2.t,.agg #[.string x.2.ev,.string x.2.nm]]) (KpN B (w.heap.size+2)) (fun xs x=>(∃ r,Pg.isR r/\x∈R r)/\xs.length<=8000) (fun xs=>xs=Pg.qB R hv) (fun xs=>xs <+: Pg.qB R hv) w:=fun l J Jx W hW hWs hJ hJx hY h0=>by
 have hcW:=(show Boxed W Bs _ _ from (KpM.below (B:=B) hW).2 _ _ _ _ hc hBs).cell;have hn1:1<=n:=zaa;refine LY func110 rfl trivial ?_ rfl;simp only [ntmps110,List.size_toArray,List.length_cons,List.length_nil,Nat.reduceAdd,Nat.reduceSub,Array.replicate_succ,Array.replicate_zero,List.push_toArray,List.append_toArray,List.nil_append,List.cons_append];have hc1:(W.alloc (.cells #[.func (.yield l) #[] #[]] 245)).cell? Bs=_:=lB ((K9 _ W).alloc (K7 _) _) hcW;gi_wp2_with (refine ⟨trivial,?_⟩;gi_at_call 111;refine (LA.2 (rI mb 27 _)).mono ?_;rintro e w9 ⟨rfl,hw9⟩;rw [hw9];clear hw9 w9);have hB1:Below W W ((W.alloc (.cells #[.func (.yield l) #[] #[]] 245)).alloc (.cells #[.pointer (some ⟨mb,27,none⟩)] 198)):=((K9 _ W).alloc (K7 _) _).alloc zad _;have by1:=(LB W 245 (.func (.yield l) #[] #[])).alloc (.cells #[.pointer (some ⟨mb,27,none⟩)] 198);have bx1:=LB (W.alloc (.cells #[.func (.yield l) #[] #[]] 245)) 198 (.pointer (some ⟨mb,27,none⟩));simp only [World.size_alloc] at bx1;have hJ1:J [] ((W.alloc (.cells #[.func (.yield l) #[] #[]] 245)).alloc (.cells #[.pointer (some ⟨mb,27,none⟩)] 198)):=hJ.alloc _ (hJ.alloc _ h0);have hs1:((W.alloc (.cells #[.func (.yield l) #[] #[]] 245)).alloc (.cells #[.pointer (some ⟨mb,27,none⟩)] 198)).heap.size=W.heap.size+2:=zad;generalize (W.alloc (.cells #[.func (.yield l) #[] #[]] 245)).alloc (.cells #[.pointer (some ⟨mb,27,none⟩)] 198)=W1 at *;have hK1:KpM B w W1:=(KpM.below hW).tr (KpM.below hB1);have hlt:=hN.lt;have hws:=hW.size;refine nX rfl zaa (gf:=147) rfl trivial (Nk func147 zab rfl)
  (yI (n-1) zaa (W.heap.size+1) mb R hv hvl B W1 (hN.up hK1) bx1 (fun h=>by rcases hlt _ _ h with h | h;omega;exact absurd h zac))
  KpN.tr (fun V o o' h ho=>KpN.put zaa V o o' h ho) (fun _=>rfl)
  (fun xs V=>J xs V/\KpN B (w.heap.size+2) W1 V) Jx
  (LK (fun xs A C row h hg hr=>hJ _ A C row h hg (fun r e=>⟨zar,(hr r e).2⟩)) (KpN.own (K7 _)))
  (fun xs A C row h hg hr=>hJx _ A C row h hg (fun r e=>⟨zar,(hr r e).2⟩))
  ⟨hJ1,KpN.refl _ _ _⟩
  (fun x a' _=>a'={ tmps:=#[.func (.yield l) #[] #[],.pointer (some ⟨Bs,0,none⟩),.pointer (some ⟨W.heap.size,0,none⟩),.pointer (some ⟨x.1,0,none⟩),.pointer (some ⟨mb,27,none⟩),.func (.func 147) #[] #[.pointer (some ⟨W.heap.size+1,0,none⟩)],.pointer (some ⟨x.1,0,none⟩),undef,undef,undef,undef,undef,undef,undef,undef,undef,undef,undef],defers:=[] })
  (fun _ _ _ _ _ _ hs _ _=>hs) ?assign ?body ?done ?stop
 case assign =>
  intro l2 xs x V K hI hK;exact zeU
 case body =>
  rintro l2 xs x a' V hl ⟨rl,hrl⟩ ⟨⟨r,hir,hxr⟩,hxl⟩ ⟨hJV,hKV⟩ rfl;obtain ⟨i,hi⟩:=LG.1 hxr;have hnx:=(hK1.tr hKV.1).2 _ _ _ _ (hN.nds r hir i x hi) (hN.far r hir x hxr _);have n0:V.drew.cell? x.1=some (.int .u64 x.2.t):=by rw [show V.drew.cell? x.1=V.cell? x.1 from rfl,Lb V _ _ _ _ _ hnx];rfl
  have n1:V.drew.cell? ⟨x.1,1,none⟩=some ↑x.2.ev:=zbZ;have n2:V.drew.cell? ⟨x.1,2,none⟩=some ↑x.2.nm:=zb0;have vy:V.drew.cell? W=_:=(Pg.KpM.bx hlt hKV.1 by1 hws).cell;have hgr:V.grownBy V.drew none:=⟨rfl,rfl,rfl,K7 _,fun _ _ _=>rfl⟩;obtain ⟨fn,tm,asg,bd,hy,hRo⟩:=hY _ x V.drew (hJ xs V V.drew none hJV hgr (fun r e=>by cases e)) ⟨⟨r,hir,hxr⟩,hxl⟩
  (try dsimp only at hy)
  have hd1:1<=n-1-1:=zaa;clear hnx hi;gi_wp2;refine aQ (cB l2) 9 zab zab zab ?_;simp only [List.take_succ_cons,List.take_zero,List.drop_succ_cons,List.drop_zero]
  repeat still_step
  refine MD ?_;gi_wp2;refine (mT kg (cB l2) hRo).mono ?_;rintro e V' (⟨rfl,hJ',hk'⟩ | ⟨rfl,hJ',hk'⟩)
  ·have hk2:KpN B (w.heap.size+2) V V':=(KpN.below (K9 _ V).drew).tr hk';gi_wp2;exact ⟨(Pg.KpN.lo hk2 zaa).2,Pg.KpN.lo hk2 zaa,hJ',hKV.tr hk2⟩
  ·have hk2:KpN B (w.heap.size+2) V V':=(KpN.below (K9 _ V).drew).tr hk';gi_wp2;exact ⟨(Pg.KpN.lo hk2 zaa).2,Pg.KpN.lo hk2 zaa,hJ'⟩
 case done =>
  rintro D xs V hD hrs ⟨hJV,hKV⟩ hdef;exact zdG
 case stop =>
  rintro D xs V hD hrs hJV hdef;gi_wp2;refine ⟨zad,.inl ⟨_,_,rfl,LU hdef,?_⟩⟩;exact ⟨_,Mb rfl _ _ _,⟨_,rfl⟩,.inr ⟨xs,hrs,hJx.putObj _ hJV zaa hdef rfl⟩⟩
attribute [local go_sem] L3
theorem Ff:(Tryz.prog.info? 72).map (fun i=>(i.zero,i.size,i.bytes))=some (some (.agg #[.string ⟨#[]⟩,.int .u64 0]),2,24):=zab
namespace Pg
def wtC (x:Tn):List Value:=[x.ev,.int .u64 x.t]
abbrev Wts (W:World) (base:Nat) (v:Value) (L:List Tn):Prop:=W.ownsRow base 72 2 v L.length (L.flatMap wtC)
theorem yr {W w1:World} {n B:Nat} {e:TypeId} {size:Nat} {v v':Value} {xs:List Value} {o:Obj} {Bp:Nat->TypeId->Prop} {lo:Nat} (hrow:W.ownsRow n e size v k xs) (hg:(W.alloc o).grownBy w1 v.ownBlock) (h1:∀ t,Bp B t) (h2:∀ g,n<=g->Bp g e) (hk:KeepsOthers W (w1.setCell B v')):KpN Bp lo W (w1.setCell B v'):=by
 refine ⟨⟨hk.size,fun i c t f hi hn => ?_⟩,hk.from _⟩;have hl:=(K6.1 hi).1;rw [LI w1 ⟨B,0,none⟩ v' i (fun e=>hn (e ▸ h1 t))];refine (hg.block i zaf (fun e => ?_)).trans ((Mh _ _ _ hl).trans hi)
 rcases hrow.2 with ⟨rfl,_⟩ | ⟨g,cap,cur,rfl,hb,hgr,_⟩
 ·cases e
 ·obtain rfl:i=g:=by simpa [Value.ownBlock] using e
  rw [hi] at hgr;cases hgr
  exact hn (h2 _ hb)
end Pg
theorem A8 (w:World) (mb:Nat) (R:Nat->List Pg.Nd) (hv:Nat->Nat) (hvl:∀ k,k<6->hv k<18446744073709551616) (hN:∀ W0,Below w w W0->W0.heap.size=w.heap.size+2->Pg.sO W0 mb R hv (fun k t=>k=w.heap.size\/(w.heap.size<=k/\t=72))) :
  () 52 #[mb] w fun e w'=>∃ sl:Ref.Sl,e = .returned (.slice sl.a sl.n sl.c)/\Pg.Wts w' w (.slice sl.a sl.n sl.c) ((Pg.qB R hv).map (·.2))/\Below w w w':=by
 obtain ⟨i0,hi,hz0,hz1,hz2⟩:=MC Ff;refine (LA (n:=10)).1 ?_;refine LY func52 rfl trivial ?_ rfl;simp only [ntmps52,List.size_toArray,List.length_cons,List.length_nil,Nat.reduceAdd,Nat.reduceSub,Array.replicate_succ,Array.replicate_zero,List.push_toArray,List.append_toArray,List.nil_append,List.cons_append];gi_wp2_with (refine ⟨trivial,?_⟩;gi_at_call 73;refine (LA.2 (GR mb _)).mono ?_;rintro e w9 ⟨rfl,hw9⟩;rw [hw9];clear hw9 w9);have b0:=(LB w 69 (.slice none 0 0)).alloc (.cells #[.pointer (some ⟨mb,27,none⟩)] 198);have b1:=LB (w.alloc (.cells #[.slice none 0 0] 69)) 198 (.pointer (some ⟨mb,27,none⟩));simp only [World.size_alloc] at b1;have hB0:Below w w ((w.alloc (.cells #[.slice none 0 0] 69)).alloc (.cells #[.pointer (some ⟨mb,27,none⟩)] 198)):=((K9 _ w).alloc (K7 _) _).alloc zad _;have hs0:((w.alloc (.cells #[.slice none 0 0] 69)).alloc (.cells #[.pointer (some ⟨mb,27,none⟩)] 198)).heap.size=w.heap.size+2:=zad;generalize (w.alloc (.cells #[.slice none 0 0] 69)).alloc (.cells #[.pointer (some ⟨mb,27,none⟩)] 198)=W0 at *;refine nX rfl zaa (gf:=110) rfl trivial (Nk func110 zab rfl)
  (Jz 9 zaa (w.heap.size+1) mb R hv hvl _ W0 (hN W0 hB0 hs0) b1 (fun h=>by rcases h with h | ⟨_,h⟩;omega;exact absurd h zac))
  KpN.tr (fun V o o' h ho=>KpN.put zaa V o o' h ho) (fun _=>rfl)
  (fun xs V=>(∃ v,Boxed V w 69 v/\V.ownsRow w 72 2 v xs.length (xs.flatMap fun x=>Pg.wtC x.2)/\∃ sl:Ref.Sl,v = .slice sl.a sl.n sl.c)/\Below w w V)
  (fun _ _=>False)
  (LK (Mu (holdsRow_own w w.heap.size 69 72 2 (fun xs:List Pg.Nd=>xs.length) (fun xs=>xs.flatMap fun x=>Pg.wtC x.2) (fun _ v=>∃ sl:Ref.Sl,v = .slice sl.a sl.n sl.c)) _) (M7 (K7 _) zaa))
  (fun _ _ _ _ h _ _=>h)
  ⟨⟨_,b0,Mf _ _ _ _,⟨none,0,0⟩,rfl⟩,hB0⟩
  (fun x a' V=>∃ bt,a'={ tmps:=#[.pointer (some ⟨mb,0,none⟩),undef,.slice none 0 0,.pointer (some ⟨w.heap.size,0,none⟩),.int .u64 x.2.t,.pointer (some ⟨bt,0,none⟩),.pointer (some ⟨mb,0,none⟩),.pointer (some ⟨mb,0,none⟩),.pointer (some ⟨mb,27,none⟩),.func (.func 110) #[] #[.pointer (some ⟨w.heap.size+1,0,none⟩)],.int .u64 x.2.t,.agg #[.string x.2.ev,.string x.2.nm],undef,undef,undef,undef,undef,undef,undef,undef],defers:=[] }/\V.heap[bt]?=some (.cells #[.string x.2.ev,.string x.2.nm] 154 (0,0)))
  (fun x a' _ A C row h hg hr=>by
   obtain ⟨bt,e1,e2⟩:=h;exact ⟨bt,e1,((Pg.gP (E:=fun _=>False) hg (fun r e=>(hr r e).2)).aq _ _ _ _ e2 (fun h=>h)).trans e2⟩) ?assign ?body ?done ?stop
 case assign =>
  intro l xs x V K hI hK;gi_wp2_with (show wpListIn _ _ _ _ _ (Oper.mk none _ _ _ _ _::_) _ _;refine ly (cB l) rfl (fun c h=>zap) (fun K2 hK2=>ie 154 (.tmp 5) (.tmp 11) rfl V 154 #[.string ⟨#[]⟩,.string ⟨#[]⟩] #[x.2.ev,x.2.nm] rfl rfl (Lf V _) jE rfl rfl (hK2 _ _ ?_));rw [OU]);have hBa:Below V V (V.alloc (.cells #[x.2.ev,x.2.nm] 154)):=(K9 _ V).alloc (K7 _) _;obtain ⟨⟨v,h9,hrow,hsl⟩,hBW⟩:=hI;exact hK _ _ ((Pg.dI hBa).from _) (KpN.below hBa) ⟨⟨v,h9.alloc _,hrow.alloc _,hsl⟩,hBW.alloc hBW.size _⟩ ⟨V.heap.size,rfl,Lf V _⟩
 case body =>
  rintro l xs x a' W _ _ ⟨_,hxl⟩ ⟨⟨v,h9,hrow,sl,rfl⟩,hBW⟩ ⟨bt,rfl,hbt⟩;have d9:=h9.cell;have f9:=h9.frozen;have c0:W.cell? bt=some ↑x.2.ev:=(Lb W _ _ _ _ _ hbt).trans rfl;have hsW:=hBW.size;clear hbt;have hnew:=World.news_of_block (cs:=#[Value.string x.2.ev,.int .u64 x.2.t]) (t:=72) (fr:=(0,0)) (Lf W _);gi_wp2_with (gi_at_builtin;refine Ps _ rfl _ _ 69 rfl w 72 i0 (.agg #[.string ⟨#[]⟩,.int .u64 0]) 2 24 underlying69 hi hz0 hz1 hz2 rfl zac (.slice sl.a sl.n sl.c) xs.length _ rfl (hrow.alloc _) ⟨W,0,none⟩ 1 1 [x.2.ev,.int .u64 x.2.t] rfl rfl hnew zao zag zaa zaf ?_;intro v' w1 hown' hgrow _;obtain ⟨g',cap',rfl⟩:=ownsRow_succ hown';obtain ⟨hv1,hv2,hr2,hk2,hb2⟩:=h9.appended zac hrow hsW (K7 _) hown' hgrow;have hc1:=hv1.cell;have hf1:=hv1.frozen);gi_wp2;exact ⟨hk2.from _,Pg.yr hrow hgrow (fun _ => .inl rfl) (fun g hg => .inr ⟨hg,rfl⟩) hk2,⟨_,hv2,by simpa [Pg.wtC,List.flatMap_append] using hr2,⟨some ⟨g',0,none⟩,xs.length+1,cap'⟩,rfl⟩,hBW.trans hb2⟩
 case done =>
  rintro D ys W hD hys ⟨⟨v,h9,hrow,sl,rfl⟩,hBW⟩ hK;have hc:=h9.cell;rw [hys] at hrow;gi_wp2;refine ⟨zad,.inl ⟨_,_,rfl,LU hK,?_⟩⟩;refine ⟨_,OQ rfl _ _ _,sl,rfl,?_,hBW.trans (Nr (w:=w) (K7 _) W D _ _ zaa hK rfl rfl)⟩;have:=ownsRow_putObj hrow (.deferred none) hK rfl;show World.ownsRow _ _ _ _ _ _ _;rw [Lt,List.flatMap_map];exact this
 case stop =>
  rintro D pre W _ _ h _;exact h.elim
theorem DI (w:World) (lo mb pb:Nat) (r:Pg.RSt) (hl:Pg.Lw lo) (h:Pg.MT w lo mb pb r) (hk:Pg.TOK r.now r.tm) :
  () 52 #[mb] w fun e w'=>∃ sl:Ref.Sl,e = .returned (.slice sl.a sl.n sl.c)/\Pg.Wts w' w (.slice sl.a sl.n sl.c) (Pg.srt (fun x:Pg.Tn=>x.t) r.tm)/\Below w w w':=by
 obtain ⟨qv,wh,hM,R,hW,hF,hb⟩:=h.ex;obtain ⟨hv,hv1,hv2,hv3⟩:=hW.held.get;rw [<- Pg.xm h.now (fun x hx=>⟨(hk.2 x hx).1,hb x hx⟩) hF hv3];exact A8 w mb R hv hv1 (fun W0 hB hs=>Pg.Ch hM hW hv2 hF (La h.tml zac) (Lu hl.g h.lo') h.tab hB (fun k _ hk e=>by rcases e with e | ⟨e,_⟩ <;> omega) (fun k t e=>by
  rcases e with e | ⟨_,e⟩
  ·exact .inl zaa
  ·exact .inr e))
theorem sd (w:World) (xb lo mb pb:Nat) (r:Pg.RSt) (hx:Pg.ng w xb mb) (hl:Pg.Lw lo) (h:Pg.MT w lo mb pb r) (hk:Pg.TOK r.now r.tm) :
  () 32 #[xb] w fun e w'=>∃ sl:Ref.Sl,e = .returned (.slice sl.a sl.n sl.c)/\Pg.Wts w' w (.slice sl.a sl.n sl.c) (Pg.srt (fun x:Pg.Tn=>x.t) r.tm)/\Below w w w':=by
 have c0:w.cell? xb=some ↑mb:=(Lb w _ _ _ _ _ hx).trans rfl;have HN:Hid _:=eG w xb mb hx;have HE:Hid _:=DI w lo mb pb r hl h hk;clear hx h hk;go_enter func32,ntmps32;go_wp2_with (first
  | (go_at_call 44;refine Lh HN.out ?_;rintro e w1 ⟨rfl,hw1⟩;rw [hw1];clear hw1 w1)
  | (go_at_call 52;refine Lh HE.out ?_;rintro e w2 ⟨sl,rfl,h2⟩))
 go_ret;exact ⟨sl,rfl,h2⟩
theorem yY (w:World) (xb lo mb pb:Nat) (r:Pg.RSt) (hx:Pg.ng w xb mb) (h:Pg.MT w lo mb pb r):() 20 #[xb] w fun e w'=>e = .returned (.int .u64 r.now)/\w'=w:=by
 obtain ⟨qv,wh,hM,_⟩:=h.ex;have c0:w.cell? xb=some ↑mb:=(Lb w _ _ _ _ _ hx).trans rfl;have HN:Hid _:=eG w xb mb hx;have HE:Hid _:=Ci w lo mb pb qv (r.m wh) hM;clear hx h hM;go_enter func20,ntmps20;go_wp2_with (first
  | (go_at_call 44;refine Lh HN.out ?_;rintro e w1 ⟨rfl,hw1⟩;rw [hw1];clear hw1 w1)
  | (go_at_call 45;refine Lh HE.out ?_;rintro e w2 ⟨rfl,hw2⟩;rw [hw2];clear hw2 w2))
 exact zfn
theorem nZ {fn:Func} {t u v x:Tmp} (h:fn.results=#[.tmp t,.tmp u,.tmp v,.tmp x]) (tmps:Array Value) (P:Program) (w:World):(results fn tmps).run P w = .ok (.tuple #[tmps.getD t undef,tmps.getD u undef,tmps.getD v undef,tmps.getD x undef]) w:=by
 simp [results,h]
namespace Pg
def EvS (W:World) (n0:Nat) (v:Value):Prop:=v = .slice none 0 0\/∃ sb c,v = .slice (some ⟨sb,0,none⟩) 1 1/\n0<=sb/\W.heap[sb]?=some (.cells c 63 (0,0))/\c.size=3/\∀ u∈c,u.oneCell'=true
theorem fuel_err (n:Nat) (h:n=0\/n=5\/n=6):∃ k,fuelV n=mD k/\(k=if n=6 then 6 else 0):=by
 rcases h with rfl | rfl | rfl
 ·exact ⟨0,rfl,rfl⟩
 ·exact ⟨0,rfl,rfl⟩
 ·exact ⟨6,rfl,rfl⟩
end Pg
section
variable (w:World) (n0 xb:Nat) (p:Pg.Par) (r:Pg.RSt)
theorem Hr (h:Pg.Ses w n0 xb p r) (hE:Pg.qp w) (hg:0<n0) (hcl:∀ ev:ByteArray,ev.size<=1000000->uU ev) (ev:ByteArray) (hev:ev.size<=1000000) :
  () 25 #[xb,ev] w fun e w'=>∃ l n r',e = .returned (.tuple #[l,.int .i64 (n:Nat)])/\Pg.Ses w' n0 xb p r'/\r'.now=r.now/\Pg.EvS w' n0 l/\Pg.Rf p.lo w w':=by
 have hl0:=h.lv.mt.lo';refine Lh (rU w xb p.mb (fun l k V=>∃ r',Pg.Ses V n0 xb p r'/\r'.now=r.now/\Pg.EvS V n0 l/\Pg.Rf p.lo w V) h.at' (fun l k V hV => ?_) ev ((C4 w _ _ _ _ _ _ _ _ _ _ _ _ _ _ _ _ _ _ _ r ev h.lv hev (hcl ev hev)).mono fun e w' hw => ?_)) ?_
 ·obtain ⟨_,_,_,_,hf⟩:=hV;exact zeD
 ·unfold Pg.uX at hw;by_cases hf:r.fin=0
  ·rw [Lg hf] at hw;obtain ⟨sb,sv,rfl,h5,h6,h7,h8,h9⟩:=hw;obtain ⟨k,e1,e2⟩:=Pg.fuel_err _ h7.qk.fin;refine ⟨_,k,by rw [<- e1],_,⟨h8.kd.aq _ _ _ _ h.at' zaz |>.trans h.at',h.lo,h.n0,h7⟩,Pg.uM (fun r x=>Pg.kF r x) r ev,.inr ⟨sb,_,rfl,La h.n0 h9,h5,rfl,?_⟩,h8⟩;obtain ⟨a,c,rfl⟩:=h6.n;simp [Value.oneCell']
  ·rw [Ld hf] at hw;obtain ⟨rfl,hb⟩:=hw;exact ⟨_,r.fin,rfl,r,h.aq hb,rfl,.inl rfl,Pg.RfE.of hb hl0⟩
 ·rintro e w' ⟨l,k,V,rfl,⟨r',h5,h6,h7,h8⟩,hb⟩;refine ⟨l,k,r',rfl,h5.aq hb,h6,?_,h8.trans (Pg.RfE.of hb h5.lv.mt.lo')⟩
  rcases h7 with h7 | ⟨sb,c,e1,e2,e3,e4⟩
  ·exact .inl h7
  ·exact .inr ⟨sb,c,e1,e2,(hb.block _ (K6.1 e3).1).trans e3,e4⟩
theorem B2 (h:Pg.Ses w n0 xb p r) (hE:Pg.qp w) (hg:0<n0) (hcl:∀ ev:ByteArray,ev.size<=1000000->uU ev) (t:Nat) (ht:t<18446744073709551616) :
  () 26 #[xb,.int .u64 t] w fun e w'=>∃ l r',Pg.Ses w' n0 xb p r'/\Pg.Rf p.lo w w'/\((r.fin=0/\(∃ k:Nat,e = .returned (.tuple #[l,(k:Int)])/\k=if r'.fin=6 then 6 else 0)/\r'=(Pg.dM p.an t 201 0 r).2/\Pg.pO w' n0 l (Pg.dM p.an t 201 0 r).1)\/(r.fin≠0/\e = .returned (.tuple #[l,.int .i64 (r.fin:Nat)])/\r'=r/\l = .slice none 0 0)):=by
 have hl0:=h.lv.mt.lo';refine Lh (rT w xb p.mb (fun l k V=>∃ r',Pg.Ses V n0 xb p r'/\Pg.Rf p.lo w V/\((r.fin=0/\(k=if r'.fin=6 then 6 else 0)/\r'=(Pg.dM p.an t 201 0 r).2/\Pg.pO V n0 l (Pg.dM p.an t 201 0 r).1)\/(r.fin≠0/\k=r.fin/\r'=r/\l = .slice none 0 0))) h.at' (fun l k V hV => ?_) t ((CS w _ _ _ _ _ _ _ _ _ _ _ _ _ _ _ _ _ _ _ r t h.lv ht hcl).mono fun e w' hw => ?_)) ?_
 ·obtain ⟨_,_,hf,_⟩:=hV;exact zeD
 ·unfold Pg.oA at hw;by_cases hf:r.fin=0
  ·rw [Lg hf] at hw;obtain ⟨sv,rfl,⟨vs,h5,h5'⟩,_,h7,h8⟩:=hw;obtain ⟨k,e1,e2⟩:=Pg.fuel_err _ h7.qk.fin;exact ⟨_,k,by rw [<- e1],_,⟨h8.kd.aq _ _ _ _ h.at' zaz |>.trans h.at',h.lo,h.n0,h7⟩,h8,.inl ⟨hf,e2,rfl,vs,h5,aD h5' h.n0⟩⟩
  ·rw [Ld hf] at hw;obtain ⟨rfl,hb⟩:=hw;exact ⟨_,r.fin,rfl,r,h.aq hb,Pg.RfE.of hb hl0,.inr ⟨hf,rfl,rfl,rfl⟩⟩
 ·rintro e w' ⟨l,k,V,rfl,⟨r',h5,h6,h7⟩,hb⟩;refine ⟨l,r',h5.aq hb,h6.trans (Pg.RfE.of hb h5.lv.mt.lo'),?_⟩
  rcases h7 with ⟨a1,a2,a3,vs,a4,a5⟩ | ⟨a1,rfl,a3,a4⟩
  ·exact .inl ⟨a1,⟨k,rfl,a2⟩,a3,vs,a4,aY a5 hb⟩
  ·exact .inr ⟨a1,rfl,a3,a4⟩
theorem IJ (h:Pg.Ses w n0 xb p r):() 32 #[xb] w fun e w'=>∃ sl:Ref.Sl,e = .returned (.slice sl.a sl.n sl.c)/\Pg.Wts w' w (.slice sl.a sl.n sl.c) (Pg.srt (fun x:Pg.Tn=>x.t) r.tm)/\Below w w w' :=
 sd w xb p.lo p.mb p.pb r h.at' h.lv.run.cH.lw h.lv.mt h.lv.qk.tm
theorem yJ (h:Pg.Ses w n0 xb p r):() 20 #[xb] w fun e w'=>e = .returned (.int .u64 r.now)/\w'=w :=
 yY w xb p.lo p.mb p.pb r h.at' h.lv.mt
end
theorem Pg.Ses.told {w:World} {n0 xb:Nat} {p:Pg.Par} {r:Pg.RSt} (h:Pg.Ses w n0 xb p r) {t:Nat} (ht:t<18446744073709551616) (hf:r.fin=0) (hn:r.now<=t):Pg.Jq t r (Pg.dM p.an t 201 0 r).1 (Pg.dM p.an t 201 0 r).2:=by
 refine Pg.ER (fun r x=>Pg.kF r x) (fun r=>Pg.ROK p.ps r/\Pg.QOK r) (fun r h=>h.2.tm) (fun r f hr hh hft => ?_) 200 0 r rfl (fun e=>by cases e) ⟨h.lv.ok,h.lv.qk⟩ hf hn;have hm:=(Pg.eP hh).1;have hq:Pg.QOK (Pg.iO r f):=⟨hr.2.q,hr.2.fin,LZ hft ht,fun x hx=>⟨(Pg.eP hh).2.1 x (NA hx),(hr.2.tm.2 x (NA hx)).2⟩⟩;exact Pg.j8 (fun r x h1 k=>Pg.jO h.lv.run h.lv.sz h.lv.sza h1 k x) ⟨hr.1.act,hr.1.kept⟩ (hq.snoc (hr.2.tm.2 f hm).2)
theorem Pg.Ses.own {w W W':World} {n0 xb:Nat} {p:Pg.Par} {r0 r:Pg.RSt} (h0:Pg.Ses w n0 xb p r0) (h:Pg.Ses W n0 xb p r) (hf:Pg.Rf p.lo w W) {P:Nat->Prop} (hm:Mo P W W') (hP:∀ k,P k->w.heap.size<=k/\∃ c t,W.heap[k]?=some (.cells c t (0,0))/\¬ Pg.cI t):Pg.Ses W' n0 xb p r/\Pg.Rf p.lo w W':=by
 have hl0:=h0.lv.mt.lo';have hlw:=h0.lv.run.cH.lw;have hf':Pg.Rf p.lo w W':=Pg.RfE.Cf hf hl0 (hm.mono (fun k _ hk=>(hP k hk).1));refine ⟨⟨(hf'.kd.aq _ _ _ _ h0.at' zaz).trans h0.at',h.lo,h.n0,⟨h0.lv.run.rf hf',h.lv.sz,h.lv.sza,h.lv.mt.moU hlw hm (fun k hk=>⟨La hl0 (hP k hk).1,(hP k hk).2⟩),h.lv.ok,h.lv.qk,h.lv.q0⟩⟩,hf'⟩
namespace Fr
def mk (l:List UInt8):ByteArray:=⟨⟨l⟩⟩
def sp (c:UInt8):List UInt8->List UInt8->List (List UInt8)
 | [],acc=>[acc]
 | x::l,acc=>if x=c then acc::sp c l [] else sp c l (acc++[x])
theorem Gk (c:UInt8):∀ (l acc:List UInt8),sp c l acc≠[]
 | [],_=>by simp [sp]
 | x::l,acc=>by
  unfold sp;split
  ·simp
  ·exact Gk c l _
theorem Cq (c x:UInt8):∀ (l acc:List UInt8),sp c (l++[x]) acc=if x=c then sp c l acc++[[]] else (sp c l acc).set ((sp c l acc).length-1) ((sp c l acc)[(sp c l acc).length-1]?.getD []++[x])
 | [],acc=>by
  by_cases h:x=c
  ·simp [sp,h]
  ·simp [sp,h]
 | y::l,acc=>by
  have ih:=Cq c x l;have hp:=Gk c l [];rw [PU];by_cases hy:y=c
  ·simp only [sp,if_pos hy,ih];by_cases h:x=c
   ·simp only [if_pos h,List.cons_append]
   ·simp only [if_neg h];obtain ⟨a,L,hL⟩:∃ a L,sp c l []=a::L:=by
     cases hq:sp c l [] with
     | nil=>exact absurd hq hp
     | cons a L=>exact ⟨a,L,rfl⟩
    rw [hL];simp
  ·simp only [sp,if_neg hy,ih]
theorem JH (s:ByteArray) (c:UInt8):Ref.cut s (c.toNat:Int)=(sp c s.data.toList []).map mk:=by
 have key:∀ k,k<=s.data.toList.length->Ref.de s (c.toNat:Int) k=(sp c (s.data.toList.take k) []).map mk:=by
  intro k
  induction k with
  | zero=>intro _;rfl
  | succ k ih =>
   intro hk;have ih:=ih zaa;have hk':k<s.data.toList.length:=zaa;obtain ⟨x,hx⟩:∃ x,s.data.toList[k]?=some x:=⟨_,K8 hk'⟩;have hb:Go.PlainAid.bt s k=(x.toNat:Int):=by
    obtain ⟨h1,rfl⟩:=Lc.1 hx;have h2:k<s.size:=h1;unfold Go.PlainAid.bt;rw [dif_pos h2];rfl
   have he:s.extract k (k+1)=mk [x]:=by
    have h1:(s.extract k (k+1)).data.toList=[x]:=by
     rw [ByteArray.data_extract,Array.toList_extract,List.extract_eq_take_drop,show k+1-k=1 by omega,List.take_one,List.head?_drop,hx];rfl
    generalize s.extract k (k+1)=z at h1;obtain ⟨⟨z⟩⟩:=z;have h1:z=[x]:=h1;rw [h1];rfl
   rw [ML,hx,Option.toList_some,Cq,Ref.de,ih,hb,he];by_cases h:x=c
   ·rw [Lg (by rw [h]),Lg h,Mc];rfl
   ·have hne:¬ ((x.toNat:Int)=(c.toNat:Int)):=fun e=>h (Pk.1 zaa);rw [Ld hne,Ld h,OF,Lt,Lv]
    congr 1
    cases (sp c (s.data.toList.take k) [])[(sp c (s.data.toList.take k) []).length-1]? with
    | none=>rfl
    | some l=>simp [mk];rfl
 have:=key s.data.toList.length (K7 _);rw [Mt] at this;exact this
def FX (P:List ByteArray):Ref.Got:=match Ref.syn P with
 | some i => .fault 2 ((i:Int)+1)
 | none=>match Ref.a7 (Ref.aM P (P.length-1)) (P.length-1) with
  | none => .fault 3 (Ref.gb (Ref.aM P (P.length-1)) (P.length-1))
  | some S=>match Ref.dF S S.length with
   | some l => .fault 3 l
   | none=>match Pro.bk S P (P.length-1) with
    | some i => .fault 4 ((i:Int)+1)
    | none => .fF S
def kt:Nat->List UInt8
 | 0=>[115,116,97,116,101,32,115,104,117,116,10,32,111,110,32,111,112,101,110,32,116,111,32,111,112,101,110,10,115,116,97,116,101,32,111,112,101,110,10,32,97,102,116,101,114,32,53,32,116,111,32,115,104,117,116,10,32,111,110,32,99,108,111,115,101,32,116,111,32,115,104,117,116,10]
 | 1=>kt 0
 | 2=>[112,97,114,97,108,108,101,108,32,112,10,32,115,116,97,116,101,32,97,10,32,32,115,116,97,116,101,32,97,49,10,32,32,32,111,110,32,120,32,116,111,32,97,50,10,32,32,102,105,110,97,108,32,97,50,10,32,115,116,97,116,101,32,98,10,32,32,115,116,97,116,101,32,98,49,10,32,32,32,111,110,32,121,32,116,111,32,98,50,10,32,32,102,105,110,97,108,32,98,50,10,32,111,110,32,100,111,110,101,46,112,32,116,111,32,101,10,115,116,97,116,101,32,101,10]
 | 3=>[115,116,97,116,101,32,109,10,32,115,116,97,116,101,32,105,10,32,32,111,110,32,110,32,116,111,32,107,10,32,115,116,97,116,101,32,107,10,32,32,115,116,97,116,101,32,107,49,10,32,32,32,111,110,32,110,32,116,111,32,107,50,10,32,32,115,116,97,116,101,32,107,50,10,32,104,105,115,116,111,114,121,32,104,10,32,104,105,115,116,111,114,121,32,103,32,100,101,101,112,10,32,111,110,32,111,117,116,32,116,111,32,111,10,115,116,97,116,101,32,111,10,32,111,110,32,104,32,116,111,32,104,10,32,111,110,32,103,32,116,111,32,103,10,32,111,110,32,109,32,116,111,32,109,10]
 | 4=>kt 3
 | 5=>[115,116,97,116,101,32,97,10,32,111,110,32,120,32,116,111,32,98,32,100,111,32,114,97,105,115,101,32,114,10,32,108,101,97,118,101,32,100,111,32,114,97,105,115,101,32,108,10,115,116,97,116,101,32,98,10,32,101,110,116,101,114,32,100,111,32,114,97,105,115,101,32,110,10,32,111,110,32,108,32,116,111,32,99,10,115,116,97,116,101,32,99,10,32,111,110,32,114,32,116,111,32,100,10,115,116,97,116,101,32,100,10,32,111,110,32,110,32,116,111,32,101,10,102,105,110,97,108,32,101,10]
 | 6=>[115,116,97,116,101,32,97,10,32,115,116,97,116,101,32,98,10,32,32,111,110,32,120,32,116,111,32,98,10,32,32,97,102,116,101,114,32,51,32,100,111,32,115,101,110,100,32,115,32,50,10,32,101,110,116,101,114,32,100,111,32,115,101,110,100,32,116,32,52,10,32,111,110,32,115,32,116,111,32,99,10,32,111,110,32,116,10,115,116,97,116,101,32,99,10]
 | 7=>[115,116,97,116,101,32,97,10,32,97,102,116,101,114,32,48,32,116,111,32,98,10,115,116,97,116,101,32,98,10,32,97,102,116,101,114,32,48,32,116,111,32,99,10,115,116,97,116,101,32,99,10]
 | 8=>[115,116,97,116,101,32,97,10,32,101,110,116,101,114,32,100,111,32,115,101,110,100,32,120,32,49,32,100,111,32,115,101,110,100,32,120,32,50,32,100,111,32,115,101,110,100,32,120,32,51,32,97,115,32,107,10,32,111,110,32,120,32,100,111,32,99,97,110,99,101,108,32,107,10]
 | 9=>[115,116,97,116,101,32,97,10,32,111,110,32,120,32,116,111,32,98,10,32,115,116,97,116,101,32,98,10,32,32,111,110,32,120,10,32,115,116,97,116,101,32,99,10,32,32,111,110,32,120,32,116,111,32,97,10]
 | 10=>[112,97,114,97,108,108,101,108,32,112,10,32,115,116,97,116,101,32,97,10,32,32,111,110,32,120,32,116,111,32,99,10,32,115,116,97,116,101,32,98,10,32,32,111,110,32,120,32,116,111,32,100,10,115,116,97,116,101,32,99,10,115,116,97,116,101,32,100,10]
 | _=>[112,97,114,97,108,108,101,108,32,112,10,32,115,116,97,116,101,32,97,10,32,32,115,116,97,116,101,32,97,49,10,32,32,32,111,110,32,120,32,116,111,32,98,50,10,32,115,116,97,116,101,32,98,10,32,32,115,116,97,116,101,32,98,49,10,32,32,115,116,97,116,101,32,98,50,10]
theorem IM (l:List UInt8) (h:l.length<=1500):Pro.read (mk l)=FX ((sp 10 l []).map mk):=by
 have h1:Ref.cut (mk l) 10=(sp 10 l []).map mk:=JH (mk l) 10;unfold Pro.read;rw [Ld (by show ¬ 1500<l.length;omega),h1];rfl
def okK (l:List UInt8) (u v:Nat->Ref.Sl):Bool:=decide (l.length<=1500)&&match FX ((sp 10 l []).map mk) with | .fF S=>Pg.quiet S u v | .fault _ _=>false
theorem Jk (u v:Nat->Ref.Sl):∀ k,k<12->okK (kt k) u v=true
 | 0,_=>by kernel_rfl
 | 1,_=>by kernel_rfl
 | 2,_=>by kernel_rfl
 | 3,_=>by kernel_rfl
 | 4,_=>by kernel_rfl
 | 5,_=>by kernel_rfl
 | 6,_=>by kernel_rfl
 | 7,_=>by kernel_rfl
 | 8,_=>by kernel_rfl
 | 9,_=>by kernel_rfl
 | 10,_=>by kernel_rfl
 | 11,_=>by kernel_rfl
 | k+12,h=>absurd h zaa
theorem I0 (hk:k<12):(mk (kt k)).size<=1073741824:=by
 have h:=Jk (fun _=>Ref.Sl.nil) (fun _=>Ref.Sl.nil) k hk;unfold okK at h;rw [LJ] at h;have h1:=Nz h.1;show (kt k).length<=_;omega
theorem yq {k:Nat} (hk:k<12):∃ S,Pro.read (mk (kt k)) = .fF S/\∀ u v,Pg.quiet S u v=true:=by
 have h:∀ u v,_:=fun u v=>Jk u v k hk;unfold okK at h;have hl:=h (fun _=>Ref.Sl.nil) (fun _=>Ref.Sl.nil);rw [LJ] at hl;have hs:=Nz hl.1;rw [IM _ hs];cases hr:FX ((sp 10 (kt k) []).map mk) with
 | fault c l=>rw [hr] at hl;cases hl.2
 | fF S =>
  refine ⟨S,rfl,fun u v => ?_⟩;have:=h u v;rw [hr,LJ] at this;exact this.2
end Fr
namespace Pg
def fuelN (fe:Nat):Nat:=if fe=6 then 6 else 0
theorem D6 (fe:Nat) (w:World) (hg:qp w) :
  () 49 #[fuelV fe] w fun ev w'=>ev = .returned (.tuple #[.int .i64 (fuelN fe),(0:Int)])/\Below w w w':=by
 unfold fuelV fuelN;by_cases h:fe=6
 ·rw [Lg h,Lg h];exact sD 6 w hg
 ·rw [Ld h,Ld h];exact zq w
def zG (s:ByteArray) (w:World) (e:Ending) (w':World):Prop:=Below w w w'/\match Pro.read s with
 | .fault c l=>e = .returned (.tuple #[.pointer none,.slice none 0 0,.int .i64 c,.int .i64 l])
 | .fF S=>∃ xb sb p r,e = .returned (.tuple #[.pointer (some ⟨xb,0,none⟩),.slice (some ⟨sb,0,none⟩) 1 1,.int .i64 (fuelN r.fin),.int .i64 0])/\Ses w' w.heap.size xb p r/\r.now=0/\((∀ u v,quiet S u v=true)->r.fin=0)
end Pg
theorem Pro.FZ {s:ByteArray} {c l:Int} (h:Pro.read s = .fault c l):0<c:=by
 unfold Pro.read at h
 repeat' split at h
 all_goals first | (cases h;decide) | cases h
theorem ku (s:ByteArray) (w:World) (hv:uW w) (hs:s.size<=1073741824) :
  () 34 #[s] w (Pg.zG s w):=by
 have HL:Hid _:=Bu s w hv hs;have HV:Hid _:=hv;clear hv;go_enter func34,ntmps34;go_wp2_with fail;refine Lh HL.out ?_;rintro e w1 ⟨hb1,hp⟩;cases hR:Pro.read s with
 | fault c l =>
  rw [hR] at hp;obtain ⟨b,rfl,hbk⟩:=hp;have HRR:Hid _:=hR;have HT:Hid _:=Bz b c l w1 (HV.out.aq hb1).errT hbk;clear hR hbk;dsimp only;go_wp2_with fail;refine Lh HT.out ?_;rintro e w2 ⟨rfl,hb2⟩;have HB:Hid _:=hb1.trans (hb2.mono hb1.size);clear hb2 hb1;dsimp only;go_wp2
  (try simp only [Exit.inBlock,Exit.then])
  refine MN (nZ rfl _ _ _) rfl ?_;unfold Pg.zG;rw [HRR.out];exact ⟨HB.out,rfl⟩
 | fF S =>
  rw [hR] at hp;obtain ⟨xb,sb,p,r,rfl,h1⟩:=hp;have HRR:Hid _:=hR;have HT:Hid _:=Pg.D6 r.fin w1 (HV.out.aq hb1).errT;have H1:Hid _:=h1;clear hR h1;dsimp only;go_wp2_with fail;refine Lh HT.out ?_;rintro e w2 ⟨rfl,hb2⟩;have HB:Hid _:=hb1.trans (hb2.mono hb1.size);have HB2:Hid _:=hb2;clear hb2 hb1;dsimp only;go_wp2
  (try simp only [Exit.inBlock,Exit.then])
  refine MN (nZ rfl _ _ _) rfl ?_;unfold Pg.zG;rw [HRR.out];exact ⟨HB.out,xb,sb,p,r,rfl,H1.out.1.aq HB2.out,H1.out.2⟩
theorem A9 (a:Nat) (w:World) (h2:a<=9223372036854775807):() 35 #[(a:Int),(12:Int)] w fun e w'=>e = .returned (.int .i64 ((a % 12:Nat):Int))/\w'=w:=by
 have hn:¬ (a:Int)<0:=zaa;go_enter func35,ntmps35;exact zfi
theorem AB (w:World):() 67 #[] w fun e w'=>∃ g,e = .returned (.slice (some ⟨g,0,none⟩) 12 12)/\Below w w w'/\∀ k,k<12->w'.cell? ⟨g,k*3,none⟩=some (.string (Fr.mk (Fr.kt k))):=by
 go_enter func67,ntmps67;go_wp2;go_ret;refine ⟨_,rfl,?_,fun k hk => ?_⟩
 ·repeat (first | exact K9 _ _ | refine Below.alloc ?_ ?_ _)
  all_goals first | (simp;done) | (simp;omega)
 ·have hN:=fun (V:World) (o:Obj) (h:V.heap.size=w.heap.size+12)=>h ▸ Lf V o;rw [Lb _ _ _ _ _ _ (hN _ _ zad)];have h:k=0\/k=1\/k=2\/k=3\/k=4\/k=5\/k=6\/k=7\/k=8\/k=9\/k=10\/k=11:=zaa;clear hN hk
  rcases h with rfl | rfl | rfl | rfl | rfl | rfl | rfl | rfl | rfl | rfl | rfl | rfl
  all_goals (show _=_;kernel_rfl)
theorem vV (a:Nat) (w:World) (hv:uW w) (h2:a<=1000000):() 47 #[(a:Int)] w fun e w'=>e = .returned true/\Below w w w':=by
 have HK:Hid _:=AB w;have HV:Hid _:=hv;have hlt:a % 12<12:=Nat.mod_lt _ zac;obtain ⟨S,hS,hq⟩:=Fr.yq hlt;have HP:Hid (∀ V,Below w w V->() 34 #[.string (Fr.mk (Fr.kt (a % 12)))] V fun e w'=>∃ xb sb,e = .returned (.tuple #[.pointer (some ⟨xb,0,none⟩),.slice (some ⟨sb,0,none⟩) 1 1,(0:Int),(0:Int)])/\Hid (Below w w w')):=fun V hb=>by
  refine Lh (ku _ V (hv.aq hb) (Fr.I0 hlt)) ?_;rintro e w' ⟨hb',hp⟩;rw [hS] at hp;obtain ⟨xb,sb,p,r,rfl,_,_,hf⟩:=hp;refine ⟨xb,sb,by rw [hf hq];rfl,hb.trans (hb'.mono hb.size)⟩
 have HPK:Hid _:=fun V=>A9 a V zaa;clear hv hS hq;go_enter func47,ntmps47;go_wp2_with fail;refine Lh HK.out ?_;rintro e w1 ⟨g,rfl,hb1,hc⟩;have hck:=hc (a % 12) hlt;have hl':((a % 12:Nat):Int)<12:=zaa;clear hc;dsimp only;go_wp2_with (first
  | (go_at_call 35;refine Lh (HPK.out _) ?_;rintro e w9 ⟨rfl,hw9⟩;rw [hw9];clear hw9 w9)
  | (go_at_call 34;refine Lh (HP.out _ hb1) ?_;rintro e w2 ⟨xb,sb,rfl,hb2⟩))
 go_ret;exact ⟨rfl,hb2.out⟩
