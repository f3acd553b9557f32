import Derived.Test.YtkgklodamkkpgaaGreatDoorM20
import Derived.Test.YtkgklodamkkpgaaGreatDoorM21
set_option maxRecDepth 100000
set_option maxHeartbeats 8000000
namespace Go.Proofs.YtkgklodamkkpgaaGreatDoor
theorem zd5 {zp:Prop} (h:zp:=by
 have:=hM.cell 419 zac;rw [show Pg.eR pb qv (r2.m wh) 419=Pg.eM r2.fin from rfl,hf2] at this;exact this):zp:=h
theorem zby {zp:Prop} (h:zp:=by simp at hu;rcases hu with rfl | rfl | rfl <;> rfl):zp:=h
open Tryz
section
open Go.RowKit Go.Proofs Go.Shelf
namespace Pg
abbrev qR (w:World):Prop:=w.cell? ⟨0,0,none⟩=some (.iface 261 (.agg #[.pointer (some ⟨9,60,none⟩)]))
def mU (n:Nat):Value:=if n=0 then .nilIface else .iface 29 (.int .i64 n)
theorem Ar (n:Nat) (w:World) (hg:qR w):() 23 #[mU n] w fun ev w'=>ev = .returned (.tuple #[(n:Int),(0:Int)])/\Below w w w':=by
 unfold mU;by_cases h:n=0
 ·rw [M6 h,h];exact As w
 ·rw [M4 h];exact tj n w hg
abbrev pS (w:World) (xb mb:Nat):Prop:=w.heap[xb]?=some (.cells #[mb] 50 (0,0))
end Pg
section
variable (w:World) (xb mb:Nat) (R:Value->Nat->World->Prop) (hx:Pg.pS w xb mb) (hR:∀ l n V,R l n V->Pg.qR V)
theorem gB (hx:Pg.pS w xb mb):() 18 #[xb] w fun e w'=>e = .returned false/\w'=w:=by
 have c0:w.cell? xb=some ↑mb:=(M0 w _ _ _ _ _ hx).trans rfl;clear hx;go_enter func18,ntmps18;exact zfp
theorem xQ (hx:Pg.pS w xb mb) (ev:ByteArray) (h:() 42 #[mb,ev] w fun e w'=>∃ l n,e = .returned (.tuple #[l,Pg.mU n])/\R l n w') :
  () 26 #[xb,ev] w fun e w'=>∃ l n,e = .returned (.tuple #[l,Pg.mU n])/\R l n w':=by
 have c0:w.cell? xb=some ↑mb:=(M0 w _ _ _ _ _ hx).trans rfl;have HN:Hid _:=gB w xb mb hx;have HE:Hid _:=h;clear hx h;go_enter func26,ntmps26;go_wp2_with (first
  | (go_at_call 18;refine M7 HN.out ?_;rintro e w1 ⟨rfl,hw1⟩;rw [hw1];clear hw1 w1)
  | (go_at_call 42;refine M7 HE.out ?_;rintro e w2 ⟨l,n,rfl,h2⟩;obtain ⟨vn,hvn⟩:∃ vn,vn=Pg.mU n:=⟨_,rfl⟩;rw [<- hvn];have HVN:Hid _:=hvn;clear hvn))
 go_ret2;exact ⟨l,n,by rw [<- HVN.out];rfl,h2⟩
theorem xP (hx:Pg.pS w xb mb) (t:Nat) (h:() 43 #[mb,.int .u64 t] w fun e w'=>∃ l n,e = .returned (.tuple #[l,Pg.mU n])/\R l n w') :
  () 27 #[xb,.int .u64 t] w fun e w'=>∃ l n,e = .returned (.tuple #[l,Pg.mU n])/\R l n w':=by
 have c0:w.cell? xb=some ↑mb:=(M0 w _ _ _ _ _ hx).trans rfl;have HN:Hid _:=gB w xb mb hx;have HE:Hid _:=h;clear hx h;go_enter func27,ntmps27;go_wp2_with (first
  | (go_at_call 18;refine M7 HN.out ?_;rintro e w1 ⟨rfl,hw1⟩;rw [hw1];clear hw1 w1)
  | (go_at_call 43;refine M7 HE.out ?_;rintro e w2 ⟨l,n,rfl,h2⟩;obtain ⟨vn,hvn⟩:∃ vn,vn=Pg.mU n:=⟨_,rfl⟩;rw [<- hvn];have HVN:Hid _:=hvn;clear hvn))
 go_ret2;exact ⟨l,n,by rw [<- HVN.out];rfl,h2⟩
theorem sL (hx:Pg.pS w xb mb) (hR:∀ l n V,R l n V->Pg.qR V) (ev:ByteArray) (h:() 42 #[mb,ev] w fun e w'=>∃ l n,e = .returned (.tuple #[l,Pg.mU n])/\R l n w') :
  () 15 #[xb,ev] w fun e w'=>∃ (l:Value) (n:Nat) (V:World),e = .returned (.tuple #[l,(n:Int)])/\R l n V/\Below V V w':=by
 have HS:Hid _:=xQ w xb mb R hx ev h;have HT:Hid (∀ l n V,R l n V->() 23 #[Pg.mU n] V fun ev w'=>ev = .returned (.tuple #[(n:Int),(0:Int)])/\Below V.heap.size V w'):=fun l n V h=>Pg.Ar n V (hR l n V h);clear hx h hR;go_enter func15,ntmps15;go_wp2_with (first
  | (go_at_call 26;refine M7 HS.out ?_;rintro e w1 ⟨l,n,rfl,h1⟩;have HT1:Hid _:=HT.out l n w1 h1;generalize Pg.mU n=vn at *)
  | (go_at_call 23;refine M7 HT1.out ?_;rintro e w2 ⟨rfl,hb2⟩))
 go_ret2;exact ⟨_,_,_,rfl,h1,hb2⟩
theorem sK (hx:Pg.pS w xb mb) (hR:∀ l n V,R l n V->Pg.qR V) (t:Nat) (h:() 43 #[mb,.int .u64 t] w fun e w'=>∃ l n,e = .returned (.tuple #[l,Pg.mU n])/\R l n w') :
  () 16 #[xb,.int .u64 t] w fun e w'=>∃ (l:Value) (n:Nat) (V:World),e = .returned (.tuple #[l,(n:Int)])/\R l n V/\Below V V w':=by
 have HS:Hid _:=xP w xb mb R hx t h;have HT:Hid (∀ l n V,R l n V->() 23 #[Pg.mU n] V fun ev w'=>ev = .returned (.tuple #[(n:Int),(0:Int)])/\Below V.heap.size V w'):=fun l n V h=>Pg.Ar n V (hR l n V h);clear hx h hR;go_enter func16,ntmps16;go_wp2_with (first
  | (go_at_call 27;refine M7 HS.out ?_;rintro e w1 ⟨l,n,rfl,h1⟩;have HT1:Hid _:=HT.out l n w1 h1;generalize Pg.mU n=vn at *)
  | (go_at_call 23;refine M7 HT1.out ?_;rintro e w2 ⟨rfl,hb2⟩))
 go_ret2;exact ⟨_,_,_,rfl,h1,hb2⟩
end
attribute [local go_sem] NR
theorem uT:(Tryz.prog.info? 46).map (fun i=>(i.zero,i.size,i.bytes))=some (some (.agg #[.string ⟨#[]⟩,.int .u64 0,.slice none 0 0]),3,48):=zab
theorem Gh (mb t:Nat) (w:World):() 72 #[.pointer (some ⟨mb,27,none⟩),.int .u64 t] w fun e w'=>e = .returned (.func (.func 112) #[] #[w,↑(w.heap.size+1)])/\w'=(w.alloc (.cells #[.pointer (some ⟨mb,27,none⟩)] 121)).alloc (.cells #[.int .u64 t] 34):=by
 go_enter func72,ntmps72;exact zfq
namespace Pg
theorem wJ {w w1 w5:World} {lo:Pg.Lo} {mb pb t g5 cap5:Nat} {ps:List PS} {r2:RSt} {ev:ByteArray} {sa:Option Addr} {sc:Nat} {L:List (ByteArray×RSt)} {nv:Value} {vs:List Value} (hl:Lw lo) (hlo:lo<=w.heap.size) (hL:CkL w w1 lo mb pb ps r2) (hS:CkS w w1 mb t (.slice sa L.length sc) L) (hvs:vs.length=L.length) (hnm:Nms w1 lo nv ((els r2.act).map (bP ps))) (hnms:∀ y∈L.zip vs,Nms w1 lo y.2 ((els y.1.2.act).map (bP ps)))
  (hg:(w1.alloc (.cells #[ev,.int .u64 r2.now,nv] 46)).grownBy w5 (Value.ownBlock (.slice sa L.length sc))) (ho:w5.ownsRow w 46 3 (.slice g5 (L.length+1) cap5) (L.length+1) ((L.zip vs).flatMap stC++[.string ev,.int .u64 r2.now,nv])) :
  Boxed w5 (w.heap.size+2) 26 (.slice sa L.length sc)/\Boxed w5 w 48 mb/\(∀ (k:Nat) (c:Array Value),w1.heap[k]?=some (.cells c 90 (0,0))->w5.heap[k]?=some (.cells c 90 (0,0)))/\KeepsOthers w1 (w5.setCell ⟨w.heap.size+2,0,none⟩ (.slice g5 (L.length+1) cap5)) /\
   CkL w (w5.setCell ⟨w.heap.size+2,0,none⟩ (.slice g5 (L.length+1) cap5)) lo mb pb ps r2/\CkS w (w5.setCell ⟨w.heap.size+2,0,none⟩ (.slice g5 (L.length+1) cap5)) mb t (.slice g5 (L.length+1) cap5) (L++[(ev,r2)])/\LN (w5.setCell ⟨w.heap.size+2,0,none⟩ (.slice g5 (L.length+1) cap5)) w.heap.size lo ps (.slice g5 (L.length+1) cap5) (L++[(ev,r2)]):=by
 have hkd:=hS.st.kind;have hBa:Below w1 w1 (w1.alloc (.cells #[ev,.int .u64 r2.now,nv] 46)):=(MY _ w1).alloc (MR _) _;have hm:Mo (fun k=>Value.ownBlock (.slice sa L.length sc)=some k) w1 w5:=(ay hBa).trans ⟨hg.os,hg.tape,hg.output,hg.size,fun k hk hn=>hg.block k hk (fun e=>hn e.symm)⟩;have hk5:Kd (fun t=>t=46) w1 w5:=fX hm (fun k c t f hp hc=>by
  obtain ⟨_,c',hc'⟩:=hkd k hp;rw [hc] at hc';cases hc'
  rfl)
 have hb2:=hk5.boxed hS.b2 zac;have hm2:Mo (fun k=>Value.ownBlock (.slice sa L.length sc)=some k\/k=w.heap.size+2) w1 (w5.setCell ⟨w.heap.size+2,0,none⟩ (.slice g5 (L.length+1) cap5)):=(hm.mono (fun _ _ h => .inl h)).set _ _ (.inr rfl);have hms:Mo (· = w.heap.size+2) w5 (w5.setCell ⟨w.heap.size+2,0,none⟩ (.slice g5 (L.length+1) cap5)):=(Mo.refl _ _).set _ _ rfl;have hks:Kd (fun t=>t=26) w5 (w5.setCell ⟨w.heap.size+2,0,none⟩ (.slice g5 (L.length+1) cap5)):=fX hms (fun k c t f hp hc=>by
  subst hp;rw [show w5.heap[w.heap.size+2]?=_ from hb2] at hc;cases hc
  rfl)
 have hrow:(w5.setCell ⟨w.heap.size+2,0,none⟩ (.slice g5 (L.length+1) cap5)).ownsRow w 46 3 (.slice g5 (L.length+1) cap5) (L++[(ev,r2)]).length (((L++[(ev,r2)]).zip (vs++[nv])).flatMap stC):=by
  have:=Kd.row hks ho zac;rw [Ro hvs.symm,NQ,Nj];exact this
 refine ⟨hb2,hk5.boxed hS.b0 zac,fun k c hk=>(hk5.ao _ _ _ _ hk zac).trans hk,?_,?_,?_,vs++[nv],by simp [hvs],hrow,fun y hy => ?_⟩
 ·refine KeepsOthers.trans ⟨hm.size,fun k o hk hc=>hm.block k (MQ.1 hk).1 (fun e => ?_) |>.trans hk⟩ (N0 _ _ _);obtain ⟨_,c',hc'⟩:=hkd k e;rw [hk] at hc';cases hc'
  cases hc
 ·refine hL.own hl hlo hm2 (fun k hk => ?_)
  rcases hk with e | rfl
  ·obtain ⟨a,c',hc'⟩:=hkd k e;exact ⟨a,c',_,hc',zav⟩
  ·exact ⟨zaa,_,_,hS.b2,zav⟩
 ·refine ⟨hks.boxed (hk5.boxed hS.b0 zac) zac,hks.boxed (hk5.boxed hS.b1 zac) zac,hb2.set _,hks.boxed (hk5.boxed hS.b3 zac) zac,hks.boxed (hk5.boxed hS.b4 zac) zac,vs++[nv],by simp [hvs],hrow⟩
 ·rw [Ro hvs.symm] at hy
  rcases Nr.1 hy with hy | hy
  ·exact Kd.row hks (Kd.row hk5 (hnms y hy) zac) zac
  ·obtain rfl:=M8.1 hy;exact Kd.row hks (Kd.row hk5 hnm zac) zac
end Pg
section
variable (w:World) (lo:Pg.Lo) (mb pb b cap:Nat) (ps:List Pg.PS) (fin:Nat) (EN LV:Nat->List Pg.PA) (hvs:Ref.Sl) (H:List Pg.HV) (D:Nat->Bool) (mbm n:Nat) (T:ByteArray->Option (List (Option Pg.PM))) (M:ByteArray->Option Nat) (Lr:Nat->List (Option Nat)) (pmF:Nat->Pg.PM) (acF:Nat->List Pg.PA) (r:Pg.RSt) (t:Nat)
namespace Pg
def oW (e:Ending) (w':World):Prop :=
 if r.fin=0 then ∃ sv,e = .returned (.tuple #[sv,fuelV (eL (aS ps fin EN LV H D M Lr pmF acF) t 201 0 r).2.fin])/\wu w' lo sv (eL (aS ps fin EN LV H D M Lr pmF acF) t 201 0 r).1/\LN w' lo lo ps sv (eL (aS ps fin EN LV H D M Lr pmF acF) t 201 0 r).1/\Live w' lo mb pb b cap ps fin EN LV hvs H D mbm n T M Lr pmF acF (eL (aS ps fin EN LV H D M Lr pmF acF) t 201 0 r).2/\Rf lo w w'/\gZ w w'
 else e = .returned (.tuple #[.slice none 0 0,eM r.fin])/\Below w w w'
end Pg
theorem wK (hP:Pg.Live w lo mb pb b cap ps fin EN LV hvs H D mbm n T M Lr pmF acF r) (hf:¬ r.fin=0) :
  () 43 #[mb,.int .u64 t] w (Pg.oW w lo mb pb b cap ps fin EN LV hvs H D mbm n T M Lr pmF acF r t):=by
 obtain ⟨qv,wh,hM,_⟩:=hP.mt.ex;have hB:∀ o1 o2:Obj,Below w w ((w.alloc o1).alloc o2):=fun o1 o2=>((MY _ w).alloc (MR _) _).alloc zad _;have he:Pg.eM r.fin = .iface 29 (.int .i64 r.fin):=by unfold Pg.eM;rw [M4 hf]
 have h5:∀ o1 o2:Obj,((w.alloc o1).alloc o2).cell? ⟨mb,419,none⟩=some (.iface 29 (.int .i64 r.fin)):=fun o1 o2=>((hB o1 o2).cell (p:=⟨mb,419,none⟩) hM.lt).trans ((hM.cell 419 zac).trans (congrArg some he));have c1:=fun o2=>((NA w 48 mb).alloc o2).cell;have HF:Hid (¬ r.fin=0):=hf;have HE:Hid _:=he;have HB:Hid _:=hB;clear hP hf he hM hB;go_enter func43,ntmps43;go_wp2
 go_quiet (fail)
 go_wp2;go_ret2;unfold Pg.oW;rw [M4 HF.out,HE.out];exact ⟨rfl,Pa (HB.out _ _) _⟩
theorem DW (hP:Pg.Live w lo mb pb b cap ps fin EN LV hvs H D mbm n T M Lr pmF acF r) (ht:t<18446744073709551616) (hcl:∀ ev:ByteArray,ev.size<=1000000->qQ ev) :
  () 43 #[mb,.int .u64 t] w (Pg.oW w lo mb pb b cap ps fin EN LV hvs H D mbm n T M Lr pmF acF r t):=by
 by_cases hf:¬ r.fin=0
 ·exact wK w lo mb pb b cap ps fin EN LV hvs H D mbm n T M Lr pmF acF r t hP hf
 have hf:r.fin=0:=Decidable.not_not.1 hf;have hlw:=hP.run.bC.lw;have hlo:=hP.mt.lo';obtain ⟨an,han⟩:∃ an,Pg.aS ps fin EN LV H D M Lr pmF acF=an:=⟨_,rfl⟩;have HTN:Hid (∀ (r1:Pg.RSt) (ev:ByteArray) (V:World),ev.size<=1000000->Pg.CkL w V lo mb pb ps r1->() 71 #[mb,.string ev] V fun e w'=>∃ a k c,e = .returned (.agg #[.string ev,.int .u64 (Pg.bG an r1 ev).now,.slice a k c])/\Hid (Pg.CkL w w' lo mb pb ps (Pg.bG an r1 ev)/\Pg.Rf lo V w'/\Pg.Nms w' lo (.slice a k c) ((Pg.els (Pg.bG an r1 ev).act).map (Pg.bP ps))/\Pg.gZ V w')):=fun r1 ev V he h1=>by
  refine M7 (AA V lo mb pb b cap ps fin EN LV hvs H D mbm n T M Lr pmF acF r1 ev ⟨hP.run.rf h1.rf,hP.sz,hP.sza,h1.mt,h1.ok,h1.qk,h1.q0,h1.idl⟩ he (hcl ev he)) ?_;rintro e w' ⟨a,k,c,rfl,h2⟩;obtain ⟨h3,h4,h5,h6⟩:=h2.out;rw [han] at h3 h5 ⊢;exact ⟨a,k,c,rfl,⟨h3.mt,h1.rf.trans h4,h3.ok,h3.qk,h3.q0,h3.idl,h1.str.trans h6⟩,h4,h5,h6⟩
 have HFIN:Hid (∀ (sv:Value) (L:List (ByteArray×Pg.RSt)) (r2:Pg.RSt) (V:World),Pg.CkL w V lo mb pb ps r2->Pg.CkS w V mb t sv L->Pg.LN V w lo ps sv L->Pg.eL an t 201 0 r=(L,r2)->Pg.oW w lo mb pb b cap ps fin EN LV hvs H D mbm n T M Lr pmF acF r t (.returned (.tuple #[sv,Pg.fuelV r2.fin])) V):=fun sv L r2 V h1 h2 hN h3=>by
  unfold Pg.oW;rw [M6 hf,han,h3];obtain ⟨vs,y1,y2⟩:=h2.st;exact ⟨sv,rfl,⟨vs,y1,y2.1,y2.2.imp id (fun ⟨g,cp,cu,z1,z2,z3⟩=>⟨g,cp,cu,z1,MX hlo z2,z3⟩)⟩,by
   obtain ⟨vs,y1,y2,y3⟩:=hN;exact ⟨vs,y1,⟨y2.1,y2.2.imp id (fun ⟨g,cp,cu,z1,z2,z3⟩=>⟨g,cp,cu,z1,MX hlo z2,z3⟩)⟩,y3⟩,⟨hP.run.rf h1.rf,hP.sz,hP.sza,h1.mt,h1.ok,h1.qk,h1.q0,h1.idl⟩,h1.rf,h1.str⟩
 have hL0:∀ V:World,Below w w V->Pg.CkL w V lo mb pb ps r:=fun V hV=>⟨hP.mt.below hlw hV,Pg.RfE.of hV hlo,hP.ok,hP.qk,hP.q0,hP.idl.bel hP.mt.lt hV,.bel hV⟩;have h5:∀ V:World,Below w w V->V.cell? ⟨mb,419,none⟩=some .nilIface:=fun V hV=>by
  obtain ⟨qv,wh,hM,_⟩:=(hL0 V hV).mt.ex;have:=hM.cell 419 zac;rw [show Pg.eR pb qv (r.m wh) 419=Pg.eM r.fin from rfl,hf] at this;exact this
 obtain ⟨i0,hi,hz0,hz1,hz2⟩:=OB uT;clear hP hcl han;have hB2:∀ o1 o2:Obj,Below w w ((w.alloc o1).alloc o2):=fun o1 o2=>((MY _ w).alloc (MR _) _).alloc zad _;have hB3:∀ o1 o2 o3:Obj,Below w w (((w.alloc o1).alloc o2).alloc o3):=fun o1 o2 o3=>(hB2 o1 o2).alloc zae _;have h52:=fun o1 o2=>h5 _ (hB2 o1 o2);have c1:=fun o2=>((NA w 48 mb).alloc o2).cell;refine (Nz (n:=8)).1 ?_;refine NX func43 rfl trivial ?_ rfl;simp only [ntmps43,List.size_toArray,List.length_cons,List.length_nil,Nat.reduceAdd,Nat.reduceSub,Array.replicate_succ,Array.replicate_zero,List.push_toArray,List.append_toArray,List.nil_append,List.cons_append];gi_wp2;obtain ⟨W3,hW3⟩:∃ W3,((w.alloc (.cells #[mb] 48)).alloc (.cells #[.int .u64 t] 34)).alloc (.cells #[.slice none 0 0] 26)=W3:=⟨_,rfl⟩;have hB30:=hB3 (.cells #[mb] 48) (.cells #[.int .u64 t] 34) (.cells #[.slice none 0 0] 26);have x0:Boxed W3 w 48 mb:=hW3 ▸ ((NA w 48 mb).alloc _).alloc _;have x1:Boxed W3 (w.heap.size+1) 34 (.int .u64 t):=by
  have:=(NA (w.alloc (.cells #[mb] 48)) 34 (.int .u64 t)).alloc (.cells #[.slice none 0 0] 26);rw [hW3,Of] at this;exact this
 have x2:Boxed W3 (w.heap.size+2) 26 (.slice none 0 0):=by
  have:=NA ((w.alloc (.cells #[mb] 48)).alloc (.cells #[.int .u64 t] 34)) 26 (.slice none 0 0);rw [hW3,Of,Of] at this;exact this
 have hs3:W3.heap.size=w.heap.size+3:=by rw [<- hW3];simp
 rw [hW3] at hB30 ⊢;clear hW3 h52 hB3 hB2 c1;have y0:W3.drew.cell? w=_:=x0.cell;have y1:W3.drew.cell? ⟨w.heap.size+1,0,none⟩=_:=x1.cell;refine aV mB 4 zab zab zab ?_;simp only [List.take_succ_cons,List.take_zero,List.drop_succ_cons,List.drop_zero]
 repeat still_step
 refine Ov ?_;gi_wp2_with (refine ⟨trivial,?_⟩;gi_at_call 72;refine (Nz.2 (Gh mb t _)).mono ?_;rintro e w9 ⟨rfl,hw9⟩;rw [hw9];clear hw9 w9);have hB0:Below w w ((W3.alloc (.cells #[.pointer (some ⟨mb,27,none⟩)] 121)).alloc (.cells #[.int .u64 t] 34)).drew:=((hB30.alloc zaa _).alloc zae _).drew;have hBd:Below W3 W3 ((W3.alloc (.cells #[.pointer (some ⟨mb,27,none⟩)] 121)).alloc (.cells #[.int .u64 t] 34)).drew:=(((MY _ W3).alloc (MR _) _).alloc (by rw [Of];exact Nat.le_succ _) _).drew;have x3:Boxed ((W3.alloc (.cells #[.pointer (some ⟨mb,27,none⟩)] 121)).alloc (.cells #[.int .u64 t] 34)).drew (w.heap.size+3) 121 (.pointer (some ⟨mb,27,none⟩)):=by
  have:=(NA W3 121 (.pointer (some ⟨mb,27,none⟩))).alloc (.cells #[.int .u64 t] 34);rw [hs3] at this;exact this
 have x4:Boxed ((W3.alloc (.cells #[.pointer (some ⟨mb,27,none⟩)] 121)).alloc (.cells #[.int .u64 t] 34)).drew (w.heap.size+4) 34 (.int .u64 t):=by
  have:=NA (W3.alloc (.cells #[.pointer (some ⟨mb,27,none⟩)] 121)) 34 (.int .u64 t);rw [Of,hs3] at this;exact this
 have hs0:(((W3.alloc (.cells #[.pointer (some ⟨mb,27,none⟩)] 121)).alloc (.cells #[.int .u64 t] 34)).drew).heap.size=w.heap.size+5:=by show ((W3.alloc _).alloc _).heap.size=_;rw [Of,Of,hs3]
 (try simp only [hs3])
 generalize ((W3.alloc (.cells #[.pointer (some ⟨mb,27,none⟩)] 121)).alloc (.cells #[.int .u64 t] 34)).drew=W0 at *;have hI0:Pg.CkI w lo mb pb ps an t r (0,r) W0:=⟨[],.slice none 0 0,rfl,Ni _,(fun h=>by have h:(0:Nat)=200:=h;omega),hf,hL0 W0 hB0,⟨aB x0 hBd x0.lt,aB x1 hBd x1.lt,aB x2 hBd x2.lt,x3,x4,[],rfl,N4 ..⟩,⟨[],rfl,N4 ..,fun y hy=>(by cases hy)⟩,rfl⟩;clear x0 x1 x2 x3 x4 y0 y1 hL0 h5 hB30 hBd hs3 hf;have hown5:∀ (row:Option Nat) (A:World),(∀ r,row=some r->W0.heap.size<=r/\∃ o:Obj,A.heap[r]?=some o/\o.isCells=false)->∀ r,row=some r->w.heap.size<=r/\∃ o:Obj,A.heap[r]?=some o/\o.isCells=false:=fun row A h r e=>⟨by have:=(h r e).1;omega,(h r e).2⟩;refine Hr rfl zaa (gf:=112) rfl trivial (Pe func112 zab rfl)
  (Lb _ zaa W0 lo mb pb (w.heap.size+3) (w.heap.size+4) t ht hlw) (fun _=>rfl)
  (Pg.CkI w lo mb pb ps an t r) (Pg.CkT w lo mb pb ps an t r) (Pg.CkF w lo mb pb ps an t r) (Pg.CkF w lo mb pb ps an t r)
  (fun s f a' V=>∃ bt,a'=⟨#[.pointer (some ⟨mb,0,none⟩),.int .u64 t,.pointer (some ⟨w.heap.size,0,none⟩),.pointer (some ⟨w.heap.size+1,0,none⟩),.slice none 0 0,.nilIface,.pointer (some ⟨w.heap.size+2,0,none⟩),.pointer (some ⟨bt,0,none⟩),.pointer (some ⟨mb,0,none⟩),.pointer (some ⟨mb,0,none⟩),.pointer (some ⟨mb,419,none⟩),.nilIface,.bool false,undef,undef,undef,undef,.pointer (some ⟨mb,0,none⟩),.pointer (some ⟨mb,0,none⟩),.pointer (some ⟨mb,27,none⟩),.int .u64 t,.func (.func 112) #[] #[.pointer (some ⟨w.heap.size+3,0,none⟩),.pointer (some ⟨w.heap.size+4,0,none⟩)],.agg #[.string f.ev,.string f.nm],undef,undef,undef,undef,undef,undef,undef,undef,undef,undef,undef,undef,undef,undef,undef,undef,undef,undef,undef,undef,undef,undef,undef,undef,undef,undef,undef,undef,undef,undef,undef,undef,undef,undef,undef,undef],[]⟩/\V.heap[bt]?=some (.cells #[.string f.ev,.string f.nm] 90 (0,0))/\Pg.CkT w lo mb pb ps an t r s f V) 0
  (fun s A C row h hg hr=>h.gr hlw hlo hg (hown5 row A hr)) (fun _ A C row h hg hr=>h.gr hlw hlo hg (hown5 row A hr)) (fun _ A C row h hg hr=>h.gr hlw hlo hg (hown5 row A hr))
  (fun s f a' _ A C row h hg hr=>by
   obtain ⟨bt,e1,e2,e3⟩:=h;exact ⟨bt,e1,((Pg.gR (E:=fun _=>False) hg (fun r e=>(hr r e).2)).ao _ _ _ _ e2 (fun h=>h)).trans e2,e3.gr hlw hlo hg (hown5 row A hr)⟩)
  (fun s V h=>by
   obtain ⟨L,sv,a,b,c,_,d,e,_,g⟩:=h;exact ⟨⟨b,d.mt,d.qk.tm,e.b3.cell,e.b4.cell⟩,fun V' hV=>⟨(aB e.b3 hV e.b3.lt).cell,(aB e.b4 hV e.b4.lt).cell⟩⟩)
  (fun s f V V' h k=>h.Kt k) (fun s V V' h k=>h.LL k) (fun s f V V' k=>k.2.2.2.1.oth.from _) (fun s V V' k=>k.2.2.1.oth.from _) (0,r) hI0 ?assign ?body ?done ?stop
 case assign =>
  intro l s f V K hI hK;unfold Pg.tnV;gi_wp2_with (show wpListIn _ _ _ _ _ (Oper.mk none _ _ _ _ _::_) _ _;refine tF (dF l) rfl (fun c h=>zat) (fun K2 hK2=>kJ 90 (.tmp 7) (.tmp 22) rfl V 90 #[.string ⟨#[]⟩,.string ⟨#[]⟩] #[f.ev,f.nm] rfl rfl (Na V _) mx rfl rfl (hK2 _ _ ?_));rw [World.setRow_alloc_new]);have hBa:Below V V (V.alloc (.cells #[f.ev,f.nm] 90)):=(MY _ V).alloc (MR _) _;exact hK _ _ ((Pg.ed hBa).from _) ⟨V.heap.size,rfl,Na V _,hI.below hlw hBa⟩
 case body =>
  rintro l ⟨k,rs⟩ f a' V hl ⟨bt,rfl,hbt,L,sv,hLk,hk,hev,hdue,hhd,hCL,hCS,hLN,hclk⟩;dsimp only at hLk hk hdue hhd hCL hclk;obtain ⟨sa,sc,rfl⟩:=hCS.st.n;obtain ⟨vs,hvs0,hown,hnms⟩:=hLN;have HNM:Hid _:=hnms;clear hnms;obtain ⟨r2,hr2⟩:∃ r2,Pg.bG an (Pg.gE rs f) f.ev=r2:=⟨_,rfl⟩;have HN:Hid _:=Pg.F6 hk hdue hhd hclk hr2;have hBd:Below V V V.drew:=(MY _ V).drew;have hCSd:=hCS.below hBd;have HTU:Hid _:=HTN.out (Pg.gE rs f) f.ev V.drew hev (hCL.below hlw hBd);rw [hr2] at HTU;have hne:¬ bt=w.heap.size+2:=fun e=>by
   rw [e,show V.heap[w.heap.size+2]?=_ from hCS.b2] at hbt;cases hbt
  have hS:∀ W:World,Pg.CkS w W mb t (.slice sa L.length sc) L->W.heap[bt]?=some (.cells #[f.ev,f.nm] 90 (0,0))->(fun V=>V.cell? w=some ↑mb/\V.cell? bt=some ↑f.ev) W:=fun W h1 h2=>⟨h1.b0.cell,(M0 W _ _ _ _ _ h2).trans rfl⟩;have hbtd:V.drew.heap[bt]?=some (.cells #[f.ev,f.nm] 90 (0,0)):=hbt;have HC1:Hid (∀ w1,Pg.Rf lo V.drew w1->Pg.CkS w w1 mb t (.slice sa L.length sc) L/\w1.heap[bt]?=some (.cells #[f.ev,f.nm] 90 (0,0))/\w.heap.size<=w1.heap.size/\∀ c:Array Value,Pg.CkS w (w1.alloc (.cells c 46)) mb t (.slice sa L.length sc) L/\(w1.alloc (.cells c 46)).heap[bt]?=some (.cells #[f.ev,f.nm] 90 (0,0))/\(w1.alloc (.cells c 46)).ownsRow w 46 3 (.slice sa L.length sc) L.length ((L.zip vs).flatMap Pg.stC)):=fun w1 h=>by
   have a1:=hCSd.rf h;have a2:=(h.kd.ao _ _ _ _ hbtd Pg.xx).trans hbtd;have a3:w1.ownsRow w 46 3 (.slice sa L.length sc) L.length ((L.zip vs).flatMap Pg.stC):=Kd.row h.kd (Kd.row (bD (E:=fun _=>False) hBd) hown (fun h=>h)) Pg.pE;refine ⟨a1,a2,RZ (NT zaa a1.b0.lt),fun c => ?_⟩;have hb:Below w1 w1 (w1.alloc (.cells c 46)):=(MY _ w1).alloc (MR _) _;exact ⟨a1.below hb,(hb.block _ (MQ.1 a2).1).trans a2,Kd.row (bD (E:=fun _=>False) hb) a3 (fun h=>h)⟩
  have cx1:V.drew.cell? ⟨w.heap.size+2,0,none⟩=some (.slice sa L.length sc):=hCSd.b2.cell;have hS0:=hS _ hCSd hbtd;have hLe:L.length<=200:=zaa;have HLK:Hid (L.length=k):=hLk;clear hLk;clear hbt hCS hown hdue hhd hclk hr2 hCSd hbtd;gi_wp2;refine cV (S:=(fun V=>V.cell? w=some ↑mb/\V.cell? bt=some ↑f.ev)) zab zab zbj hS0 (fun u0 => ?_);refine tD (some 24) 1 mb rfl u0 ?_;refine tD (some 25) 2 bt rfl u0 ?_;refine tD (some 26) 3 (.string f.ev) rfl u0 ?_;refine yH [0,4] ?_;refine NJ rfl (fun K hK => ?rg1) (NJ rfl (fun K hK => ?rg2) Ou)
  case' rg1 =>
   go_simp;refine hK.out _ _ u0 (fun u0 => ?_);clear hK K;refine zH 4 rfl fun K hK => ?_;go_simp;refine M7 HTU.out ?_;rintro e w1 ⟨na,nk,nc,rfl,h1⟩;obtain ⟨q1,q2,q3,q4⟩:=HC1.out w1 h1.out.2.1;obtain ⟨q5,q6,q7⟩:=q4 #[f.ev,.int .u64 r2.now,.slice na nk nc];have cx2:=q1.b2.cell;have cx3:=q5.b2.cell;refine hK.out _ _ (hS _ q1 q2) (fun u0 => ?_);clear hK K;refine zH 5 rfl fun K hK => ?_;go_simp;refine hK.out _ _ (hS _ q5 q6) (fun u0 => ?_);clear hK K;refine zH 6 rfl fun K hK => ?_;refine step_append_lies _ zaf _ _ _ zaf w.heap.size 46 i0 _ 3 48 underlying26 hi hz0 hz1 hz2 rfl zac (.slice sa L.length sc) L.length ((L.zip vs).flatMap Pg.stC) zaf q7 ⟨w1,0,none⟩ 1 1 [f.ev,.int .u64 r2.now,.slice na nk nc] zaf zaf (World.news_of_block (cs:=#[f.ev,.int .u64 r2.now,.slice na nk nc]) (t:=46) (fr:=(0,0)) (Na w1 _)) (fun u hu=>zby) zaa zag zaa (MX q3 zad) _ rfl ?_;intro g5 cap5 w5 hown5 hgrow hat hlt5;have HK5:Hid _:=Pg.wJ hlw hlo h1.out.1 q1 hvs0 h1.out.2.2.1 (fun y hy=>(HNM.out y hy).str ((Pg.gZ.bel hBd).trans h1.out.2.2.2)) hgrow hown5;obtain ⟨s1,s2,s3,_⟩:=HK5.out;have s4:=s3 bt _ q2;have c5:=s1.cell;have f5:=s1.frozen;refine hK.out _ _ ⟨s2.cell,(M0 w5 _ _ _ _ _ s4).trans rfl⟩ (fun u0 => ?_);clear hK K;refine zH 7 rfl fun K hK => ?_;go_simp;refine hK.out _ _ (by
    exact ⟨(az zap).trans u0.1,(az zap).trans u0.2⟩) (fun u0 => ?_)
   clear hK K u0;refine Nt zab ?_ _
  case' rg2 =>
   go_simp;refine M7 HTU.out ?_;rintro e w1 ⟨na,nk,nc,rfl,h1⟩;obtain ⟨q1,q2,q3,q4⟩:=HC1.out w1 h1.out.2.1;obtain ⟨q5,q6,q7⟩:=q4 #[f.ev,.int .u64 r2.now,.slice na nk nc];have cx2:=q1.b2.cell;have cx3:=q5.b2.cell;refine hK.out _ _ (hS _ q1 q2) (fun u0 => ?_);clear hK K;refine yH [0,5] ?_;refine NJ rfl (fun K hK => ?rg7) (NJ rfl (fun K hK => ?rg8) Ou)
   case' rg7 =>
    go_simp;refine hK.out _ _ u0 (fun u0 => ?_);clear hK K;refine zH 5 rfl fun K hK => ?_;go_simp;refine hK.out _ _ (hS _ q5 q6) (fun u0 => ?_);clear hK K;refine zH 6 rfl fun K hK => ?_;refine step_append_lies _ zaf _ _ _ zaf w.heap.size 46 i0 _ 3 48 underlying26 hi hz0 hz1 hz2 rfl zac (.slice sa L.length sc) L.length ((L.zip vs).flatMap Pg.stC) zaf q7 ⟨w1,0,none⟩ 1 1 [f.ev,.int .u64 r2.now,.slice na nk nc] zaf zaf (World.news_of_block (cs:=#[f.ev,.int .u64 r2.now,.slice na nk nc]) (t:=46) (fr:=(0,0)) (Na w1 _)) (fun u hu=>zby) zaa zag zaa (MX q3 zad) _ rfl ?_;intro g5 cap5 w5 hown5 hgrow hat hlt5;have HK5:Hid _:=Pg.wJ hlw hlo h1.out.1 q1 hvs0 h1.out.2.2.1 (fun y hy=>(HNM.out y hy).str ((Pg.gZ.bel hBd).trans h1.out.2.2.2)) hgrow hown5;obtain ⟨s1,s2,s3,_⟩:=HK5.out;have s4:=s3 bt _ q2;have c5:=s1.cell;have f5:=s1.frozen;refine hK.out _ _ ⟨s2.cell,(M0 w5 _ _ _ _ _ s4).trans rfl⟩ (fun u0 => ?_);clear hK K;refine zH 7 rfl fun K hK => ?_;go_simp;refine hK.out _ _ (by
     exact ⟨(az zap).trans u0.1,(az zap).trans u0.2⟩) (fun u0 => ?_)
    clear hK K u0;refine Nt zab ?_ _
   case' rg8 =>
    go_simp;refine hK.out _ _ (hS _ q5 q6) (fun u0 => ?_);clear hK K;refine zH 0 rfl fun K hK => ?_;go_simp;refine hK.out _ _ u0 (fun u0 => ?_);clear hK K;refine zH 6 rfl fun K hK => ?_;refine step_append_lies _ zaf _ _ _ zaf w.heap.size 46 i0 _ 3 48 underlying26 hi hz0 hz1 hz2 rfl zac (.slice sa L.length sc) L.length ((L.zip vs).flatMap Pg.stC) zaf q7 ⟨w1,0,none⟩ 1 1 [f.ev,.int .u64 r2.now,.slice na nk nc] zaf zaf (World.news_of_block (cs:=#[f.ev,.int .u64 r2.now,.slice na nk nc]) (t:=46) (fr:=(0,0)) (Na w1 _)) (fun u hu=>zby) zaa zag zaa (MX q3 zad) _ rfl ?_;intro g5 cap5 w5 hown5 hgrow hat hlt5;have HK5:Hid _:=Pg.wJ hlw hlo h1.out.1 q1 hvs0 h1.out.2.2.1 (fun y hy=>(HNM.out y hy).str ((Pg.gZ.bel hBd).trans h1.out.2.2.2)) hgrow hown5;obtain ⟨s1,s2,s3,_⟩:=HK5.out;have s4:=s3 bt _ q2;have c5:=s1.cell;have f5:=s1.frozen;refine hK.out _ _ ⟨s2.cell,(M0 w5 _ _ _ _ _ s4).trans rfl⟩ (fun u0 => ?_);clear hK K;refine zH 7 rfl fun K hK => ?_;go_simp;refine hK.out _ _ (by
     exact ⟨(az zap).trans u0.1,(az zap).trans u0.2⟩) (fun u0 => ?_)
    clear hK K u0;refine Nt zab ?_ _
  all_goals
   obtain ⟨_,_,_,hko,hCL6,hCS6,hLN6⟩:=HK5.out;have HKO:Hid (KeepsFrom W0 V (w5.setCell ⟨w.heap.size+2,0,none⟩ (.slice g5 (L.length+1) cap5))):=((Pg.ed hBd).trans (h1.out.2.1.oth.trans hko)).from _;generalize w5.setCell ⟨w.heap.size+2,0,none⟩ (.slice g5 (L.length+1) cap5)=W6 at *;have HCL:Hid _:=hCL6;have HCS:Hid _:=hCS6;have HLS:Hid _:=hLN6;have e0:=hCS6.b0.cell;have e5:W6.cell? ⟨mb,419,none⟩=some (Pg.eM r2.fin):=by
    obtain ⟨qv,wh,hM,_⟩:=hCL6.mt.ex;exact hM.cell 419 zac
   have d0:W6.drew.cell? w=_:=e0;have d1:W6.drew.cell? ⟨w.heap.size+1,0,none⟩=_:=hCS6.b1.cell;have d2:W6.drew.cell? ⟨w.heap.size+2,0,none⟩=_:=hCS6.b2.cell;have d5:W6.drew.cell? ⟨mb,419,none⟩=_:=e5;have HLN:Hid ((L++[(f.ev,r2)]).length=k+1):=by
    have:=HLK.out;unfold Hid;rw [Nj,this];rfl
   clear HK5 h1 hko hCL6 hCS6 hLN6 HTU HC1 hown5 hgrow hat hlt5;by_cases hf2:r2.fin=0
   ·rw [show Pg.eM r2.fin = .nilIface by rw [hf2];rfl] at e5 d5;by_cases h200:k+1=200
    ·have h2i:((L.length:Int)+1 == 200)=true:=by have:=HLK.out;simp;omega
     have hB6:Below W6 W6 W6.drew:=(MY _ W6).drew;have HHD:Hid _:=pZ W6.drew lo mb pb r2 hlw (HCL.out.mt.below hlw hB6) HCL.out.qk.tm t;have HBW:Hid (∀ w7,Below W6.drew.heap.size W6.drew w7->Below W6 W6 w7):=fun w7 h=>hB6.trans h;cases hd:Pg.bW r2.now t r2.tm with
     | false =>
      rw [hd] at HHD;have HC7:Hid (∀ w7,Below W6 W6 w7->w7.cell? w=some ↑mb/\w7.cell? ⟨mb,419,none⟩=some .nilIface/\Hid (KeepsFrom W0 V w7/\Pg.CkI w lo mb pb ps an t r (k+1,r2) w7)):=fun w7 hb=>by
       have y1:=HCL.out.below hlw hb;have y2:=HCS.out.below hb;refine ⟨y2.b0.cell,?_,HKO.out.trans ((Pg.ed hb).from _),_,_,HLN.out,by show k+1<=200;omega,fun _=>hd,hf2,y1,y2,Pg.LN.no HLS.out (bD hb),HN.out.2.2 hf2 (fun h=>by rw [hd] at h;cases h.2)⟩;obtain ⟨qv,wh,hM,_⟩:=y1.mt.ex;exact zd5
      clear hd;gi_wp2;refine aV (dF l) 15 zab zab zab ?_;simp only [List.take_succ_cons,List.take_zero,List.drop_succ_cons,List.drop_zero]
      repeat still_step
      refine Ov ?_;gi_wp2_with (refine ⟨trivial,?_⟩;gi_at_call 73;refine (aH HHD.out).mono ?_;rintro e w7 ⟨rfl,hb7⟩;obtain ⟨z0,z1,z2⟩:=HC7.out w7 (HBW.out w7 hb7));exact ⟨z2.out.1,(k+1,r2),rfl,z2.out.2⟩
     | true =>
      rw [hd] at HHD;have HC7:Hid (∀ w7,Below W6 W6 w7->w7.cell? w=some ↑mb/\w7.cell? ⟨mb,419,none⟩=some .nilIface/\w7.frozen? ⟨mb,419,none⟩=false/\(w7.setCell ⟨mb,419,none⟩ (.iface 29 (.int .i64 6))).cell? w=some ↑mb/\(w7.setCell ⟨mb,419,none⟩ (.iface 29 (.int .i64 6))).cell? ⟨mb,419,none⟩=some (.iface 29 (.int .i64 6))/\Hid (KeepsFrom W0 V (w7.setCell ⟨mb,419,none⟩ (.iface 29 (.int .i64 6)))/\Pg.CkF w lo mb pb ps an t r (w7.setCell ⟨mb,419,none⟩ (.iface 29 (.int .i64 6))))):=fun w7 hb=>by
       have y1:=HCL.out.below hlw hb;have y2:=HCS.out.below hb;obtain ⟨m1,m2,m3,m4⟩:=Pg.MT.Ij y1.mt hlw 6;have y3:=y2.rf m2;obtain ⟨qv,wh,hM,_⟩:=y1.mt.ex;obtain ⟨qv',wh',hM',_⟩:=m1.ex;refine ⟨y2.b0.cell,?_,hM.frozen 419,y3.b0.cell,hM'.cell 419 zac,HKO.out.trans (((Pg.ed hb).trans m2.oth).from _),_,_,_,by rw [HLN.out];omega,⟨m1,y1.rf.trans m2,⟨y1.ok.act,y1.ok.kept⟩,⟨y1.qk.q,.inr (.inr rfl),y1.qk.tm⟩,y1.q0,m3 y1.idl,y1.str.trans m4⟩,y3,(Pg.LN.no HLS.out (bD hb)).str m2 m4,HN.out.2.1 hf2 h200 hd⟩;exact zd5
      clear hd;gi_wp2;refine aV (dF l) 15 zab zab zab ?_;simp only [List.take_succ_cons,List.take_zero,List.drop_succ_cons,List.drop_zero]
      repeat still_step
      refine Ov ?_;gi_wp2_with (refine ⟨trivial,?_⟩;gi_at_call 73;refine (aH HHD.out).mono ?_;rintro e w7 ⟨rfl,hb7⟩;obtain ⟨z0,z1,z2,z3,z4,z5⟩:=HC7.out w7 (HBW.out w7 hb7));exact ⟨rfl,z5.out.1,z5.out.2⟩
    ·have h2i:((L.length:Int)+1 == 200)=false:=by have:=HLK.out;simp;omega
     gi_wp2;refine aV (dF l) 15 zab zab zab ?_;simp only [List.take_succ_cons,List.take_zero,List.drop_succ_cons,List.drop_zero]
     repeat still_step
     refine Ov ?_;gi_wp2_with (refine ⟨trivial,?_⟩);have hB6:Below W6 W6 W6.drew:=(MY _ W6).drew;exact ⟨HKO.out.trans ((Pg.ed hB6).from _),(k+1,r2),rfl,_,_,HLN.out,by show k+1<=200;omega,fun h=>absurd h h200,hf2,HCL.out.below hlw hB6,HCS.out.below hB6,Pg.LN.no HLS.out (bD hB6),HN.out.2.2 hf2 (fun h=>h200 h.1)⟩
   ·rw [show Pg.eM r2.fin = .iface 29 (.int .i64 r2.fin) by unfold Pg.eM;rw [M4 hf2]] at e5 d5;gi_wp2;refine aV (dF l) 15 zab zab zab ?_;simp only [List.take_succ_cons,List.take_zero,List.drop_succ_cons,List.drop_zero]
    repeat still_step
    refine Ov ?_;gi_wp2_with (refine ⟨trivial,?_⟩);have hB6:Below W6 W6 W6.drew:=(MY _ W6).drew;exact ⟨rfl,HKO.out.trans ((Pg.ed hB6).from _),_,_,_,by rw [HLN.out];omega,HCL.out.below hlw hB6,HCS.out.below hB6,Pg.LN.no HLS.out (bD hB6),HN.out.1 hf2⟩
 case' done =>
  rintro D V hD ⟨L,sv,r2,hLl,hCL,hCS,hLS,hclk⟩ hdef;gi_wp2
 case' stop =>
  rintro D V hD ⟨L,sv,r2,hLl,hCL,hCS,hLS,hclk⟩ hdef;gi_wp2
 all_goals
  have hBd:Below V V V.drew:=(MY _ V).drew;have hCSd:=hCS.below hBd;have hCLd:=hCL.below hlw hBd;have HOF:Hid (() 60 #[mb] V.drew fun e w'=>e = .returned (Pg.fuelV r2.fin)/\w'=V.drew):=by
   obtain ⟨qv,wh,a,_⟩:=hCLd.mt.ex;exact jq V.drew lo mb pb qv (r2.m wh) r2.fin a rfl hCLd.qk.fin
  have hr:∀ r,some D=some r->w.heap.size<=r/\∃ o:Obj,V.drew.heap[r]?=some o/\o.isCells=false:=fun r e=>by
   cases e
   exact ⟨zaa,_,hdef,rfl⟩
  have HEND:Hid _:=HFIN.out sv L r2 (V.drew.putObj D (.deferred none)) (hCLd.gr hlw hlo (OG V.drew D _) hr) (hCSd.no (Pg.gR (OG V.drew D _) (fun r e=>(hr r e).2))) (Pg.LN.no (Pg.LN.no hLS (bD hBd)) (Pg.gR (OG V.drew D _) (fun r e=>(hr r e).2))) hclk;have hdefd:V.drew.heap[D]?=some (.deferred (some [])):=hdef;have hS0:(fun V=>V.cell? w=some ↑mb/\V.cell? ⟨w.heap.size+2,0,none⟩=some (sv)) V.drew:=⟨hCSd.b0.cell,hCSd.b2.cell⟩;clear hCL hCS hCLd hCSd hclk hr hdef hBd hLS;refine RU.2 (jV ?_);refine No (S:=(fun V=>V.cell? w=some ↑mb/\V.cell? ⟨w.heap.size+2,0,none⟩=some (sv))) zab hS0 (fun u0 => ?_);refine tD (some 56) 0 sv rfl u0 ?_;refine tD (some 57) 1 mb rfl u0 ?_;refine zH 2 rfl fun K hK => ?_;go_simp;refine M7 HOF.out ?_;rintro e wA ⟨rfl,hA⟩;rw [hA];clear hA wA;refine hK.out _ _ u0 (fun u0 => ?_);clear hK K;refine tD (some 4) 3 sv rfl u0 ?_;refine tD (some 5) 4 (Pg.fuelV r2.fin) rfl u0 ?_;refine Nt zab ?_ _;unfold oq;gi_wp2;refine ⟨zad,.inl ⟨_,_,rfl,NP hdefd,?_⟩⟩;exact ⟨.tuple #[sv,Pg.fuelV r2.fin],results_tmp2 (t:=4) (u:=5) rfl _ _ _,HEND.out⟩
