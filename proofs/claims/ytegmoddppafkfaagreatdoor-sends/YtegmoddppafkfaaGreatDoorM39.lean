import Derived.Test.YtegmoddppafkfaaGreatDoorM00
import Derived.Test.YtegmoddppafkfaaGreatDoorM34
import Derived.Test.YtegmoddppafkfaaGreatDoorM38
set_option maxRecDepth 100000
set_option maxHeartbeats 8000000
namespace Go.Proofs.YtegmoddppafkfaaGreatDoor
section
open Go.RowKit Go.Proofs Go.Shelf
attribute [local go_sem] Oper.semAt_some
theorem Tryz.zS:(Tryz.prog.info? 63).map (fun i=>(i.zero,i.size,i.bytes))=some (some (.agg #[.string ⟨#[]⟩,.int .u64 0,.slice none 0 0]),3,48):=by kernel_rfl
theorem pT {F:Fence} (hF:Wd F) {n:Nat} {P:Program} {ops:Array Oper} {Q:Exit→Act→World→Prop} {a:Act} {w:World} {rest:List Oper} {o:Oper} (hg:o.guard=none) (hnd:∀ c,o.op ≠ .defer c) (h:∀ K:Act→World→Prop,(∀ a w,wpListIn F n P ops Q rest a w→K a w)→o.wp P a w K Q):wpListIn F n P ops Q (o::rest) a w :=
 wpListIn_plain hg fun K hK=>⟨fun _ _=>hF.fn _,by
  rw [Oper.semAt_eq _ _ _ hnd]
  exact za hF _ (h K hK)⟩
theorem Bz (mb t:Nat) (w:World):Calls Tryz.prog 103 #[.pointer (some ⟨mb,27,none⟩),.int .u64 t] w fun e w'=>e = .returned (.func (.func 135) #[] #[.pointer (some ⟨w.heap.size,0,none⟩),.pointer (some ⟨w.heap.size+1,0,none⟩)])∧w'=(w.alloc (.cells #[.pointer (some ⟨mb,27,none⟩)] 198)).alloc (.cells #[.int .u64 t] 37):=by
 go_enter Tryz.func103,Tryz.ntmps103
 go_wp2
 go_ret
 exact ⟨by simp,rfl⟩
namespace Pg
theorem sw {w w1 w5:World} {lo mb pb t g5 cap5:Nat} {ps:List PS} {r2:RSt} {ev:ByteArray} {sa:Option Addr} {sc:Nat} {L:List (ByteArray×RSt)} {nv:Value} {vs:List Value} (hl:Lw lo) (hlo:lo≤w.heap.size) (hL:CkL w w1 lo mb pb ps r2) (hS:CkS w w1 mb t (.slice sa L.length sc) L) (hvs:vs.length=L.length) (hnm:Nms w1 lo nv ((els r2.act).map (cE ps)))
  (hg:(w1.alloc (.cells #[.string ev,.int .u64 r2.now,nv] 63)).grownBy w5 (Value.ownBlock (.slice sa L.length sc))) (ho:w5.ownsRow w.heap.size 63 3 (.slice (some ⟨g5,0,none⟩) (L.length+1) cap5) (L.length+1) ((L.zip vs).flatMap stC++[.string ev,.int .u64 r2.now,nv])) :
  Boxed w5 (w.heap.size+2) 53 (.slice sa L.length sc)∧Boxed w5 w.heap.size 92 (.pointer (some ⟨mb,0,none⟩))∧(∀ (k:Nat) (c:Array Value),w1.heap[k]?=some (.cells c 154 (0,0))→w5.heap[k]?=some (.cells c 154 (0,0)))∧KeepsOthers w1 (w5.setCell ⟨w.heap.size+2,0,none⟩ (.slice (some ⟨g5,0,none⟩) (L.length+1) cap5)) ∧
   CkL w (w5.setCell ⟨w.heap.size+2,0,none⟩ (.slice (some ⟨g5,0,none⟩) (L.length+1) cap5)) lo mb pb ps r2∧CkS w (w5.setCell ⟨w.heap.size+2,0,none⟩ (.slice (some ⟨g5,0,none⟩) (L.length+1) cap5)) mb t (.slice (some ⟨g5,0,none⟩) (L.length+1) cap5) (L++[(ev,r2)])∧LN (w5.setCell ⟨w.heap.size+2,0,none⟩ (.slice (some ⟨g5,0,none⟩) (L.length+1) cap5)) w.heap.size lo ps (.slice (some ⟨g5,0,none⟩) (L.length+1) cap5) (L++[(ev,r2)]):=by
 have hkd:=hS.st.kind
 have hBa:Below w1.heap.size w1 (w1.alloc (.cells #[.string ev,.int .u64 r2.now,nv] 63)):=(Below.refl _ w1).alloc (Nat.le_refl _) _
 have hm:Mo (fun k=>Value.ownBlock (.slice sa L.length sc)=some k) w1 w5:=(aq hBa).trans ⟨hg.os,hg.tape,hg.output,hg.size,fun k hk hn=>hg.block k hk (fun e=>hn e.symm)⟩
 have hk5:Kd (fun t=>t=63) w1 w5:=gE hm (fun k c t f hp hc=>by
  obtain ⟨_,c',hc'⟩:=hkd k hp
  rw [hc] at hc'
  cases hc'
  rfl)
 have hb2:=hk5.boxed hS.b2 (by decide)
 have hm2:Mo (fun k=>Value.ownBlock (.slice sa L.length sc)=some k∨k=w.heap.size+2) w1 (w5.setCell ⟨w.heap.size+2,0,none⟩ (.slice (some ⟨g5,0,none⟩) (L.length+1) cap5)):=(hm.mono (fun _ _ h => .inl h)).set _ _ (.inr rfl)
 have hms:Mo (· = w.heap.size+2) w5 (w5.setCell ⟨w.heap.size+2,0,none⟩ (.slice (some ⟨g5,0,none⟩) (L.length+1) cap5)):=(Mo.refl _ _).set _ _ rfl
 have hks:Kd (fun t=>t=53) w5 (w5.setCell ⟨w.heap.size+2,0,none⟩ (.slice (some ⟨g5,0,none⟩) (L.length+1) cap5)):=gE hms (fun k c t f hp hc=>by
  subst hp
  rw [show w5.heap[w.heap.size+2]?=_ from hb2] at hc
  cases hc
  rfl)
 have hrow:(w5.setCell ⟨w.heap.size+2,0,none⟩ (.slice (some ⟨g5,0,none⟩) (L.length+1) cap5)).ownsRow w.heap.size 63 3 (.slice (some ⟨g5,0,none⟩) (L.length+1) cap5) (L++[(ev,r2)]).length (((L++[(ev,r2)]).zip (vs++[nv])).flatMap stC):=by
  have:=Kd.row hks ho (by decide)
  rw [List.zip_append hvs.symm,List.flatMap_append,List.length_append]
  exact this
 refine ⟨hb2,hk5.boxed hS.b0 (by decide),fun k c hk=>(hk5.ay _ _ _ _ hk (by decide)).trans hk,?_,?_,?_,vs++[nv],by simp [hvs],hrow,fun x nv' h1 h2 => ?_⟩
 ·refine KeepsOthers.trans ⟨hm.size,fun k o hk hc=>hm.block k (Array.getElem?_eq_some_iff.1 hk).1 (fun e => ?_) |>.trans hk⟩ (KeepsOthers.setCell _ _ _)
  obtain ⟨_,c',hc'⟩:=hkd k e
  rw [hk] at hc'
  cases hc'
  cases hc
 ·refine hL.own hl hlo hm2 (fun k hk => ?_)
  rcases hk with e | rfl
  ·obtain ⟨a,c',hc'⟩:=hkd k e
   exact ⟨a,c',_,hc',by unfold cG;decide⟩
  ·exact ⟨by omega,_,_,hS.b2,by unfold cG;decide⟩
 ·refine ⟨hks.boxed (hk5.boxed hS.b0 (by decide)) (by decide),hks.boxed (hk5.boxed hS.b1 (by decide)) (by decide),hb2.set _,hks.boxed (hk5.boxed hS.b3 (by decide)) (by decide),hks.boxed (hk5.boxed hS.b4 (by decide)) (by decide),vs++[nv],by simp [hvs],hrow⟩
 ·simp at h1 h2
  subst h1 h2
  exact Kd.row hks (Kd.row hk5 hnm (by decide)) (by decide)
end Pg
section
variable (w:World) (lo mb pb b cap:Nat) (ps:List Pg.PS) (fin:Nat) (EN LV:Nat→List Pg.PA) (hvs:Ref.Sl) (H:List Pg.HV) (D:Nat→Bool) (mbm n:Nat) (T:ByteArray→Option (List (Option Pg.PM))) (M:ByteArray→Option Nat) (Lr:Nat→List (Option Nat)) (pmF:Nat→Pg.PM) (acF:Nat→List Pg.PA) (r:Pg.RSt) (t:Nat)
namespace Pg
def mu (e:Ending) (w':World):Prop :=
 if r.fin=0 then ∃ sv,e = .returned (.tuple #[sv,fuelV (dx (aP ps fin EN LV H D M Lr pmF acF) t 201 0 r).2.fin])∧pW w' lo sv (dx (aP ps fin EN LV H D M Lr pmF acF) t 201 0 r).1∧((dx (aP ps fin EN LV H D M Lr pmF acF) t 201 0 r).2.fin≠6→LN w' lo lo ps sv (dx (aP ps fin EN LV H D M Lr pmF acF) t 201 0 r).1)∧Live w' lo mb pb b cap ps fin EN LV hvs H D mbm n T M Lr pmF acF (dx (aP ps fin EN LV H D M Lr pmF acF) t 201 0 r).2∧Rf lo w w'
 else e = .returned (.tuple #[.slice none 0 0,eJ r.fin])∧Below w.heap.size w w'
end Pg
theorem sx (hP:Pg.Live w lo mb pb b cap ps fin EN LV hvs H D mbm n T M Lr pmF acF r) (hf:¬ r.fin=0) :
  Calls Tryz.prog 70 #[.pointer (some ⟨mb,0,none⟩),.int .u64 t] w (Pg.mu w lo mb pb b cap ps fin EN LV hvs H D mbm n T M Lr pmF acF r t):=by
 obtain ⟨qv,wh,hM,_⟩:=hP.mt.ex
 have hB:∀ o1 o2:Obj,Below w.heap.size w ((w.alloc o1).alloc o2):=fun o1 o2=>((Below.refl _ w).alloc (Nat.le_refl _) _).alloc (by simp) _
 have he:Pg.eJ r.fin = .iface 47 (.int .i64 r.fin):=by unfold Pg.eJ;rw [if_neg hf]
 have h5:∀ o1 o2:Obj,((w.alloc o1).alloc o2).cell? ⟨mb,419,none⟩=some (.iface 47 (.int .i64 r.fin)):=fun o1 o2=>((hB o1 o2).cell (p:=⟨mb,419,none⟩) hM.lt).trans ((hM.cell 419 (by decide)).trans (congrArg some he))
 have c1:=fun o2=>((Boxed.new w 92 (.pointer (some ⟨mb,0,none⟩))).alloc o2).cell
 have HF:Hid (¬ r.fin=0):=hf
 have HE:Hid _:=he
 have HB:Hid _:=hB
 clear hP hf he hM hB
 go_enter Tryz.func70,Tryz.ntmps70
 go_wp2
 go_quiet (fail)
 go_wp2
 go_ret2
 unfold Pg.mu
 rw [if_neg HF.out,HE.out]
 exact ⟨rfl,below_drewN (HB.out _ _) _⟩
theorem zo (hP:Pg.Live w lo mb pb b cap ps fin EN LV hvs H D mbm n T M Lr pmF acF r) (ht:t<18446744073709551616) (hcl:∀ ev:ByteArray,ev.size≤1000000→EX ev) :
  Calls Tryz.prog 70 #[.pointer (some ⟨mb,0,none⟩),.int .u64 t] w (Pg.mu w lo mb pb b cap ps fin EN LV hvs H D mbm n T M Lr pmF acF r t):=by
 by_cases hf:¬ r.fin=0
 ·exact sx w lo mb pb b cap ps fin EN LV hvs H D mbm n T M Lr pmF acF r t hP hf
 have hf:r.fin=0:=Decidable.not_not.1 hf
 have hlw:=hP.run.dc.lw
 have hlo:=hP.mt.lo'
 obtain ⟨an,han⟩:∃ an,Pg.aP ps fin EN LV H D M Lr pmF acF=an:=⟨_,rfl⟩
 have HTN:Hid (∀ (r1:Pg.RSt) (ev:ByteArray) (V:World),ev.size≤1000000→Pg.CkL w V lo mb pb ps r1→Calls Tryz.prog 97 #[.pointer (some ⟨mb,0,none⟩),.string ev] V fun e w'=>∃ a k c,e = .returned (.agg #[.string ev,.int .u64 (Pg.br an r1 ev).now,.slice a k c])∧Hid (Pg.CkL w w' lo mb pb ps (Pg.br an r1 ev)∧Pg.Rf lo V w'∧Pg.Nms w' lo (.slice a k c) ((Pg.els (Pg.br an r1 ev).act).map (Pg.cE ps)))):=fun r1 ev V he h1=>by
  refine Calls.mono (wa V lo mb pb b cap ps fin EN LV hvs H D mbm n T M Lr pmF acF r1 ev ⟨hP.run.rf h1.rf,hP.sz,hP.sza,h1.mt,h1.ok,h1.qk,h1.q0⟩ he (hcl ev he)) ?_
  rintro e w' ⟨a,k,c,rfl,h2⟩
  obtain ⟨h3,h4,h5⟩:=h2.out
  rw [han] at h3 h5 ⊢
  exact ⟨a,k,c,rfl,⟨h3.mt,h1.rf.trans h4,h3.ok,h3.qk,h3.q0⟩,h4,h5⟩
 have HFIN:Hid (∀ (sv:Value) (L:List (ByteArray×Pg.RSt)) (r2:Pg.RSt) (V:World),Pg.CkL w V lo mb pb ps r2→Pg.CkS w V mb t sv L→(r2.fin≠6→Pg.LN V w.heap.size lo ps sv L)→Pg.dx an t 201 0 r=(L,r2)→Pg.mu w lo mb pb b cap ps fin EN LV hvs H D mbm n T M Lr pmF acF r t (.returned (.tuple #[sv,Pg.fuelV r2.fin])) V):=fun sv L r2 V h1 h2 hN h3=>by
  unfold Pg.mu
  rw [if_pos hf,han,h3]
  obtain ⟨vs,y1,y2⟩:=h2.st
  exact ⟨sv,rfl,⟨vs,y1,y2.1,y2.2.imp id (fun ⟨g,cp,cu,z1,z2,z3⟩=>⟨g,cp,cu,z1,Nat.le_trans hlo z2,z3⟩)⟩,fun h=>by
   obtain ⟨vs,y1,y2,y3⟩:=hN h
   exact ⟨vs,y1,⟨y2.1,y2.2.imp id (fun ⟨g,cp,cu,z1,z2,z3⟩=>⟨g,cp,cu,z1,Nat.le_trans hlo z2,z3⟩)⟩,y3⟩,⟨hP.run.rf h1.rf,hP.sz,hP.sza,h1.mt,h1.ok,h1.qk,h1.q0⟩,h1.rf⟩
 have hL0:∀ V:World,Below w.heap.size w V→Pg.CkL w V lo mb pb ps r:=fun V hV=>⟨hP.mt.below hlw hV,Pg.RfE.of hV hlo,hP.ok,hP.qk,hP.q0⟩
 have h5:∀ V:World,Below w.heap.size w V→V.cell? ⟨mb,419,none⟩=some .nilIface:=fun V hV=>by
  obtain ⟨qv,wh,hM,_⟩:=(hL0 V hV).mt.ex
  have:=hM.cell 419 (by decide)
  rw [show Pg.e8 pb qv (r.m wh) 419=Pg.eJ r.fin from rfl,hf] at this
  exact this
 obtain ⟨i0,hi,hz0,hz1,hz2⟩:=info_parts Tryz.zS
 clear hP hcl han
 have hB2:∀ o1 o2:Obj,Below w.heap.size w ((w.alloc o1).alloc o2):=fun o1 o2=>((Below.refl _ w).alloc (Nat.le_refl _) _).alloc (by simp) _
 have hB3:∀ o1 o2 o3:Obj,Below w.heap.size w (((w.alloc o1).alloc o2).alloc o3):=fun o1 o2 o3=>(hB2 o1 o2).alloc (by simp;omega) _
 have h52:=fun o1 o2=>h5 _ (hB2 o1 o2)
 have c1:=fun o2=>((Boxed.new w 92 (.pointer (some ⟨mb,0,none⟩))).alloc o2).cell
 refine (callsIn_wide (n:=8)).1 ?_
 refine callsIn_of_wp_marks Tryz.func70 rfl trivial ?_ rfl
 simp only [Tryz.ntmps70,List.size_toArray,List.length_cons,List.length_nil,Nat.reduceAdd,Nat.reduceSub,Array.replicate_succ,Array.replicate_zero,List.push_toArray,List.append_toArray,List.nil_append,List.cons_append]
 gi_wp2
 obtain ⟨W3,hW3⟩:∃ W3,((w.alloc (.cells #[.pointer (some ⟨mb,0,none⟩)] 92)).alloc (.cells #[.int .u64 t] 37)).alloc (.cells #[.slice none 0 0] 53)=W3:=⟨_,rfl⟩
 have hB30:=hB3 (.cells #[.pointer (some ⟨mb,0,none⟩)] 92) (.cells #[.int .u64 t] 37) (.cells #[.slice none 0 0] 53)
 have x0:Boxed W3 w.heap.size 92 (.pointer (some ⟨mb,0,none⟩)):=hW3 ▸ ((Boxed.new w 92 (.pointer (some ⟨mb,0,none⟩))).alloc _).alloc _
 have x1:Boxed W3 (w.heap.size+1) 37 (.int .u64 t):=by
  have:=(Boxed.new (w.alloc (.cells #[.pointer (some ⟨mb,0,none⟩)] 92)) 37 (.int .u64 t)).alloc (.cells #[.slice none 0 0] 53)
  rw [hW3,World.size_alloc] at this
  exact this
 have x2:Boxed W3 (w.heap.size+2) 53 (.slice none 0 0):=by
  have:=Boxed.new ((w.alloc (.cells #[.pointer (some ⟨mb,0,none⟩)] 92)).alloc (.cells #[.int .u64 t] 37)) 53 (.slice none 0 0)
  rw [hW3,World.size_alloc,World.size_alloc] at this
  exact this
 have hs3:W3.heap.size=w.heap.size+3:=by rw [← hW3];simp
 rw [hW3] at hB30 ⊢
 clear hW3 h52 hB3 hB2 c1
 have y0:W3.drew.cell? ⟨w.heap.size,0,none⟩=_:=x0.cell
 have y1:W3.drew.cell? ⟨w.heap.size+1,0,none⟩=_:=x1.cell
 refine aE gi 4 (by kernel_rfl) (by kernel_rfl) (by kernel_rfl) ?_
 simp only [List.take_succ_cons,List.take_zero,List.drop_succ_cons,List.drop_zero]
 repeat still_step
 refine wpStill_nil ?_
 gi_wp2_with (refine ⟨trivial,?_⟩;gi_at_call 103;refine (callsIn_wide.2 (Bz mb t _)).mono ?_;rintro e w9 ⟨rfl,hw9⟩;rw [hw9];clear hw9 w9)
 have hB0:Below w.heap.size w ((W3.alloc (.cells #[.pointer (some ⟨mb,27,none⟩)] 198)).alloc (.cells #[.int .u64 t] 37)).drew:=((hB30.alloc (by omega) _).alloc (by simp;omega) _).drew
 have hBd:Below W3.heap.size W3 ((W3.alloc (.cells #[.pointer (some ⟨mb,27,none⟩)] 198)).alloc (.cells #[.int .u64 t] 37)).drew:=(((Below.refl _ W3).alloc (Nat.le_refl _) _).alloc (by rw [World.size_alloc];exact Nat.le_succ _) _).drew
 have x3:Boxed ((W3.alloc (.cells #[.pointer (some ⟨mb,27,none⟩)] 198)).alloc (.cells #[.int .u64 t] 37)).drew (w.heap.size+3) 198 (.pointer (some ⟨mb,27,none⟩)):=by
  have:=(Boxed.new W3 198 (.pointer (some ⟨mb,27,none⟩))).alloc (.cells #[.int .u64 t] 37)
  rw [hs3] at this
  exact this
 have x4:Boxed ((W3.alloc (.cells #[.pointer (some ⟨mb,27,none⟩)] 198)).alloc (.cells #[.int .u64 t] 37)).drew (w.heap.size+4) 37 (.int .u64 t):=by
  have:=Boxed.new (W3.alloc (.cells #[.pointer (some ⟨mb,27,none⟩)] 198)) 37 (.int .u64 t)
  rw [World.size_alloc,hs3] at this
  exact this
 have hs0:(((W3.alloc (.cells #[.pointer (some ⟨mb,27,none⟩)] 198)).alloc (.cells #[.int .u64 t] 37)).drew).heap.size=w.heap.size+5:=by show ((W3.alloc _).alloc _).heap.size=_;rw [World.size_alloc,World.size_alloc,hs3]
 (try simp only [hs3])
 generalize ((W3.alloc (.cells #[.pointer (some ⟨mb,27,none⟩)] 198)).alloc (.cells #[.int .u64 t] 37)).drew=W0 at *
 have hI0:Pg.CkI w lo mb pb ps an t r (0,r) W0:=⟨[],.slice none 0 0,rfl,Nat.zero_le _,(fun h=>by have h:(0:Nat)=200:=h;omega),hf,hL0 W0 hB0,⟨au x0 hBd x0.lt,au x1 hBd x1.lt,au x2 hBd x2.lt,x3,x4,[],rfl,World.ownsRow_nil ..⟩,⟨[],rfl,World.ownsRow_nil ..,fun x nv h _=>(by cases h)⟩,rfl⟩
 clear x0 x1 x2 x3 x4 y0 y1 hL0 h5 hB30 hBd hs3 hf
 have hown5:∀ (row:Option Nat) (A:World),(∀ r,row=some r→W0.heap.size≤r∧∃ o:Obj,A.heap[r]?=some o∧o.isCells=false)→∀ r,row=some r→w.heap.size≤r∧∃ o:Obj,A.heap[r]?=some o∧o.isCells=false:=fun row A h r e=>⟨by have:=(h r e).1;omega,(h r e).2⟩
 refine Cq rfl (by omega) (gf:=135) rfl trivial (enters_of Tryz.func135 (by kernel_rfl) rfl)
  (Fk _ (by omega) W0 lo mb pb (w.heap.size+3) (w.heap.size+4) t ht hlw) (fun _=>rfl)
  (Pg.CkI w lo mb pb ps an t r) (Pg.CkT w lo mb pb ps an t r) (Pg.CkF w lo mb pb ps an t r) (Pg.CkF w lo mb pb ps an t r)
  (fun s f a' V=>∃ bt,a'=⟨#[.pointer (some ⟨mb,0,none⟩),.int .u64 t,.pointer (some ⟨w.heap.size,0,none⟩),.pointer (some ⟨w.heap.size+1,0,none⟩),.slice none 0 0,.nilIface,.pointer (some ⟨w.heap.size+2,0,none⟩),.pointer (some ⟨bt,0,none⟩),.pointer (some ⟨mb,0,none⟩),.pointer (some ⟨mb,0,none⟩),.pointer (some ⟨mb,419,none⟩),.nilIface,.bool false,undef,undef,undef,undef,.pointer (some ⟨mb,0,none⟩),.pointer (some ⟨mb,0,none⟩),.pointer (some ⟨mb,27,none⟩),.int .u64 t,.func (.func 135) #[] #[.pointer (some ⟨w.heap.size+3,0,none⟩),.pointer (some ⟨w.heap.size+4,0,none⟩)],.agg #[.string f.ev,.string f.nm],undef,undef,undef,undef,undef,undef,undef,undef,undef,undef,undef,undef,undef,undef,undef,undef,undef,undef,undef,undef,undef,undef,undef,undef,undef,undef,undef,undef,undef,undef,undef,undef,undef,undef,undef,undef],[]⟩∧V.heap[bt]?=some (.cells #[.string f.ev,.string f.nm] 154 (0,0))∧Pg.CkT w lo mb pb ps an t r s f V) 0
  (fun s A C row h hg hr=>h.gr hlw hlo hg (hown5 row A hr)) (fun _ A C row h hg hr=>h.gr hlw hlo hg (hown5 row A hr)) (fun _ A C row h hg hr=>h.gr hlw hlo hg (hown5 row A hr))
  (fun s f a' _ A C row h hg hr=>by
   obtain ⟨bt,e1,e2,e3⟩:=h
   exact ⟨bt,e1,((Pg.gD (E:=fun _=>False) hg (fun r e=>(hr r e).2)).ay _ _ _ _ e2 (fun h=>h)).trans e2,e3.gr hlw hlo hg (hown5 row A hr)⟩)
  (fun s V h=>by
   obtain ⟨L,sv,a,b,c,_,d,e,_,g⟩:=h
   exact ⟨⟨b,d.mt,d.qk.tm,e.b3.cell,e.b4.cell⟩,fun V' hV=>⟨(au e.b3 hV e.b3.lt).cell,(au e.b4 hV e.b4.lt).cell⟩⟩)
  (fun s f V V' h k=>h.Ew k) (fun s V V' h k=>h.FP k) (fun s f V V' k=>k.2.2.2.oth.from _) (fun s V V' k=>k.2.2.oth.from _) (0,r) hI0 ?assign ?body ?done ?stop
 case assign =>
  intro l s f V K hI hK
  unfold Pg.tnV
  gi_wp2_with (show wpListIn _ _ _ _ _ (Oper.mk none _ _ _ _ _::_) _ _;refine pT (bU l) rfl (fun c h=>by cases h) (fun K2 hK2=>js 154 (.tmp 7) (.tmp 22) rfl V.heap.size 154 #[.string ⟨#[]⟩,.string ⟨#[]⟩] #[.string f.ev,.string f.nm] rfl rfl (heap_alloc_new V _) Tryz.kf rfl rfl (hK2 _ _ ?_));rw [World.setRow_alloc_new])
  have hBa:Below V.heap.size V (V.alloc (.cells #[.string f.ev,.string f.nm] 154)):=(Below.refl _ V).alloc (Nat.le_refl _) _
  exact hK _ _ ((Pg.ew hBa).from _) ⟨V.heap.size,rfl,heap_alloc_new V _,hI.below hlw hBa⟩
 case body =>
  rintro l ⟨k,rs⟩ f a' V hl ⟨bt,rfl,hbt,L,sv,hLk,hk,hev,hdue,hhd,hCL,hCS,hclk⟩
  dsimp only at hLk hk hdue hhd hCL hclk
  obtain ⟨sa,sc,rfl⟩:=hCS.st.n
  obtain ⟨vs,hvs0,hown⟩:=hCS.st
  obtain ⟨r2,hr2⟩:∃ r2,Pg.br an (Pg.gh rs f) f.ev=r2:=⟨_,rfl⟩
  have HN:Hid _:=Pg.Bj hk hdue hhd hclk hr2
  have hBd:Below V.heap.size V V.drew:=(Below.refl _ V).drew
  have hCSd:=hCS.below hBd
  have HTU:Hid _:=HTN.out (Pg.gh rs f) f.ev V.drew hev (hCL.below hlw hBd)
  rw [hr2] at HTU
  have hne:¬ bt=w.heap.size+2:=fun e=>by
   rw [e,show V.heap[w.heap.size+2]?=_ from hCS.b2] at hbt
   cases hbt
  have hS:∀ W:World,Pg.CkS w W mb t (.slice sa L.length sc) L→W.heap[bt]?=some (.cells #[.string f.ev,.string f.nm] 154 (0,0))→(fun V=>V.cell? ⟨w.heap.size,0,none⟩=some (.pointer (some ⟨mb,0,none⟩))∧V.cell? ⟨bt,0,none⟩=some (.string f.ev)) W:=fun W h1 h2=>⟨h1.b0.cell,(cell_of_row W _ _ _ _ _ h2).trans rfl⟩
  have hbtd:V.drew.heap[bt]?=some (.cells #[.string f.ev,.string f.nm] 154 (0,0)):=hbt
  have HC1:Hid (∀ w1,Pg.Rf lo V.drew w1→Pg.CkS w w1 mb t (.slice sa L.length sc) L∧w1.heap[bt]?=some (.cells #[.string f.ev,.string f.nm] 154 (0,0))∧w.heap.size≤w1.heap.size∧∀ c:Array Value,Pg.CkS w (w1.alloc (.cells c 63)) mb t (.slice sa L.length sc) L∧(w1.alloc (.cells c 63)).heap[bt]?=some (.cells #[.string f.ev,.string f.nm] 154 (0,0))∧(w1.alloc (.cells c 63)).ownsRow w.heap.size 63 3 (.slice sa L.length sc) L.length ((L.zip vs).flatMap Pg.stC)):=fun w1 h=>by
   have a1:=hCSd.rf h
   have a2:=(h.kd.ay _ _ _ _ hbtd Pg.td).trans hbtd
   have a3:w1.ownsRow w.heap.size 63 3 (.slice sa L.length sc) L.length ((L.zip vs).flatMap Pg.stC):=Kd.row h.kd (Kd.row (bC (E:=fun _=>False) hBd) hown (fun h=>h)) Pg.s9
   refine ⟨a1,a2,Nat.le_of_lt (Nat.lt_of_le_of_lt (by omega) a1.b0.lt),fun c => ?_⟩
   have hb:Below w1.heap.size w1 (w1.alloc (.cells c 63)):=(Below.refl _ w1).alloc (Nat.le_refl _) _
   exact ⟨a1.below hb,(hb.block _ (Array.getElem?_eq_some_iff.1 a2).1).trans a2,Kd.row (bC (E:=fun _=>False) hb) a3 (fun h=>h)⟩
  have cx1:V.drew.cell? ⟨w.heap.size+2,0,none⟩=some (.slice sa L.length sc):=hCSd.b2.cell
  have hS0:=hS _ hCSd hbtd
  have hLe:L.length≤200:=by omega
  have HLK:Hid (L.length=k):=hLk
  clear hLk
  clear hbt hCS hown hdue hhd hclk hr2 hCSd hbtd
  gi_wp2
  refine dy (S:=(fun V=>V.cell? ⟨w.heap.size,0,none⟩=some (.pointer (some ⟨mb,0,none⟩))∧V.cell? ⟨bt,0,none⟩=some (.string f.ev))) (by kernel_rfl) (by kernel_rfl) (by rintro ⟨_,_,h⟩;exact h) hS0 (fun hHeld => ?_)
  refine tD (some 24) 1 (.pointer (some ⟨mb,0,none⟩)) rfl hHeld ?_
  refine tD (some 25) 2 (.pointer (some ⟨bt,0,none⟩)) rfl hHeld ?_
  refine tD (some 26) 3 (.string f.ev) rfl hHeld ?_
  refine yH [0,4] ?_
  refine AllReadyH.cons rfl (fun K hK => ?rg1) (AllReadyH.cons rfl (fun K hK => ?rg2) AllReadyH.nil)
  case' rg1 =>
   go_simp
   refine hK.out _ _ hHeld (fun hHeld => ?_)
   clear hK K
   refine zH 4 rfl fun K hK => ?_
   go_simp
   refine Calls.mono HTU.out ?_
   rintro e w1 ⟨na,nk,nc,rfl,h1⟩
   obtain ⟨q1,q2,q3,q4⟩:=HC1.out w1 h1.out.2.1
   obtain ⟨q5,q6,q7⟩:=q4 #[.string f.ev,.int .u64 r2.now,.slice na nk nc]
   have cx2:=q1.b2.cell
   have cx3:=q5.b2.cell
   refine hK.out _ _ (hS _ q1 q2) (fun hHeld => ?_)
   clear hK K
   refine zH 5 rfl fun K hK => ?_
   go_simp
   refine hK.out _ _ (hS _ q5 q6) (fun hHeld => ?_)
   clear hK K
   refine zH 6 rfl fun K hK => ?_
   refine step_append_lies _ (by rfl) _ _ _ (by rfl) w.heap.size 63 i0 _ 3 48 Tryz.underlying53 hi hz0 hz1 hz2 rfl (by decide) (.slice sa L.length sc) L.length ((L.zip vs).flatMap Pg.stC) (by rfl) q7 ⟨w1.heap.size,0,none⟩ 1 1 [.string f.ev,.int .u64 r2.now,.slice na nk nc] (by rfl) (by rfl) (World.news_of_block (cs:=#[.string f.ev,.int .u64 r2.now,.slice na nk nc]) (t:=63) (fr:=(0,0)) (heap_alloc_new w1 _)) (fun u hu=>by simp at hu;rcases hu with rfl | rfl | rfl <;> rfl) (by omega) (by unfold maxLen;omega) (by omega) (Nat.le_trans q3 (by simp)) _ rfl ?_
   intro g5 cap5 w5 hown5 hgrow hat hlt5
   have HK5:Hid _:=Pg.sw hlw hlo h1.out.1 q1 hvs0 h1.out.2.2 hgrow hown5
   obtain ⟨s1,s2,s3,_⟩:=HK5.out
   have s4:=s3 bt _ q2
   have c5:=s1.cell
   have f5:=s1.frozen
   refine hK.out _ _ ⟨s2.cell,(cell_of_row w5 _ _ _ _ _ s4).trans rfl⟩ (fun hHeld => ?_)
   clear hK K
   refine zH 7 rfl fun K hK => ?_
   go_simp
   refine hK.out _ _ (by
    exact ⟨(ax (by intro h;injection h with h1;omega)).trans hHeld.1,(ax (by intro h;injection h with h1;omega)).trans hHeld.2⟩) (fun hHeld => ?_)
   clear hK K hHeld
   refine wpAnyH_done (by kernel_rfl) ?_ _
  case' rg2 =>
   go_simp
   refine Calls.mono HTU.out ?_
   rintro e w1 ⟨na,nk,nc,rfl,h1⟩
   obtain ⟨q1,q2,q3,q4⟩:=HC1.out w1 h1.out.2.1
   obtain ⟨q5,q6,q7⟩:=q4 #[.string f.ev,.int .u64 r2.now,.slice na nk nc]
   have cx2:=q1.b2.cell
   have cx3:=q5.b2.cell
   refine hK.out _ _ (hS _ q1 q2) (fun hHeld => ?_)
   clear hK K
   refine yH [0,5] ?_
   refine AllReadyH.cons rfl (fun K hK => ?rg7) (AllReadyH.cons rfl (fun K hK => ?rg8) AllReadyH.nil)
   case' rg7 =>
    go_simp
    refine hK.out _ _ hHeld (fun hHeld => ?_)
    clear hK K
    refine zH 5 rfl fun K hK => ?_
    go_simp
    refine hK.out _ _ (hS _ q5 q6) (fun hHeld => ?_)
    clear hK K
    refine zH 6 rfl fun K hK => ?_
    refine step_append_lies _ (by rfl) _ _ _ (by rfl) w.heap.size 63 i0 _ 3 48 Tryz.underlying53 hi hz0 hz1 hz2 rfl (by decide) (.slice sa L.length sc) L.length ((L.zip vs).flatMap Pg.stC) (by rfl) q7 ⟨w1.heap.size,0,none⟩ 1 1 [.string f.ev,.int .u64 r2.now,.slice na nk nc] (by rfl) (by rfl) (World.news_of_block (cs:=#[.string f.ev,.int .u64 r2.now,.slice na nk nc]) (t:=63) (fr:=(0,0)) (heap_alloc_new w1 _)) (fun u hu=>by simp at hu;rcases hu with rfl | rfl | rfl <;> rfl) (by omega) (by unfold maxLen;omega) (by omega) (Nat.le_trans q3 (by simp)) _ rfl ?_
    intro g5 cap5 w5 hown5 hgrow hat hlt5
    have HK5:Hid _:=Pg.sw hlw hlo h1.out.1 q1 hvs0 h1.out.2.2 hgrow hown5
    obtain ⟨s1,s2,s3,_⟩:=HK5.out
    have s4:=s3 bt _ q2
    have c5:=s1.cell
    have f5:=s1.frozen
    refine hK.out _ _ ⟨s2.cell,(cell_of_row w5 _ _ _ _ _ s4).trans rfl⟩ (fun hHeld => ?_)
    clear hK K
    refine zH 7 rfl fun K hK => ?_
    go_simp
    refine hK.out _ _ (by
     exact ⟨(ax (by intro h;injection h with h1;omega)).trans hHeld.1,(ax (by intro h;injection h with h1;omega)).trans hHeld.2⟩) (fun hHeld => ?_)
    clear hK K hHeld
    refine wpAnyH_done (by kernel_rfl) ?_ _
   case' rg8 =>
    go_simp
    refine hK.out _ _ (hS _ q5 q6) (fun hHeld => ?_)
    clear hK K
    refine zH 0 rfl fun K hK => ?_
    go_simp
    refine hK.out _ _ hHeld (fun hHeld => ?_)
    clear hK K
    refine zH 6 rfl fun K hK => ?_
    refine step_append_lies _ (by rfl) _ _ _ (by rfl) w.heap.size 63 i0 _ 3 48 Tryz.underlying53 hi hz0 hz1 hz2 rfl (by decide) (.slice sa L.length sc) L.length ((L.zip vs).flatMap Pg.stC) (by rfl) q7 ⟨w1.heap.size,0,none⟩ 1 1 [.string f.ev,.int .u64 r2.now,.slice na nk nc] (by rfl) (by rfl) (World.news_of_block (cs:=#[.string f.ev,.int .u64 r2.now,.slice na nk nc]) (t:=63) (fr:=(0,0)) (heap_alloc_new w1 _)) (fun u hu=>by simp at hu;rcases hu with rfl | rfl | rfl <;> rfl) (by omega) (by unfold maxLen;omega) (by omega) (Nat.le_trans q3 (by simp)) _ rfl ?_
    intro g5 cap5 w5 hown5 hgrow hat hlt5
    have HK5:Hid _:=Pg.sw hlw hlo h1.out.1 q1 hvs0 h1.out.2.2 hgrow hown5
    obtain ⟨s1,s2,s3,_⟩:=HK5.out
    have s4:=s3 bt _ q2
    have c5:=s1.cell
    have f5:=s1.frozen
    refine hK.out _ _ ⟨s2.cell,(cell_of_row w5 _ _ _ _ _ s4).trans rfl⟩ (fun hHeld => ?_)
    clear hK K
    refine zH 7 rfl fun K hK => ?_
    go_simp
    refine hK.out _ _ (by
     exact ⟨(ax (by intro h;injection h with h1;omega)).trans hHeld.1,(ax (by intro h;injection h with h1;omega)).trans hHeld.2⟩) (fun hHeld => ?_)
    clear hK K hHeld
    refine wpAnyH_done (by kernel_rfl) ?_ _
  all_goals
   obtain ⟨_,_,_,hko,hCL6,hCS6,hLN6⟩:=HK5.out
   have HKO:Hid (KeepsFrom W0.heap.size V (w5.setCell ⟨w.heap.size+2,0,none⟩ (.slice (some ⟨g5,0,none⟩) (L.length+1) cap5))):=((Pg.ew hBd).trans (h1.out.2.1.oth.trans hko)).from _
   generalize w5.setCell ⟨w.heap.size+2,0,none⟩ (.slice (some ⟨g5,0,none⟩) (L.length+1) cap5)=W6 at *
   have HCL:Hid _:=hCL6
   have HCS:Hid _:=hCS6
   have HLS:Hid _:=hLN6
   have e0:=hCS6.b0.cell
   have e5:W6.cell? ⟨mb,419,none⟩=some (Pg.eJ r2.fin):=by
    obtain ⟨qv,wh,hM,_⟩:=hCL6.mt.ex
    exact hM.cell 419 (by decide)
   have d0:W6.drew.cell? ⟨w.heap.size,0,none⟩=_:=e0
   have d1:W6.drew.cell? ⟨w.heap.size+1,0,none⟩=_:=hCS6.b1.cell
   have d2:W6.drew.cell? ⟨w.heap.size+2,0,none⟩=_:=hCS6.b2.cell
   have d5:W6.drew.cell? ⟨mb,419,none⟩=_:=e5
   have HLN:Hid ((L++[(f.ev,r2)]).length=k+1):=by
    have:=HLK.out
    unfold Hid
    rw [List.length_append,this]
    rfl
   clear HK5 h1 hko hCL6 hCS6 hLN6 HTU HC1 hown5 hgrow hat hlt5
   by_cases hf2:r2.fin=0
   ·rw [show Pg.eJ r2.fin = .nilIface by rw [hf2];rfl] at e5 d5
    by_cases h200:k+1=200
    ·have h2i:((L.length:Int)+1 == 200)=true:=by have:=HLK.out;simp;omega
     have hB6:Below W6.heap.size W6 W6.drew:=(Below.refl _ W6).drew
     have HHD:Hid _:=nu W6.drew lo mb pb r2 hlw (HCL.out.mt.below hlw hB6) HCL.out.qk.tm t
     have HBW:Hid (∀ w7,Below W6.drew.heap.size W6.drew w7→Below W6.heap.size W6 w7):=fun w7 h=>hB6.trans h
     cases hd:Pg.bj r2.now t r2.tm with
     | false =>
      rw [hd] at HHD
      have HC7:Hid (∀ w7,Below W6.heap.size W6 w7→w7.cell? ⟨w.heap.size,0,none⟩=some (.pointer (some ⟨mb,0,none⟩))∧w7.cell? ⟨mb,419,none⟩=some .nilIface∧Hid (KeepsFrom W0.heap.size V w7∧Pg.CkI w lo mb pb ps an t r (k+1,r2) w7)):=fun w7 hb=>by
       have y1:=HCL.out.below hlw hb
       have y2:=HCS.out.below hb
       refine ⟨y2.b0.cell,?_,HKO.out.trans ((Pg.ew hb).from _),_,_,HLN.out,by show k+1≤200;omega,fun _=>hd,hf2,y1,y2,Pg.LN.no HLS.out (bC hb),HN.out.2.2 hf2 (fun h=>by rw [hd] at h;cases h.2)⟩
       obtain ⟨qv,wh,hM,_⟩:=y1.mt.ex
       have:=hM.cell 419 (by decide)
       rw [show Pg.e8 pb qv (r2.m wh) 419=Pg.eJ r2.fin from rfl,hf2] at this
       exact this
      clear hd
      gi_wp2
      refine aE (bU l) 15 (by kernel_rfl) (by kernel_rfl) (by kernel_rfl) ?_
      simp only [List.take_succ_cons,List.take_zero,List.drop_succ_cons,List.drop_zero]
      repeat still_step
      refine wpStill_nil ?_
      gi_wp2_with (refine ⟨trivial,?_⟩;gi_at_call 104;refine (aC HHD.out).mono ?_;rintro e w7 ⟨rfl,hb7⟩;obtain ⟨z0,z1,z2⟩:=HC7.out w7 (HBW.out w7 hb7))
      exact ⟨z2.out.1,(k+1,r2),rfl,z2.out.2⟩
     | true =>
      rw [hd] at HHD
      have HC7:Hid (∀ w7,Below W6.heap.size W6 w7→w7.cell? ⟨w.heap.size,0,none⟩=some (.pointer (some ⟨mb,0,none⟩))∧w7.cell? ⟨mb,419,none⟩=some .nilIface∧w7.frozen? ⟨mb,419,none⟩=false∧(w7.setCell ⟨mb,419,none⟩ (.iface 47 (.int .i64 6))).cell? ⟨w.heap.size,0,none⟩=some (.pointer (some ⟨mb,0,none⟩))∧(w7.setCell ⟨mb,419,none⟩ (.iface 47 (.int .i64 6))).cell? ⟨mb,419,none⟩=some (.iface 47 (.int .i64 6))∧Hid (KeepsFrom W0.heap.size V (w7.setCell ⟨mb,419,none⟩ (.iface 47 (.int .i64 6)))∧Pg.CkF w lo mb pb ps an t r (w7.setCell ⟨mb,419,none⟩ (.iface 47 (.int .i64 6))))):=fun w7 hb=>by
       have y1:=HCL.out.below hlw hb
       have y2:=HCS.out.below hb
       obtain ⟨m1,m2⟩:=Pg.MT.CH y1.mt hlw 6
       have y3:=y2.rf m2
       obtain ⟨qv,wh,hM,_⟩:=y1.mt.ex
       obtain ⟨qv',wh',hM',_⟩:=m1.ex
       refine ⟨y2.b0.cell,?_,hM.frozen 419,y3.b0.cell,hM'.cell 419 (by decide),HKO.out.trans (((Pg.ew hb).trans m2.oth).from _),_,_,_,by rw [HLN.out];omega,⟨m1,y1.rf.trans m2,⟨y1.ok.act,y1.ok.kept⟩,⟨y1.qk.q,.inr (.inr rfl),y1.qk.tm⟩,y1.q0⟩,y3,fun h=>absurd rfl h,HN.out.2.1 hf2 h200 hd⟩
       have:=hM.cell 419 (by decide)
       rw [show Pg.e8 pb qv (r2.m wh) 419=Pg.eJ r2.fin from rfl,hf2] at this
       exact this
      clear hd
      gi_wp2
      refine aE (bU l) 15 (by kernel_rfl) (by kernel_rfl) (by kernel_rfl) ?_
      simp only [List.take_succ_cons,List.take_zero,List.drop_succ_cons,List.drop_zero]
      repeat still_step
      refine wpStill_nil ?_
      gi_wp2_with (refine ⟨trivial,?_⟩;gi_at_call 104;refine (aC HHD.out).mono ?_;rintro e w7 ⟨rfl,hb7⟩;obtain ⟨z0,z1,z2,z3,z4,z5⟩:=HC7.out w7 (HBW.out w7 hb7))
      exact ⟨rfl,z5.out.1,z5.out.2⟩
    ·have h2i:((L.length:Int)+1 == 200)=false:=by have:=HLK.out;simp;omega
     gi_wp2
     refine aE (bU l) 15 (by kernel_rfl) (by kernel_rfl) (by kernel_rfl) ?_
     simp only [List.take_succ_cons,List.take_zero,List.drop_succ_cons,List.drop_zero]
     repeat still_step
     refine wpStill_nil ?_
     gi_wp2_with (refine ⟨trivial,?_⟩)
     have hB6:Below W6.heap.size W6 W6.drew:=(Below.refl _ W6).drew
     exact ⟨HKO.out.trans ((Pg.ew hB6).from _),(k+1,r2),rfl,_,_,HLN.out,by show k+1≤200;omega,fun h=>absurd h h200,hf2,HCL.out.below hlw hB6,HCS.out.below hB6,Pg.LN.no HLS.out (bC hB6),HN.out.2.2 hf2 (fun h=>h200 h.1)⟩
   ·rw [show Pg.eJ r2.fin = .iface 47 (.int .i64 r2.fin) by unfold Pg.eJ;rw [if_neg hf2]] at e5 d5
    gi_wp2
    refine aE (bU l) 15 (by kernel_rfl) (by kernel_rfl) (by kernel_rfl) ?_
    simp only [List.take_succ_cons,List.take_zero,List.drop_succ_cons,List.drop_zero]
    repeat still_step
    refine wpStill_nil ?_
    gi_wp2_with (refine ⟨trivial,?_⟩)
    have hB6:Below W6.heap.size W6 W6.drew:=(Below.refl _ W6).drew
    exact ⟨rfl,HKO.out.trans ((Pg.ew hB6).from _),_,_,_,by rw [HLN.out];omega,HCL.out.below hlw hB6,HCS.out.below hB6,fun _=>Pg.LN.no HLS.out (bC hB6),HN.out.1 hf2⟩
 case' done =>
  rintro D V hD ⟨L,sv,r2,hLl,hCL,hCS,hLS,hclk⟩ hdef
  gi_wp2
 case' stop =>
  rintro D V hD ⟨L,sv,r2,hLl,hCL,hCS,hLS,hclk⟩ hdef
  gi_wp2
 all_goals
  have hBd:Below V.heap.size V V.drew:=(Below.refl _ V).drew
  have hCSd:=hCS.below hBd
  have hCLd:=hCL.below hlw hBd
  have HOF:Hid (Calls Tryz.prog 98 #[.pointer (some ⟨mb,0,none⟩)] V.drew fun e w'=>e = .returned (Pg.fuelV r2.fin)∧w'=V.drew):=by
   obtain ⟨qv,wh,a,_⟩:=hCLd.mt.ex
   exact iD V.drew lo mb pb qv (r2.m wh) r2.fin a rfl hCLd.qk.fin
  have hr:∀ r,some D=some r→w.heap.size≤r∧∃ o:Obj,V.drew.heap[r]?=some o∧o.isCells=false:=fun r e=>by
   cases e
   exact ⟨by omega,_,hdef,rfl⟩
  have HEND:Hid _:=HFIN.out sv L r2 (V.drew.putObj D (.deferred none)) (hCLd.gr hlw hlo (grownBy_putObj' V.drew D _) hr) (hCSd.no (Pg.gD (grownBy_putObj' V.drew D _) (fun r e=>(hr r e).2))) (fun h=>Pg.LN.no (Pg.LN.no (hLS h) (bC hBd)) (Pg.gD (grownBy_putObj' V.drew D _) (fun r e=>(hr r e).2))) hclk
  have hdefd:V.drew.heap[D]?=some (.deferred (some [])):=hdef
  have hS0:(fun V=>V.cell? ⟨w.heap.size,0,none⟩=some (.pointer (some ⟨mb,0,none⟩))∧V.cell? ⟨w.heap.size+2,0,none⟩=some (sv)) V.drew:=⟨hCSd.b0.cell,hCSd.b2.cell⟩
  clear hCL hCS hCLd hCSd hclk hr hdef hBd hLS
  refine wpIn_wide.2 (mq ?_)
  refine wp_region_held_drew (S:=(fun V=>V.cell? ⟨w.heap.size,0,none⟩=some (.pointer (some ⟨mb,0,none⟩))∧V.cell? ⟨w.heap.size+2,0,none⟩=some (sv))) (by kernel_rfl) hS0 (fun hHeld => ?_)
  refine tD (some 56) 0 sv rfl hHeld ?_
  refine tD (some 57) 1 (.pointer (some ⟨mb,0,none⟩)) rfl hHeld ?_
  refine zH 2 rfl fun K hK => ?_
  go_simp
  refine Calls.mono HOF.out ?_
  rintro e wA ⟨rfl,hA⟩
  rw [hA]
  clear hA wA
  refine hK.out _ _ hHeld (fun hHeld => ?_)
  clear hK K
  refine tD (some 4) 3 sv rfl hHeld ?_
  refine tD (some 5) 4 (Pg.fuelV r2.fin) rfl hHeld ?_
  refine wpAnyH_done (by kernel_rfl) ?_ _
  unfold qZ
  gi_wp2
  refine ⟨by simp,.inl ⟨_,_,rfl,run_takeDeferred hdefd,?_⟩⟩
  exact ⟨.tuple #[sv,Pg.fuelV r2.fin],results_tmp2 (t:=4) (u:=5) rfl _ _ _,HEND.out⟩
end
theorem tw {fn:Func} {t u v x:Tmp} (h:fn.results=#[.tmp t,.tmp u,.tmp v,.tmp x]) (tmps:Array Value) (P:Program) (w:World):(results fn tmps).run P w = .ok (.tuple #[tmps.getD t undef,tmps.getD u undef,tmps.getD v undef,tmps.getD x undef]) w:=by
 simp [results,h,go_sem]
theorem vG (d:Nat) (hd:d<18446744073709551616) (txt:ByteArray) (w:World) (hv:wt w) (hs:txt.size≤1073741824) (hok:Pro.read txt = .jE [Sd.stA d,Sd.stB,Sd.stD]) (hfl:∀ (k:Nat) (L:Pro.PL),Pro.bg (k+1) (Pro.wl (Ref.cut txt 10) k)=some L→Pro.Flat L) :
  Calls Tryz.prog 34 #[.string txt] w fun e w'=>∃ xb l c V,e = .returned (.tuple #[Sd.px xb,.slice l 1 c,.int .i64 0,.int .i64 0])∧Below w.heap.size w V∧Sd.Ses d w V xb (Sd.rs 1 [] 0 0)∧Below V.heap.size V w':=by
 have HL:Hid _:=xY d hd txt w hv hs hok hfl
 have HT:Hid _:=fun V=>pN V
 clear hv hok hfl
 go_enter Tryz.func34,Tryz.ntmps34
 go_wp2_with fail
 refine Calls.mono HL.out ?_
 rintro e w1 ⟨hb1,xb,l,c,rfl,h1⟩
 have H1:Hid _:=h1
 have HB:Hid _:=hb1
 clear h1 hb1
 dsimp only
 go_wp2_with fail
 refine Calls.mono (HT.out w1) ?_
 rintro e w2 ⟨rfl,hb2⟩
 have HB2:Hid _:=hb2
 clear hb2
 dsimp only
 go_wp2
 (try simp only [Exit.inBlock,Exit.then])
 refine bodyPost_ret (tw rfl _ _ _) rfl ?_
 exact ⟨xb,l,c,w1,rfl,HB.out,H1.out,HB2.out⟩
namespace Sd
open Pg
theorem Ses.ay {d:Nat} {w W W':World} {xb:Nat} {r:RSt} (h:Ses d w W xb r) (hb:Below W.heap.size W W'):Ses d w W' xb r:=by
 obtain ⟨lo,mb,pb,b,cap,ps,fin,EN,LV,hvs,D,mbm,m,T,M,Lr,pmF,acF,h1,h2,h3,h4,h5,h6⟩:=h
 exact ⟨lo,mb,pb,b,cap,ps,fin,EN,LV,hvs,D,mbm,m,T,M,Lr,pmF,acF,(hb.block _ h2).trans h1,Nat.lt_of_lt_of_le h2 hb.size,h3,h4,h5.ay hb,h6⟩
def NmA (ps:List PS):Prop:=cE ps 0=ba∧cE ps 1=bb∧cE ps 2=bd
section
variable {d:Nat} {w W:World} {xb:Nat} {r r2:RSt} (hS:Ses d w W xb r) (hB:Below w.heap.size w W)
theorem nwS (hS:Ses d w W xb r):NwC xb W fun e w'=>e = .returned (.int .u64 r.now)∧w'=W:=by
 obtain ⟨lo,mb,pb,b,cap,ps,fin,EN,LV,hvs,D,mbm,m,T,M,Lr,pmF,acF,hx,hxl,hlx,hwl,hL,hAns,hn0⟩:=hS
 obtain ⟨qv,wh,a,_⟩:=hL.mt.ex
 exact xR W xb mb hx a
theorem evS (hS:Ses d w W xb r) (hB:Below w.heap.size w W) (hr:Ok r) (hf:r.fin=0) (ev:ByteArray) (hev:ev.size≤1000000) (hT:br (cst d) r ev=r2) (h6:r2.fin≠6):Calls Tryz.prog 25 #[px xb,.string ev] W fun e w'=>∃ l,e = .returned (.tuple #[l,.int .i64 0])∧Ses d w w' xb r2∧Below w.heap.size w w':=by
 obtain ⟨lo,mb,pb,b,cap,ps,fin,EN,LV,hvs,D,mbm,m,T,M,Lr,pmF,acF,hx,hxl,hlx,hwl,hL,hAns,hn0⟩:=hS
 have h:=zE W lo mb pb b cap ps fin EN LV hvs [] D mbm m T M Lr pmF acF r ev hL hev (fun V=>j0 ev V (by omega))
 refine Calls.mono (vF W xb mb (fun _ V=>Ses d w V xb r2∧Below w.heap.size w V) hx ev (Calls.mono h ?_)) ?_
 ·rintro e w' h
  unfold rZ at h
  rw [if_pos hf,(C1 hAns hr ev).1,hT] at h
  obtain ⟨sb,sv,rfl,h1,h2,h3,h4,h5⟩:=h
  exact ⟨_,by rw [show fuelV r2.fin = .nilIface by unfold fuelV;rw [if_neg h6]],⟨lo,mb,pb,b,cap,ps,fin,EN,LV,hvs,D,mbm,m,T,M,Lr,pmF,acF,(h4.kd.ay _ _ _ _ hx (by unfold cG;decide)).trans hx,Nat.lt_of_lt_of_le hxl h4.bel.size,hlx,hwl,h3,hAns,hn0⟩,hB.trans (h4.bel.mono hwl)⟩
 ·rintro e w' ⟨l,V,rfl,⟨h1,h2⟩,hb⟩
  exact ⟨l,rfl,h1.ay hb,h2.trans (hb.mono h2.size)⟩
theorem ckS (hS:Ses d w W xb r) (hB:Below w.heap.size w W) (hr:Ok r) (hf:r.fin=0) (t:Nat) (ht:t<18446744073709551616) {L:List (ByteArray×RSt)} (hT:dx (cst d) t 201 0 r=(L,r2)) (h6:r2.fin≠6):Calls Tryz.prog 26 #[px xb,.int .u64 t] W fun e w'=>∃ sv lo ps,e = .returned (.tuple #[sv,.int .i64 0])∧LN w' lo lo ps sv L∧NmA ps∧Ses d w w' xb r2∧Below w.heap.size w w':=by
 obtain ⟨lo,mb,pb,b,cap,ps,fin,EN,LV,hvs,D,mbm,m,T,M,Lr,pmF,acF,hx,hxl,hlx,hwl,hL,hAns,hn0⟩:=hS
 have h:=zo W lo mb pb b cap ps fin EN LV hvs [] D mbm m T M Lr pmF acF r t hL ht (fun ev he V=>j0 ev V (by omega))
 refine Calls.mono (vE W xb mb (fun sv V=>LN V lo lo ps sv L∧Ses d w V xb r2∧Below w.heap.size w V) hx t (Calls.mono h ?_)) ?_
 ·rintro e w' h
  unfold mu at h
  rw [if_pos hf,EI hAns t 201 0 r hr,hT] at h
  obtain ⟨sv,rfl,h1,hN,h3,h4⟩:=h
  exact ⟨sv,by rw [show fuelV r2.fin = .nilIface by unfold fuelV;rw [if_neg h6]],hN h6,⟨lo,mb,pb,b,cap,ps,fin,EN,LV,hvs,D,mbm,m,T,M,Lr,pmF,acF,(h4.kd.ay _ _ _ _ hx (by unfold cG;decide)).trans hx,Nat.lt_of_lt_of_le hxl h4.bel.size,hlx,hwl,h3,hAns,hn0⟩,hB.trans (h4.bel.mono hwl)⟩
 ·rintro e w' ⟨l,V,rfl,⟨h0,h1,h2⟩,hb⟩
  exact ⟨l,lo,ps,rfl,h0.no (bC hb),hn0,h1.ay hb,h2.trans (hb.mono h2.size)⟩
end
theorem mU {W:World} {lo n sz:Nat} {T:TypeId} {sv:Value} {L:List Value} (h:W.ownsRow lo T sz sv n L) (hn:0<n):∃ g c,sv = .slice (some ⟨g,0,none⟩) n c∧∀ j v,L[j]?=some v→j<n*sz→W.cell? ⟨g,j,none⟩=some v:=by
 rcases h.2 with ⟨_,h0⟩ | ⟨g,cp,cu,rfl,_,hg,_,_,_,ht⟩
 ·omega
 ·refine ⟨g,cp,rfl,fun j v hj hl => ?_⟩
  rw [cell_of_row W _ _ _ _ _ hg,← Array.getElem?_toList]
  have h6:(cu.toList.take (n*sz))[j]?=some v:=by rw [show cu.toList.take (n*sz)=_ from ht];exact hj
  rw [List.getElem?_take,if_pos hl] at h6
  exact h6
theorem Cc {W:World} {lo:Nat} {sv:Value} {x:ByteArray} (h:Nms W lo sv [x]):∃ g c,sv = .slice (some ⟨g,0,none⟩) 1 c∧W.cell? ⟨g,0,none⟩=some (.string x):=by
 obtain ⟨g,c,e,h⟩:=mU (n:=1) h (by decide)
 exact ⟨g,c,e,h 0 _ rfl (by decide)⟩
section
variable {d t:Nat} (hd:d<18446744073709551616) (ht:t<18446744073709551616) {w W:World} {xb:Nat} (hB:Below w.heap.size w W)
theorem Be (hd:d<18446744073709551616) (ht:t<18446744073709551616):atF t d<18446744073709551616∧t≤atF t d∧atS t d=atF t d:=by
 unfold atF atS
 split <;> omega
theorem GN (hd:d<18446744073709551616) (ht:t<18446744073709551616) (hB:Below w.heap.size w W) {n:Nat} (hS:Ses d w W xb (rs 1 [yT t d] n 0)):EY (atS t d:Nat) xb w W:=by
 obtain ⟨h1,_,h3⟩:=Be hd ht
 unfold EY
 rw [h3]
 refine Calls.mono (ckS hS hB (.inl rfl) rfl (atF t d) h1 GJ (by show (0:Nat)≠6;decide)) ?_
 rintro e V ⟨sv,lo,ps,rfl,⟨vs,q1,q2,q3⟩,hn,hS2,hb⟩
 obtain ⟨nv,rfl⟩:=List.length_eq_one_iff.1 q1
 obtain ⟨sb,c,rfl,hc⟩:=mU (n:=1) q2 (by decide)
 have hq:=q3 (bY,rs 1 [] (atF t d) 0) nv rfl rfl
 rw [show (bY,rs 1 [] (atF t d) 0).2.act=1 from rfl,show els 1=[0] from rfl,List.map_cons,hn.1,List.map_nil] at hq
 obtain ⟨g,gc,rfl,hg⟩:=Cc hq
 refine ⟨sb,c,g,gc,rfl,Calls.mono (nwS hS2) ?_⟩
 rintro e V3 ⟨rfl,rfl⟩
 exact ⟨rfl,hc 0 _ rfl (by decide),hc 1 _ rfl (by decide),hc 2 _ rfl (by decide),hg,hb⟩
theorem GO (hd:d<18446744073709551616) (ht:t<18446744073709551616) (hB:Below w.heap.size w W) {n:Nat} (hS:Ses d w W xb (rs 1 [xT t d,yT t d] n 0)):EZ (atS t d:Nat) xb w W:=by
 obtain ⟨h1,_,h3⟩:=Be hd ht
 unfold EZ
 rw [h3]
 refine Calls.mono (ckS hS hB (.inl rfl) rfl (atF t d) h1 F6 (by show (5:Nat)≠6;decide)) ?_
 rintro e V ⟨sv,lo,ps,rfl,⟨vs,q1,q2,q3⟩,hn,hS2,hb⟩
 obtain ⟨n0,nv,rfl⟩:∃ a b,vs=[a,b]:=by
  match vs,q1 with
  | [a,b],_=>exact ⟨a,b,rfl⟩
 obtain ⟨sb,c,rfl,hc⟩:=mU (n:=2) q2 (by decide)
 have hq:=q3 (bY,rs 4 [] (atF t d) 5) nv rfl rfl
 rw [show (bY,rs 4 [] (atF t d) 5).2.act=4 from rfl,show els 4=[2] from rfl,List.map_cons,hn.2.2,List.map_nil] at hq
 obtain ⟨g,gc,rfl,hg⟩:=Cc hq
 refine ⟨sb,c,g,gc,rfl,Calls.mono (nwS hS2) ?_⟩
 rintro e V3 ⟨rfl,rfl⟩
 exact ⟨_,rfl,hc 0 _ rfl (by decide),hc 3 _ rfl (by decide),hc 4 _ rfl (by decide),hc 5 _ rfl (by decide),hg,hb⟩
theorem FZ (hd:d<18446744073709551616) (ht:t<18446744073709551616) (hB:Below w.heap.size w W) {F:World→Prop} {T:List Tn} (hT:T=[xT t d,yT t d]∨T=[yT t d]) (hS:Ses d w W xb (rs 1 T t 0)) (hF:∀ V n,Below w.heap.size w V→Ses d w V xb (rs 1 T n 0)→F V):Aft t (atS t d:Nat) xb F W:=by
 obtain ⟨h1,h2,h3⟩:=Be hd ht
 unfold Aft
 rw [h3]
 refine ⟨fun h => ?_,fun _=>hF W t hB hS⟩
 have h:t<atF t d:=by omega
 rw [show ((atF t d:Nat):Int)-1=((atF t d-1:Nat):Int) by omega]
 have hk:dx (cst d) (atF t d-1) 201 0 (rs 1 T t 0)=([],rs 1 T (atF t d-1) 0):=by
  have:=GI (t:=t) (d:=d) (n:=t) (u:=atF t d-1) (by omega) (by omega)
  rcases hT with rfl | rfl
  ·exact this.1
  ·exact this.2
 refine Calls.mono (ckS hS hB (.inl rfl) rfl _ (by omega) hk (by show (0:Nat)≠6;decide)) ?_
 rintro e V ⟨sv,lo,ps,rfl,⟨vs,q1,q2,q3⟩,hn,hS2,hb⟩
 obtain ⟨a,c,rfl⟩:=pW.n ⟨vs,q1,q2⟩
 exact ⟨a,c,_,rfl,hF V _ hb hS2⟩
end
theorem Fb {t d:Nat} (ht:t<18446744073709551616) (hd:d<18446744073709551616) (w:World) (hv:wt w):Ans t d w:=by
 have hz:=y8 hd
 refine Calls.mono (vG d hd _ w hv (by omega) (Ej hd) (zJ hd)) ?_
 rintro e W ⟨xb,l,c,V,rfl,hb,hS,hb2⟩
 refine ⟨xb,l,c,rfl,?_⟩
 refine Calls.mono (ckS (hS.ay hb2) (hb.trans (hb2.mono hb.size)) (.inl rfl) rfl t ht (GH t d) (by show (0:Nat)≠6;decide)) ?_
 rintro e W1 ⟨sv,lo,ps,rfl,_,_,hS1,hb1⟩
 refine ⟨_,_,rfl,?_⟩
 refine Calls.mono (evS hS1 hb1 (.inl rfl) rfl be (by decide) (GL t d) (by show (0:Nat)≠6;decide)) ?_
 rintro e W2 ⟨l2,rfl,hS2,hb2⟩
 refine ⟨_,_,rfl,?_,FZ hd ht hb2 (.inl rfl) hS2 (fun V n hb h=>GO hd ht hb h)⟩
 refine Calls.mono (evS hS2 hb2 (.inl rfl) rfl bc (by decide) (GK t d t) (by show (0:Nat)≠6;decide)) ?_
 rintro e W3 ⟨l3,rfl,hS3,hb3⟩
 exact ⟨_,_,rfl,FZ hd ht hb3 (.inr rfl) hS3 (fun V n hb h=>GN hd ht hb h)⟩
end Sd
end
end Go.Proofs.YtegmoddppafkfaaGreatDoor
