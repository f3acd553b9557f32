import Derived.Test.YtegmoddppafkfaaGreatDoorM00
import Derived.Test.YtegmoddppafkfaaGreatDoorM33
import Derived.Test.YtegmoddppafkfaaGreatDoorM37
set_option maxRecDepth 100000
set_option maxHeartbeats 8000000
namespace Go.Proofs.YtegmoddppafkfaaGreatDoor
section
open Go.RowKit Go.Proofs Go.Shelf
attribute [local go_sem] Oper.semAt_some
theorem Tryz.zy:(Tryz.prog.info? 63).map (fun i=>(i.zero,i.size,i.bytes))=some (some (.agg #[.string ⟨#[]⟩,.int .u64 0,.slice none 0 0]),3,48):=by kernel_rfl
theorem pM {F:Fence} (hF:Wd F) {n:Nat} {P:Program} {ops:Array Oper} {Q:Exit→Act→World→Prop} {a:Act} {w:World} {rest:List Oper} {o:Oper} (hg:o.guard=none) (hnd:∀ c,o.op ≠ .defer c) (h:∀ K:Act→World→Prop,(∀ a w,wpListIn F n P ops Q rest a w→K a w)→o.wp P a w K Q):wpListIn F n P ops Q (o::rest) a w :=
 wpListIn_plain hg fun K hK=>⟨fun _ _=>hF.fn _,by
  rw [Oper.semAt_eq _ _ _ hnd]
  exact yF hF _ (h K hK)⟩
theorem Bk (mb t:Nat) (w:World):Calls Tryz.prog 103 #[.pointer (some ⟨mb,27,none⟩),.int .u64 t] w fun e w'=>e = .returned (.func (.func 135) #[] #[.pointer (some ⟨w.heap.size,0,none⟩),.pointer (some ⟨w.heap.size+1,0,none⟩)])∧w'=(w.alloc (.cells #[.pointer (some ⟨mb,27,none⟩)] 198)).alloc (.cells #[.int .u64 t] 37):=by
 go_enter Tryz.func103,Tryz.ntmps103
 go_wp2
 go_ret
 exact ⟨by simp,rfl⟩
namespace Pg
theorem r8 {w w1 w5:World} {lo mb pb t g5 cap5:Nat} {ps:List PS} {r2:RSt} {ev:ByteArray} {sa:Option Addr} {sc:Nat} {L:List (ByteArray×RSt)} {nv:Value} {vs:List Value} (hl:Lw lo) (hlo:lo≤w.heap.size) (hL:CkL w w1 lo mb pb ps r2) (hS:CkS w w1 mb t (.slice sa L.length sc) L) (hvs:vs.length=L.length)
  (hg:(w1.alloc (.cells #[.string ev,.int .u64 r2.now,nv] 63)).grownBy w5 (Value.ownBlock (.slice sa L.length sc))) (ho:w5.ownsRow w.heap.size 63 3 (.slice (some ⟨g5,0,none⟩) (L.length+1) cap5) (L.length+1) ((L.zip vs).flatMap stC++[.string ev,.int .u64 r2.now,nv])) :
  Boxed w5 (w.heap.size+2) 53 (.slice sa L.length sc)∧Boxed w5 w.heap.size 92 (.pointer (some ⟨mb,0,none⟩))∧(∀ (k:Nat) (c:Array Value),w1.heap[k]?=some (.cells c 154 (0,0))→w5.heap[k]?=some (.cells c 154 (0,0)))∧KeepsOthers w1 (w5.setCell ⟨w.heap.size+2,0,none⟩ (.slice (some ⟨g5,0,none⟩) (L.length+1) cap5)) ∧
   CkL w (w5.setCell ⟨w.heap.size+2,0,none⟩ (.slice (some ⟨g5,0,none⟩) (L.length+1) cap5)) lo mb pb ps r2∧CkS w (w5.setCell ⟨w.heap.size+2,0,none⟩ (.slice (some ⟨g5,0,none⟩) (L.length+1) cap5)) mb t (.slice (some ⟨g5,0,none⟩) (L.length+1) cap5) (L++[(ev,r2)]):=by
 have hkd:=hS.st.kind
 have hBa:Below w1.heap.size w1 (w1.alloc (.cells #[.string ev,.int .u64 r2.now,nv] 63)):=(Below.refl _ w1).alloc (Nat.le_refl _) _
 have hm:Mo (fun k=>Value.ownBlock (.slice sa L.length sc)=some k) w1 w5:=(aq hBa).trans ⟨hg.os,hg.tape,hg.output,hg.size,fun k hk hn=>hg.block k hk (fun e=>hn e.symm)⟩
 have hk5:Kd (fun t=>t=63) w1 w5:=gB hm (fun k c t f hp hc=>by
  obtain ⟨_,c',hc'⟩:=hkd k hp
  rw [hc] at hc'
  cases hc'
  rfl)
 have hb2:=hk5.boxed hS.b2 (by decide)
 have hm2:Mo (fun k=>Value.ownBlock (.slice sa L.length sc)=some k∨k=w.heap.size+2) w1 (w5.setCell ⟨w.heap.size+2,0,none⟩ (.slice (some ⟨g5,0,none⟩) (L.length+1) cap5)):=(hm.mono (fun _ _ h => .inl h)).set _ _ (.inr rfl)
 have hms:Mo (· = w.heap.size+2) w5 (w5.setCell ⟨w.heap.size+2,0,none⟩ (.slice (some ⟨g5,0,none⟩) (L.length+1) cap5)):=(Mo.refl _ _).set _ _ rfl
 have hks:Kd (fun t=>t=53) w5 (w5.setCell ⟨w.heap.size+2,0,none⟩ (.slice (some ⟨g5,0,none⟩) (L.length+1) cap5)):=gB hms (fun k c t f hp hc=>by
  subst hp
  rw [show w5.heap[w.heap.size+2]?=_ from hb2] at hc
  cases hc
  rfl)
 refine ⟨hb2,hk5.boxed hS.b0 (by decide),fun k c hk=>(hk5.ax _ _ _ _ hk (by decide)).trans hk,?_,?_,?_⟩
 ·refine KeepsOthers.trans ⟨hm.size,fun k o hk hc=>hm.block k (Array.getElem?_eq_some_iff.1 hk).1 (fun e => ?_) |>.trans hk⟩ (KeepsOthers.setCell _ _ _)
  obtain ⟨_,c',hc'⟩:=hkd k e
  rw [hk] at hc'
  cases hc'
  cases hc
 ·refine hL.own hl hlo hm2 (fun k hk => ?_)
  rcases hk with e | rfl
  ·obtain ⟨a,c',hc'⟩:=hkd k e
   exact ⟨a,c',_,hc',by unfold b8;decide⟩
  ·exact ⟨by omega,_,_,hS.b2,by unfold b8;decide⟩
 ·refine ⟨hks.boxed (hk5.boxed hS.b0 (by decide)) (by decide),hks.boxed (hk5.boxed hS.b1 (by decide)) (by decide),hb2.set _,hks.boxed (hk5.boxed hS.b3 (by decide)) (by decide),hks.boxed (hk5.boxed hS.b4 (by decide)) (by decide),vs++[nv],by simp [hvs],?_⟩
  have:=Kd.row hks ho (by decide)
  rw [List.zip_append hvs.symm,List.flatMap_append,List.length_append]
  exact this
end Pg
section
variable (w:World) (lo mb pb b cap:Nat) (ps:List Pg.PS) (fin:Nat) (EN LV:Nat→List Pg.PA) (hvs:Ref.Sl) (H:List Pg.HV) (D:Nat→Bool) (mbm n:Nat) (T:ByteArray→Option (List (Option Pg.PM))) (M:ByteArray→Option Nat) (Lr:Nat→List (Option Nat)) (pmF:Nat→Pg.PM) (acF:Nat→List Pg.PA) (r:Pg.RSt) (t:Nat)
namespace Pg
def kz (e:Ending) (w':World):Prop :=
 if r.fin=0 then ∃ sv,e = .returned (.tuple #[sv,fuelV (dr (aQ ps fin EN LV H D M Lr pmF acF) t 201 0 r).2.fin])∧rQ w' lo sv (dr (aQ ps fin EN LV H D M Lr pmF acF) t 201 0 r).1∧Live w' lo mb pb b cap ps fin EN LV hvs H D mbm n T M Lr pmF acF (dr (aQ ps fin EN LV H D M Lr pmF acF) t 201 0 r).2∧Rf lo w w'
 else e = .returned (.tuple #[.slice none 0 0,eP r.fin])∧Below w.heap.size w w'
end Pg
theorem sd (hP:Pg.Live w lo mb pb b cap ps fin EN LV hvs H D mbm n T M Lr pmF acF r) (hf:¬ r.fin=0) :
  Calls Tryz.prog 70 #[.pointer (some ⟨mb,0,none⟩),.int .u64 t] w (Pg.kz w lo mb pb b cap ps fin EN LV hvs H D mbm n T M Lr pmF acF r t):=by
 obtain ⟨qv,wh,hM,_⟩:=hP.mt.ex
 have hB:∀ o1 o2:Obj,Below w.heap.size w ((w.alloc o1).alloc o2):=fun o1 o2=>((Below.refl _ w).alloc (Nat.le_refl _) _).alloc (by simp) _
 have he:Pg.eP r.fin = .iface 47 (.int .i64 r.fin):=by unfold Pg.eP;rw [if_neg hf]
 have h5:∀ o1 o2:Obj,((w.alloc o1).alloc o2).cell? ⟨mb,419,none⟩=some (.iface 47 (.int .i64 r.fin)):=fun o1 o2=>((hB o1 o2).cell (p:=⟨mb,419,none⟩) hM.lt).trans ((hM.cell 419 (by decide)).trans (congrArg some he))
 have c1:=fun o2=>((Boxed.new w 92 (.pointer (some ⟨mb,0,none⟩))).alloc o2).cell
 have HF:Hid (¬ r.fin=0):=hf
 have HE:Hid _:=he
 have HB:Hid _:=hB
 clear hP hf he hM hB
 go_enter Tryz.func70,Tryz.ntmps70
 go_wp2
 go_quiet (fail)
 go_wp2
 go_ret2
 unfold Pg.kz
 rw [if_neg HF.out,HE.out]
 exact ⟨rfl,below_drewN (HB.out _ _) _⟩
theorem qB (hP:Pg.Live w lo mb pb b cap ps fin EN LV hvs H D mbm n T M Lr pmF acF r) (ht:t<18446744073709551616) (hcl:∀ ev:ByteArray,ev.size≤1000000→ET ev) :
  Calls Tryz.prog 70 #[.pointer (some ⟨mb,0,none⟩),.int .u64 t] w (Pg.kz w lo mb pb b cap ps fin EN LV hvs H D mbm n T M Lr pmF acF r t):=by
 by_cases hf:¬ r.fin=0
 ·exact sd w lo mb pb b cap ps fin EN LV hvs H D mbm n T M Lr pmF acF r t hP hf
 have hf:r.fin=0:=Decidable.not_not.1 hf
 have hlw:=hP.run.cX.lw
 have hlo:=hP.mt.lo'
 obtain ⟨an,han⟩:∃ an,Pg.aQ ps fin EN LV H D M Lr pmF acF=an:=⟨_,rfl⟩
 have HTN:Hid (∀ (r1:Pg.RSt) (ev:ByteArray) (V:World),ev.size≤1000000→Pg.CkL w V lo mb pb ps r1→Calls Tryz.prog 97 #[.pointer (some ⟨mb,0,none⟩),.string ev] V fun e w'=>∃ a k c,e = .returned (.agg #[.string ev,.int .u64 (Pg.bm an r1 ev).now,.slice a k c])∧Hid (Pg.CkL w w' lo mb pb ps (Pg.bm an r1 ev)∧Pg.Rf lo V w')):=fun r1 ev V he h1=>by
  refine Calls.mono (vL V lo mb pb b cap ps fin EN LV hvs H D mbm n T M Lr pmF acF r1 ev ⟨hP.run.rf h1.rf,hP.sz,hP.sza,h1.mt,h1.ok,h1.qk,h1.q0⟩ he (hcl ev he)) ?_
  rintro e w' ⟨a,k,c,rfl,h2⟩
  obtain ⟨h3,h4,_⟩:=h2.out
  rw [han] at h3 ⊢
  exact ⟨a,k,c,rfl,⟨h3.mt,h1.rf.trans h4,h3.ok,h3.qk,h3.q0⟩,h4⟩
 have HFIN:Hid (∀ (sv:Value) (L:List (ByteArray×Pg.RSt)) (r2:Pg.RSt) (V:World),Pg.CkL w V lo mb pb ps r2→Pg.CkS w V mb t sv L→Pg.dr an t 201 0 r=(L,r2)→Pg.kz w lo mb pb b cap ps fin EN LV hvs H D mbm n T M Lr pmF acF r t (.returned (.tuple #[sv,Pg.fuelV r2.fin])) V):=fun sv L r2 V h1 h2 h3=>by
  unfold Pg.kz
  rw [if_pos hf,han,h3]
  obtain ⟨vs,y1,y2⟩:=h2.st
  exact ⟨sv,rfl,⟨vs,y1,y2.1,y2.2.imp id (fun ⟨g,cp,cu,z1,z2,z3⟩=>⟨g,cp,cu,z1,Nat.le_trans hlo z2,z3⟩)⟩,⟨hP.run.rf h1.rf,hP.sz,hP.sza,h1.mt,h1.ok,h1.qk,h1.q0⟩,h1.rf⟩
 have hL0:∀ V:World,Below w.heap.size w V→Pg.CkL w V lo mb pb ps r:=fun V hV=>⟨hP.mt.below hlw hV,Pg.RfE.of hV hlo,hP.ok,hP.qk,hP.q0⟩
 have h5:∀ V:World,Below w.heap.size w V→V.cell? ⟨mb,419,none⟩=some .nilIface:=fun V hV=>by
  obtain ⟨qv,wh,hM,_⟩:=(hL0 V hV).mt.ex
  have:=hM.cell 419 (by decide)
  rw [show Pg.fE pb qv (r.m wh) 419=Pg.eP r.fin from rfl,hf] at this
  exact this
 obtain ⟨i0,hi,hz0,hz1,hz2⟩:=info_parts Tryz.zy
 clear hP hcl han
 have hB2:∀ o1 o2:Obj,Below w.heap.size w ((w.alloc o1).alloc o2):=fun o1 o2=>((Below.refl _ w).alloc (Nat.le_refl _) _).alloc (by simp) _
 have hB3:∀ o1 o2 o3:Obj,Below w.heap.size w (((w.alloc o1).alloc o2).alloc o3):=fun o1 o2 o3=>(hB2 o1 o2).alloc (by simp;omega) _
 have h52:=fun o1 o2=>h5 _ (hB2 o1 o2)
 have c1:=fun o2=>((Boxed.new w 92 (.pointer (some ⟨mb,0,none⟩))).alloc o2).cell
 refine (callsIn_wide (n:=8)).1 ?_
 refine callsIn_of_wp_marks Tryz.func70 rfl trivial ?_ rfl
 simp only [Tryz.ntmps70,List.size_toArray,List.length_cons,List.length_nil,Nat.reduceAdd,Nat.reduceSub,Array.replicate_succ,Array.replicate_zero,List.push_toArray,List.append_toArray,List.nil_append,List.cons_append]
 gi_wp2
 obtain ⟨W3,hW3⟩:∃ W3,((w.alloc (.cells #[.pointer (some ⟨mb,0,none⟩)] 92)).alloc (.cells #[.int .u64 t] 37)).alloc (.cells #[.slice none 0 0] 53)=W3:=⟨_,rfl⟩
 have hB30:=hB3 (.cells #[.pointer (some ⟨mb,0,none⟩)] 92) (.cells #[.int .u64 t] 37) (.cells #[.slice none 0 0] 53)
 have x0:Boxed W3 w.heap.size 92 (.pointer (some ⟨mb,0,none⟩)):=hW3 ▸ ((Boxed.new w 92 (.pointer (some ⟨mb,0,none⟩))).alloc _).alloc _
 have x1:Boxed W3 (w.heap.size+1) 37 (.int .u64 t):=by
  have:=(Boxed.new (w.alloc (.cells #[.pointer (some ⟨mb,0,none⟩)] 92)) 37 (.int .u64 t)).alloc (.cells #[.slice none 0 0] 53)
  rw [hW3,World.size_alloc] at this
  exact this
 have x2:Boxed W3 (w.heap.size+2) 53 (.slice none 0 0):=by
  have:=Boxed.new ((w.alloc (.cells #[.pointer (some ⟨mb,0,none⟩)] 92)).alloc (.cells #[.int .u64 t] 37)) 53 (.slice none 0 0)
  rw [hW3,World.size_alloc,World.size_alloc] at this
  exact this
 have hs3:W3.heap.size=w.heap.size+3:=by rw [← hW3];simp
 rw [hW3] at hB30 ⊢
 clear hW3 h52 hB3 hB2 c1
 have y0:W3.drew.cell? ⟨w.heap.size,0,none⟩=_:=x0.cell
 have y1:W3.drew.cell? ⟨w.heap.size+1,0,none⟩=_:=x1.cell
 refine aF gb 4 (by kernel_rfl) (by kernel_rfl) (by kernel_rfl) ?_
 simp only [List.take_succ_cons,List.take_zero,List.drop_succ_cons,List.drop_zero]
 repeat still_step
 refine wpStill_nil ?_
 gi_wp2_with (refine ⟨trivial,?_⟩;gi_at_call 103;refine (callsIn_wide.2 (Bk mb t _)).mono ?_;rintro e w9 ⟨rfl,hw9⟩;rw [hw9];clear hw9 w9)
 have hB0:Below w.heap.size w ((W3.alloc (.cells #[.pointer (some ⟨mb,27,none⟩)] 198)).alloc (.cells #[.int .u64 t] 37)).drew:=((hB30.alloc (by omega) _).alloc (by simp;omega) _).drew
 have hBd:Below W3.heap.size W3 ((W3.alloc (.cells #[.pointer (some ⟨mb,27,none⟩)] 198)).alloc (.cells #[.int .u64 t] 37)).drew:=(((Below.refl _ W3).alloc (Nat.le_refl _) _).alloc (by rw [World.size_alloc];exact Nat.le_succ _) _).drew
 have x3:Boxed ((W3.alloc (.cells #[.pointer (some ⟨mb,27,none⟩)] 198)).alloc (.cells #[.int .u64 t] 37)).drew (w.heap.size+3) 198 (.pointer (some ⟨mb,27,none⟩)):=by
  have:=(Boxed.new W3 198 (.pointer (some ⟨mb,27,none⟩))).alloc (.cells #[.int .u64 t] 37)
  rw [hs3] at this
  exact this
 have x4:Boxed ((W3.alloc (.cells #[.pointer (some ⟨mb,27,none⟩)] 198)).alloc (.cells #[.int .u64 t] 37)).drew (w.heap.size+4) 37 (.int .u64 t):=by
  have:=Boxed.new (W3.alloc (.cells #[.pointer (some ⟨mb,27,none⟩)] 198)) 37 (.int .u64 t)
  rw [World.size_alloc,hs3] at this
  exact this
 have hs0:(((W3.alloc (.cells #[.pointer (some ⟨mb,27,none⟩)] 198)).alloc (.cells #[.int .u64 t] 37)).drew).heap.size=w.heap.size+5:=by show ((W3.alloc _).alloc _).heap.size=_;rw [World.size_alloc,World.size_alloc,hs3]
 (try simp only [hs3])
 generalize ((W3.alloc (.cells #[.pointer (some ⟨mb,27,none⟩)] 198)).alloc (.cells #[.int .u64 t] 37)).drew=W0 at *
 have hI0:Pg.CkI w lo mb pb ps an t r (0,r) W0:=⟨[],.slice none 0 0,rfl,Nat.zero_le _,(fun h=>by have h:(0:Nat)=200:=h;omega),hf,hL0 W0 hB0,⟨aB x0 hBd x0.lt,aB x1 hBd x1.lt,aB x2 hBd x2.lt,x3,x4,[],rfl,World.ownsRow_nil ..⟩,rfl⟩
 clear x0 x1 x2 x3 x4 y0 y1 hL0 h5 hB30 hBd hs3 hf
 have hown5:∀ (row:Option Nat) (A:World),(∀ r,row=some r→W0.heap.size≤r∧∃ o:Obj,A.heap[r]?=some o∧o.isCells=false)→∀ r,row=some r→w.heap.size≤r∧∃ o:Obj,A.heap[r]?=some o∧o.isCells=false:=fun row A h r e=>⟨by have:=(h r e).1;omega,(h r e).2⟩
 refine Cd rfl (by omega) (gf:=135) rfl trivial (enters_of Tryz.func135 (by kernel_rfl) rfl)
  (Ff _ (by omega) W0 lo mb pb (w.heap.size+3) (w.heap.size+4) t ht hlw) (fun _=>rfl)
  (Pg.CkI w lo mb pb ps an t r) (Pg.CkT w lo mb pb ps an t r) (Pg.CkF w lo mb pb ps an t r) (Pg.CkF w lo mb pb ps an t r)
  (fun s f a' V=>∃ bt,a'=⟨#[.pointer (some ⟨mb,0,none⟩),.int .u64 t,.pointer (some ⟨w.heap.size,0,none⟩),.pointer (some ⟨w.heap.size+1,0,none⟩),.slice none 0 0,.nilIface,.pointer (some ⟨w.heap.size+2,0,none⟩),.pointer (some ⟨bt,0,none⟩),.pointer (some ⟨mb,0,none⟩),.pointer (some ⟨mb,0,none⟩),.pointer (some ⟨mb,419,none⟩),.nilIface,.bool false,undef,undef,undef,undef,.pointer (some ⟨mb,0,none⟩),.pointer (some ⟨mb,0,none⟩),.pointer (some ⟨mb,27,none⟩),.int .u64 t,.func (.func 135) #[] #[.pointer (some ⟨w.heap.size+3,0,none⟩),.pointer (some ⟨w.heap.size+4,0,none⟩)],.agg #[.string f.ev,.string f.nm],undef,undef,undef,undef,undef,undef,undef,undef,undef,undef,undef,undef,undef,undef,undef,undef,undef,undef,undef,undef,undef,undef,undef,undef,undef,undef,undef,undef,undef,undef,undef,undef,undef,undef,undef,undef],[]⟩∧V.heap[bt]?=some (.cells #[.string f.ev,.string f.nm] 154 (0,0))∧Pg.CkT w lo mb pb ps an t r s f V) 0
  (fun s A C row h hg hr=>h.gr hlw hlo hg (hown5 row A hr)) (fun _ A C row h hg hr=>h.gr hlw hlo hg (hown5 row A hr)) (fun _ A C row h hg hr=>h.gr hlw hlo hg (hown5 row A hr))
  (fun s f a' _ A C row h hg hr=>by
   obtain ⟨bt,e1,e2,e3⟩:=h
   exact ⟨bt,e1,((Pg.jH (E:=fun _=>False) hg (fun r e=>(hr r e).2)).ax _ _ _ _ e2 (fun h=>h)).trans e2,e3.gr hlw hlo hg (hown5 row A hr)⟩)
  (fun s V h=>by
   obtain ⟨L,sv,a,b,c,_,d,e,g⟩:=h
   exact ⟨⟨b,d.mt,d.qk.tm,e.b3.cell,e.b4.cell⟩,fun V' hV=>⟨(aB e.b3 hV e.b3.lt).cell,(aB e.b4 hV e.b4.lt).cell⟩⟩)
  (fun s f V V' h k=>h.Eu k) (fun s V V' h k=>h.FI k) (fun s f V V' k=>k.2.2.2.oth.from _) (fun s V V' k=>k.2.2.oth.from _) (0,r) hI0 ?assign ?body ?done ?stop
 case assign =>
  intro l s f V K hI hK
  unfold Pg.tnV
  gi_wp2_with (show wpListIn _ _ _ _ _ (Oper.mk none _ _ _ _ _::_) _ _;refine pM (cT l) rfl (fun c h=>by cases h) (fun K2 hK2=>jn 154 (.tmp 7) (.tmp 22) rfl V.heap.size 154 #[.string ⟨#[]⟩,.string ⟨#[]⟩] #[.string f.ev,.string f.nm] rfl rfl (heap_alloc_new V _) Tryz.kc rfl rfl (hK2 _ _ ?_));rw [World.setRow_alloc_new])
  have hBa:Below V.heap.size V (V.alloc (.cells #[.string f.ev,.string f.nm] 154)):=(Below.refl _ V).alloc (Nat.le_refl _) _
  exact hK _ _ ((Pg.fC hBa).from _) ⟨V.heap.size,rfl,heap_alloc_new V _,hI.below hlw hBa⟩
 case body =>
  rintro l ⟨k,rs⟩ f a' V hl ⟨bt,rfl,hbt,L,sv,hLk,hk,hev,hdue,hhd,hCL,hCS,hclk⟩
  dsimp only at hLk hk hdue hhd hCL hclk
  obtain ⟨sa,sc,rfl⟩:=hCS.st.n
  obtain ⟨vs,hvs0,hown⟩:=hCS.st
  obtain ⟨r2,hr2⟩:∃ r2,Pg.bm an (Pg.gQ rs f) f.ev=r2:=⟨_,rfl⟩
  have HN:Hid _:=Pg.Bb hk hdue hhd hclk hr2
  have hBd:Below V.heap.size V V.drew:=(Below.refl _ V).drew
  have hCSd:=hCS.below hBd
  have HTU:Hid _:=HTN.out (Pg.gQ rs f) f.ev V.drew hev (hCL.below hlw hBd)
  rw [hr2] at HTU
  have hne:¬ bt=w.heap.size+2:=fun e=>by
   rw [e,show V.heap[w.heap.size+2]?=_ from hCS.b2] at hbt
   cases hbt
  have hS:∀ W:World,Pg.CkS w W mb t (.slice sa L.length sc) L→W.heap[bt]?=some (.cells #[.string f.ev,.string f.nm] 154 (0,0))→(fun V=>V.cell? ⟨w.heap.size,0,none⟩=some (.pointer (some ⟨mb,0,none⟩))∧V.cell? ⟨bt,0,none⟩=some (.string f.ev)) W:=fun W h1 h2=>⟨h1.b0.cell,(cell_of_row W _ _ _ _ _ h2).trans rfl⟩
  have hbtd:V.drew.heap[bt]?=some (.cells #[.string f.ev,.string f.nm] 154 (0,0)):=hbt
  have HC1:Hid (∀ w1,Pg.Rf lo V.drew w1→Pg.CkS w w1 mb t (.slice sa L.length sc) L∧w1.heap[bt]?=some (.cells #[.string f.ev,.string f.nm] 154 (0,0))∧w.heap.size≤w1.heap.size∧∀ c:Array Value,Pg.CkS w (w1.alloc (.cells c 63)) mb t (.slice sa L.length sc) L∧(w1.alloc (.cells c 63)).heap[bt]?=some (.cells #[.string f.ev,.string f.nm] 154 (0,0))∧(w1.alloc (.cells c 63)).ownsRow w.heap.size 63 3 (.slice sa L.length sc) L.length ((L.zip vs).flatMap Pg.stC)):=fun w1 h=>by
   have a1:=hCSd.rf h
   have a2:=(h.kd.ax _ _ _ _ hbtd Pg.nO).trans hbtd
   have a3:w1.ownsRow w.heap.size 63 3 (.slice sa L.length sc) L.length ((L.zip vs).flatMap Pg.stC):=Kd.row h.kd (Kd.row (dd (E:=fun _=>False) hBd) hown (fun h=>h)) Pg.sO
   refine ⟨a1,a2,Nat.le_of_lt (Nat.lt_of_le_of_lt (by omega) a1.b0.lt),fun c => ?_⟩
   have hb:Below w1.heap.size w1 (w1.alloc (.cells c 63)):=(Below.refl _ w1).alloc (Nat.le_refl _) _
   exact ⟨a1.below hb,(hb.block _ (Array.getElem?_eq_some_iff.1 a2).1).trans a2,Kd.row (dd (E:=fun _=>False) hb) a3 (fun h=>h)⟩
  have cx1:V.drew.cell? ⟨w.heap.size+2,0,none⟩=some (.slice sa L.length sc):=hCSd.b2.cell
  have hS0:=hS _ hCSd hbtd
  have hLe:L.length≤200:=by omega
  have HLK:Hid (L.length=k):=hLk
  clear hLk
  clear hbt hCS hown hdue hhd hclk hr2 hCSd hbtd
  gi_wp2
  refine dv (S:=(fun V=>V.cell? ⟨w.heap.size,0,none⟩=some (.pointer (some ⟨mb,0,none⟩))∧V.cell? ⟨bt,0,none⟩=some (.string f.ev))) (by kernel_rfl) (by kernel_rfl) (by rintro ⟨_,_,h⟩;exact h) hS0 (fun hHeld => ?_)
  refine tD (some 24) 1 (.pointer (some ⟨mb,0,none⟩)) rfl hHeld ?_
  refine tD (some 25) 2 (.pointer (some ⟨bt,0,none⟩)) rfl hHeld ?_
  refine tD (some 26) 3 (.string f.ev) rfl hHeld ?_
  refine yH [0,4] ?_
  refine AllReadyH.cons rfl (fun K hK => ?rg1) (AllReadyH.cons rfl (fun K hK => ?rg2) AllReadyH.nil)
  case' rg1 =>
   go_simp
   refine hK.out _ _ hHeld (fun hHeld => ?_)
   clear hK K
   refine zH 4 rfl fun K hK => ?_
   go_simp
   refine Calls.mono HTU.out ?_
   rintro e w1 ⟨na,nk,nc,rfl,h1⟩
   obtain ⟨q1,q2,q3,q4⟩:=HC1.out w1 h1.out.2
   obtain ⟨q5,q6,q7⟩:=q4 #[.string f.ev,.int .u64 r2.now,.slice na nk nc]
   have cx2:=q1.b2.cell
   have cx3:=q5.b2.cell
   refine hK.out _ _ (hS _ q1 q2) (fun hHeld => ?_)
   clear hK K
   refine zH 5 rfl fun K hK => ?_
   go_simp
   refine hK.out _ _ (hS _ q5 q6) (fun hHeld => ?_)
   clear hK K
   refine zH 6 rfl fun K hK => ?_
   refine step_append_lies _ (by rfl) _ _ _ (by rfl) w.heap.size 63 i0 _ 3 48 Tryz.underlying53 hi hz0 hz1 hz2 rfl (by decide) (.slice sa L.length sc) L.length ((L.zip vs).flatMap Pg.stC) (by rfl) q7 ⟨w1.heap.size,0,none⟩ 1 1 [.string f.ev,.int .u64 r2.now,.slice na nk nc] (by rfl) (by rfl) (World.news_of_block (cs:=#[.string f.ev,.int .u64 r2.now,.slice na nk nc]) (t:=63) (fr:=(0,0)) (heap_alloc_new w1 _)) (fun u hu=>by simp at hu;rcases hu with rfl | rfl | rfl <;> rfl) (by omega) (by unfold maxLen;omega) (by omega) (Nat.le_trans q3 (by simp)) _ rfl ?_
   intro g5 cap5 w5 hown5 hgrow hat hlt5
   have HK5:Hid _:=Pg.r8 hlw hlo h1.out.1 q1 hvs0 hgrow hown5
   obtain ⟨s1,s2,s3,_⟩:=HK5.out
   have s4:=s3 bt _ q2
   have c5:=s1.cell
   have f5:=s1.frozen
   refine hK.out _ _ ⟨s2.cell,(cell_of_row w5 _ _ _ _ _ s4).trans rfl⟩ (fun hHeld => ?_)
   clear hK K
   refine zH 7 rfl fun K hK => ?_
   go_simp
   refine hK.out _ _ (by
    exact ⟨(au (by intro h;injection h with h1;omega)).trans hHeld.1,(au (by intro h;injection h with h1;omega)).trans hHeld.2⟩) (fun hHeld => ?_)
   clear hK K hHeld
   refine wpAnyH_done (by kernel_rfl) ?_ _
  case' rg2 =>
   go_simp
   refine Calls.mono HTU.out ?_
   rintro e w1 ⟨na,nk,nc,rfl,h1⟩
   obtain ⟨q1,q2,q3,q4⟩:=HC1.out w1 h1.out.2
   obtain ⟨q5,q6,q7⟩:=q4 #[.string f.ev,.int .u64 r2.now,.slice na nk nc]
   have cx2:=q1.b2.cell
   have cx3:=q5.b2.cell
   refine hK.out _ _ (hS _ q1 q2) (fun hHeld => ?_)
   clear hK K
   refine yH [0,5] ?_
   refine AllReadyH.cons rfl (fun K hK => ?rg7) (AllReadyH.cons rfl (fun K hK => ?rg8) AllReadyH.nil)
   case' rg7 =>
    go_simp
    refine hK.out _ _ hHeld (fun hHeld => ?_)
    clear hK K
    refine zH 5 rfl fun K hK => ?_
    go_simp
    refine hK.out _ _ (hS _ q5 q6) (fun hHeld => ?_)
    clear hK K
    refine zH 6 rfl fun K hK => ?_
    refine step_append_lies _ (by rfl) _ _ _ (by rfl) w.heap.size 63 i0 _ 3 48 Tryz.underlying53 hi hz0 hz1 hz2 rfl (by decide) (.slice sa L.length sc) L.length ((L.zip vs).flatMap Pg.stC) (by rfl) q7 ⟨w1.heap.size,0,none⟩ 1 1 [.string f.ev,.int .u64 r2.now,.slice na nk nc] (by rfl) (by rfl) (World.news_of_block (cs:=#[.string f.ev,.int .u64 r2.now,.slice na nk nc]) (t:=63) (fr:=(0,0)) (heap_alloc_new w1 _)) (fun u hu=>by simp at hu;rcases hu with rfl | rfl | rfl <;> rfl) (by omega) (by unfold maxLen;omega) (by omega) (Nat.le_trans q3 (by simp)) _ rfl ?_
    intro g5 cap5 w5 hown5 hgrow hat hlt5
    have HK5:Hid _:=Pg.r8 hlw hlo h1.out.1 q1 hvs0 hgrow hown5
    obtain ⟨s1,s2,s3,_⟩:=HK5.out
    have s4:=s3 bt _ q2
    have c5:=s1.cell
    have f5:=s1.frozen
    refine hK.out _ _ ⟨s2.cell,(cell_of_row w5 _ _ _ _ _ s4).trans rfl⟩ (fun hHeld => ?_)
    clear hK K
    refine zH 7 rfl fun K hK => ?_
    go_simp
    refine hK.out _ _ (by
     exact ⟨(au (by intro h;injection h with h1;omega)).trans hHeld.1,(au (by intro h;injection h with h1;omega)).trans hHeld.2⟩) (fun hHeld => ?_)
    clear hK K hHeld
    refine wpAnyH_done (by kernel_rfl) ?_ _
   case' rg8 =>
    go_simp
    refine hK.out _ _ (hS _ q5 q6) (fun hHeld => ?_)
    clear hK K
    refine zH 0 rfl fun K hK => ?_
    go_simp
    refine hK.out _ _ hHeld (fun hHeld => ?_)
    clear hK K
    refine zH 6 rfl fun K hK => ?_
    refine step_append_lies _ (by rfl) _ _ _ (by rfl) w.heap.size 63 i0 _ 3 48 Tryz.underlying53 hi hz0 hz1 hz2 rfl (by decide) (.slice sa L.length sc) L.length ((L.zip vs).flatMap Pg.stC) (by rfl) q7 ⟨w1.heap.size,0,none⟩ 1 1 [.string f.ev,.int .u64 r2.now,.slice na nk nc] (by rfl) (by rfl) (World.news_of_block (cs:=#[.string f.ev,.int .u64 r2.now,.slice na nk nc]) (t:=63) (fr:=(0,0)) (heap_alloc_new w1 _)) (fun u hu=>by simp at hu;rcases hu with rfl | rfl | rfl <;> rfl) (by omega) (by unfold maxLen;omega) (by omega) (Nat.le_trans q3 (by simp)) _ rfl ?_
    intro g5 cap5 w5 hown5 hgrow hat hlt5
    have HK5:Hid _:=Pg.r8 hlw hlo h1.out.1 q1 hvs0 hgrow hown5
    obtain ⟨s1,s2,s3,_⟩:=HK5.out
    have s4:=s3 bt _ q2
    have c5:=s1.cell
    have f5:=s1.frozen
    refine hK.out _ _ ⟨s2.cell,(cell_of_row w5 _ _ _ _ _ s4).trans rfl⟩ (fun hHeld => ?_)
    clear hK K
    refine zH 7 rfl fun K hK => ?_
    go_simp
    refine hK.out _ _ (by
     exact ⟨(au (by intro h;injection h with h1;omega)).trans hHeld.1,(au (by intro h;injection h with h1;omega)).trans hHeld.2⟩) (fun hHeld => ?_)
    clear hK K hHeld
    refine wpAnyH_done (by kernel_rfl) ?_ _
  all_goals
   obtain ⟨_,_,_,hko,hCL6,hCS6⟩:=HK5.out
   have HKO:Hid (KeepsFrom W0.heap.size V (w5.setCell ⟨w.heap.size+2,0,none⟩ (.slice (some ⟨g5,0,none⟩) (L.length+1) cap5))):=((Pg.fC hBd).trans (h1.out.2.oth.trans hko)).from _
   generalize w5.setCell ⟨w.heap.size+2,0,none⟩ (.slice (some ⟨g5,0,none⟩) (L.length+1) cap5)=W6 at *
   have HCL:Hid _:=hCL6
   have HCS:Hid _:=hCS6
   have e0:=hCS6.b0.cell
   have e5:W6.cell? ⟨mb,419,none⟩=some (Pg.eP r2.fin):=by
    obtain ⟨qv,wh,hM,_⟩:=hCL6.mt.ex
    exact hM.cell 419 (by decide)
   have d0:W6.drew.cell? ⟨w.heap.size,0,none⟩=_:=e0
   have d1:W6.drew.cell? ⟨w.heap.size+1,0,none⟩=_:=hCS6.b1.cell
   have d2:W6.drew.cell? ⟨w.heap.size+2,0,none⟩=_:=hCS6.b2.cell
   have d5:W6.drew.cell? ⟨mb,419,none⟩=_:=e5
   have HLN:Hid ((L++[(f.ev,r2)]).length=k+1):=by
    have:=HLK.out
    unfold Hid
    rw [List.length_append,this]
    rfl
   clear HK5 h1 hko hCL6 hCS6 HTU HC1 hown5 hgrow hat hlt5
   by_cases hf2:r2.fin=0
   ·rw [show Pg.eP r2.fin = .nilIface by rw [hf2];rfl] at e5 d5
    by_cases h200:k+1=200
    ·have h2i:((L.length:Int)+1 == 200)=true:=by have:=HLK.out;simp;omega
     have hB6:Below W6.heap.size W6 W6.drew:=(Below.refl _ W6).drew
     have HHD:Hid _:=mY W6.drew lo mb pb r2 hlw (HCL.out.mt.below hlw hB6) HCL.out.qk.tm t
     have HBW:Hid (∀ w7,Below W6.drew.heap.size W6.drew w7→Below W6.heap.size W6 w7):=fun w7 h=>hB6.trans h
     cases hd:Pg.bD r2.now t r2.tm with
     | false =>
      rw [hd] at HHD
      have HC7:Hid (∀ w7,Below W6.heap.size W6 w7→w7.cell? ⟨w.heap.size,0,none⟩=some (.pointer (some ⟨mb,0,none⟩))∧w7.cell? ⟨mb,419,none⟩=some .nilIface∧Hid (KeepsFrom W0.heap.size V w7∧Pg.CkI w lo mb pb ps an t r (k+1,r2) w7)):=fun w7 hb=>by
       have y1:=HCL.out.below hlw hb
       have y2:=HCS.out.below hb
       refine ⟨y2.b0.cell,?_,HKO.out.trans ((Pg.fC hb).from _),_,_,HLN.out,by show k+1≤200;omega,fun _=>hd,hf2,y1,y2,HN.out.2.2 hf2 (fun h=>by rw [hd] at h;cases h.2)⟩
       obtain ⟨qv,wh,hM,_⟩:=y1.mt.ex
       have:=hM.cell 419 (by decide)
       rw [show Pg.fE pb qv (r2.m wh) 419=Pg.eP r2.fin from rfl,hf2] at this
       exact this
      clear hd
      gi_wp2
      refine aF (cT l) 15 (by kernel_rfl) (by kernel_rfl) (by kernel_rfl) ?_
      simp only [List.take_succ_cons,List.take_zero,List.drop_succ_cons,List.drop_zero]
      repeat still_step
      refine wpStill_nil ?_
      gi_wp2_with (refine ⟨trivial,?_⟩;gi_at_call 104;refine (aU HHD.out).mono ?_;rintro e w7 ⟨rfl,hb7⟩;obtain ⟨z0,z1,z2⟩:=HC7.out w7 (HBW.out w7 hb7))
      exact ⟨z2.out.1,(k+1,r2),rfl,z2.out.2⟩
     | true =>
      rw [hd] at HHD
      have HC7:Hid (∀ w7,Below W6.heap.size W6 w7→w7.cell? ⟨w.heap.size,0,none⟩=some (.pointer (some ⟨mb,0,none⟩))∧w7.cell? ⟨mb,419,none⟩=some .nilIface∧w7.frozen? ⟨mb,419,none⟩=false∧(w7.setCell ⟨mb,419,none⟩ (.iface 47 (.int .i64 6))).cell? ⟨w.heap.size,0,none⟩=some (.pointer (some ⟨mb,0,none⟩))∧(w7.setCell ⟨mb,419,none⟩ (.iface 47 (.int .i64 6))).cell? ⟨mb,419,none⟩=some (.iface 47 (.int .i64 6))∧Hid (KeepsFrom W0.heap.size V (w7.setCell ⟨mb,419,none⟩ (.iface 47 (.int .i64 6)))∧Pg.CkF w lo mb pb ps an t r (w7.setCell ⟨mb,419,none⟩ (.iface 47 (.int .i64 6))))):=fun w7 hb=>by
       have y1:=HCL.out.below hlw hb
       have y2:=HCS.out.below hb
       obtain ⟨m1,m2⟩:=Pg.MT.Ct y1.mt hlw 6
       have y3:=y2.rf m2
       obtain ⟨qv,wh,hM,_⟩:=y1.mt.ex
       obtain ⟨qv',wh',hM',_⟩:=m1.ex
       refine ⟨y2.b0.cell,?_,hM.frozen 419,y3.b0.cell,hM'.cell 419 (by decide),HKO.out.trans (((Pg.fC hb).trans m2.oth).from _),_,_,_,by rw [HLN.out];omega,⟨m1,y1.rf.trans m2,⟨y1.ok.act,y1.ok.kept⟩,⟨y1.qk.q,.inr (.inr rfl),y1.qk.tm⟩,y1.q0⟩,y3,HN.out.2.1 hf2 h200 hd⟩
       have:=hM.cell 419 (by decide)
       rw [show Pg.fE pb qv (r2.m wh) 419=Pg.eP r2.fin from rfl,hf2] at this
       exact this
      clear hd
      gi_wp2
      refine aF (cT l) 15 (by kernel_rfl) (by kernel_rfl) (by kernel_rfl) ?_
      simp only [List.take_succ_cons,List.take_zero,List.drop_succ_cons,List.drop_zero]
      repeat still_step
      refine wpStill_nil ?_
      gi_wp2_with (refine ⟨trivial,?_⟩;gi_at_call 104;refine (aU HHD.out).mono ?_;rintro e w7 ⟨rfl,hb7⟩;obtain ⟨z0,z1,z2,z3,z4,z5⟩:=HC7.out w7 (HBW.out w7 hb7))
      exact ⟨rfl,z5.out.1,z5.out.2⟩
    ·have h2i:((L.length:Int)+1 == 200)=false:=by have:=HLK.out;simp;omega
     gi_wp2
     refine aF (cT l) 15 (by kernel_rfl) (by kernel_rfl) (by kernel_rfl) ?_
     simp only [List.take_succ_cons,List.take_zero,List.drop_succ_cons,List.drop_zero]
     repeat still_step
     refine wpStill_nil ?_
     gi_wp2_with (refine ⟨trivial,?_⟩)
     have hB6:Below W6.heap.size W6 W6.drew:=(Below.refl _ W6).drew
     exact ⟨HKO.out.trans ((Pg.fC hB6).from _),(k+1,r2),rfl,_,_,HLN.out,by show k+1≤200;omega,fun h=>absurd h h200,hf2,HCL.out.below hlw hB6,HCS.out.below hB6,HN.out.2.2 hf2 (fun h=>h200 h.1)⟩
   ·rw [show Pg.eP r2.fin = .iface 47 (.int .i64 r2.fin) by unfold Pg.eP;rw [if_neg hf2]] at e5 d5
    gi_wp2
    refine aF (cT l) 15 (by kernel_rfl) (by kernel_rfl) (by kernel_rfl) ?_
    simp only [List.take_succ_cons,List.take_zero,List.drop_succ_cons,List.drop_zero]
    repeat still_step
    refine wpStill_nil ?_
    gi_wp2_with (refine ⟨trivial,?_⟩)
    have hB6:Below W6.heap.size W6 W6.drew:=(Below.refl _ W6).drew
    exact ⟨rfl,HKO.out.trans ((Pg.fC hB6).from _),_,_,_,by rw [HLN.out];omega,HCL.out.below hlw hB6,HCS.out.below hB6,HN.out.1 hf2⟩
 case' done =>
  rintro D V hD ⟨L,sv,r2,hLl,hCL,hCS,hclk⟩ hdef
  gi_wp2
 case' stop =>
  rintro D V hD ⟨L,sv,r2,hLl,hCL,hCS,hclk⟩ hdef
  gi_wp2
 all_goals
  have hBd:Below V.heap.size V V.drew:=(Below.refl _ V).drew
  have hCSd:=hCS.below hBd
  have hCLd:=hCL.below hlw hBd
  have HOF:Hid (Calls Tryz.prog 98 #[.pointer (some ⟨mb,0,none⟩)] V.drew fun e w'=>e = .returned (Pg.fuelV r2.fin)∧w'=V.drew):=by
   obtain ⟨qv,wh,a,_⟩:=hCLd.mt.ex
   exact iz V.drew lo mb pb qv (r2.m wh) r2.fin a rfl hCLd.qk.fin
  have hr:∀ r,some D=some r→w.heap.size≤r∧∃ o:Obj,V.drew.heap[r]?=some o∧o.isCells=false:=fun r e=>by
   cases e
   exact ⟨by omega,_,hdef,rfl⟩
  have HEND:Hid _:=HFIN.out sv L r2 (V.drew.putObj D (.deferred none)) (hCLd.gr hlw hlo (grownBy_putObj' V.drew D _) hr) (hCSd.no (Pg.jH (grownBy_putObj' V.drew D _) (fun r e=>(hr r e).2))) hclk
  have hdefd:V.drew.heap[D]?=some (.deferred (some [])):=hdef
  have hS0:(fun V=>V.cell? ⟨w.heap.size,0,none⟩=some (.pointer (some ⟨mb,0,none⟩))∧V.cell? ⟨w.heap.size+2,0,none⟩=some (sv)) V.drew:=⟨hCSd.b0.cell,hCSd.b2.cell⟩
  clear hCL hCS hCLd hCSd hclk hr hdef hBd
  refine wpIn_wide.2 (jY ?_)
  refine wp_region_held_drew (S:=(fun V=>V.cell? ⟨w.heap.size,0,none⟩=some (.pointer (some ⟨mb,0,none⟩))∧V.cell? ⟨w.heap.size+2,0,none⟩=some (sv))) (by kernel_rfl) hS0 (fun hHeld => ?_)
  refine tD (some 56) 0 sv rfl hHeld ?_
  refine tD (some 57) 1 (.pointer (some ⟨mb,0,none⟩)) rfl hHeld ?_
  refine zH 2 rfl fun K hK => ?_
  go_simp
  refine Calls.mono HOF.out ?_
  rintro e wA ⟨rfl,hA⟩
  rw [hA]
  clear hA wA
  refine hK.out _ _ hHeld (fun hHeld => ?_)
  clear hK K
  refine tD (some 4) 3 sv rfl hHeld ?_
  refine tD (some 5) 4 (Pg.fuelV r2.fin) rfl hHeld ?_
  refine wpAnyH_done (by kernel_rfl) ?_ _
  unfold nn
  gi_wp2
  refine ⟨by simp,.inl ⟨_,_,rfl,run_takeDeferred hdefd,?_⟩⟩
  exact ⟨.tuple #[sv,Pg.fuelV r2.fin],results_tmp2 (t:=4) (u:=5) rfl _ _ _,HEND.out⟩
end
theorem sZ {fn:Func} {t u v x:Tmp} (h:fn.results=#[.tmp t,.tmp u,.tmp v,.tmp x]) (tmps:Array Value) (P:Program) (w:World):(results fn tmps).run P w = .ok (.tuple #[tmps.getD t undef,tmps.getD u undef,tmps.getD v undef,tmps.getD x undef]) w:=by
 simp [results,h,go_sem]
theorem uY (n:Nat) (hn:n<20) (txt:ByteArray) (w:World) (hv:tI w) (hs:txt.size≤1073741824) (hok:Pro.read txt = .jq [Fu.stA n,Fu.stB]) (hfl:∀ (k:Nat) (L:Pro.PL),Pro.bj (k+1) (Pro.wl (Ref.cut txt 10) k)=some L→Pro.Flat L) :
  Calls Tryz.prog 34 #[.string txt] w fun e w'=>∃ xb l V,e = .returned (.tuple #[Fu.px xb,l,.int .i64 0,.int .i64 0])∧Below w.heap.size w V∧Fu.Ses n w V xb (Fu.rs 1 [])∧Below V.heap.size V w':=by
 have HL:Hid _:=xA n hn txt w hv hs hok hfl
 have HT:Hid _:=fun V=>vG V
 clear hv hok hfl
 go_enter Tryz.func34,Tryz.ntmps34
 go_wp2_with fail
 refine Calls.mono HL.out ?_
 rintro e w1 ⟨hb1,xb,l,rfl,h1⟩
 have H1:Hid _:=h1
 have HB:Hid _:=hb1
 clear h1 hb1
 dsimp only
 go_wp2_with fail
 refine Calls.mono (HT.out w1) ?_
 rintro e w2 ⟨rfl,hb2⟩
 have HB2:Hid _:=hb2
 clear hb2
 dsimp only
 go_wp2
 (try simp only [Exit.inBlock,Exit.then])
 refine bodyPost_ret (sZ rfl _ _ _) rfl ?_
 exact ⟨xb,l,w1,rfl,HB.out,H1.out,HB2.out⟩
namespace Fu
open Pg
def fuN (e:Nat):Nat:=if e=6 then 6 else 0
theorem fuV (e:Nat):fuelV e=kH (fuN e):=by
 unfold fuelV fuN
 split <;> rfl
theorem Ses.ax {n:Nat} {w W W':World} {xb:Nat} {r:RSt} (h:Ses n w W xb r) (hb:Below W.heap.size W W'):Ses n w W' xb r:=by
 obtain ⟨lo,mb,pb,b,cap,ps,fin,EN,LV,hvs,D,mbm,m,T,M,Lr,pmF,acF,h1,h2,h3,h4,h5,h6⟩:=h
 exact ⟨lo,mb,pb,b,cap,ps,fin,EN,LV,hvs,D,mbm,m,T,M,Lr,pmF,acF,(hb.block _ h2).trans h1,Nat.lt_of_lt_of_le h2 hb.size,h3,h4,h5.ax hb,h6⟩
def Ea (a:Nat):ByteArray:=if a=1 then ba else bb
def EvR (n:Nat) (w:World) (xb:Nat) (r2:RSt) (l:Value) (k:Nat) (V:World):Prop:=k=fuN r2.fin∧(∃ sb g gc,l = .slice (some ⟨sb,0,none⟩) 1 1∧V.cell? ⟨sb,2,none⟩=some (.slice (some ⟨g,0,none⟩) 1 gc)∧V.cell? ⟨g,0,none⟩=some (.string (Ea r2.act))∧sb<V.heap.size∧g<V.heap.size)∧Ses n w V xb r2∧Below w.heap.size w V
section
variable {n:Nat} {w W:World} {xb:Nat} {r:RSt} (hv:tI w) (hS:Ses n w W xb r) (hB:Below w.heap.size w W)
theorem evF (hv:tI w) (hS:Ses n w W xb r) (hB:Below w.heap.size w W) (hr:Ok r) (hf:r.fin=0) (ev:ByteArray) (hev:ev.size≤1000000):Calls Tryz.prog 25 #[px xb,.string ev] W fun e w'=>∃ l V,e = .returned (.tuple #[l,.int .i64 (fuN (bm (cst n) r ev).fin)])∧EvR n w xb (bm (cst n) r ev) l (fuN (bm (cst n) r ev).fin) V∧Below V.heap.size V w':=by
 obtain ⟨lo,mb,pb,b,cap,ps,fin,EN,LV,hvs,D,mbm,m,T,M,Lr,pmF,acF,hx,hxl,hlx,hwl,hL,hAns,hn0,hn1⟩:=hS
 obtain ⟨hT,hO⟩:=CL hAns hr ev
 have h:=qM W lo mb pb b cap ps fin EN LV hvs [] D mbm m T M Lr pmF acF r ev hL hev (fun V=>gh ev V (by omega))
 refine Calls.mono (jT W xb mb (EvR n w xb (bm (cst n) r ev)) hx (fun l k V h=>(hv.ax h.2.2.2).errT) ev (Calls.mono h ?_)) ?_
 ·rintro e w' h
  unfold nV at h
  rw [if_pos hf,hT] at h
  generalize bm (cst n) r ev=r2 at *
  obtain ⟨sb,sv,rfl,h1,h2,h3,h4,h5⟩:=h
  have hbx:AF w' xb mb:=(h4.kd.ax _ _ _ _ hx (by unfold b8;decide)).trans hx
  have hbw:Below w.heap.size w w':=hB.trans (h4.bel.mono hwl)
  refine ⟨_,fuN r2.fin,by rw [fuV],rfl,?_,⟨lo,mb,pb,b,cap,ps,fin,EN,LV,hvs,D,mbm,m,T,M,Lr,pmF,acF,hbx,Nat.lt_of_lt_of_le hxl h4.bel.size,hlx,hwl,h3,hAns,hn0,hn1⟩,hbw⟩
  have hnm:(els r2.act).map (dP ps)=[Ea r2.act]:=by
   unfold Ea
   rcases hO with e | e <;> rw [e]
   ·rw [show els 1=[0] from rfl,List.map_cons,hn0];rfl
   ·rw [show els 2=[1] from rfl,List.map_cons,hn1];rfl
  rw [hnm] at h2
  rcases h2.2 with ⟨_,h0⟩ | ⟨g,cp,cu,rfl,_,hg,_,_,_,ht⟩
  ·cases h0
  ·refine ⟨sb,g,cp,rfl,(cell_of_row w' _ _ _ _ _ h1).trans rfl,?_,(Array.getElem?_eq_some_iff.1 h1).1,(Array.getElem?_eq_some_iff.1 hg).1⟩
   rw [cell_of_row w' _ _ _ _ _ hg,← Array.getElem?_toList]
   have h6:(cu.toList.take (1*1))[0]?=some (.string (Ea r2.act)):=by rw [show cu.toList.take (1*1)=_ from ht];rfl
   rw [List.getElem?_take,if_pos (by decide)] at h6
   exact h6
 ·rintro e w' ⟨l,k,V,rfl,h,hb⟩
  have hk:=h.1
  subst hk
  exact ⟨l,V,rfl,h,hb⟩
theorem FZ (hv:tI w) (hS:Ses n w W xb r) (hB:Below w.heap.size w W) {c:Nat} (hf:r.fin=c) (hc:c≠0) (ev:ByteArray) (hev:ev.size≤1000000):Calls Tryz.prog 25 #[px xb,.string ev] W fun e w'=>∃ l V,e = .returned (.tuple #[l,.int .i64 c])∧Ses n w V xb r∧Below w.heap.size w V∧Below V.heap.size V w':=by
 have HS:=hS
 obtain ⟨lo,mb,pb,b,cap,ps,fin,EN,LV,hvs,D,mbm,m,T,M,Lr,pmF,acF,hx,hxl,hlx,hwl,hL,hAns,hn0,hn1⟩:=hS
 have h:=qM W lo mb pb b cap ps fin EN LV hvs [] D mbm m T M Lr pmF acF r ev hL hev (fun V=>gh ev V (by omega))
 refine Calls.mono (jT W xb mb (fun _ k V=>k=c∧Ses n w V xb r∧Below w.heap.size w V) hx (fun l k V h=>(hv.ax h.2.2).errT) ev (Calls.mono h ?_)) ?_
 ·rintro e w' h
  unfold nV at h
  rw [if_neg (by omega),hf] at h
  exact ⟨_,c,h.1,rfl,HS.ax h.2,hB.trans (h.2.mono hB.size)⟩
 ·rintro e w' ⟨l,k,V,rfl,⟨rfl,h1,h2⟩,hb⟩
  exact ⟨l,V,rfl,h1,h2,hb⟩
theorem FX (hv:tI w) (hS:Ses n w W xb r) (hB:Below w.heap.size w W) {c:Nat} (hf:r.fin=c) (hc:c≠0) (t:Nat) (ht:t<18446744073709551616):Calls Tryz.prog 26 #[px xb,.int .u64 t] W fun e w'=>∃ l,e = .returned (.tuple #[l,.int .i64 c])∧Below w.heap.size w w':=by
 obtain ⟨lo,mb,pb,b,cap,ps,fin,EN,LV,hvs,D,mbm,m,T,M,Lr,pmF,acF,hx,hxl,hlx,hwl,hL,hAns,hn0,hn1⟩:=hS
 have h:=qB W lo mb pb b cap ps fin EN LV hvs [] D mbm m T M Lr pmF acF r t hL ht (fun ev he V=>gh ev V (by omega))
 refine Calls.mono (jS W xb mb (fun _ k V=>k=c∧Below w.heap.size w V) hx (fun l k V h=>(hv.ax h.2).errT) t (Calls.mono h ?_)) ?_
 ·rintro e w' h
  unfold kz at h
  rw [if_neg (by omega),hf] at h
  exact ⟨_,c,h.1,rfl,hB.trans (h.2.mono hB.size)⟩
 ·rintro e w' ⟨l,k,V,rfl,⟨rfl,h2⟩,hb⟩
  exact ⟨l,rfl,h2.trans (hb.mono h2.size)⟩
theorem ckF (hv:tI w) (hS:Ses n w W xb r) (hB:Below w.heap.size w W) (hr:Ok r) (hf:r.fin=0) (t:Nat) (ht:t<18446744073709551616):Calls Tryz.prog 26 #[px xb,.int .u64 t] W fun e w'=>∃ a c,e = .returned (.tuple #[.slice a (dr (cst n) t 201 0 r).1.length c,.int .i64 (fuN (dr (cst n) t 201 0 r).2.fin)])∧Below w.heap.size w w':=by
 obtain ⟨lo,mb,pb,b,cap,ps,fin,EN,LV,hvs,D,mbm,m,T,M,Lr,pmF,acF,hx,hxl,hlx,hwl,hL,hAns,hn0,hn1⟩:=hS
 have h:=qB W lo mb pb b cap ps fin EN LV hvs [] D mbm m T M Lr pmF acF r t hL ht (fun ev he V=>gh ev V (by omega))
 refine Calls.mono (jS W xb mb (fun l k V=>k=fuN (dr (cst n) t 201 0 r).2.fin∧(∃ a c,l = .slice a (dr (cst n) t 201 0 r).1.length c)∧Below w.heap.size w V) hx (fun l k V h=>(hv.ax h.2.2).errT) t (Calls.mono h ?_)) ?_
 ·rintro e w' h
  unfold kz at h
  rw [if_pos hf,EE hAns t 201 0 r hr] at h
  obtain ⟨sv,rfl,h1,_,h2⟩:=h
  exact ⟨_,fuN (dr (cst n) t 201 0 r).2.fin,by rw [fuV],rfl,h1.n,hB.trans (h2.bel.mono hwl)⟩
 ·rintro e w' ⟨l,k,V,rfl,⟨rfl,⟨a,c,rfl⟩,h2⟩,hb⟩
  exact ⟨a,c,rfl,h2.trans (hb.mono h2.size)⟩
end
theorem E5 (n:Nat) (hn:n<20) (w:World) (hv:tI w) (hok:Pro.read (tx n++t1) = .jq [stA n,stB]) (hfl:∀ (k:Nat) (L:Pro.PL),Pro.bj (k+1) (Pro.wl (Ref.cut (tx n++t1) 10) k)=some L→Pro.Flat L):Ans n w:=by
 have hsz:(tx n++t1).size≤1073741824:=by rw [ByteArray.size_append,nT,show t1.size=26 from rfl];omega
 refine Calls.mono (uY n hn _ w hv hsz hok hfl) ?_
 rintro e W ⟨xb,l,V,rfl,hb,hS,hb2⟩
 refine ⟨xb,l,rfl,?_⟩
 have hS:=hS.ax hb2
 have hb:=hb.trans (hb2.mono hb.size)
 have h1:=s1 n hn
 refine Calls.mono (evF hv hS hb (.inl rfl) rfl bs (by decide)) ?_
 rintro e W2 ⟨l,V,rfl,h,hb2⟩
 rw [h1] at h ⊢
 have hf0:fuN (if 12<n then rs 2 (List.replicate 12 z1) else rs 1 (List.replicate n z1)).fin=0:=by split <;> rfl
 rw [hf0]
 obtain ⟨_,⟨sb,g,gc,rfl,q1,q2,q3,q4⟩,hS2,hbV⟩:=h
 refine ⟨sb,1,g,gc,rfl,(hb2.cell (p:=⟨sb,2,none⟩) q3).trans q1,?_,?_⟩
 ·rw [hb2.cell (p:=⟨g,0,none⟩) q4,q2]
  by_cases h12:12<n
  ·rw [if_pos h12,if_pos h12];rfl
  ·rw [if_neg h12,if_neg h12];rfl
 have hS2:=hS2.ax hb2
 have hbV:=hbV.trans (hb2.mono hbV.size)
 refine ⟨fun h12 => ?_,fun _=>hbV,fun h12 => ?_⟩
 ·rw [if_pos h12] at hS2
  refine Calls.mono (evF hv hS2 hbV (.inr rfl) rfl bx (by decide)) ?_
  rintro e W3 ⟨l,V3,rfl,h,hb3⟩
  have hx:=x2 n (List.replicate 12 z1)
  obtain ⟨_,⟨sb3,_,_,rfl,_⟩,hS3,hbV3⟩:=h
  refine ⟨_,_,by rw [hx];rfl,?_⟩
  have hS3:=hS3.ax hb3
  have hbV3:=hbV3.trans (hb3.mono hbV3.size)
  refine Calls.mono (FZ hv hS3 hbV3 hx (by decide) ⟨#[121]⟩ (by decide)) ?_
  rintro e W4 ⟨l4,V4,rfl,hS4,hbV4,hb4⟩
  refine ⟨l4,rfl,?_⟩
  exact FX hv (hS4.ax hb4) (hbV4.trans (hb4.mono hbV4.size)) hx (by decide) 5 (by decide)
 ·rw [if_neg (by omega)] at hS2
  refine Calls.mono (evF hv hS2 hbV (.inl rfl) rfl bt (by decide)) ?_
  rintro e W3 ⟨l,V3,rfl,h,hb3⟩
  rw [t3 n h12] at h ⊢
  obtain ⟨_,⟨sb3,_,_,rfl,_⟩,hS3,hbV3⟩:=h
  refine ⟨_,_,rfl,?_⟩
  have h:=ckF hv (hS3.ax hb3) (hbV3.trans (hb3.mono hbV3.size)) (.inl rfl) rfl 0 (by decide)
  rw [(c4 h12).1,(c4 h12).2] at h
  exact h
end Fu
end
end Go.Proofs.YtegmoddppafkfaaGreatDoor
