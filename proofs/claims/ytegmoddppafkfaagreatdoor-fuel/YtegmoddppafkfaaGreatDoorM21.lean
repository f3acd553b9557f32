import Derived.Test.YtegmoddppafkfaaGreatDoorM00
import Derived.Test.YtegmoddppafkfaaGreatDoorM18
import Derived.Test.YtegmoddppafkfaaGreatDoorM20
import Derived.Deep.RegionHeld
import Derived.Deep.WholeRow
set_option maxRecDepth 100000
set_option maxHeartbeats 8000000
namespace Go.Proofs.YtegmoddppafkfaaGreatDoor
section
open Go
section
variable {P:Program} {ops:Array Oper} {Q:Exit→Act→World→Prop} {md:Region.Mode} {S:World→Prop} {s:Nat}
def ee (P:Program) (md:Region.Mode) (ops:Array Oper) (Q:Exit→Act→World→Prop) (S:World→Prop) (s:Nat):Nat→Array Bool→Act→World→Prop
 | 0,listed,a,w=>Region.ready md ops listed=[]∧Q .normal a w
 | fuel+1,listed,a,w =>
  (Region.ready md ops listed=[]→Q .normal a w) ∧
  ∀ i∈Region.ready md ops listed,wpOp P ops Q i (fun a' w'=>(listed.getD s true=false→i≠s→S w')∧ee P md ops Q S s fuel (listed.setIfInBounds i true) a' w') a w
theorem pL:∀ (fuel:Nat) (listed:Array Bool) (a:Act) (w:World),ee P md ops Q S s fuel listed a w→wpAny P md ops Q fuel listed a w
 | 0,_,_,_,h=>h
 | fuel+1,_,_,_,h=>⟨h.1,fun i hi=>wpOp_mono (fun a' w' h'=>pL fuel _ a' w' h'.2) (h.2 i hi)⟩
theorem iu (l:Array Bool) (s:Nat):(l.setIfInBounds s true).getD s true=true:=by
 simp only [Array.getD_eq_getD_getElem?,Array.getElem?_setIfInBounds]
 split
 ·split <;> simp
 ·rename_i h;exact absurd trivial h
theorem getD_set_true (l:Array Bool) (i s:Nat) (h:l.getD s true=true):(l.setIfInBounds i true).getD s true=true:=by
 by_cases e:i=s
 ·subst e;exact iu l i
 ·rw [getD_set_ne true e];exact h
theorem rK:∀ (fuel:Nat) (listed:Array Bool) (a:Act) (w:World),listed.getD s true=true→wpAny P md ops Q fuel listed a w→ee P md ops Q S s fuel listed a w
 | 0,_,_,_,_,h=>h
 | fuel+1,listed,_,_,hs,h=>⟨h.1,fun i hi=>wpOp_mono (fun a' w' h'=>⟨fun hf=>absurd (hs.symm.trans hf) (by decide),rK fuel _ a' w' (getD_set_true _ _ _ hs) h'⟩) (h.2 i hi)⟩
theorem iE {fuel:Nat} {listed:Array Bool} {a:Act} {w:World} (hr:Region.ready md ops listed=[s]) (h:wpAny P md ops Q (fuel+1) listed a w):ee P md ops Q S s (fuel+1) listed a w :=
 ⟨h.1,fun i hi=>by
  have e:i=s:=by rw [hr] at hi;simpa using hi
  subst e
  exact wpOp_mono (fun a' w' h'=>⟨fun _ hne=>absurd rfl hne,rK fuel _ a' w' (iu _ _) h'⟩) (h.2 i hi)⟩
theorem tE {i:Nat} {oi os:Oper} {v:Value} (hi:ops[i]?=some oi) (hsel:∀ (j:Nat) (o:Oper) cs b,ops[j]?=some o→o.op ≠ .select cs b)
  (hQ:∀ c a w,Q (.panic c) (a.put oi.dst v) w→Q (.panic c) a w) (hso:ops[s]?=some os) (hwait:∃ e∈os.after,Region.binds md e=true∧e.on=i) :
  ∀ (fuel:Nat) (listed:Array Bool) (a:Act) (w:World),
   (∀ j oj,ops[j]?=some oj→j≠i→listed.getD j true=false→(∀ e∈oj.after,Region.binds md e=true→e.on≠i)→oi.apart ops oj=true) →
   i∈Region.ready md ops listed→listed.getD s true=false→YieldsIf P ops S oi v a→S w →
   ee P md ops Q S s fuel (listed.setIfInBounds i true) (a.put oi.dst v) w→ee P md ops Q S s (fuel+1) listed a w:=by
 intro fuel
 induction fuel with
 | zero =>
  intro listed a w _ hr _ hy hS H
  refine ⟨fun h=>(by rw [h] at hr;cases hr),fun j hj => ?_⟩
  by_cases hji:j=i
  ·subst hji;exact hy.wpOp hi hS ⟨fun _ _=>hS,H⟩
  ·have:=ready_mono hj hji
   rw [H.1] at this
   cases this
 | succ fuel ih =>
  intro listed a w hfree hr hls hy hS H
  refine ⟨fun h=>(by rw [h] at hr;cases hr),fun j hj => ?_⟩
  by_cases hji:j=i
  ·subst hji;exact hy.wpOp hi hS ⟨fun _ _=>hS,H⟩
  ·have h1:=H.2 j (ready_mono hj hji)
   obtain ⟨hjun,oj,hoj,hall⟩:=mem_ready.1 hj
   have pend:∀ (o:Oper),(∀ e∈o.after,Region.binds md e=true→listed.getD e.on false=true)→∀ e∈o.after,Region.binds md e=true→e.on≠i:=fun o hall e he hb heq=>by
    have h1:=hall e he hb
    have h0:=(mem_ready.1 hr).1
    rw [heq] at h1
    rcases Nat.lt_or_ge i listed.size with h' | h'
    ·simp [h'] at h0 h1;rw [h0] at h1;cases h1
    ·simp [Array.getElem?_eq_none h'] at h1
   have hnot:=pend oj hall
   have hjs:j≠s:=fun e=>by
    subst e
    obtain ⟨x,hx,hb,hon⟩:=hwait
    rw [hso] at hoj
    cases hoj
    exact hnot x hx hb hon
   have his:i≠s:=fun e=>by
    subst e
    obtain ⟨x,hx,hb,hon⟩:=hwait
    obtain ⟨_,o',ho',hall'⟩:=mem_ready.1 hr
    rw [hso] at ho'
    cases ho'
    exact pend os hall' x hx hb hon
   have h2:=wpOp_putIf hoj (hfree j oj hoj hji hjun hnot) (fun cs b=>hsel i oi cs b hi) (fun cs b=>hsel j oj cs b hoj) hQ hy h1
   have hfree':∀ k ok,ops[k]?=some ok→k≠i→(listed.setIfInBounds j true).getD k true=false →
     (∀ e∈ok.after,Region.binds md e=true→e.on≠i)→oi.apart ops ok=true:=fun k ok hk hki hun hno=>by
    refine hfree k ok hk hki ?_ hno
    by_cases hjk:j=k
    ·subst hjk;exact hjun
    ·rw [getD_set_ne true hjk] at hun;exact hun
   refine wpOp_mono (fun a' w' h3 => ?_) h2
   have hSw:S w':=h3.2.1 (by rw [getD_set_ne true his];exact hls) hjs
   refine ⟨fun _ _=>hSw,ih (listed.setIfInBounds j true) a' w' hfree' (ready_mono hr (Ne.symm hji)) (by rw [getD_set_ne true hjs];exact hls) h3.1 hSw ?_⟩
   rw [Array.setIfInBounds_comm _ _ hji]
   exact h3.2.2
theorem cU {i:Nat} {oi os:Oper} {v:Value} {fuel:Nat} {listed:Array Bool} {a:Act} {w:World} (hi:ops[i]?=some oi)
  (hs:Region.noSelect ops=true) (hf:Region.free md ops listed i=true) (hr:(Region.ready md ops listed).contains i=true)
  (hQ:∀ c a w,Q (.panic c) (a.put oi.dst v) w→Q (.panic c) a w) (hso:ops[s]?=some os) (hwait:(os.after.any fun e=>Region.binds md e&&e.on == i)=true) (hls:listed.getD s true=false) (hy:YieldsIf P ops S oi v a) (hS:S w)
  (h:ee P md ops Q S s fuel (listed.setIfInBounds i true) (a.put oi.dst v) w):ee P md ops Q S s (fuel+1) listed a w :=
 tE hi (Region.noSelect_spec hs) hQ hso (by
  rw [Array.any_eq_true] at hwait
  obtain ⟨k,hk,hb⟩:=hwait
  rw [Bool.and_eq_true] at hb
  exact ⟨_,Array.getElem_mem hk,hb.1,by simpa using hb.2⟩) fuel listed a w (Region.free_spec hi hf) (by simpa using hr) hls hy hS h
theorem qo {i:Nat} {oi:Oper} {v:Value} (hi:ops[i]?=some oi) (hsel:∀ (j:Nat) (o:Oper) cs b,ops[j]?=some o→o.op ≠ .select cs b)
  (hQ:∀ c a w,Q (.panic c) (a.put oi.dst v) w→Q (.panic c) a w) (his:i≠s) :
  ∀ (fuel:Nat) (listed:Array Bool) (a:Act) (w:World),
   (∀ j oj,ops[j]?=some oj→j≠i→listed.getD j true=false→(∀ e∈oj.after,Region.binds md e=true→e.on≠i)→oi.apart ops oj=true) →
   i∈Region.ready md ops listed→YieldsIf P ops (fun _=>True) oi v a→(listed.getD s true=false→S w) →
   ee P md ops Q S s fuel (listed.setIfInBounds i true) (a.put oi.dst v) w→ee P md ops Q S s (fuel+1) listed a w:=by
 intro fuel
 induction fuel with
 | zero =>
  intro listed a w _ hr hy hS H
  refine ⟨fun h=>(by rw [h] at hr;cases hr),fun j hj => ?_⟩
  by_cases hji:j=i
  ·subst hji;exact hy.wpOp hi trivial ⟨fun h _=>hS h,H⟩
  ·have:=ready_mono hj hji
   rw [H.1] at this
   cases this
 | succ fuel ih =>
  intro listed a w hfree hr hy hS H
  refine ⟨fun h=>(by rw [h] at hr;cases hr),fun j hj => ?_⟩
  by_cases hji:j=i
  ·subst hji;exact hy.wpOp hi trivial ⟨fun h _=>hS h,H⟩
  ·have h1:=H.2 j (ready_mono hj hji)
   obtain ⟨hjun,oj,hoj,hall⟩:=mem_ready.1 hj
   have hnot:∀ e∈oj.after,Region.binds md e=true→e.on≠i:=fun e he hb heq=>by
    have h1:=hall e he hb
    have h0:=(mem_ready.1 hr).1
    rw [heq] at h1
    rcases Nat.lt_or_ge i listed.size with h' | h'
    ·simp [h'] at h0 h1;rw [h0] at h1;cases h1
    ·simp [Array.getElem?_eq_none h'] at h1
   have h2:=wpOp_putIf hoj (hfree j oj hoj hji hjun hnot) (fun cs b=>hsel i oi cs b hi) (fun cs b=>hsel j oj cs b hoj) hQ hy h1
   have hfree':∀ k ok,ops[k]?=some ok→k≠i→(listed.setIfInBounds j true).getD k true=false →
     (∀ e∈ok.after,Region.binds md e=true→e.on≠i)→oi.apart ops ok=true:=fun k ok hk hki hun hno=>by
    refine hfree k ok hk hki ?_ hno
    by_cases hjk:j=k
    ·subst hjk;exact hjun
    ·rw [getD_set_ne true hjk] at hun;exact hun
   refine wpOp_mono (fun a' w' h3 => ?_) h2
   have hSw:listed.getD s true=false→j≠s→S w':=fun hl hjs=>h3.2.1 (by rw [getD_set_ne true his];exact hl) hjs
   refine ⟨hSw,ih (listed.setIfInBounds j true) a' w' hfree' (ready_mono hr (Ne.symm hji)) h3.1 (fun hl => ?_) ?_⟩
   ·by_cases hjs:j=s
    ·subst hjs;rw [iu] at hl;cases hl
    ·exact hSw (by rw [getD_set_ne true hjs] at hl;exact hl) hjs
   ·rw [Array.setIfInBounds_comm _ _ hji]
    exact h3.2.2
theorem aj {i:Nat} {oi:Oper} {v:Value} {fuel:Nat} {listed:Array Bool} {a:Act} {w:World} (hi:ops[i]?=some oi)
  (hs:Region.noSelect ops=true) (hf:Region.free md ops listed i=true) (hr:(Region.ready md ops listed).contains i=true)
  (hQ:∀ c a w,Q (.panic c) (a.put oi.dst v) w→Q (.panic c) a w) (his:i≠s) (hy:YieldsIf P ops (fun _=>True) oi v a) (hS:S w)
  (h:ee P md ops Q S s fuel (listed.setIfInBounds i true) (a.put oi.dst v) w):ee P md ops Q S s (fuel+1) listed a w :=
 qo hi (Region.noSelect_spec hs) hQ his fuel listed a w (Region.free_spec hi hf) (by simpa using hr) hy (fun _=>hS) h
def aW (P:Program) (md:Region.Mode) (ops:Array Oper) (Q:Exit→Act→World→Prop) (S:World→Prop) (s:Nat) (fuel:Nat) (listed:Array Bool) (a:Act) (w:World) (rs:List Nat):Prop :=
 ∀ i∈rs,wpOp P ops Q i (fun a' w'=>(listed.getD s true=false→i≠s→S w')∧ee P md ops Q S s fuel (listed.setIfInBounds i true) a' w') a w
theorem aW.nil {fuel:Nat} {listed:Array Bool} {a:Act} {w:World}:aW P md ops Q S s fuel listed a w []:=fun _ h=>by cases h
theorem aW.cons {fuel:Nat} {listed:Array Bool} {a:Act} {w:World} {i:Nat} {o:Oper} {rs:List Nat} (ho:ops[i]?=some o)
  (h:∀ K':Act→World→Prop,Shut (∀ a w,S w→(S w→ee P md ops Q S s fuel (listed.setIfInBounds i true) a w)→K' a w)→if Region.wanted o (yielded ops a.tmps)=true then Oper.wp P o a w K' Q else K' (a.put o.dst undef) w)
  (hs:aW P md ops Q S s fuel listed a w rs):aW P md ops Q S s fuel listed a w (i::rs):=fun j hj=>by
 rcases List.mem_cons.1 hj with rfl | hj
 ·exact wpOp_step ho (fun K' hK=>h K' (fun a w hS hW=>hK a w ⟨fun _ _=>hS,hW hS⟩))
 ·exact hs j hj
theorem du {rs:List Nat} {fuel:Nat} {listed:Array Bool} {a:Act} {w:World} (hr:Region.ready md ops listed=rs) (hne:rs≠[])
  (h:aW P md ops Q S s fuel listed a w rs):ee P md ops Q S s (fuel+1) listed a w:=⟨fun h0=>absurd (hr ▸ h0) hne,hr ▸ h⟩
theorem jZ (s:Nat) {id:Nat} {a:Act} {w:World} (hm:P.follows .mixedOrders=true) (hS:S w.drew)
  (h:S w.drew→ee P .any ops Q S s ops.size (Array.replicate ops.size false) a w.drew):(Code.region id ops true).wp P Q a w :=
 wp_region_any hm (pL _ _ _ _ (h hS))
end
end
section
open Go.RowKit Go.Proofs
theorem Tryz.ka:(Tryz.prog.info? 295).map (·.size)=some 5:=by kernel_rfl
theorem EI {w:World} {base size n:Nat} {e:TypeId} {v:Ref.Sl} {xs:List Value} (h:w.ownsRow base e size v.v n xs):v.n=n:=by
 rcases h.2 with ⟨h,h0⟩ | ⟨g,cap,cur,h,_⟩
 ·simp [Ref.Sl.v] at h;rw [h0];exact h.2.1
 ·simp [Ref.Sl.v] at h;exact h.2.1
theorem Tryz.xw:(Tryz.prog.info? 327).map (·.size)=some 1:=by kernel_rfl
theorem oJ (x:Ref.State):∀ j,(Ref.dz x j).length≤x.enter.length+j
 | 0=>Nat.le_refl _
 | j+1=>by
  have:=oJ x j
  rw [Ref.dz]
  repeat' split
  all_goals (try rw [List.length_append])
  all_goals (try simp only [List.length_cons,List.length_nil])
  all_goals omega
theorem mL (x:Ref.State):∀ j,(Ref.bJ x j).length≤x.leave.length+j
 | 0=>Nat.le_refl _
 | j+1=>by
  have:=mL x j
  rw [Ref.bJ]
  repeat' split
  all_goals (try rw [List.length_append])
  all_goals (try simp only [List.length_cons,List.length_nil])
  all_goals omega
theorem C2 {m:Ref.Move} (h:m.event.size≠0):aZ (Ref.qP m) = .iface 331 (.agg #[.string m.event,.int .u64 m.delay,.string m.event]):=by
 unfold aZ Ref.qP ri
 rw [show Ref.kn.toList=Ref.jB from j9,if_neg (by decide),if_neg (by decide),if_neg h]
theorem AL (m:Ref.Move):aZ (Ref.oX m) = .iface 333 (.agg #[.string m.event]):=by
 unfold aZ Ref.oX
 rw [show Ref.fo.toList=Ref.dU from fy,if_neg (by decide),if_pos (by decide)]
theorem oS (B g cap u:Nat) (X:List Pro.DS) (x:Pro.DS) (M:List Pro.PV) (w:World)
  (hs:w.ownsRow B 242 8 (.slice (some ⟨g,0,none⟩) X.length cap) X.length (X.flatMap Pro.aH)) (hu:u<X.length) (hx:X[u]=x)
  (hM:w.ownsRow 0 295 5 x.vm.v M.length (M.flatMap Pro.aR)) (hE:w.ownsRow 0 324 1 x.ve.v x.s.enter.length (x.s.enter.map aZ)) (hL:w.ownsRow 0 324 1 x.vl.v x.s.leave.length (x.s.leave.map aZ))
  (hm:M.map (·.m)=x.s.moves) (hMl:M.length≤4096) (hEl:x.s.enter.length≤4096) (hLl:x.s.leave.length≤4096) (hev:∀ y∈M,y.m.after=true→y.m.event.size≠0) :
  Calls Tryz.prog 120 #[.pointer (some ⟨g,u*8,none⟩)] w fun e w'=>e = .returned (.tuple #[])∧∃ ve vl vm,bO w w' B g cap X u x ve vl vm (Ref.dz x.s M.length) (Ref.bJ x.s M.length) (M.map Pro.fO):=by
 obtain ⟨s,⟨pa,pn,pc⟩,⟨ea,en,ec⟩,⟨la,ln,lc⟩,⟨ma,mn,mc⟩⟩:=x
 obtain ⟨x,hxx⟩:∃ x:Pro.DS,x=⟨s,⟨pa,pn,pc⟩,⟨ea,en,ec⟩,⟨la,ln,lc⟩,⟨ma,mn,mc⟩⟩:=⟨_,rfl⟩
 have cells:∀ (W:World),Below w.heap.size w W→W.cell? ⟨g,u*8+5,none⟩=some (.slice ea en ec)∧W.cell? ⟨g,u*8+6,none⟩=some (.slice la ln lc)∧W.cell? ⟨g,u*8+7,none⟩=some (.slice ma mn mc):=by
  intro W hb
  have hs':=aT hs hb
  refine ⟨?_,?_,?_⟩ <;> (rw [hs'.cellAt _ (by omega),Ref.iJ (f:=Pro.aH) (n:=8) (fun _=>rfl) X u _ (by decide) hu,hx];rfl)
 have froz:∀ (W:World) (j:Nat),Below w.heap.size w W→W.frozen? ⟨g,j,none⟩=false:=fun W j hb=>World.ownsRow.frozenAt (aD (aT hs hb) (Nat.zero_le _)) _
 have hEl':s.enter.length≤4096:=hEl
 have hLl':s.leave.length≤4096:=hLl
 have HS:Hid _:=hs
 have HX:Hid _:=hx
 have HXX:Hid _:=hxx
 have HM:Hid _:=hM
 have HE:Hid _:=hE
 have HL:Hid _:=hL
 have HC:Hid _:=cells
 have HF:Hid _:=froz
 have Hm:Hid _:=hm
 have Hev:Hid _:=hev
 have hgw:g<w.heap.size:=(World.ownsRow.lt hs g rfl).2
 have hb0:Below w.heap.size w w.drew:=(Below.refl _ _).drew
 have hcw:=cells w.drew hb0
 clear hs hx hxx hM hE hL cells froz hm hev
 go_enter Tryz.func120,Tryz.ntmps120
 go_upto_region 0 with fail
 refine jZ (s:=20) (S:=(fun W=>W.cell? ⟨g,u*8+5,none⟩=some (.slice ea en ec)∧W.cell? ⟨g,u*8+6,none⟩=some (.slice la ln lc)∧W.cell? ⟨g,u*8+7,none⟩=some (.slice ma mn mc))) (by kernel_rfl) hcw (fun hHeld => ?_)
 refine aj (i:=0) (v := .pointer (some ⟨g,u*8,none⟩)) rfl (by kernel_rfl) (by kernel_rfl) (by kernel_rfl) (fun _ _ _ h=>h) (by decide) (Or.inl ⟨by rfl,fun w _=>by go_simp;(try with_reducible rfl)⟩) hHeld ?_
 refine aj (i:=1) (v := .pointer (some ⟨g,u*8,none⟩)) rfl (by kernel_rfl) (by kernel_rfl) (by kernel_rfl) (fun _ _ _ h=>h) (by decide) (Or.inl ⟨by rfl,fun w _=>by go_simp;(try with_reducible rfl)⟩) hHeld ?_
 refine aj (i:=2) (v := .pointer (some ⟨g,u*8,none⟩)) rfl (by kernel_rfl) (by kernel_rfl) (by kernel_rfl) (fun _ _ _ h=>h) (by decide) (Or.inl ⟨by rfl,fun w _=>by go_simp;(try with_reducible rfl)⟩) hHeld ?_
 refine aj (i:=3) (v := .pointer (some ⟨g,u*8,none⟩)) rfl (by kernel_rfl) (by kernel_rfl) (by kernel_rfl) (fun _ _ _ h=>h) (by decide) (Or.inl ⟨by rfl,fun w _=>by go_simp;(try with_reducible rfl)⟩) hHeld ?_
 refine aj (i:=8) (v := .pointer (some ⟨g,u*8,none⟩)) rfl (by kernel_rfl) (by kernel_rfl) (by kernel_rfl) (fun _ _ _ h=>h) (by decide) (Or.inl ⟨by rfl,fun w _=>by go_simp;(try with_reducible rfl)⟩) hHeld ?_
 refine aj (i:=13) (v := .pointer (some ⟨g,u*8,none⟩)) rfl (by kernel_rfl) (by kernel_rfl) (by kernel_rfl) (fun _ _ _ h=>h) (by decide) (Or.inl ⟨by rfl,fun w _=>by go_simp;(try with_reducible rfl)⟩) hHeld ?_
 refine aj (i:=4) (v := .pointer (some ⟨g,u*8,none⟩)) rfl (by kernel_rfl) (by kernel_rfl) (by kernel_rfl) (fun _ _ _ h=>h) (by decide) (Or.inl ⟨by rfl,fun w _=>by go_simp;(try with_reducible rfl)⟩) hHeld ?_
 refine aj (i:=5) (v := .pointer (some ⟨g,u*8+5,none⟩)) rfl (by kernel_rfl) (by kernel_rfl) (by kernel_rfl) (fun _ _ _ h=>h) (by decide) (Or.inl ⟨by rfl,fun w _=>by go_simp;(try with_reducible rfl)⟩) hHeld ?_
 refine cU (i:=6) (v := .slice ea en ec) rfl (by kernel_rfl) (by kernel_rfl) (by kernel_rfl) (fun _ _ _ h=>h) rfl (by kernel_rfl) (by kernel_rfl) (Or.inl ⟨by rfl,fun w hSw=>by (try dsimp only at hSw);go_simp;(try with_reducible rfl)⟩) hHeld ?_
 refine aj (i:=9) (v := .pointer (some ⟨g,u*8,none⟩)) rfl (by kernel_rfl) (by kernel_rfl) (by kernel_rfl) (fun _ _ _ h=>h) (by decide) (Or.inl ⟨by rfl,fun w _=>by go_simp;(try with_reducible rfl)⟩) hHeld ?_
 refine aj (i:=10) (v := .pointer (some ⟨g,u*8+6,none⟩)) rfl (by kernel_rfl) (by kernel_rfl) (by kernel_rfl) (fun _ _ _ h=>h) (by decide) (Or.inl ⟨by rfl,fun w _=>by go_simp;(try with_reducible rfl)⟩) hHeld ?_
 refine cU (i:=11) (v := .slice la ln lc) rfl (by kernel_rfl) (by kernel_rfl) (by kernel_rfl) (fun _ _ _ h=>h) rfl (by kernel_rfl) (by kernel_rfl) (Or.inl ⟨by rfl,fun w hSw=>by (try dsimp only at hSw);go_simp;(try with_reducible rfl)⟩) hHeld ?_
 refine aj (i:=14) (v := .pointer (some ⟨g,u*8,none⟩)) rfl (by kernel_rfl) (by kernel_rfl) (by kernel_rfl) (fun _ _ _ h=>h) (by decide) (Or.inl ⟨by rfl,fun w _=>by go_simp;(try with_reducible rfl)⟩) hHeld ?_
 refine aj (i:=15) (v := .pointer (some ⟨g,u*8+7,none⟩)) rfl (by kernel_rfl) (by kernel_rfl) (by kernel_rfl) (fun _ _ _ h=>h) (by decide) (Or.inl ⟨by rfl,fun w _=>by go_simp;(try with_reducible rfl)⟩) hHeld ?_
 refine cU (i:=16) (v := .slice ma mn mc) rfl (by kernel_rfl) (by kernel_rfl) (by kernel_rfl) (fun _ _ _ h=>h) rfl (by kernel_rfl) (by kernel_rfl) (Or.inl ⟨by rfl,fun w hSw=>by (try dsimp only at hSw);go_simp;(try with_reducible rfl)⟩) hHeld ?_
 refine du (rs:=[7]) (by kernel_rfl) (by simp) ?_
 refine aW.cons rfl (fun K hK => ?_) aW.nil
 go_simp
 refine Calls.mono (om ea en ec s.enter _ (aT HE.out hb0) (by omega)) ?_
 rintro e w1 ⟨se,rfl,hE1,hb1⟩
 have hb1':Below w.heap.size w w1:=hb0.trans hb1
 dsimp only
 refine hK.out _ _ (HC.out _ hb1') (fun hHeld => ?_)
 clear hK K
 refine du (rs:=[12]) (by kernel_rfl) (by simp) ?_
 refine aW.cons rfl (fun K hK => ?_) aW.nil
 go_simp
 refine Calls.mono (om la ln lc s.leave _ (aT HL.out hb1') (by omega)) ?_
 rintro e w2 ⟨sl,rfl,hL2,hb2⟩
 have hb2':Below w.heap.size w w2:=hb1'.trans (hb2.mono hb1'.size)
 dsimp only
 refine hK.out _ _ (HC.out _ hb2') (fun hHeld => ?_)
 clear hK K
 refine du (rs:=[17]) (by kernel_rfl) (by simp) ?_
 refine aW.cons rfl (fun K hK => ?_) aW.nil
 go_simp
 refine Calls.mono (we ma mn mc M _ (aT HM.out hb2') (by omega)) ?_
 rintro e w3 ⟨⟨sma,smn,smc⟩,rfl,hM3,hb3⟩
 have hb3':Below w.heap.size w w3:=hb2'.trans (hb3.mono hb2'.size)
 dsimp only
 refine hK.out _ _ (HC.out _ hb3') (fun hHeld => ?_)
 clear hK K
 refine aj (i:=18) (v := .pointer (some ⟨g,u*8,none⟩)) rfl (by kernel_rfl) (by kernel_rfl) (by kernel_rfl) (fun _ _ _ h=>h) (by decide) (Or.inl ⟨by rfl,fun w _=>by go_simp;(try with_reducible rfl)⟩) hHeld ?_
 refine aj (i:=19) (v := .pointer (some ⟨g,u*8+5,none⟩)) rfl (by kernel_rfl) (by kernel_rfl) (by kernel_rfl) (fun _ _ _ h=>h) (by decide) (Or.inl ⟨by rfl,fun w _=>by go_simp;(try with_reducible rfl)⟩) hHeld ?_
 refine iE (by kernel_rfl) ?_
 have hap:apart se sl:=by
  unfold apart
  cases e1:se.v.ownBlock with
  | none=>exact .inl rfl
  | some k =>
   refine .inr (fun e2 => ?_)
   have h1:=(World.ownsRow.lt hE1 k e1).2
   have h2:=(World.ownsRow.lt hL2 k e2.symm).1
   omega
 have sz1:=hb1'.size
 have sz2:=hb2'.size
 have hnM:smn=M.length:=EI (v:=⟨sma,smn,smc⟩) hM3
 subst hnM
 have G0:bO w (((w3.setCell ⟨g,u*8+5,none⟩ (.slice se.a se.n se.c)).setCell ⟨g,u*8+6,none⟩ (.slice sl.a sl.n sl.c)).setCell ⟨g,u*8+7,none⟩ (.slice sma M.length smc)) B g cap X u x se sl ⟨sma,M.length,smc⟩ s.enter s.leave M:=by
  rw [HXX.out]
  exact bO.begin HS.out hu HX.out hb3' (aT (aT (aD hE1 (Nat.le_refl _)) hb2) hb3) (aT (aD hL2 sz1) hb3) (aD hM3 sz2) hap
 obtain ⟨c5,c6,c7⟩:=HC.out _ hb3'
 have f5:=HF.out w3 (u*8+5) hb3'
 have f6:=HF.out w3 (u*8+6) hb3'
 have f7:=HF.out w3 (u*8+7) hb3'
 have HG:Hid _:=G0
 clear G0 hap hE1 hL2 hM3 hb1 hb2 hb3 hHeld hcw sz1 sz2
 refine zA 20 rfl fun K hK => ?_
 go_simp
 refine hK _ _ ?_
 clear hK K
 refine wpAny_take (i:=21) (v := .pointer (some ⟨g,u*8,none⟩)) rfl (by kernel_rfl) (by kernel_rfl) (by kernel_rfl) (fun _ _ _ h=>h) (Or.inl ⟨by rfl,fun w=>by go_simp;(try with_reducible rfl)⟩) ?_
 refine wpAny_take (i:=22) (v := .pointer (some ⟨g,u*8+6,none⟩)) rfl (by kernel_rfl) (by kernel_rfl) (by kernel_rfl) (fun _ _ _ h=>h) (Or.inl ⟨by rfl,fun w=>by go_simp;(try with_reducible rfl)⟩) ?_
 refine zA 23 rfl fun K hK => ?_
 go_simp
 refine hK _ _ ?_
 clear hK K
 refine wpAny_take (i:=24) (v := .pointer (some ⟨g,u*8,none⟩)) rfl (by kernel_rfl) (by kernel_rfl) (by kernel_rfl) (fun _ _ _ h=>h) (Or.inl ⟨by rfl,fun w=>by go_simp;(try with_reducible rfl)⟩) ?_
 refine wpAny_take (i:=25) (v := .pointer (some ⟨g,u*8+7,none⟩)) rfl (by kernel_rfl) (by kernel_rfl) (by kernel_rfl) (fun _ _ _ h=>h) (Or.inl ⟨by rfl,fun w=>by go_simp;(try with_reducible rfl)⟩) ?_
 refine zA 26 rfl fun K hK => ?_
 go_simp
 refine hK _ _ ?_
 clear hK K
 refine wpAny_done (by kernel_rfl) ?_ _
 have G0:=HG.out
 clear HG c5 c6 c7 f5 f6 f7 hb3' hb2' hb1' HC HF
 generalize ((w3.setCell ⟨g,u*8+5,none⟩ (.slice se.a se.n se.c)).setCell ⟨g,u*8+6,none⟩ (.slice sl.a sl.n sl.c)).setCell ⟨g,u*8+7,none⟩ (.slice sma M.length smc)=W0 at G0 ⊢
 have c7:W0.cell? ⟨g,u*8+7,none⟩=some (.slice sma M.length smc):=(G0.cell hu 7 (by decide)).trans rfl
 have HG0:Hid _:=G0
 clear G0
 go_wp2
 go_loopg [34] M.length (fun q i wr=>∃ (j:Nat) (ve vl:Ref.Sl),q=M.length-j∧j≤M.length∧i = .int .i64 j∧bO w wr B g cap X u x ve vl ⟨sma,M.length,smc⟩ (Ref.dz s j) (Ref.bJ s j) (Pro.aP M j))
 case atStart=>exact ⟨0,se,sl,rfl,Nat.zero_le _,rfl,HG0.out⟩
 case round =>
  clear c7
  obtain ⟨j,ve,vl,hq,hj,rfl,G⟩:=hrel
  by_cases hjn:j<M.length
  ·have hQl:=Pro.jO M j hj
   obtain ⟨mb,cm,hvm⟩:=Ref.gE G.moves (by omega)
   simp only [Ref.Sl.v,Value.slice.injEq] at hvm
   obtain ⟨rfl,-,rfl⟩:=hvm
   have hmo:wr.ownsRow 0 295 5 (.slice (some ⟨mb,0,none⟩) (Pro.aP M j).length smc) (Pro.aP M j).length ((Pro.aP M j).flatMap Pro.aR):=by
    have:=aD G.moves (Nat.zero_le _)
    unfold Ref.Sl.v at this
    rw [← hQl] at this
    exact this
   have hrng:=Row.range (f:=Pro.aR) (n:=5) (fun _=>rfl) hmo (by rw [hQl];exact hjn)
   rw [Pro.jN M j hjn] at hrng
   have hcm:M.length≤smc:=by
    rcases hmo.2 with ⟨h,_⟩ | ⟨g',cap',cur,h,_,_,hle,_⟩
    ·cases h
    ·simp at h;rw [h.2];rw [hQl] at hle;exact hle
   have hmlt:mb<wr.heap.size:=(World.ownsRow.lt hmo mb rfl).2
   obtain ⟨y,hy⟩:∃ y,y=M[j]:=⟨_,rfl⟩
   have hym:y∈M:=by rw [hy];exact List.getElem_mem hjn
   have HMJ:Hid (s.moves[j]?=some y.m):=by
    unfold Hid
    rw [show s.moves=M.map (·.m) from Hm.out.symm,List.getElem?_map,List.getElem?_eq_getElem hjn,← hy]
    rfl
   rw [← hy] at hrng
   unfold Pro.aR at hrng
   have HY:Hid _:=hy
   have HQL:Hid _:=hQl
   clear hQl
   have HG:Hid _:=G
   have hgl:=G.glt.2
   clear hmo hy G
   cases ha:y.m.after with
   | false =>
    have HA:Hid _:=ha
    go_wp2_with (first
     | (refine wpList_load_mid rfl 295 (.tmp 37) rfl mb (j*5) rfl _ _ hrng Tryz.underlying295 rfl Tryz.ka ?_)
     | (refine az rfl 295 (.tmp 3) (.tmp 38) rfl 295 _ _ rfl rfl Tryz.ka rfl rfl ?_)
     | fail)
    have hbk:Below wr.heap.size wr (wr.alloc (.cells #[.string y.m.event,.bool false,.int .u64 y.m.delay,.string y.m.to,.slice y.v.a y.v.n y.v.c] 295)):=(Below.refl _ _).alloc (Nat.le_refl _) _
    have HG1:Hid (bO w (wr.alloc (.cells #[.string y.m.event,.bool false,.int .u64 y.m.delay,.string y.m.to,.slice y.v.a y.v.n y.v.c] 295)) B g cap X u x ve vl ⟨some ⟨mb,0,none⟩,M.length,smc⟩ (Ref.dz s (j+1)) (Ref.bJ s (j+1)) (Pro.aP M (j+1))):=by
     unfold Hid
     have e1:Ref.dz s (j+1)=Ref.dz s j:=by rw [Ref.dz,HMJ.out];simp [HA.out]
     have e2:Ref.bJ s (j+1)=Ref.bJ s j:=by rw [Ref.bJ,HMJ.out];simp [HA.out]
     rw [e1,e2,Pro.sK M j hjn (by rw [← HY.out];exact HA.out)]
     exact HG.out.ax hbk
    go_roundg (M.length-(j+1))
    case measure=>omega
    case rel=>exact ⟨j+1,ve,vl,rfl,by omega,by go_num,HG1.out⟩
   | true =>
    have HA:Hid _:=ha
    go_wp2_with (first
     | (refine wpList_load_mid rfl 295 (.tmp 37) rfl mb (j*5) rfl _ _ hrng Tryz.underlying295 rfl Tryz.ka ?_)
     | (refine az rfl 295 (.tmp 3) (.tmp 38) rfl 295 _ _ rfl rfl Tryz.ka rfl rfl ?_)
     | (refine az rfl 327 (.tmp 4) (.tmp 44) rfl 327 _ _ rfl rfl Tryz.xw rfl rfl ?_)
     | fail)
    obtain ⟨i0,hi,hz0,hz1,hz2⟩:=info_parts Tryz.kL
    have hev0:y.m.event.size≠0:=Hev.out y hym ha
    have HV1:Hid _:=C2 hev0
    have HV2:Hid _:=AL y.m
    have hil:=oJ s j
    have hol:=mL s j
    clear hev0 hrng
    obtain ⟨W2,hW2⟩:∃ z,z=(wr.alloc (.cells #[.string y.m.event,.bool true,.int .u64 y.m.delay,.string y.m.to,.slice y.v.a y.v.n y.v.c] 295)).alloc (.cells #[.string y.m.event] 327):=⟨_,rfl⟩
    have hm2:W2.heap[wr.heap.size]?=some (.cells #[.string y.m.event,.bool true,.int .u64 y.m.delay,.string y.m.to,.slice y.v.a y.v.n y.v.c] 295 (0,0)):=by rw [hW2];exact fh _ _ _
    have ht2:W2.heap[wr.heap.size+1]?=some (.cells #[.string y.m.event] 327 (0,0)):=by rw [hW2];exact bE _ _ _
    have hb2:Below wr.heap.size wr W2:=by rw [hW2];exact ((Below.refl _ _).alloc (Nat.le_refl _) _).alloc (by simp) _
    have hsz2:wr.heap.size+2≤W2.heap.size:=by rw [hW2];simp
    have hsz2b:W2.heap.size≤wr.heap.size+2:=by rw [hW2];simp
    have HCS:Hid (∀ W,Below W2.heap.size W2 W→W.cell? ⟨g,u*8+5,none⟩=some (.slice ve.a ve.n ve.c)∧W.cell? ⟨wr.heap.size+1,0,none⟩=some (.string y.m.event)∧W.cell? ⟨wr.heap.size,0,none⟩=some (.string y.m.event)∧W.cell? ⟨wr.heap.size,2,none⟩=some (.int .u64 y.m.delay)):=by
     intro W hb
     have h1:=(hb.block _ (by omega)).trans hm2
     have h2:=(hb.block _ (by omega)).trans ht2
     refine ⟨(((HG.out.ax hb2).ax hb).cell hu 5 (by decide)).trans rfl,?_,?_,?_⟩
     ·rw [cell_of_row W _ _ _ _ _ h2];rfl
     ·rw [cell_of_row W _ _ _ _ _ h1];rfl
     ·rw [cell_of_row W _ _ _ _ _ h1];rfl
    change Code.wp _ _ _ _ ((wr.alloc (.cells #[.string y.m.event,.bool true,.int .u64 y.m.delay,.string y.m.to,.slice y.v.a y.v.n y.v.c] 295)).alloc (.cells #[.string y.m.event] 327))
    rw [← hW2]
    clear hW2 ha
    refine jZ (s:=17) (S:=(fun W=>W.cell? ⟨g,u*8+5,none⟩=some (.slice ve.a ve.n ve.c)∧W.cell? ⟨wr.heap.size+1,0,none⟩=some (.string y.m.event)∧W.cell? ⟨wr.heap.size,0,none⟩=some (.string y.m.event)∧W.cell? ⟨wr.heap.size,2,none⟩=some (.int .u64 y.m.delay))) (by kernel_rfl) (HCS.out _ (Below.refl _ _).drew) (fun hHeld => ?_)
    refine aj (i:=0) (v := .pointer (some ⟨g,u*8,none⟩)) rfl (by kernel_rfl) (by kernel_rfl) (by kernel_rfl) (fun _ _ _ h=>h) (by decide) (Or.inl ⟨by rfl,fun w _=>by go_simp;(try with_reducible rfl)⟩) hHeld ?_
    refine aj (i:=1) (v := .pointer (some ⟨g,u*8,none⟩)) rfl (by kernel_rfl) (by kernel_rfl) (by kernel_rfl) (fun _ _ _ h=>h) (by decide) (Or.inl ⟨by rfl,fun w _=>by go_simp;(try with_reducible rfl)⟩) hHeld ?_
    refine aj (i:=2) (v := .pointer (some ⟨g,u*8,none⟩)) rfl (by kernel_rfl) (by kernel_rfl) (by kernel_rfl) (fun _ _ _ h=>h) (by decide) (Or.inl ⟨by rfl,fun w _=>by go_simp;(try with_reducible rfl)⟩) hHeld ?_
    refine aj (i:=3) (v := .pointer (some ⟨g,u*8+5,none⟩)) rfl (by kernel_rfl) (by kernel_rfl) (by kernel_rfl) (fun _ _ _ h=>h) (by decide) (Or.inl ⟨by rfl,fun w _=>by go_simp;(try with_reducible rfl)⟩) hHeld ?_
    refine cU (i:=4) (v := .slice ve.a ve.n ve.c) rfl (by kernel_rfl) (by kernel_rfl) (by kernel_rfl) (fun _ _ _ h=>h) rfl (by kernel_rfl) (by kernel_rfl) (Or.inl ⟨by rfl,fun w hSw=>by (try dsimp only at hSw);go_simp;(try with_reducible rfl)⟩) hHeld ?_
    refine cU (i:=5) (v := .agg #[.string y.m.event]) rfl (by kernel_rfl) (by kernel_rfl) (by kernel_rfl) (fun _ _ _ h=>h) rfl (by kernel_rfl) (by kernel_rfl) (Or.inl ⟨by rfl,fun w hSw=>by (try dsimp only at hSw);go_simp;(try with_reducible rfl)⟩) hHeld ?_
    refine aj (i:=6) (v := .pointer (some ⟨wr.heap.size,2,none⟩)) rfl (by kernel_rfl) (by kernel_rfl) (by kernel_rfl) (fun _ _ _ h=>h) (by decide) (Or.inl ⟨by rfl,fun w _=>by go_simp;(try with_reducible rfl)⟩) hHeld ?_
    refine cU (i:=7) (v := .int .u64 y.m.delay) rfl (by kernel_rfl) (by kernel_rfl) (by kernel_rfl) (fun _ _ _ h=>h) rfl (by kernel_rfl) (by kernel_rfl) (Or.inl ⟨by rfl,fun w hSw=>by (try dsimp only at hSw);go_simp;(try with_reducible rfl)⟩) hHeld ?_
    refine aj (i:=8) (v := .agg #[.string y.m.event,.int .u64 y.m.delay]) rfl (by kernel_rfl) (by kernel_rfl) (by kernel_rfl) (fun _ _ _ h=>h) (by decide) (Or.inl ⟨by rfl,fun w _=>by go_simp;(try with_reducible rfl)⟩) hHeld ?_
    refine aj (i:=9) (v := .pointer (some ⟨wr.heap.size,0,none⟩)) rfl (by kernel_rfl) (by kernel_rfl) (by kernel_rfl) (fun _ _ _ h=>h) (by decide) (Or.inl ⟨by rfl,fun w _=>by go_simp;(try with_reducible rfl)⟩) hHeld ?_
    refine cU (i:=10) (v := .string y.m.event) rfl (by kernel_rfl) (by kernel_rfl) (by kernel_rfl) (fun _ _ _ h=>h) rfl (by kernel_rfl) (by kernel_rfl) (Or.inl ⟨by rfl,fun w hSw=>by (try dsimp only at hSw);go_simp;(try with_reducible rfl)⟩) hHeld ?_
    refine aj (i:=11) (v := .agg #[.string y.m.event,.int .u64 y.m.delay,.string y.m.event]) rfl (by kernel_rfl) (by kernel_rfl) (by kernel_rfl) (fun _ _ _ h=>h) (by decide) (Or.inl ⟨by rfl,fun w _=>by go_simp;(try with_reducible rfl)⟩) hHeld ?_
    refine aj (i:=12) (v := .iface 331 (.agg #[.string y.m.event,.int .u64 y.m.delay,.string y.m.event])) rfl (by kernel_rfl) (by kernel_rfl) (by kernel_rfl) (fun _ _ _ h=>h) (by decide) (Or.inl ⟨by rfl,fun w _=>by go_simp;(try with_reducible rfl)⟩) hHeld ?_
    refine du (rs:=[13]) (by kernel_rfl) (by simp) ?_
    refine aW.cons rfl (fun K hK => ?_) aW.nil
    go_simp
    have hbc:Below W2.heap.size W2 ((W2.alloc (.cells #[.iface 331 (.agg #[.string y.m.event,.int .u64 y.m.delay,.string y.m.event])] 324)).drew):=((Below.refl _ _).alloc (Nat.le_refl _) _).drew
    refine hK.out _ _ (HCS.out _ hbc) (fun hHeld => ?_)
    clear hK K
    refine du (rs:=[14]) (by kernel_rfl) (by simp) ?_
    refine aW.cons rfl (fun K hK => ?_) aW.nil
    refine step_append_lies _ (by rfl) _ _ _ (by rfl) w.heap.size 324 i0 _ 1 16 Tryz.underlying239 hi hz0 hz1 hz2 rfl (by decide) (.slice ve.a ve.n ve.c) (Ref.dz s j).length ((Ref.dz s j).map aZ) (by rfl) ((World.ownsRow.alloc (HG.out.ax hb2).enter _).drew) ⟨W2.heap.size,0,none⟩ 1 1 [.iface 331 (.agg #[.string y.m.event,.int .u64 y.m.delay,.string y.m.event])] (by rfl) (by rfl) (World.news_of_block (cs:=#[.iface 331 (.agg #[.string y.m.event,.int .u64 y.m.delay,.string y.m.event])]) (t:=324) (fr:=(0,0)) (heap_alloc_new W2 _)) (by simp [Value.oneCell']) (by omega) (by unfold maxLen;omega) (by omega) (by have:=(HG.out.ax hb2).ah.size;simp;omega) (W2.heap.size+1) (by simp) ?_
    intro g5 cap5 w5 hown5 hgrow hat hlt5
    have hgr:ai g w w5:=jk HG.out.ah (hb2.trans (hbc.mono hb2.size)) hgrow (fun k h=>(World.ownsRow.lt HG.out.enter k h).1)
    have hne:=(HG.out.Fi).1
    have hfar:∀ k,k=wr.heap.size∨k=wr.heap.size+1→some k≠ve.v.ownBlock:=fun k hk e=>by
     have:=(World.ownsRow.lt HG.out.enter k e.symm).2
     omega
    have hS5:w5.cell? ⟨g,u*8+5,none⟩=some (.slice ve.a ve.n ve.c)∧w5.cell? ⟨wr.heap.size+1,0,none⟩=some (.string y.m.event)∧w5.cell? ⟨wr.heap.size,0,none⟩=some (.string y.m.event)∧w5.cell? ⟨wr.heap.size,2,none⟩=some (.int .u64 y.m.delay) :=
     ⟨(hgrow.cell_far _ (by simp;omega) hne).trans hHeld.1,(hgrow.cell_far _ (by simp;omega) (hfar _ (.inr rfl))).trans hHeld.2.1,(hgrow.cell_far _ (by simp;omega) (hfar _ (.inl rfl))).trans hHeld.2.2.1,(hgrow.cell_far _ (by simp;omega) (hfar _ (.inl rfl))).trans hHeld.2.2.2⟩
    have ht5:w5.heap[wr.heap.size+1]?=some (.cells #[.string y.m.event] 327 (0,0)):=(hgrow.block _ (by simp;omega) (hfar _ (.inr rfl))).trans ((hbc.block _ (by omega)).trans ht2)
    have HG3:Hid (bO w (w5.setCell ⟨g,u*8+5,none⟩ (.slice (some ⟨g5,0,none⟩) ((Ref.dz s j).length+1) cap5)) B g cap X u x ⟨some ⟨g5,0,none⟩,(Ref.dz s j).length+1,cap5⟩ vl ⟨some ⟨mb,0,none⟩,M.length,smc⟩ (Ref.dz s j++[Ref.qP y.m]) (Ref.bJ s j) (Pro.aP M j)):=by
     unfold Hid
     refine HG.out.AM (ve':=⟨some ⟨g5,0,none⟩,(Ref.dz s j).length+1,cap5⟩) hu (hb2.trans (hbc.mono hb2.size)) hgrow (by rw [HV1.out];exact hown5) ?_
     rcases hat with h | h
     ·exact .inl h.symm
     ·exact .inr (by rw [h];simp [Ref.Sl.v,Value.ownBlock])
    have f5:w5.frozen? ⟨g,u*8+5,none⟩=false:=(hgrow.frozen_far _ (by simp;omega) hne).trans ((((Below.refl W2.heap.size W2).alloc (Nat.le_refl _) _).drew.frozen (p:=⟨g,u*8+5,none⟩) (by simp;omega)).trans ((HG.out.ax hb2).frozen _))
    have hsz5:=hgrow.size
    clear hown5 hgrow hat hgr
    refine hK.out _ _ hS5 (fun hHeld => ?_)
    clear hK K
    obtain ⟨c5,-,-,-⟩:=hS5
    refine aj (i:=15) (v := .pointer (some ⟨g,u*8,none⟩)) rfl (by kernel_rfl) (by kernel_rfl) (by kernel_rfl) (fun _ _ _ h=>h) (by decide) (Or.inl ⟨by rfl,fun w _=>by go_simp;(try with_reducible rfl)⟩) hHeld ?_
    refine aj (i:=16) (v := .pointer (some ⟨g,u*8+5,none⟩)) rfl (by kernel_rfl) (by kernel_rfl) (by kernel_rfl) (fun _ _ _ h=>h) (by decide) (Or.inl ⟨by rfl,fun w _=>by go_simp;(try with_reducible rfl)⟩) hHeld ?_
    refine iE (by kernel_rfl) ?_
    refine zA 17 rfl fun K hK => ?_
    go_simp
    refine hK _ _ ?_
    clear hK K
    refine wpAny_done (by kernel_rfl) ?_ _
    clear c5 f5 hHeld HCS hbc
    have hb5w:wr.heap.size+2<w5.heap.size:=by simp at hsz5;omega
    have ht3:(w5.setCell ⟨g,u*8+5,none⟩ (.slice (some ⟨g5,0,none⟩) ((Ref.dz s j).length+1) cap5)).heap[wr.heap.size+1]?=some (.cells #[.string y.m.event] 327 (0,0)):=by
     rw [(aa w5 g _ _).block _ (by omega)];exact ht5
    have hsz3:w5.heap.size≤(w5.setCell ⟨g,u*8+5,none⟩ (.slice (some ⟨g5,0,none⟩) ((Ref.dz s j).length+1) cap5)).heap.size:=by rw [(aa w5 g _ _).size];exact Nat.le_refl _
    have G3:=HG3.out
    clear HG3
    generalize w5.setCell ⟨g,u*8+5,none⟩ (.slice (some ⟨g5,0,none⟩) ((Ref.dz s j).length+1) cap5)=W3 at G3 ht3 hsz3 ⊢
    have HG3:Hid _:=G3
    clear G3
    have HCT:Hid (∀ W,Below W3.heap.size W3 W→W.cell? ⟨g,u*8+6,none⟩=some (.slice vl.a vl.n vl.c)∧W.cell? ⟨wr.heap.size+1,0,none⟩=some (.string y.m.event)):=by
     intro W hb
     have h2:=(hb.block _ (by omega)).trans ht3
     refine ⟨((HG3.out.ax hb).cell hu 6 (by decide)).trans rfl,?_⟩
     rw [cell_of_row W _ _ _ _ _ h2];rfl
    go_upto_region 7 with fail
    refine jZ (s:=12) (S:=(fun W=>W.cell? ⟨g,u*8+6,none⟩=some (.slice vl.a vl.n vl.c)∧W.cell? ⟨wr.heap.size+1,0,none⟩=some (.string y.m.event))) (by kernel_rfl) (HCT.out _ (Below.refl _ _).drew) (fun hHeld => ?_)
    refine aj (i:=0) (v := .pointer (some ⟨g,u*8,none⟩)) rfl (by kernel_rfl) (by kernel_rfl) (by kernel_rfl) (fun _ _ _ h=>h) (by decide) (Or.inl ⟨by rfl,fun w _=>by go_simp;(try with_reducible rfl)⟩) hHeld ?_
    refine aj (i:=1) (v := .pointer (some ⟨g,u*8,none⟩)) rfl (by kernel_rfl) (by kernel_rfl) (by kernel_rfl) (fun _ _ _ h=>h) (by decide) (Or.inl ⟨by rfl,fun w _=>by go_simp;(try with_reducible rfl)⟩) hHeld ?_
    refine aj (i:=2) (v := .pointer (some ⟨g,u*8,none⟩)) rfl (by kernel_rfl) (by kernel_rfl) (by kernel_rfl) (fun _ _ _ h=>h) (by decide) (Or.inl ⟨by rfl,fun w _=>by go_simp;(try with_reducible rfl)⟩) hHeld ?_
    refine aj (i:=3) (v := .pointer (some ⟨g,u*8+6,none⟩)) rfl (by kernel_rfl) (by kernel_rfl) (by kernel_rfl) (fun _ _ _ h=>h) (by decide) (Or.inl ⟨by rfl,fun w _=>by go_simp;(try with_reducible rfl)⟩) hHeld ?_
    refine cU (i:=4) (v := .slice vl.a vl.n vl.c) rfl (by kernel_rfl) (by kernel_rfl) (by kernel_rfl) (fun _ _ _ h=>h) rfl (by kernel_rfl) (by kernel_rfl) (Or.inl ⟨by rfl,fun w hSw=>by (try dsimp only at hSw);go_simp;(try with_reducible rfl)⟩) hHeld ?_
    refine cU (i:=5) (v := .agg #[.string y.m.event]) rfl (by kernel_rfl) (by kernel_rfl) (by kernel_rfl) (fun _ _ _ h=>h) rfl (by kernel_rfl) (by kernel_rfl) (Or.inl ⟨by rfl,fun w hSw=>by (try dsimp only at hSw);go_simp;(try with_reducible rfl)⟩) hHeld ?_
    refine aj (i:=6) (v := .agg #[.string y.m.event]) rfl (by kernel_rfl) (by kernel_rfl) (by kernel_rfl) (fun _ _ _ h=>h) (by decide) (Or.inl ⟨by rfl,fun w _=>by go_simp;(try with_reducible rfl)⟩) hHeld ?_
    refine aj (i:=7) (v := .iface 333 (.agg #[.string y.m.event])) rfl (by kernel_rfl) (by kernel_rfl) (by kernel_rfl) (fun _ _ _ h=>h) (by decide) (Or.inl ⟨by rfl,fun w _=>by go_simp;(try with_reducible rfl)⟩) hHeld ?_
    refine du (rs:=[8]) (by kernel_rfl) (by simp) ?_
    refine aW.cons rfl (fun K hK => ?_) aW.nil
    go_simp
    have hbd:Below W3.heap.size W3 ((W3.alloc (.cells #[.iface 333 (.agg #[.string y.m.event])] 324)).drew):=((Below.refl _ _).alloc (Nat.le_refl _) _).drew
    refine hK.out _ _ (HCT.out _ hbd) (fun hHeld => ?_)
    clear hK K
    refine du (rs:=[9]) (by kernel_rfl) (by simp) ?_
    refine aW.cons rfl (fun K hK => ?_) aW.nil
    refine step_append_lies _ (by rfl) _ _ _ (by rfl) w.heap.size 324 i0 _ 1 16 Tryz.underlying239 hi hz0 hz1 hz2 rfl (by decide) (.slice vl.a vl.n vl.c) (Ref.bJ s j).length ((Ref.bJ s j).map aZ) (by rfl) ((World.ownsRow.alloc HG3.out.leave _).drew) ⟨W3.heap.size,0,none⟩ 1 1 [.iface 333 (.agg #[.string y.m.event])] (by rfl) (by rfl) (World.news_of_block (cs:=#[.iface 333 (.agg #[.string y.m.event])]) (t:=324) (fr:=(0,0)) (heap_alloc_new W3 _)) (by simp [Value.oneCell']) (by omega) (by unfold maxLen;omega) (by omega) (by have:=HG3.out.ah.size;simp;omega) (W3.heap.size+1) (by simp) ?_
    intro g6 cap6 w6 hown6 hgrow6 hat6 hlt6
    have hne6:=(HG3.out.Fi).2.1
    have hgl3:=HG3.out.glt.2
    have hfar6:some (wr.heap.size+1)≠vl.v.ownBlock:=fun e=>by
     have:=(World.ownsRow.lt HG.out.leave _ e.symm).2
     omega
    have hS6:w6.cell? ⟨g,u*8+6,none⟩=some (.slice vl.a vl.n vl.c)∧w6.cell? ⟨wr.heap.size+1,0,none⟩=some (.string y.m.event) :=
     ⟨(hgrow6.cell_far _ (by simp;omega) hne6).trans hHeld.1,(hgrow6.cell_far _ (by simp;omega) hfar6).trans hHeld.2⟩
    have HG4:Hid (bO w (w6.setCell ⟨g,u*8+6,none⟩ (.slice (some ⟨g6,0,none⟩) ((Ref.bJ s j).length+1) cap6)) B g cap X u x ⟨some ⟨g5,0,none⟩,(Ref.dz s j).length+1,cap5⟩ ⟨some ⟨g6,0,none⟩,(Ref.bJ s j).length+1,cap6⟩ ⟨some ⟨mb,0,none⟩,M.length,smc⟩ (Ref.dz s j++[Ref.qP y.m]) (Ref.bJ s j++[Ref.oX y.m]) (Pro.aP M j)):=by
     unfold Hid
     refine HG3.out.AN (vl':=⟨some ⟨g6,0,none⟩,(Ref.bJ s j).length+1,cap6⟩) hu hbd hgrow6 (by rw [HV2.out];exact hown6) ?_
     rcases hat6 with h | h
     ·exact .inl h.symm
     ·exact .inr (by rw [h];simp [Ref.Sl.v,Value.ownBlock])
    have f6:w6.frozen? ⟨g,u*8+6,none⟩=false:=(hgrow6.frozen_far _ (by simp;omega) hne6).trans ((hbd.frozen (p:=⟨g,u*8+6,none⟩) (by simp;omega)).trans (HG3.out.frozen _))
    clear hown6 hgrow6 hat6
    refine hK.out _ _ hS6 (fun hHeld => ?_)
    clear hK K
    obtain ⟨c6,-⟩:=hS6
    refine aj (i:=10) (v := .pointer (some ⟨g,u*8,none⟩)) rfl (by kernel_rfl) (by kernel_rfl) (by kernel_rfl) (fun _ _ _ h=>h) (by decide) (Or.inl ⟨by rfl,fun w _=>by go_simp;(try with_reducible rfl)⟩) hHeld ?_
    refine aj (i:=11) (v := .pointer (some ⟨g,u*8+6,none⟩)) rfl (by kernel_rfl) (by kernel_rfl) (by kernel_rfl) (fun _ _ _ h=>h) (by decide) (Or.inl ⟨by rfl,fun w _=>by go_simp;(try with_reducible rfl)⟩) hHeld ?_
    refine iE (by kernel_rfl) ?_
    refine zA 12 rfl fun K hK => ?_
    go_simp
    refine hK _ _ ?_
    clear hK K
    refine wpAny_done (by kernel_rfl) ?_ _
    clear c6 f6 hHeld HCT hbd
    have G4:=HG4.out
    clear HG4
    generalize w6.setCell ⟨g,u*8+6,none⟩ (.slice (some ⟨g6,0,none⟩) ((Ref.bJ s j).length+1) cap6)=W4 at G4 ⊢
    have c7:W4.drew.cell? ⟨g,u*8+7,none⟩=some (.slice (some ⟨mb,0,none⟩) M.length smc):=(G4.cell hu 7 (by decide)).trans rfl
    have hgm:g≠mb:=fun e=>by have:=G4.Fi.2.2;rw [e] at this;exact this rfl
    have hmo4:W4.ownsRow w.heap.size 295 5 (.slice (some ⟨mb,0,none⟩) (Pro.aP M j).length smc) (Pro.aP M j).length ((Pro.aP M j).flatMap Pro.aR):=by
     have:=G4.moves
     unfold Ref.Sl.v at this
     rw [show M.length=(Pro.aP M j).length from HQL.out.symm] at this
     exact this
    have hjq:j<(Pro.aP M j).length:=by rw [HQL.out];exact hjn
    obtain ⟨v1,m1⟩:∃ v1,W4.cell? ⟨mb,j*5+1,none⟩=some (.bool v1):=by
     refine ⟨(Pro.aP M j)[j].m.after,?_⟩
     rw [hmo4.cellAt _ (by omega),Ref.iJ (f:=Pro.aR) (n:=5) (fun _=>rfl) _ j 1 (by decide) hjq];rfl
    obtain ⟨v2,m2⟩:∃ v2,W4.cell? ⟨mb,j*5+2,none⟩=some (.int .u64 v2):=by
     refine ⟨(Pro.aP M j)[j].m.delay,?_⟩
     rw [hmo4.cellAt _ (by omega),Ref.iJ (f:=Pro.aR) (n:=5) (fun _=>rfl) _ j 2 (by decide) hjq];rfl
    have fm1:W4.frozen? ⟨mb,j*5+1,none⟩=false:=World.ownsRow.frozenAt (aD hmo4 (Nat.zero_le _)) _
    have fm2:W4.frozen? ⟨mb,j*5+2,none⟩=false:=World.ownsRow.frozenAt (aD hmo4 (Nat.zero_le _)) _
    have HG5:Hid (bO w ((W4.setCell ⟨mb,j*5+1,none⟩ (.bool false)).setCell ⟨mb,j*5+2,none⟩ (.int .u64 0)).drew B g cap X u x ⟨some ⟨g5,0,none⟩,(Ref.dz s j).length+1,cap5⟩ ⟨some ⟨g6,0,none⟩,(Ref.bJ s j).length+1,cap6⟩ ⟨some ⟨mb,0,none⟩,M.length,smc⟩ (Ref.dz s (j+1)) (Ref.bJ s (j+1)) (Pro.aP M (j+1))):=by
     unfold Hid
     have hQ:=HQL.out
     have hset:=bO.El (Q:=Pro.aP M j) (mb:=mb) (cm:=smc) (j:=j) (by rw [hQ];exact G4) hjq
     rw [hQ] at hset
     have e1:Ref.dz s (j+1)=Ref.dz s j++[Ref.qP y.m]:=by rw [Ref.dz,HMJ.out];simp [HA.out]
     have e2:Ref.bJ s (j+1)=Ref.bJ s j++[Ref.oX y.m]:=by rw [Ref.bJ,HMJ.out];simp [HA.out]
     have e3:Pro.aP M (j+1)=(Pro.aP M j).set j { (Pro.aP M j)[j] with m:={ (Pro.aP M j)[j].m with after:=false,delay:=0 } }:=by
      rw [Pro.lH M j hjn,Pro.jN M j hjn hjq,← HY.out]
      congr 1
      unfold Pro.fO Pro.fW
      rw [if_pos HA.out]
     rw [e1,e2,e3]
     exact hset.ax (Below.refl _ _).drew
    clear hmo4 hjq G4 HG3 HG
    go_upto_region 8 with fail
    refine wp_region_held_drew (S:=(fun W=>W.cell? ⟨g,u*8+7,none⟩=some (.slice (some ⟨mb,0,none⟩) M.length smc))) (by kernel_rfl) c7 (fun hHeld => ?_)
    refine tH 0 (.pointer (some ⟨g,u*8,none⟩)) rfl hHeld ?_
    refine tH 1 (.pointer (some ⟨g,u*8,none⟩)) rfl hHeld ?_
    refine tH 2 (.pointer (some ⟨g,u*8+7,none⟩)) rfl hHeld ?_
    refine tH 3 (.slice (some ⟨mb,0,none⟩) M.length smc) rfl hHeld ?_
    refine tH 4 (.int .i64 j) rfl hHeld ?_
    refine tH 5 (.pointer (some ⟨g,u*8,none⟩)) rfl hHeld ?_
    refine tH 6 (.pointer (some ⟨g,u*8,none⟩)) rfl hHeld ?_
    refine tH 7 (.pointer (some ⟨g,u*8+7,none⟩)) rfl hHeld ?_
    refine tH 8 (.slice (some ⟨mb,0,none⟩) M.length smc) rfl hHeld ?_
    refine tH 9 (.int .i64 j) rfl hHeld ?_
    refine tH 10 (.pointer (some ⟨mb,j*5,none⟩)) rfl hHeld ?_
    refine tH 11 (.pointer (some ⟨mb,j*5+1,none⟩)) rfl hHeld ?_
    refine zH 12 rfl fun K hK => ?_
    go_simp
    refine hK.out _ _ (((aa W4 mb (j*5+1) (.bool false)).cell (p:=⟨g,u*8+7,none⟩) hgm).trans c7) (fun hHeld => ?_)
    clear hK K
    refine tH 13 (.pointer (some ⟨mb,j*5,none⟩)) rfl hHeld ?_
    refine tH 14 (.pointer (some ⟨mb,j*5+2,none⟩)) rfl hHeld ?_
    refine zH 15 rfl fun K hK => ?_
    go_simp
    refine hK.out _ _ (((aa (W4.setCell ⟨mb,j*5+1,none⟩ (.bool false)) mb (j*5+2) (.int .u64 0)).cell (p:=⟨g,u*8+7,none⟩) hgm).trans (((aa W4 mb (j*5+1) (.bool false)).cell (p:=⟨g,u*8+7,none⟩) hgm).trans c7)) (fun hHeld => ?_)
    clear hK K
    refine wpAnyH_done (by kernel_rfl) ?_ _
    go_wp2
    go_roundg (M.length-(j+1))
    case measure=>omega
    case rel=>exact ⟨j+1,_,_,rfl,by omega,by go_num,HG5.out⟩
  ·have hje:j=M.length:=by omega
   subst hje
   go_wp2
   go_end0
   refine ⟨rfl,ve,vl,⟨sma,M.length,smc⟩,?_⟩
   rw [Pro.uS] at G
   rw [HXX.out] at G
   exact G
end
end Go.Proofs.YtegmoddppafkfaaGreatDoor
