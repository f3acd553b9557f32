import Derived.Test.YtegmoddppafkfaaGreatDoorM00
import Derived.Test.YtegmoddppafkfaaGreatDoorM19
import Derived.Test.YtegmoddppafkfaaGreatDoorM21
import Derived.Deep.RegionHeld
import Derived.Deep.WholeRow
import Derived.BigQuiet
import Derived.WalkSmall
import Derived.Deep.LoopGhost
import Derived.Deep.RegionHeld3
import Derived.Deep.RegionWith
import Derived.Deep.CutBlock
import Derived.Deep.DeepCutAuto
set_option maxRecDepth 100000
set_option maxHeartbeats 8000000
namespace Go.Proofs.YtegmoddppafkfaaGreatDoor
section
open Go
section
variable {P:Program} {ops:Array Oper} {Q:Exit→Act→World→Prop} {md:Region.Mode} {S:World→Prop} {s:Nat}
def ep (P:Program) (md:Region.Mode) (ops:Array Oper) (Q:Exit→Act→World→Prop) (S:World→Prop) (s:Nat):Nat→Array Bool→Act→World→Prop
 | 0,listed,a,w=>Region.ready md ops listed=[]∧Q .normal a w
 | fuel+1,listed,a,w =>
  (Region.ready md ops listed=[]→Q .normal a w) ∧
  ∀ i∈Region.ready md ops listed,wpOp P ops Q i (fun a' w'=>(listed.getD s true=false→i≠s→S w')∧ep P md ops Q S s fuel (listed.setIfInBounds i true) a' w') a w
theorem pS:∀ (fuel:Nat) (listed:Array Bool) (a:Act) (w:World),ep P md ops Q S s fuel listed a w→wpAny P md ops Q fuel listed a w
 | 0,_,_,_,h=>h
 | fuel+1,_,_,_,h=>⟨h.1,fun i hi=>wpOp_mono (fun a' w' h'=>pS fuel _ a' w' h'.2) (h.2 i hi)⟩
theorem iz (l:Array Bool) (s:Nat):(l.setIfInBounds s true).getD s true=true:=by
 simp only [Array.getD_eq_getD_getElem?,Array.getElem?_setIfInBounds]
 split
 ·split <;> simp
 ·rename_i h;exact absurd trivial h
theorem getD_set_true (l:Array Bool) (i s:Nat) (h:l.getD s true=true):(l.setIfInBounds i true).getD s true=true:=by
 by_cases e:i=s
 ·subst e;exact iz l i
 ·rw [getD_set_ne true e];exact h
theorem rV:∀ (fuel:Nat) (listed:Array Bool) (a:Act) (w:World),listed.getD s true=true→wpAny P md ops Q fuel listed a w→ep P md ops Q S s fuel listed a w
 | 0,_,_,_,_,h=>h
 | fuel+1,listed,_,_,hs,h=>⟨h.1,fun i hi=>wpOp_mono (fun a' w' h'=>⟨fun hf=>absurd (hs.symm.trans hf) (by decide),rV fuel _ a' w' (getD_set_true _ _ _ hs) h'⟩) (h.2 i hi)⟩
theorem qy {fuel:Nat} {listed:Array Bool} {a:Act} {w:World} (hr:Region.ready md ops listed=[s]) (h:wpAny P md ops Q (fuel+1) listed a w):ep P md ops Q S s (fuel+1) listed a w :=
 ⟨h.1,fun i hi=>by
  have e:i=s:=by rw [hr] at hi;simpa using hi
  subst e
  exact wpOp_mono (fun a' w' h'=>⟨fun _ hne=>absurd rfl hne,rV fuel _ a' w' (iz _ _) h'⟩) (h.2 i hi)⟩
theorem tT {i:Nat} {oi os:Oper} {v:Value} (hi:ops[i]?=some oi) (hsel:∀ (j:Nat) (o:Oper) cs b,ops[j]?=some o→o.op ≠ .select cs b)
  (hQ:∀ c a w,Q (.panic c) (a.put oi.dst v) w→Q (.panic c) a w) (hso:ops[s]?=some os) (hwait:∃ e∈os.after,Region.binds md e=true∧e.on=i) :
  ∀ (fuel:Nat) (listed:Array Bool) (a:Act) (w:World),
   (∀ j oj,ops[j]?=some oj→j≠i→listed.getD j true=false→(∀ e∈oj.after,Region.binds md e=true→e.on≠i)→oi.apart ops oj=true) →
   i∈Region.ready md ops listed→listed.getD s true=false→YieldsIf P ops S oi v a→S w →
   ep P md ops Q S s fuel (listed.setIfInBounds i true) (a.put oi.dst v) w→ep P md ops Q S s (fuel+1) listed a w:=by
 intro fuel
 induction fuel with
 | zero =>
  intro listed a w _ hr _ hy hS H
  refine ⟨fun h=>(by rw [h] at hr;cases hr),fun j hj => ?_⟩
  by_cases hji:j=i
  ·subst hji;exact hy.wpOp hi hS ⟨fun _ _=>hS,H⟩
  ·have:=ready_mono hj hji
   rw [H.1] at this
   cases this
 | succ fuel ih =>
  intro listed a w hfree hr hls hy hS H
  refine ⟨fun h=>(by rw [h] at hr;cases hr),fun j hj => ?_⟩
  by_cases hji:j=i
  ·subst hji;exact hy.wpOp hi hS ⟨fun _ _=>hS,H⟩
  ·have h1:=H.2 j (ready_mono hj hji)
   obtain ⟨hjun,oj,hoj,hall⟩:=mem_ready.1 hj
   have pend:∀ (o:Oper),(∀ e∈o.after,Region.binds md e=true→listed.getD e.on false=true)→∀ e∈o.after,Region.binds md e=true→e.on≠i:=fun o hall e he hb heq=>by
    have h1:=hall e he hb
    have h0:=(mem_ready.1 hr).1
    rw [heq] at h1
    rcases Nat.lt_or_ge i listed.size with h' | h'
    ·simp [h'] at h0 h1;rw [h0] at h1;cases h1
    ·simp [Array.getElem?_eq_none h'] at h1
   have hnot:=pend oj hall
   have hjs:j≠s:=fun e=>by
    subst e
    obtain ⟨x,hx,hb,hon⟩:=hwait
    rw [hso] at hoj
    cases hoj
    exact hnot x hx hb hon
   have his:i≠s:=fun e=>by
    subst e
    obtain ⟨x,hx,hb,hon⟩:=hwait
    obtain ⟨_,o',ho',hall'⟩:=mem_ready.1 hr
    rw [hso] at ho'
    cases ho'
    exact pend os hall' x hx hb hon
   have h2:=wpOp_putIf hoj (hfree j oj hoj hji hjun hnot) (fun cs b=>hsel i oi cs b hi) (fun cs b=>hsel j oj cs b hoj) hQ hy h1
   have hfree':∀ k ok,ops[k]?=some ok→k≠i→(listed.setIfInBounds j true).getD k true=false →
     (∀ e∈ok.after,Region.binds md e=true→e.on≠i)→oi.apart ops ok=true:=fun k ok hk hki hun hno=>by
    refine hfree k ok hk hki ?_ hno
    by_cases hjk:j=k
    ·subst hjk;exact hjun
    ·rw [getD_set_ne true hjk] at hun;exact hun
   refine wpOp_mono (fun a' w' h3 => ?_) h2
   have hSw:S w':=h3.2.1 (by rw [getD_set_ne true his];exact hls) hjs
   refine ⟨fun _ _=>hSw,ih (listed.setIfInBounds j true) a' w' hfree' (ready_mono hr (Ne.symm hji)) (by rw [getD_set_ne true hjs];exact hls) h3.1 hSw ?_⟩
   rw [Array.setIfInBounds_comm _ _ hji]
   exact h3.2.2
theorem jZ {i:Nat} {oi os:Oper} {v:Value} {fuel:Nat} {listed:Array Bool} {a:Act} {w:World} (hi:ops[i]?=some oi)
  (hs:Region.noSelect ops=true) (hf:Region.free md ops listed i=true) (hr:(Region.ready md ops listed).contains i=true)
  (hQ:∀ c a w,Q (.panic c) (a.put oi.dst v) w→Q (.panic c) a w) (hso:ops[s]?=some os) (hwait:(os.after.any fun e=>Region.binds md e&&e.on == i)=true) (hls:listed.getD s true=false) (hy:YieldsIf P ops S oi v a) (hS:S w)
  (h:ep P md ops Q S s fuel (listed.setIfInBounds i true) (a.put oi.dst v) w):ep P md ops Q S s (fuel+1) listed a w :=
 tT hi (Region.noSelect_spec hs) hQ hso (by
  rw [Array.any_eq_true] at hwait
  obtain ⟨k,hk,hb⟩:=hwait
  rw [Bool.and_eq_true] at hb
  exact ⟨_,Array.getElem_mem hk,hb.1,by simpa using hb.2⟩) fuel listed a w (Region.free_spec hi hf) (by simpa using hr) hls hy hS h
theorem qx {i:Nat} {oi:Oper} {v:Value} (hi:ops[i]?=some oi) (hsel:∀ (j:Nat) (o:Oper) cs b,ops[j]?=some o→o.op ≠ .select cs b)
  (hQ:∀ c a w,Q (.panic c) (a.put oi.dst v) w→Q (.panic c) a w) (his:i≠s) :
  ∀ (fuel:Nat) (listed:Array Bool) (a:Act) (w:World),
   (∀ j oj,ops[j]?=some oj→j≠i→listed.getD j true=false→(∀ e∈oj.after,Region.binds md e=true→e.on≠i)→oi.apart ops oj=true) →
   i∈Region.ready md ops listed→YieldsIf P ops (fun _=>True) oi v a→(listed.getD s true=false→S w) →
   ep P md ops Q S s fuel (listed.setIfInBounds i true) (a.put oi.dst v) w→ep P md ops Q S s (fuel+1) listed a w:=by
 intro fuel
 induction fuel with
 | zero =>
  intro listed a w _ hr hy hS H
  refine ⟨fun h=>(by rw [h] at hr;cases hr),fun j hj => ?_⟩
  by_cases hji:j=i
  ·subst hji;exact hy.wpOp hi trivial ⟨fun h _=>hS h,H⟩
  ·have:=ready_mono hj hji
   rw [H.1] at this
   cases this
 | succ fuel ih =>
  intro listed a w hfree hr hy hS H
  refine ⟨fun h=>(by rw [h] at hr;cases hr),fun j hj => ?_⟩
  by_cases hji:j=i
  ·subst hji;exact hy.wpOp hi trivial ⟨fun h _=>hS h,H⟩
  ·have h1:=H.2 j (ready_mono hj hji)
   obtain ⟨hjun,oj,hoj,hall⟩:=mem_ready.1 hj
   have hnot:∀ e∈oj.after,Region.binds md e=true→e.on≠i:=fun e he hb heq=>by
    have h1:=hall e he hb
    have h0:=(mem_ready.1 hr).1
    rw [heq] at h1
    rcases Nat.lt_or_ge i listed.size with h' | h'
    ·simp [h'] at h0 h1;rw [h0] at h1;cases h1
    ·simp [Array.getElem?_eq_none h'] at h1
   have h2:=wpOp_putIf hoj (hfree j oj hoj hji hjun hnot) (fun cs b=>hsel i oi cs b hi) (fun cs b=>hsel j oj cs b hoj) hQ hy h1
   have hfree':∀ k ok,ops[k]?=some ok→k≠i→(listed.setIfInBounds j true).getD k true=false →
     (∀ e∈ok.after,Region.binds md e=true→e.on≠i)→oi.apart ops ok=true:=fun k ok hk hki hun hno=>by
    refine hfree k ok hk hki ?_ hno
    by_cases hjk:j=k
    ·subst hjk;exact hjun
    ·rw [getD_set_ne true hjk] at hun;exact hun
   refine wpOp_mono (fun a' w' h3 => ?_) h2
   have hSw:listed.getD s true=false→j≠s→S w':=fun hl hjs=>h3.2.1 (by rw [getD_set_ne true his];exact hl) hjs
   refine ⟨hSw,ih (listed.setIfInBounds j true) a' w' hfree' (ready_mono hr (Ne.symm hji)) h3.1 (fun hl => ?_) ?_⟩
   ·by_cases hjs:j=s
    ·subst hjs;rw [iz] at hl;cases hl
    ·exact hSw (by rw [getD_set_ne true hjs] at hl;exact hl) hjs
   ·rw [Array.setIfInBounds_comm _ _ hji]
    exact h3.2.2
theorem aV {i:Nat} {oi:Oper} {v:Value} {fuel:Nat} {listed:Array Bool} {a:Act} {w:World} (hi:ops[i]?=some oi)
  (hs:Region.noSelect ops=true) (hf:Region.free md ops listed i=true) (hr:(Region.ready md ops listed).contains i=true)
  (hQ:∀ c a w,Q (.panic c) (a.put oi.dst v) w→Q (.panic c) a w) (his:i≠s) (hy:YieldsIf P ops (fun _=>True) oi v a) (hS:S w)
  (h:ep P md ops Q S s fuel (listed.setIfInBounds i true) (a.put oi.dst v) w):ep P md ops Q S s (fuel+1) listed a w :=
 qx hi (Region.noSelect_spec hs) hQ his fuel listed a w (Region.free_spec hi hf) (by simpa using hr) hy (fun _=>hS) h
def cJ (P:Program) (md:Region.Mode) (ops:Array Oper) (Q:Exit→Act→World→Prop) (S:World→Prop) (s:Nat) (fuel:Nat) (listed:Array Bool) (a:Act) (w:World) (rs:List Nat):Prop :=
 ∀ i∈rs,wpOp P ops Q i (fun a' w'=>(listed.getD s true=false→i≠s→S w')∧ep P md ops Q S s fuel (listed.setIfInBounds i true) a' w') a w
theorem cJ.nil {fuel:Nat} {listed:Array Bool} {a:Act} {w:World}:cJ P md ops Q S s fuel listed a w []:=fun _ h=>by cases h
theorem cJ.cons {fuel:Nat} {listed:Array Bool} {a:Act} {w:World} {i:Nat} {o:Oper} {rs:List Nat} (ho:ops[i]?=some o)
  (h:∀ K':Act→World→Prop,Shut (∀ a w,S w→(S w→ep P md ops Q S s fuel (listed.setIfInBounds i true) a w)→K' a w)→if Region.wanted o (yielded ops a.tmps)=true then Oper.wp P o a w K' Q else K' (a.put o.dst undef) w)
  (hs:cJ P md ops Q S s fuel listed a w rs):cJ P md ops Q S s fuel listed a w (i::rs):=fun j hj=>by
 rcases List.mem_cons.1 hj with rfl | hj
 ·exact wpOp_step ho (fun K' hK=>h K' (fun a w hS hW=>hK a w ⟨fun _ _=>hS,hW hS⟩))
 ·exact hs j hj
theorem jr {rs:List Nat} {fuel:Nat} {listed:Array Bool} {a:Act} {w:World} (hr:Region.ready md ops listed=rs) (hne:rs≠[])
  (h:cJ P md ops Q S s fuel listed a w rs):ep P md ops Q S s (fuel+1) listed a w:=⟨fun h0=>absurd (hr ▸ h0) hne,hr ▸ h⟩
theorem wj (s:Nat) {id:Nat} {a:Act} {w:World} (hm:P.follows .mixedOrders=true) (hS:S w.drew)
  (h:S w.drew→ep P .any ops Q S s ops.size (Array.replicate ops.size false) a w.drew):(Code.region id ops true).wp P Q a w :=
 wp_region_any hm (pS _ _ _ _ (h hS))
end
end
section
open Go.RowKit Go.Proofs
theorem Tryz.rD:(Tryz.prog.info? 295).map (·.size)=some 5:=by kernel_rfl
theorem EP {w:World} {base size n:Nat} {e:TypeId} {v:Ref.Sl} {xs:List Value} (h:w.ownsRow base e size v.v n xs):v.n=n:=by
 rcases h.2 with ⟨h,h0⟩ | ⟨g,cap,cur,h,_⟩
 ·simp [Ref.Sl.v] at h;rw [h0];exact h.2.1
 ·simp [Ref.Sl.v] at h;exact h.2.1
theorem uP (x:Ref.State):∀ j,(Ref.gS x j).length≤x.enter.length+j
 | 0=>Nat.le_refl _
 | j+1=>by
  have:=uP x j
  rw [Ref.gS]
  repeat' split
  all_goals (try rw [List.length_append])
  all_goals (try simp only [List.length_cons,List.length_nil])
  all_goals omega
theorem rh (x:Ref.State):∀ j,(Ref.ef x j).length≤x.leave.length+j
 | 0=>Nat.le_refl _
 | j+1=>by
  have:=rh x j
  rw [Ref.ef]
  repeat' split
  all_goals (try rw [List.length_append])
  all_goals (try simp only [List.length_cons,List.length_nil])
  all_goals omega
theorem o0 (B g cap u:Nat) (X:List Pro.DS) (x:Pro.DS) (M:List Pro.PV) (w:World)
  (hs:w.ownsRow B 242 8 (.slice (some ⟨g,0,none⟩) X.length cap) X.length (X.flatMap Pro.aK)) (hu:u<X.length) (hx:X[u]=x)
  (hM:w.ownsRow 0 295 5 x.vm.v M.length (M.flatMap Pro.bk)) (hE:w.ownsRow 0 324 1 x.ve.v x.s.enter.length (x.s.enter.map bp)) (hL:w.ownsRow 0 324 1 x.vl.v x.s.leave.length (x.s.leave.map bp))
  (hm:M.map (·.m)=x.s.moves) (hMl:M.length≤4096) (hEl:x.s.enter.length≤4096) (hLl:x.s.leave.length≤4096) (hev:∀ y∈M,y.m.after=false) :
  Calls Tryz.prog 120 #[.pointer (some ⟨g,u*8,none⟩)] w fun e w'=>e = .returned (.tuple #[])∧∃ ve vl vm,eX w w' B g cap X u x ve vl vm (Ref.gS x.s M.length) (Ref.ef x.s M.length) (M.map Pro.gF):=by
 obtain ⟨s,⟨pa,pn,pc⟩,⟨ea,en,ec⟩,⟨la,ln,lc⟩,⟨ma,mn,mc⟩⟩:=x
 obtain ⟨x,hxx⟩:∃ x:Pro.DS,x=⟨s,⟨pa,pn,pc⟩,⟨ea,en,ec⟩,⟨la,ln,lc⟩,⟨ma,mn,mc⟩⟩:=⟨_,rfl⟩
 have cells:∀ (W:World),Below w.heap.size w W→W.cell? ⟨g,u*8+5,none⟩=some (.slice ea en ec)∧W.cell? ⟨g,u*8+6,none⟩=some (.slice la ln lc)∧W.cell? ⟨g,u*8+7,none⟩=some (.slice ma mn mc):=by
  intro W hb
  have hs':=aR hs hb
  refine ⟨?_,?_,?_⟩ <;> (rw [hs'.cellAt _ (by omega),Ref.lx (f:=Pro.aK) (n:=8) (fun _=>rfl) X u _ (by decide) hu,hx];rfl)
 have froz:∀ (W:World) (j:Nat),Below w.heap.size w W→W.frozen? ⟨g,j,none⟩=false:=fun W j hb=>World.ownsRow.frozenAt (aI (aR hs hb) (Nat.zero_le _)) _
 have hEl':s.enter.length≤4096:=hEl
 have hLl':s.leave.length≤4096:=hLl
 have HS:Hid _:=hs
 have HX:Hid _:=hx
 have HXX:Hid _:=hxx
 have HM:Hid _:=hM
 have HE:Hid _:=hE
 have HL:Hid _:=hL
 have HC:Hid _:=cells
 have HF:Hid _:=froz
 have Hm:Hid _:=hm
 have Hev:Hid _:=hev
 have hgw:g<w.heap.size:=(World.ownsRow.lt hs g rfl).2
 have hb0:Below w.heap.size w w.drew:=(Below.refl _ _).drew
 have hcw:=cells w.drew hb0
 clear hs hx hxx hM hE hL cells froz hm hev
 go_enter Tryz.func120,Tryz.ntmps120
 go_upto_region 0 with fail
 refine wj (s:=20) (S:=(fun W=>W.cell? ⟨g,u*8+5,none⟩=some (.slice ea en ec)∧W.cell? ⟨g,u*8+6,none⟩=some (.slice la ln lc)∧W.cell? ⟨g,u*8+7,none⟩=some (.slice ma mn mc))) (by kernel_rfl) hcw (fun hHeld => ?_)
 refine aV (i:=0) (v := .pointer (some ⟨g,u*8,none⟩)) rfl (by kernel_rfl) (by kernel_rfl) (by kernel_rfl) (fun _ _ _ h=>h) (by decide) (Or.inl ⟨by rfl,fun w _=>by go_simp;(try with_reducible rfl)⟩) hHeld ?_
 refine aV (i:=1) (v := .pointer (some ⟨g,u*8,none⟩)) rfl (by kernel_rfl) (by kernel_rfl) (by kernel_rfl) (fun _ _ _ h=>h) (by decide) (Or.inl ⟨by rfl,fun w _=>by go_simp;(try with_reducible rfl)⟩) hHeld ?_
 refine aV (i:=2) (v := .pointer (some ⟨g,u*8,none⟩)) rfl (by kernel_rfl) (by kernel_rfl) (by kernel_rfl) (fun _ _ _ h=>h) (by decide) (Or.inl ⟨by rfl,fun w _=>by go_simp;(try with_reducible rfl)⟩) hHeld ?_
 refine aV (i:=3) (v := .pointer (some ⟨g,u*8,none⟩)) rfl (by kernel_rfl) (by kernel_rfl) (by kernel_rfl) (fun _ _ _ h=>h) (by decide) (Or.inl ⟨by rfl,fun w _=>by go_simp;(try with_reducible rfl)⟩) hHeld ?_
 refine aV (i:=8) (v := .pointer (some ⟨g,u*8,none⟩)) rfl (by kernel_rfl) (by kernel_rfl) (by kernel_rfl) (fun _ _ _ h=>h) (by decide) (Or.inl ⟨by rfl,fun w _=>by go_simp;(try with_reducible rfl)⟩) hHeld ?_
 refine aV (i:=13) (v := .pointer (some ⟨g,u*8,none⟩)) rfl (by kernel_rfl) (by kernel_rfl) (by kernel_rfl) (fun _ _ _ h=>h) (by decide) (Or.inl ⟨by rfl,fun w _=>by go_simp;(try with_reducible rfl)⟩) hHeld ?_
 refine aV (i:=4) (v := .pointer (some ⟨g,u*8,none⟩)) rfl (by kernel_rfl) (by kernel_rfl) (by kernel_rfl) (fun _ _ _ h=>h) (by decide) (Or.inl ⟨by rfl,fun w _=>by go_simp;(try with_reducible rfl)⟩) hHeld ?_
 refine aV (i:=5) (v := .pointer (some ⟨g,u*8+5,none⟩)) rfl (by kernel_rfl) (by kernel_rfl) (by kernel_rfl) (fun _ _ _ h=>h) (by decide) (Or.inl ⟨by rfl,fun w _=>by go_simp;(try with_reducible rfl)⟩) hHeld ?_
 refine jZ (i:=6) (v := .slice ea en ec) rfl (by kernel_rfl) (by kernel_rfl) (by kernel_rfl) (fun _ _ _ h=>h) rfl (by kernel_rfl) (by kernel_rfl) (Or.inl ⟨by rfl,fun w hSw=>by (try dsimp only at hSw);go_simp;(try with_reducible rfl)⟩) hHeld ?_
 refine aV (i:=9) (v := .pointer (some ⟨g,u*8,none⟩)) rfl (by kernel_rfl) (by kernel_rfl) (by kernel_rfl) (fun _ _ _ h=>h) (by decide) (Or.inl ⟨by rfl,fun w _=>by go_simp;(try with_reducible rfl)⟩) hHeld ?_
 refine aV (i:=10) (v := .pointer (some ⟨g,u*8+6,none⟩)) rfl (by kernel_rfl) (by kernel_rfl) (by kernel_rfl) (fun _ _ _ h=>h) (by decide) (Or.inl ⟨by rfl,fun w _=>by go_simp;(try with_reducible rfl)⟩) hHeld ?_
 refine jZ (i:=11) (v := .slice la ln lc) rfl (by kernel_rfl) (by kernel_rfl) (by kernel_rfl) (fun _ _ _ h=>h) rfl (by kernel_rfl) (by kernel_rfl) (Or.inl ⟨by rfl,fun w hSw=>by (try dsimp only at hSw);go_simp;(try with_reducible rfl)⟩) hHeld ?_
 refine aV (i:=14) (v := .pointer (some ⟨g,u*8,none⟩)) rfl (by kernel_rfl) (by kernel_rfl) (by kernel_rfl) (fun _ _ _ h=>h) (by decide) (Or.inl ⟨by rfl,fun w _=>by go_simp;(try with_reducible rfl)⟩) hHeld ?_
 refine aV (i:=15) (v := .pointer (some ⟨g,u*8+7,none⟩)) rfl (by kernel_rfl) (by kernel_rfl) (by kernel_rfl) (fun _ _ _ h=>h) (by decide) (Or.inl ⟨by rfl,fun w _=>by go_simp;(try with_reducible rfl)⟩) hHeld ?_
 refine jZ (i:=16) (v := .slice ma mn mc) rfl (by kernel_rfl) (by kernel_rfl) (by kernel_rfl) (fun _ _ _ h=>h) rfl (by kernel_rfl) (by kernel_rfl) (Or.inl ⟨by rfl,fun w hSw=>by (try dsimp only at hSw);go_simp;(try with_reducible rfl)⟩) hHeld ?_
 refine jr (rs:=[7]) (by kernel_rfl) (by simp) ?_
 refine cJ.cons rfl (fun K hK => ?_) cJ.nil
 go_simp
 refine Calls.mono (oD ea en ec s.enter _ (aR HE.out hb0) (by omega)) ?_
 rintro e w1 ⟨se,rfl,hE1,hb1⟩
 have hb1':Below w.heap.size w w1:=hb0.trans hb1
 dsimp only
 refine hK.out _ _ (HC.out _ hb1') (fun hHeld => ?_)
 clear hK K
 refine jr (rs:=[12]) (by kernel_rfl) (by simp) ?_
 refine cJ.cons rfl (fun K hK => ?_) cJ.nil
 go_simp
 refine Calls.mono (oD la ln lc s.leave _ (aR HL.out hb1') (by omega)) ?_
 rintro e w2 ⟨sl,rfl,hL2,hb2⟩
 have hb2':Below w.heap.size w w2:=hb1'.trans (hb2.mono hb1'.size)
 dsimp only
 refine hK.out _ _ (HC.out _ hb2') (fun hHeld => ?_)
 clear hK K
 refine jr (rs:=[17]) (by kernel_rfl) (by simp) ?_
 refine cJ.cons rfl (fun K hK => ?_) cJ.nil
 go_simp
 refine Calls.mono (wK ma mn mc M _ (aR HM.out hb2') (by omega)) ?_
 rintro e w3 ⟨⟨sma,smn,smc⟩,rfl,hM3,hb3⟩
 have hb3':Below w.heap.size w w3:=hb2'.trans (hb3.mono hb2'.size)
 dsimp only
 refine hK.out _ _ (HC.out _ hb3') (fun hHeld => ?_)
 clear hK K
 refine aV (i:=18) (v := .pointer (some ⟨g,u*8,none⟩)) rfl (by kernel_rfl) (by kernel_rfl) (by kernel_rfl) (fun _ _ _ h=>h) (by decide) (Or.inl ⟨by rfl,fun w _=>by go_simp;(try with_reducible rfl)⟩) hHeld ?_
 refine aV (i:=19) (v := .pointer (some ⟨g,u*8+5,none⟩)) rfl (by kernel_rfl) (by kernel_rfl) (by kernel_rfl) (fun _ _ _ h=>h) (by decide) (Or.inl ⟨by rfl,fun w _=>by go_simp;(try with_reducible rfl)⟩) hHeld ?_
 refine qy (by kernel_rfl) ?_
 have hap:apart se sl:=by
  unfold apart
  cases e1:se.v.ownBlock with
  | none=>exact .inl rfl
  | some k =>
   refine .inr (fun e2 => ?_)
   have h1:=(World.ownsRow.lt hE1 k e1).2
   have h2:=(World.ownsRow.lt hL2 k e2.symm).1
   omega
 have sz1:=hb1'.size
 have sz2:=hb2'.size
 have hnM:smn=M.length:=EP (v:=⟨sma,smn,smc⟩) hM3
 subst hnM
 have G0:eX w (((w3.setCell ⟨g,u*8+5,none⟩ (.slice se.a se.n se.c)).setCell ⟨g,u*8+6,none⟩ (.slice sl.a sl.n sl.c)).setCell ⟨g,u*8+7,none⟩ (.slice sma M.length smc)) B g cap X u x se sl ⟨sma,M.length,smc⟩ s.enter s.leave M:=by
  rw [HXX.out]
  exact eX.begin HS.out hu HX.out hb3' (aR (aR (aI hE1 (Nat.le_refl _)) hb2) hb3) (aR (aI hL2 sz1) hb3) (aI hM3 sz2) hap
 obtain ⟨c5,c6,c7⟩:=HC.out _ hb3'
 have f5:=HF.out w3 (u*8+5) hb3'
 have f6:=HF.out w3 (u*8+6) hb3'
 have f7:=HF.out w3 (u*8+7) hb3'
 have HG:Hid _:=G0
 clear G0 hap hE1 hL2 hM3 hb1 hb2 hb3 hHeld hcw sz1 sz2
 refine zA 20 rfl fun K hK => ?_
 go_simp
 refine hK _ _ ?_
 clear hK K
 refine wpAny_take (i:=21) (v := .pointer (some ⟨g,u*8,none⟩)) rfl (by kernel_rfl) (by kernel_rfl) (by kernel_rfl) (fun _ _ _ h=>h) (Or.inl ⟨by rfl,fun w=>by go_simp;(try with_reducible rfl)⟩) ?_
 refine wpAny_take (i:=22) (v := .pointer (some ⟨g,u*8+6,none⟩)) rfl (by kernel_rfl) (by kernel_rfl) (by kernel_rfl) (fun _ _ _ h=>h) (Or.inl ⟨by rfl,fun w=>by go_simp;(try with_reducible rfl)⟩) ?_
 refine zA 23 rfl fun K hK => ?_
 go_simp
 refine hK _ _ ?_
 clear hK K
 refine wpAny_take (i:=24) (v := .pointer (some ⟨g,u*8,none⟩)) rfl (by kernel_rfl) (by kernel_rfl) (by kernel_rfl) (fun _ _ _ h=>h) (Or.inl ⟨by rfl,fun w=>by go_simp;(try with_reducible rfl)⟩) ?_
 refine wpAny_take (i:=25) (v := .pointer (some ⟨g,u*8+7,none⟩)) rfl (by kernel_rfl) (by kernel_rfl) (by kernel_rfl) (fun _ _ _ h=>h) (Or.inl ⟨by rfl,fun w=>by go_simp;(try with_reducible rfl)⟩) ?_
 refine zA 26 rfl fun K hK => ?_
 go_simp
 refine hK _ _ ?_
 clear hK K
 refine wpAny_done (by kernel_rfl) ?_ _
 have G0:=HG.out
 clear HG c5 c6 c7 f5 f6 f7 hb3' hb2' hb1' HC HF
 generalize ((w3.setCell ⟨g,u*8+5,none⟩ (.slice se.a se.n se.c)).setCell ⟨g,u*8+6,none⟩ (.slice sl.a sl.n sl.c)).setCell ⟨g,u*8+7,none⟩ (.slice sma M.length smc)=W0 at G0 ⊢
 have c7:W0.cell? ⟨g,u*8+7,none⟩=some (.slice sma M.length smc):=(G0.cell hu 7 (by decide)).trans rfl
 have HG0:Hid _:=G0
 clear G0
 go_wp2
 go_loopg [34] M.length (fun q i wr=>∃ (j:Nat) (ve vl:Ref.Sl),q=M.length-j∧j≤M.length∧i = .int .i64 j∧eX w wr B g cap X u x ve vl ⟨sma,M.length,smc⟩ (Ref.gS s j) (Ref.ef s j) (Pro.cT M j))
 case atStart=>exact ⟨0,se,sl,rfl,Nat.zero_le _,rfl,HG0.out⟩
 case round =>
  clear c7
  obtain ⟨j,ve,vl,hq,hj,rfl,G⟩:=hrel
  by_cases hjn:j<M.length
  ·have hQl:=Pro.jP M j hj
   obtain ⟨mb,cm,hvm⟩:=Ref.gI G.moves (by omega)
   simp only [Ref.Sl.v,Value.slice.injEq] at hvm
   obtain ⟨rfl,-,rfl⟩:=hvm
   have hmo:wr.ownsRow 0 295 5 (.slice (some ⟨mb,0,none⟩) (Pro.cT M j).length smc) (Pro.cT M j).length ((Pro.cT M j).flatMap Pro.bk):=by
    have:=aI G.moves (Nat.zero_le _)
    unfold Ref.Sl.v at this
    rw [← hQl] at this
    exact this
   have hrng:=Row.range (f:=Pro.bk) (n:=5) (fun _=>rfl) hmo (by rw [hQl];exact hjn)
   rw [Pro.nA M j hjn] at hrng
   have hcm:M.length≤smc:=by
    rcases hmo.2 with ⟨h,_⟩ | ⟨g',cap',cur,h,_,_,hle,_⟩
    ·cases h
    ·simp at h;rw [h.2];rw [hQl] at hle;exact hle
   have hmlt:mb<wr.heap.size:=(World.ownsRow.lt hmo mb rfl).2
   obtain ⟨y,hy⟩:∃ y,y=M[j]:=⟨_,rfl⟩
   have hym:y∈M:=by rw [hy];exact List.getElem_mem hjn
   have HMJ:Hid (s.moves[j]?=some y.m):=by
    unfold Hid
    rw [show s.moves=M.map (·.m) from Hm.out.symm,List.getElem?_map,List.getElem?_eq_getElem hjn,← hy]
    rfl
   rw [← hy] at hrng
   unfold Pro.bk at hrng
   have HY:Hid _:=hy
   have HQL:Hid _:=hQl
   clear hQl
   have HG:Hid _:=G
   have hgl:=G.glt.2
   clear hmo hy G
   cases ha:y.m.after with
   | false =>
    have HA:Hid _:=ha
    go_wp2_with (first
     | (refine wpList_load_mid rfl 295 (.tmp 37) rfl mb (j*5) rfl _ _ hrng Tryz.underlying295 rfl Tryz.rD ?_)
     | (refine aG rfl 295 (.tmp 3) (.tmp 38) rfl 295 _ _ rfl rfl Tryz.rD rfl rfl ?_)
     | fail)
    have hbk:Below wr.heap.size wr (wr.alloc (.cells #[.string y.m.event,.bool false,.int .u64 y.m.delay,.string y.m.to,.slice y.v.a y.v.n y.v.c] 295)):=(Below.refl _ _).alloc (Nat.le_refl _) _
    have HG1:Hid (eX w (wr.alloc (.cells #[.string y.m.event,.bool false,.int .u64 y.m.delay,.string y.m.to,.slice y.v.a y.v.n y.v.c] 295)) B g cap X u x ve vl ⟨some ⟨mb,0,none⟩,M.length,smc⟩ (Ref.gS s (j+1)) (Ref.ef s (j+1)) (Pro.cT M (j+1))):=by
     unfold Hid
     have e1:Ref.gS s (j+1)=Ref.gS s j:=by rw [Ref.gS,HMJ.out];simp [HA.out]
     have e2:Ref.ef s (j+1)=Ref.ef s j:=by rw [Ref.ef,HMJ.out];simp [HA.out]
     rw [e1,e2,Pro.sX M j hjn (by rw [← HY.out];exact HA.out)]
     exact HG.out.ay hbk
    go_roundg (M.length-(j+1))
    case measure=>omega
    case rel=>exact ⟨j+1,ve,vl,rfl,by omega,by go_num,HG1.out⟩
   | true=>exact absurd ha (by rw [Hev.out y hym];decide)
  ·have hje:j=M.length:=by omega
   subst hje
   go_wp2
   go_end0
   refine ⟨rfl,ve,vl,⟨sma,M.length,smc⟩,?_⟩
   rw [Pro.vw] at G
   rw [HXX.out] at G
   exact G
end
section
open Go.RowKit
variable {w0 w:World} {db mb nm:Nat} {sv pv ov:Ref.Sl} {tm:Bool} {X:List Pro.DS} {SP:List (Int×Int)} {O:List Nat} {PT:Nat→List Nat} {D:DataW Nat}
theorem al.FF (G:al w0 w db sv pv ov mb tm X SP O PT nm D) {k:Nat} (hk:k<O.length):∃ g cap,ov=⟨some ⟨g,0,none⟩,O.length,cap⟩∧w.cell? ⟨g,k,none⟩=some (.int .i64 O[k])∧O.length≤cap:=by
 obtain ⟨g,cap,e⟩:=Ref.gI G.opens (by omega)
 have h:=G.opens
 rw [e] at h
 have hc:=Row.cell (α:=Nat) (n:=1) (j:=0) (f:=dK) (fun _=>rfl) (aI h (Nat.zero_le _)) (by decide) hk
 refine ⟨g,cap,?_,?_,?_⟩
 ·cases ov
  simp [Ref.Sl.v] at e
  simp [e.1,e.2.1,e.2.2]
 ·simpa [dK] using hc
 ·rcases h.2 with ⟨h,_⟩ | ⟨g',cap',cur,h,_,_,hle,_⟩
  ·cases h
  ·simp at h;rw [h.2];exact hle
theorem lS (num:Int) (dep:Nat) (G:al w0 w db sv pv ov mb tm X SP O PT nm D) (h:dep=0∨O.length<dep) (hd:dep≤1073741824) :
  Calls Tryz.prog 360 #[.pointer (some ⟨db,0,none⟩),.agg #[.int .i64 num,.int .i64 dep]] w (aY 3 num w):=by
 obtain ⟨c0,c1,c2,c3,c4⟩:=G.cells
 have hlt:=G.dlt
 rw [G.EO] at c2
 by_cases h0:dep=0
 ·subst h0
  go_enter Tryz.func360,Tryz.ntmps360
  go_upto_region 1 with fail
  go_quiet (fail)
  go_wp2_with fail
  refine (aL num 0 3 _).mono ?_
  rintro e w1 ⟨hb,b,h4,h5,rfl⟩
  dsimp only
  refine ⟨rfl,?_⟩
  exact ⟨(below_drewN ((Below.refl w.heap.size w).alloc (Nat.le_refl _) _) _).trans (hb.mono (by simp)),b,by simp at h4;omega,h5,rfl⟩
 ·have h1:O.length<dep:=by omega
  have hz:((dep:Int) == 0)=false:=by simp;omega
  go_enter Tryz.func360,Tryz.ntmps360
  go_upto_region 1 with fail
  go_quiet (fail)
  go_wp2_with fail
  refine (aL num dep 3 _).mono ?_
  rintro e w1 ⟨hb,b,h4,h5,rfl⟩
  dsimp only
  refine ⟨rfl,?_⟩
  exact ⟨(below_drewN ((Below.refl w.heap.size w).alloc (Nat.le_refl _) _) _).trans (hb.mono (by simp)),b,by simp at h4;omega,h5,rfl⟩
theorem ri (num:Int) (dep k:Nat) (G:al w0 w db sv pv ov mb tm X SP O PT nm D) (hk:k<O.length) (hd:dep=k+1) (hO:O.length≤1073741824) :
  Calls Tryz.prog 360 #[.pointer (some ⟨db,0,none⟩),.agg #[.int .i64 num,.int .i64 dep]] w fun e w'=>e = .returned (.int .i64 O[k])∧Below w.heap.size w w':=by
 subst hd
 obtain ⟨c0,c1,c2,c3,c4⟩:=G.cells
 obtain ⟨g,cap,rfl,cO,hcap⟩:=G.FF hk
 have hlt:=G.dlt
 have hgl:=World.block_lt_of_cell? _ _ cO
 have hz:((k:Int)+1 == 0)=false:=by simp;omega
 have hgt:decide ((O.length:Int)<(k:Int)+1)=false:=by simp;omega
 go_enter Tryz.func360,Tryz.ntmps360
 go_upto_region 1 with fail
 go_quiet (fail)
 go_wp2_with fail
 go_quiet (fail)
 go_wp2
 go_ret
 exact ⟨rfl,below_drewN (below_drewN ((Below.refl w.heap.size w).alloc (Nat.le_refl _) _) _) _⟩
theorem iC (k:Int) (w:World):Calls Tryz.prog 156 #[.int .i64 k] w fun e w'=>e = .returned (.bool (decide (k=3)||decide (k=4)))∧w'=w:=by
 by_cases h3:k=3
 ·subst h3
  go_enter Tryz.func156,Tryz.ntmps156
  go_wp2
  go_ret
  exact ⟨rfl,rfl⟩
 ·by_cases h4:k=4
  ·subst h4
   go_enter Tryz.func156,Tryz.ntmps156
   go_wp2
   go_ret
   exact ⟨rfl,rfl⟩
  ·have e3:(k == 3)=false:=by simpa using h3
   have e4:(k == 4)=false:=by simpa using h4
   go_enter Tryz.func156,Tryz.ntmps156
   go_wp2
   go_ret
   exact ⟨by simp [h3,h4],rfl⟩
variable {w0 w:World} {db mb nm:Nat} {sv pv ov:Ref.Sl} {tm:Bool} {X:List Pro.DS} {SP:List (Int×Int)} {O:List Nat} {PT:Nat→List Nat} {D:DataW Nat}
theorem Tryz.bS:(Tryz.prog.info? 242).map (·.size)=some 8:=by kernel_rfl
namespace Pro
def cH (k:Int):Bool:=decide (k=3)||decide (k=4)
def holds (x:DS) (p:List Nat) (k:Int):Bool:=if ao x.s=0 then !p.isEmpty || !cH k else if ao x.s=1 then !decide (k=2) else false
end Pro
theorem al.Az {g cap u:Nat} (G:al w0 w db ⟨some ⟨g,0,none⟩,X.length,cap⟩ pv ov mb tm X SP O PT nm D) (hu:u<X.length):w.rangeAt g (u*8) (Pro.aK X[u]) :=
 Row.range (f:=Pro.aK) (fun _=>rfl) (aI G.states (Nat.zero_le _)) hu
theorem al.EV (G:al w0 w db sv pv ov mb tm X SP O PT nm D) {u:Nat} (hu:u<X.length):X[u].vp.n=(PT u).length:=by
 rcases (G.parts u hu).2 with ⟨h,h0⟩ | ⟨g,cap,cur,h,_⟩
 ·simp [Ref.Sl.v] at h;rw [h0];exact h.2.1
 ·simp [Ref.Sl.v] at h;exact h.2.1
theorem al.zn {g cap:Nat} (G:al w0 w db ⟨some ⟨g,0,none⟩,X.length,cap⟩ pv ov mb tm X SP O PT nm D):X.length≤cap∧g<w.heap.size∧w0.heap.size≤g:=by
 rcases G.states.2 with ⟨h,_⟩ | ⟨g',cap',cur,h,hb,hg,hle,_⟩
 ·cases h
 ·simp [Ref.Sl.v] at h
  obtain ⟨rfl,rfl⟩:=h
  exact ⟨hle,(Array.getElem?_eq_some_iff.1 hg).1,hb⟩
theorem sS (k:Int):Calls Tryz.prog 361 #[.pointer (some ⟨db,0,none⟩),.int .i64 (-1),.int .i64 k] w fun e w'=>e = .returned (.bool (!Pro.cH k))∧Below w.heap.size w w':=by
 go_enter Tryz.func361,Tryz.ntmps361
 go_wp2_with fail
 refine (iC k _).mono ?_
 rintro e w9 ⟨rfl,hw9⟩
 rw [hw9]
 clear hw9 w9
 obtain ⟨h,hh⟩:∃ h,h=Pro.cH k:=⟨_,rfl⟩
 have hi:(decide (k=3)||decide (k=4))=h:=hh.symm
 rw [hi]
 have HH:Hid _:=hh
 clear hh hi
 dsimp only
 go_wp2
 go_ret
 exact ⟨by rw [← HH.out];rfl,Below.refl _ _⟩
theorem sT (k:Int) (u:Nat) (G:al w0 w db sv pv ov mb tm X SP O PT nm D) (hu:u<X.length) (hX:X.length≤1073741824):Calls Tryz.prog 361 #[.pointer (some ⟨db,0,none⟩),.int .i64 u,.int .i64 k] w fun e w'=>e = .returned (.bool (Pro.holds X[u] (PT u) k))∧Below w.heap.size w w':=by
 obtain ⟨g,cap,rfl⟩:=G.Cz (by omega)
 obtain ⟨c0,c1,c2,c3,c4⟩:=G.cells
 have hrng:=G.Az hu
 have hvp:=G.EV hu
 obtain ⟨hcap,hgl,_⟩:=G.zn
 have hdl:=G.dlt
 have hneg:((u:Int) == -1)=false:=by simp
 obtain ⟨x,hx⟩:∃ x,x=X[u]:=⟨_,rfl⟩
 rw [← hx] at hrng hvp ⊢
 clear hx G
 rw [Pro.aK,hvp] at hrng
 by_cases h0:Pro.ao x.s=0
 ·have HV:Hid (Pro.holds x (PT u) k=(!(PT u).isEmpty || !Pro.cH k)):=by unfold Hid Pro.holds;rw [if_pos h0]
  rw [h0] at hrng
  go_enter Tryz.func361,Tryz.ntmps361
  by_cases hp:0<(PT u).length
  ·go_wp2_with (first
    | (refine wpList_load_mid rfl 242 (.tmp 18) rfl g (u*8) rfl _ _ hrng Tryz.underlying242 rfl Tryz.bS ?_)
    | (refine aG rfl 242 (.tmp 7) (.tmp 19) rfl 242 _ _ rfl rfl Tryz.bS rfl rfl ?_))
   go_ret
   exact ⟨by rw [HV.out];cases hq:PT u with | nil=>simp [hq] at hp | cons a b=>rfl,(Below.refl _ _).alloc (Nat.le_refl _) _⟩
  ·have hp0:PT u=[]:=List.length_eq_zero_iff.1 (by omega)
   rw [hp0] at hrng
   go_wp2_with (first
    | (refine wpList_load_mid rfl 242 (.tmp 18) rfl g (u*8) rfl _ _ hrng Tryz.underlying242 rfl Tryz.bS ?_)
    | (refine aG rfl 242 (.tmp 7) (.tmp 19) rfl 242 _ _ rfl rfl Tryz.bS rfl rfl ?_)
    | (go_at_call 156;refine (iC k _).mono ?_;rintro e w9 ⟨rfl,hw9⟩;rw [hw9];clear hw9 w9))
   go_ret
   have e:(!decide (k=3) && !decide (k=4)) = !Pro.cH k:=by unfold Pro.cH;cases decide (k=3) <;> rfl
   refine ⟨?_,(Below.refl _ _).alloc (Nat.le_refl _) _⟩
   show Ending.returned (Value.bool (!decide (k=3) && !decide (k=4)))=_
   rw [HV.out,hp0,e];rfl
 ·by_cases h1:Pro.ao x.s=1
  ·have HV:Hid (Pro.holds x (PT u) k = !decide (k=2)):=by unfold Hid Pro.holds;rw [if_neg h0,if_pos h1]
   rw [h1] at hrng
   go_enter Tryz.func361,Tryz.ntmps361
   go_wp2_with (first
    | (refine wpList_load_mid rfl 242 (.tmp 18) rfl g (u*8) rfl _ _ hrng Tryz.underlying242 rfl Tryz.bS ?_)
    | (refine aG rfl 242 (.tmp 7) (.tmp 19) rfl 242 _ _ rfl rfl Tryz.bS rfl rfl ?_))
   go_ret
   refine ⟨?_,(Below.refl _ _).alloc (Nat.le_refl _) _⟩
   rw [HV.out]
   by_cases hk:k=2
   ·subst hk;rfl
   ·simp [hk]
  ·have HV:Hid (Pro.holds x (PT u) k=false):=by unfold Hid Pro.holds;rw [if_neg h0,if_neg h1]
   have e0:(Pro.ao x.s == 0)=false:=by simpa using h0
   have e1:(Pro.ao x.s == 1)=false:=by simpa using h1
   generalize Pro.ao x.s=kk at *
   go_enter Tryz.func361,Tryz.ntmps361
   go_wp2_with (first
    | (refine wpList_load_mid rfl 242 (.tmp 18) rfl g (u*8) rfl _ _ hrng Tryz.underlying242 rfl Tryz.bS ?_)
    | (refine aG rfl 242 (.tmp 7) (.tmp 19) rfl 242 _ _ rfl rfl Tryz.bS rfl rfl ?_))
   go_ret
   exact ⟨by rw [HV.out];rfl,(Below.refl _ _).alloc (Nat.le_refl _) _⟩
variable {w0 w:World} {db mb nm:Nat} {sv pv ov:Ref.Sl} {tm:Bool} {X:List Pro.DS} {SP:List (Int×Int)} {O:List Nat} {PT:Nat→List Nat} {D:DataW Nat}
theorem qn (num:Int) (dep:Nat) (kv:Value) (G:al w0 w db sv pv ov mb tm X SP O PT nm D) (h:dep=0∨O.length<dep) (hd:dep≤1073741824) :
  Calls Tryz.prog 367 #[.pointer (some ⟨db,0,none⟩),.agg #[.int .i64 num,.int .i64 dep],kv] w (aY 3 num w):=by
 obtain ⟨c0,c1,c2,c3,c4⟩:=G.cells
 have hdl:=G.dlt
 go_enter Tryz.func367,Tryz.ntmps367
 go_upto_region 1 with fail
 have hb1:Below w.heap.size w (w.alloc (.cells #[.int .i64 num,.int .i64 dep] 286)):=(Below.refl _ _).alloc (Nat.le_refl _) _
 have c0':(w.alloc (.cells #[.int .i64 num,.int .i64 dep] 286)).cell? ⟨db,0,none⟩=some (.slice sv.a sv.n sv.c):=by rw [World.cell?_alloc_lt _ _ ⟨db,0,none⟩ hdl];exact c0
 have G1:=(G.ay hb1).ay ((Below.refl _ _).drew)
 have hend:∀ e w1,aY 3 num ((w.alloc (.cells #[.int .i64 num,.int .i64 dep] 286)).drew) e w1→aY 3 num w e w1:=by
  rintro e w1 ⟨hb,b,h4,h5,h6⟩
  exact ⟨hb1.drew.trans (hb.mono (by simp)),b,by simp at h4;omega,h5,h6⟩
 refine wp_region_any (by kernel_rfl) ?_
 change wpAny _ _ _ _ _ _ _ (World.drew _)
 refine tA 0 (.pointer (some ⟨db,0,none⟩)) rfl ?_
 refine tA 1 (.pointer (some ⟨db,0,none⟩)) rfl ?_
 refine tA 2 (.pointer (some ⟨db,0,none⟩)) rfl ?_
 refine tA 4 (.pointer (some ⟨db,0,none⟩)) rfl ?_
 refine yA [3,5] ?_
 refine AllReady.cons rfl (fun K hK => ?_) (AllReady.cons rfl (fun K hK => ?_) AllReady.nil)
 ·go_simp
  refine hK _ _ ?_
  clear hK K
  refine zA 5 rfl fun K hK => ?_
  go_simp
  refine hK _ _ ?_
  clear hK K
  refine zA 6 rfl fun K hK => ?_
  go_simp
  (refine (lS num dep G1 h hd).mono ?_;rintro e w4 h4;obtain ⟨hb,b,h5,h6,rfl⟩:=hend _ _ h4;dsimp only;exact ⟨rfl,hb,b,h5,h6,rfl⟩)
 ·go_simp
  refine hK _ _ ?_
  clear hK K
  refine yA [3,6] ?_
  refine AllReady.cons rfl (fun K hK => ?_) (AllReady.cons rfl (fun K hK => ?_) AllReady.nil)
  ·go_simp
   refine hK _ _ ?_
   clear hK K
   refine zA 6 rfl fun K hK => ?_
   go_simp
   (refine (lS num dep G1 h hd).mono ?_;rintro e w4 h4;obtain ⟨hb,b,h5,h6,rfl⟩:=hend _ _ h4;dsimp only;exact ⟨rfl,hb,b,h5,h6,rfl⟩)
  ·go_simp
   (refine (lS num dep G1 h hd).mono ?_;rintro e w4 h4;obtain ⟨hb,b,h5,h6,rfl⟩:=hend _ _ h4;dsimp only;exact ⟨rfl,hb,b,h5,h6,rfl⟩)
def ld (num:Int) (k:Int) (ks:List Int) (p:Addr) (w:World) (e:Ending) (w':World):Prop:=if k∈ks then aY 3 num w e w' else e = .returned (.pointer (some p))∧Below w.heap.size w w'
theorem kt (num:Int) (dep k u:Nat) (ks:List Int) (kb:Nat) (g cap:Nat) (G:al w0 w db ⟨some ⟨g,0,none⟩,X.length,cap⟩ pv ov mb tm X SP O PT nm D) (hk:k<O.length) (hd:dep=k+1) (hO:O.length≤1073741824) (hku:O[k]=u) (hu:u<X.length)
  (hkb:w.heap[kb]?=some (.cells (ks.map (Value.int .i64)).toArray 238 (0,0))) (hks:ks.length≤10) :
  Calls Tryz.prog 367 #[.pointer (some ⟨db,0,none⟩),.agg #[.int .i64 num,.int .i64 dep],.slice (some ⟨kb,0,none⟩) ks.length ks.length] w (ld num (Pro.ao X[u].s) ks ⟨g,u*8,none⟩ w):=by
 obtain ⟨c0,c1,c2,c3,c4⟩:=G.cells
 have hdl:=G.dlt
 have hrng:=G.Az hu
 obtain ⟨hcap,hgl,_⟩:=G.zn
 have hkl:=(Array.getElem?_eq_some_iff.1 hkb).1
 obtain ⟨kd,hkd⟩:∃ kd,kd=Pro.ao X[u].s:=⟨_,rfl⟩
 have cK:=hrng 0 (.int .i64 kd) (by rw [hkd];rfl)
 rw [Nat.add_zero] at cK
 rw [← hkd]
 have HO:Hid (∀ W:World,W=(w.alloc (.cells #[.int .i64 num,.int .i64 dep] 286)).drew→Calls Tryz.prog 360 #[.pointer (some ⟨db,0,none⟩),.agg #[.int .i64 num,.int .i64 dep]] W fun e w'=>e = .returned (.int .i64 u)∧Below W.heap.size W w'):=by
  rintro W rfl
  rw [← hku]
  exact ri num dep k ((G.ay ((Below.refl _ _).alloc (Nat.le_refl _) _)).ay ((Below.refl _ _).drew)) hk hd hO
 clear hd hku hk hO hrng hkd G
 go_enter Tryz.func367,Tryz.ntmps367
 go_upto_region 1 with fail
 have hb1:Below w.heap.size w (w.alloc (.cells #[.int .i64 num,.int .i64 dep] 286)):=(Below.refl _ _).alloc (Nat.le_refl _) _
 have c0':(w.alloc (.cells #[.int .i64 num,.int .i64 dep] 286)).cell? ⟨db,0,none⟩=some (.slice (some ⟨g,0,none⟩) X.length cap):=by rw [World.cell?_alloc_lt _ _ ⟨db,0,none⟩ hdl];exact c0
 have p0:(w.alloc (.cells #[.int .i64 num,.int .i64 dep] 286)).cell? ⟨w.heap.size,0,none⟩=some (.int .i64 num):=by simp
 have p1:(w.alloc (.cells #[.int .i64 num,.int .i64 dep] 286)).cell? ⟨w.heap.size,1,none⟩=some (.int .i64 dep):=by simp
 have hpl:w.heap.size<(w.alloc (.cells #[.int .i64 num,.int .i64 dep] 286)).heap.size:=by simp
 obtain ⟨W1,hW1⟩:∃ y,y=w.alloc (.cells #[.int .i64 num,.int .i64 dep] 286):=⟨_,rfl⟩
 change Code.wp _ _ _ _ (w.alloc (.cells #[.int .i64 num,.int .i64 dep] 286))
 rw [← hW1] at p0 p1 hpl c0' hb1 HO ⊢
 clear hW1
 have hdl1:db<W1.heap.size:=Nat.lt_of_lt_of_le hdl hb1.size
 go_region_held3 (fun W=>W.cell? ⟨db,0,none⟩=some (.slice (some ⟨g,0,none⟩) X.length cap)∧W.cell? ⟨w.heap.size,0,none⟩=some (.int .i64 num)∧W.cell? ⟨w.heap.size,1,none⟩=some (.int .i64 dep)) (first | go_keep | exact ⟨k0,k1,k2⟩)
  ((go_at_call 360;refine (HO.out _ rfl).mono ?_;rintro e w4 ⟨rfl,hb4⟩;have k0:=(World.cell?_of_block (w:=W1.drew) (w':=w4) (a:=⟨db,0,none⟩) (hb4.block db hdl1)).trans c0';have k1:=(World.cell?_of_block (w:=W1.drew) (w':=w4) (a:=⟨w.heap.size,0,none⟩) (hb4.block w.heap.size hpl)).trans p0;have k2:=(World.cell?_of_block (w:=W1.drew) (w':=w4) (a:=⟨w.heap.size,1,none⟩) (hb4.block w.heap.size hpl)).trans p1;dsimp only))
 have hb4':Below w.heap.size w w4:=hb1.drew.trans (hb4.mono hb1.size)
 have cK4:w4.cell? ⟨g,u*8,none⟩=some (.int .i64 kd):=(World.cell?_of_block (w:=w) (hb4'.block g hgl)).trans cK
 have kb4:=(hb4'.block kb hkl).trans hkb
 have HS4:Hid _:=hb4'
 clear k0 hb4' hb4 cK hkb hgl hb1 c0' p0 p1 hpl HO hdl1 c0 c1 c2 c3 c4
 go_wp2
 go_loop [20] (fun i=>∃ j:Nat,j≤ks.length∧i = .int .i64 j∧∀ q (h:q<ks.length),q<j→¬ ks[q]=kd) (fun i=>ks.length-(intOf i).toNat)
 case atStart=>exact ⟨0,Nat.zero_le _,rfl,fun _ _ h=>by omega⟩
 case round =>
  obtain ⟨j,hj,rfl,hno⟩:=hrel
  by_cases hjn:j<ks.length
  ·have cj:w4.cell? ⟨kb,j,none⟩=some (.int .i64 ks[j]):=by
    rw [cell_of_row w4 _ j _ _ _ kb4]
    simp [List.getElem?_eq_getElem hjn]
   obtain ⟨z,hz⟩:∃ z,z=ks[j]:=⟨_,rfl⟩
   rw [← hz] at cj
   by_cases he:kd=z
   ·have hm:Hid (kd∈ks):=by rw [he,hz];exact List.getElem_mem hjn
    have he':(kd == z)=true:=by simpa using he
    clear he hz hno
    go_wp2_with fail
    refine (aL num dep 3 _).mono ?_
    rintro e w5 ⟨hb,b,h4,h5,rfl⟩
    dsimp only
    refine ⟨rfl,?_⟩
    unfold ld
    rw [if_pos hm.out]
    exact ⟨HS4.out.trans (hb.mono HS4.out.size),b,Nat.le_trans HS4.out.size h4,h5,rfl⟩
   ·have he':(kd == z)=false:=by simpa using he
    have HZ:Hid (¬ ks[j]=kd):=by rw [← hz];exact fun h=>he h.symm
    clear hz he
    go_wp2
    go_round
    case rel =>
     refine ⟨j+1,by omega,by go_num,fun q h hq => ?_⟩
     by_cases e:q=j
     ·subst e;exact HZ.out
     ·exact hno q h (by omega)
    case measure=>simp [intOf];omega
  ·have hm:Hid (¬ kd∈ks):=by
    intro h
    obtain ⟨q,hq,e⟩:=List.getElem_of_mem h
    exact hno q hq (by omega) e
   clear hno
   go_wp2
   go_ret
   unfold ld
   rw [if_neg hm.out]
   exact ⟨rfl,HS4.out⟩
end
end Go.Proofs.YtegmoddppafkfaaGreatDoor
