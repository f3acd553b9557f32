import Derived.Test.YtegmoddppafkfaaGreatDoorM00
import Derived.Test.YtegmoddppafkfaaGreatDoorM28
import Derived.Test.YtegmoddppafkfaaGreatDoorM38
import Derived.Test.YtegmoddppafkfaaGreatDoorM39
import Derived.Test.YtegmoddppafkfaaGreatDoorCards
import Derived.Test.YtegmoddppafkfaaGreatDoorTie
import Derived.WalkKit
import Derived.ProofKit
import Derived.OpenShut
import Derived.Deep.DeepHandedRow
import Derived.Lib.LaidTab
import Derived.ChangeMaps5
set_option maxRecDepth 100000
set_option maxHeartbeats 8000000
namespace Go.Proofs.YtegmoddppafkfaaGreatDoor.fuel
open Go.ChangeShapes Go.WideShapes Go.ChangeAt Go.RowKit Go.Proofs
theorem own:ownKnob Tryz.prog.godebug=none:=by kernel_rfl
theorem Bd (H:Type) (enc:TypeId×Value→H) (W:World) (base:Nat) (args:Array Value) (ds gs:List (DataW H)) (before:List MemPlace)
  (hval:∀ (j:Nat) t v,Tryz.f14.params[j]?=some t→args[j]?=some v→Value.okWide Tryz.prog W .any base t v)
  (hW:DataW.Whole enc Tryz.prog Tryz.f14.params.toList Rows.fuelSpec.vars false W args.toList ds gs before) (hL:laidMetH Tryz.prog Rows.fuelRow.laid W) (hsh:W.ShapedOpen Tryz.prog) :
  Calls Tryz.prog 14 args W fun e W'=>∃ v,e = .returned v∧Rows.fuelSpec.post enc Tryz.prog Tryz.f14 false true false false W args v W':=by
 have hW':=hW
 obtain ⟨p,q,hA0,hV,rfl,hfz,hnd⟩:=hW
 have hA:DataW.TrodAll enc Tryz.prog W 0 (fun _=>true) true Tryz.f14.params.toList args.toList ds p:=hA0
 rw [Tryz.params14] at hA hval
 obtain ⟨v0,vs0,d0,ds0,p0,q0,hargs,rfl,rfl,h0,r0⟩:=trodAll_cons hA
 obtain ⟨rfl,rfl,rfl⟩:=trodAll_nil r0
 obtain rfl:args=#[v0]:=by cases args;simp_all
 obtain ⟨rfl,rfl⟩:=trodVars_none hV
 obtain ⟨z,rfl,rfl,rfl,hz⟩:=open_int Tryz.underlying3 (hval 0 3 v0 rfl rfl) h0
 clear hA0
 simp only [List.append_nil] at hW'
 have hr:=hz
 simp [Lit.wf] at hr
 have m1:IntKind.i64.min = -9223372036854775808:=by kernel_rfl
 rw [m1] at hr
 have hv:=Dz hL hsh
 refine (fuel_walk z W (by omega) (by omega) (fun n hn=>Fu.E5 n hn W hv (Fu.Eg hn) (Fu.zn hn))).mono fun e W' ⟨he,hb⟩ => ?_
 subst he
 exact ⟨_,rfl,_,_,_,[],[],[],hW',trodAll_cons_mk (shut_bool Tryz.underlying4 _) trodAll_mk0,trodAll_cons_mk (shut_int Tryz.underlying3 hz) trodAll_mk0,rfl,hb.frame _,fun h=>by cases h⟩
noncomputable def uq:DataW Unit→List Value
 | .agg ps=>ps.filterMap fun | .lit (.int k z)=>some (.int k z) | _=>none
 | _=>[]
noncomputable def F0:DataW Unit→List Value
 | .agg ps=>ps.flatMap uq
 | _=>[]
noncomputable def low:Nat:=(World.holding Tryz.prog default ⟨#[],#[],[]⟩).heap.size
def FC:ByteArray:=⟨#[118,97,108,117,101,32,111,117,116,32,111,102,32,114,97,110,103,101]⟩
def GH:ByteArray:=⟨#[105,110,118,97,108,105,100,32,115,121,110,116,97,120]⟩
def putAt (h:Array Obj) (g:Nat) (cs:Array Value):Array Obj:=h.modify g fun
 | .cells _ t frozen => .cells cs t frozen
 | o=>o
noncomputable def mH (os:Os):World :=
 let w0:=World.holding Tryz.prog os ⟨#[.cells #[.string FC] 456,.cells #[.string GH] 456],#[],[]⟩
 let h1:=putAt w0.heap 0 #[.iface 269 (.agg #[.pointer (some ⟨9,101,none⟩)])]
 let h2:=putAt h1 1 (uq Rows.laid_math_bits_deBruijn32tab).toArray
 let h3:=putAt h2 2 (uq Rows.laid_math_bits_deBruijn64tab).toArray
 let h4:=putAt h3 4 (uq Rows.laid_unicode_utf8_first).toArray
 let h5:=putAt h4 5 (F0 Rows.laid_unicode_utf8_acceptRanges).toArray
 let h6:=putAt h5 6 (uq Rows.laid_internal_strconv_uint64pow10).toArray
 let h7:=putAt h6 8 #[.iface 454 (.pointer (some ⟨low,0,none⟩))]
 let h8:=putAt h7 7 #[.iface 454 (.pointer (some ⟨low+1,0,none⟩))]
 { w0 with heap:=h8 }
theorem BB (os:Os) (args:Array Value):laidMetH Tryz.prog Rows.fuelRow.laid ((mH os).forCall (fun _ _=>0) ⟨#[],args,[]⟩).memory :=
 laidMetH_of_parts (laidMet_of_run' 8 (by kernel_rfl) (by kernel_rfl)) (by kernel_rfl)
theorem reads (os:Os) {H:Type} (enc:TypeId×Value→H):∃ places,DataW.whole enc Tryz.prog ((mH os).forCall (fun _ _=>0) ⟨#[],#[.int .i64 0],[]⟩).memory Tryz.f14.params.toList Rows.fuelSpec.vars false #[Value.int .i64 0].toList 8=some ([.lit (.int .i64 0)],[],places) :=
 ⟨[],by kernel_rfl⟩
theorem lifted (os:Os) (started:os.Started) (H:Type) (enc:TypeId×Value→H) (F:Stop.Interp) :
  ReturnsInHanded {} Tryz.checked os 14 .any ((OpenSpec.ofChange Rows.fuelSpec).preRow enc Tryz.prog Tryz.f14 Rows.fuelRow.domain false Rows.fuelRow.laid) (((OpenSpec.ofChange Rows.fuelSpec).at F).post enc Tryz.prog Tryz.f14 false true false false):=by
 obtain ⟨places,hx⟩:=reads os enc
 refine returnsInHanded_of_row (C:=Tryz.checked) (s:=OpenSpec.ofChange Rows.fuelSpec) own started (by kernel_rfl) Tryz.func14
  (witness_row_at (enc:=enc) (C:=Tryz.checked) false (mH os) #[.int .i64 0] rfl (by kernel_rfl) (by kernel_rfl) (by kernel_rfl)
   (OpenSpec.preRow_of_cond 8 hx (by kernel_rfl) (fun k hk=>by cases hk) (by kernel_rfl) (BB os _))) ?_
 intro W base args ds gs before hval hW _ _ _ hL hsh _
 exact Bd H enc W base args ds gs before hval hW hL hsh
theorem closed:joinedFacts Tryz.pinned.checked.prog 14 Tryz.f14 (OpenSpec.ofChange Rows.fuelSpec).bare Rows.fuelRow=true:=by
 unfold joinedFacts
 repeat' (with_reducible refine Bool.and_eq_true_iff.2 ⟨?_,?_⟩)
 all_goals as_aux_lemma=>kernel_rfl
theorem said:Rows.FuelSaid :=
 OpenClaim.holds_of_cond 14 Tryz.f14 rfl rfl rfl rfl rfl rfl rfl ⟨rfl,rfl,rfl,rfl,rfl⟩ rfl rfl rfl rfl rfl (by kernel_rfl) Tryz.func14 closed
  (of_decide_eq_true (by kernel_rfl)) (by unfold Func.isWrapper;first | (rw [if_pos (by decide +kernel)];kernel_rfl) | (rw [if_neg (by decide +kernel)];exact ⟨rfl,rfl⟩))
  (fun os started H enc _ F=>by rw [OpenClaim.pre_eq_preRow];exact lifted os started H enc F)
theorem plain (f:FuncId) (fn:Func) (hf : Tryz.pinned.checked.prog.funcNamed "charts/chartskeep.Fuel" = some f) (hfn:Tryz.pinned.checked.prog.funcs[f]?=some fn) :
  true=Tryz.pinned.checked.prog.looks []∧∀ (j:Nat) t,fn.params[j]?=some t→Tryz.pinned.checked.prog.wantsStandIn t=false:=by
 obtain rfl:f=14:=Option.some.inj ((show Tryz.prog.funcNamed "charts/chartskeep.Fuel" = some 14 by kernel_rfl).symm.trans hf) |>.symm
 obtain rfl:fn=Tryz.f14:=(Option.some.inj (Tryz.func14.symm.trans hfn)).symm
 refine ⟨by kernel_rfl,fun j t ht => ?_⟩
 rw [Tryz.params14] at ht
 obtain rfl:t=3:=by simpa using Array.mem_of_getElem? ht
 exact (show Tryz.prog.wantsStandIn 3=false by kernel_rfl)
theorem Gn:Rows.FuelCardSaid :=
 Claim7.holds_tied_plain_at .later [] _ _ _ _ said (fun _ h=>by cases h) (by kernel_rfl) (fun _ h=>by cases h) fuel_row_tie rfl ⟨rfl,rfl⟩ (by kernel_rfl) rfl plain (by kernel_rfl)
end Go.Proofs.YtegmoddppafkfaaGreatDoor.fuel
namespace Go.Proofs.YtegmoddppafkfaaGreatDoor
theorem fuel_holds:Rows.FuelCardSaid:=fuel.Gn
end Go.Proofs.YtegmoddppafkfaaGreatDoor
