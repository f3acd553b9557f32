import Derived.Test.YtlmdcnflglmkeaaGreatDoorM00
import Derived.Test.YtlmdcnflglmkeaaGreatDoorM25
import Derived.Test.YtlmdcnflglmkeaaGreatDoorCards
import Derived.Test.YtlmdcnflglmkeaaGreatDoorTie
import Derived.WalkKit
import Derived.ProofKit
import Derived.OpenShut
import Derived.Deep.DeepHandedRow
import Derived.Lib.LaidTab
import Derived.ChangeMaps5
set_option maxRecDepth 100000
set_option maxHeartbeats 8000000
namespace Go.Proofs.YtlmdcnflglmkeaaGreatDoor.known
open Go.ChangeShapes Go.WideShapes Go.ChangeAt Go.RowKit Go.Proofs
theorem own:ownKnob Tryz.prog.godebug=none:=zab
theorem Fq (H:Type) (enc:TypeId×Value->H) (W:World) (base:Nat) (args:Array Value) (ds gs:List (DataW H)) (before:List MemPlace)
  (hval:∀ (j:Nat) t v,Tryz.f3.params[j]?=some t->args[j]?=some v->Value.okWide Tryz.prog W .any base t v)
  (hW:DataW.Whole enc Tryz.prog Tryz.f3.params.toList Rows.knownSpec.vars false W args.toList ds gs before) (hL:laidMetH Tryz.prog Rows.knownRow.laid W) (hsh:W.ShapedOpen Tryz.prog) :
  Calls Tryz.prog 3 args W fun e W'=>∃ v,e = .returned v/\Rows.knownSpec.post enc Tryz.prog Tryz.f3 false true false false W args v W':=by
 have hW':=hW;obtain ⟨p,q,hA0,hV,rfl,hfz,hnd⟩:=hW;have hA:DataW.TrodAll enc Tryz.prog W 0 (fun _=>true) true Tryz.f3.params.toList args.toList ds p:=hA0;rw [Tryz.params3] at hA hval;obtain ⟨v0,vs0,d0,ds0,p0,q0,hargs,rfl,rfl,h0,r0⟩:=trodAll_cons hA;obtain ⟨rfl,rfl,rfl⟩:=trodAll_nil r0;obtain rfl:args=#[v0]:=by cases args;simp_all
 obtain ⟨rfl,rfl⟩:=trodVars_none hV;obtain ⟨z,rfl,rfl,rfl,hz⟩:=open_int Tryz.underlying3 (hval 0 3 v0 rfl rfl) h0;clear hA0;simp only [List.append_nil] at hW';have hr:=hz;simp [Lit.wf] at hr;have m1:IntKind.i64.min = -9223372036854775808:=zab;rw [m1] at hr;have hv:=Ip hL hsh;refine (AS z W zaa zaa hv (fun ev hev V=>oX ev V zaa)).mono fun e W' ⟨he,hb⟩ => ?_;subst he;exact ⟨_,rfl,_,_,_,[],[],[],hW',trodAll_cons_mk (shut_bool Tryz.underlying4 _) trodAll_mk0,trodAll_cons_mk (shut_int Tryz.underlying3 hz) trodAll_mk0,rfl,hb.frame _,fun h=>zau⟩
noncomputable def ym:DataW Unit->List Value
 | .agg ps=>ps.filterMap fun | .lit (.int k z)=>some (.int k z) | _=>none
 | _=>[]
noncomputable def KQ:DataW Unit->List Value
 | .agg ps=>ps.flatMap ym
 | _=>[]
noncomputable def low:Nat:=(World.holding Tryz.prog default ⟨#[],#[],[]⟩).heap.size
def Ku:ByteArray:=⟨#[118,97,108,117,101,32,111,117,116,32,111,102,32,114,97,110,103,101]⟩
def LA:ByteArray:=⟨#[105,110,118,97,108,105,100,32,115,121,110,116,97,120]⟩
def putAt (h:Array Obj) (g:Nat) (cs:Array Value):Array Obj:=h.modify g fun
 | .cells _ t frozen => .cells cs t frozen
 | o=>o
noncomputable def ph (os:Os):World :=
 let w0:=World.holding Tryz.prog os ⟨#[.cells #[.string Ku] 454,.cells #[.string LA] 454],#[],[]⟩
 let h1:=putAt w0.heap 0 #[.iface 246 (.agg #[.pointer (some ⟨9,50,none⟩)])]
 let h2:=putAt h1 1 (ym Rows.laid_math_bits_deBruijn32tab).toArray
 let h3:=putAt h2 5 (ym Rows.laid_math_bits_deBruijn64tab).toArray
 let h4:=putAt h3 3 (ym Rows.laid_unicode_utf8_first).toArray
 let h5:=putAt h4 4 (KQ Rows.laid_unicode_utf8_acceptRanges).toArray
 let h6:=putAt h5 6 (ym Rows.laid_internal_strconv_uint64pow10).toArray
 let h7:=putAt h6 8 #[.iface 452 (.pointer (some ⟨low,0,none⟩))]
 let h8:=putAt h7 7 #[.iface 452 (.pointer (some ⟨low+1,0,none⟩))]
 { w0 with heap:=h8 }
theorem FP (os:Os) (args:Array Value):laidMetH Tryz.prog Rows.knownRow.laid ((ph os).forCall (fun _ _=>0) ⟨#[],args,[]⟩).memory :=
 laidMetH_of_parts (laidMet_of_run' 8 zab zab) zab
theorem reads (os:Os) {H:Type} (enc:TypeId×Value->H):∃ places,DataW.whole enc Tryz.prog ((ph os).forCall (fun _ _=>0) ⟨#[],#[.int .i64 0],[]⟩).memory Tryz.f3.params.toList Rows.knownSpec.vars false #[Value.int .i64 0].toList 8=some ([.lit (.int .i64 0)],[],places) :=
 ⟨[],zab⟩
theorem lifted (os:Os) (started:os.Started) (H:Type) (enc:TypeId×Value->H) (F:Stop.Interp) :
  ReturnsInHanded {} Tryz.checked os 3 .any ((OpenSpec.ofChange Rows.knownSpec).preRow enc Tryz.prog Tryz.f3 Rows.knownRow.domain false Rows.knownRow.laid) (((OpenSpec.ofChange Rows.knownSpec).at F).post enc Tryz.prog Tryz.f3 false true false false):=by
 obtain ⟨places,hx⟩:=reads os enc;refine returnsInHanded_of_row (C:=Tryz.checked) (s:=OpenSpec.ofChange Rows.knownSpec) own started zab Tryz.func3
  (witness_row_at (enc:=enc) (C:=Tryz.checked) false (ph os) #[.int .i64 0] rfl zab zab zab
   (OpenSpec.preRow_of_cond 8 hx zab (fun k hk=>by cases hk) zab (FP os _))) ?_
 intro W base args ds gs before hval hW _ _ _ hL hsh _;exact Fq H enc W base args ds gs before hval hW hL hsh
theorem closed:joinedFacts Tryz.pinned.checked.prog 3 Tryz.f3 (OpenSpec.ofChange Rows.knownSpec).bare Rows.knownRow=true:=by
 unfold joinedFacts
 repeat' (with_reducible refine Bool.and_eq_true_iff.2 ⟨?_,?_⟩)
 all_goals as_aux_lemma=>kernel_rfl
theorem said:Rows.KnownSaid :=
 OpenClaim.holds_of_cond 3 Tryz.f3 rfl rfl rfl rfl rfl rfl rfl ⟨rfl,rfl,rfl,rfl,rfl⟩ rfl rfl rfl rfl rfl zab Tryz.func3 closed
  (of_decide_eq_true zab) (by unfold Func.isWrapper;first | (rw [if_pos zaQ];kernel_rfl) | (rw [if_neg zaQ];exact ⟨rfl,rfl⟩))
  (fun os started H enc _ F=>by rw [OpenClaim.pre_eq_preRow];exact lifted os started H enc F)
theorem plain (f:FuncId) (fn:Func) (hf : Tryz.pinned.checked.prog.funcNamed "charts/chartskeep.Known" = some f) (hfn:Tryz.pinned.checked.prog.funcs[f]?=some fn) :
  true=Tryz.pinned.checked.prog.looks []/\∀ (j:Nat) t,fn.params[j]?=some t->Tryz.pinned.checked.prog.wantsStandIn t=false:=by
 obtain rfl:f=3:=Option.some.inj ((show Tryz.prog.funcNamed "charts/chartskeep.Known" = some 3 by kernel_rfl).symm.trans hf) |>.symm;obtain rfl:fn=Tryz.f3:=(Option.some.inj (Tryz.func3.symm.trans hfn)).symm;refine ⟨zab,fun j t ht => ?_⟩;rw [Tryz.params3] at ht;obtain rfl:t=3:=by simpa using Array.mem_of_getElem? ht
 exact (show Tryz.prog.wantsStandIn 3=false by kernel_rfl)
theorem Li:Rows.KnownCardSaid :=
 Claim7.holds_tied_plain_at .later [] _ _ _ _ said (fun _ h=>zau) zab (fun _ h=>zau) known_row_tie rfl ⟨rfl,rfl⟩ zab rfl plain zab
end Go.Proofs.YtlmdcnflglmkeaaGreatDoor.known
namespace Go.Proofs.YtlmdcnflglmkeaaGreatDoor
theorem known_holds:Rows.KnownCardSaid:=known.Li
end Go.Proofs.YtlmdcnflglmkeaaGreatDoor
