import Derived.Test.YtegmoddppafkfaaGreatDoorM24
import Derived.Test.YtegmoddppafkfaaGreatDoorCards
import Derived.Test.YtegmoddppafkfaaGreatDoorTie
import Derived.ProofKit
import Derived.OpenShut
import Derived.Deep.DeepHandedRow
import Derived.Deep.Strs
set_option maxRecDepth 100000
set_option maxHeartbeats 8000000
namespace Go.Proofs.YtegmoddppafkfaaGreatDoor.fires
open Go.ChangeShapes Go.WideShapes Go.ChangeAt Go.RowKit Go.Proofs Go.Proofs.Tryz
open Go.ChangeMaps (open_string shut_string)
theorem own:ownKnob Tryz.prog.godebug=none:=zab
theorem laidOut:laidOutB prog=true:=zab
theorem JE:Tryz.prog.cellsOf 9=1:=zab
theorem tI {H:Type}:∀ l:List ByteArray,Rows.uptoBulkAll (l.map fun x=>(.lit (.string x.data.toList):DataW H))=l.length+Fr.tot l
 | []=>by simp [Rows.uptoBulkAll,Fr.tot]
 | x::l=>by
  have ih:=tI (H:=H) l;have e:x.data.toList.length=x.size:=rfl;unfold Fr.tot at *;simp only [List.map_cons,Rows.uptoBulkAll,Rows.uptoBulk,List.length_cons,List.sum_cons,ih,e];omega
theorem ET (H:Type) (enc:TypeId×Value->H) (W:World) (base:Nat) (args:Array Value) (ds gs:List (DataW H)) (before:List MemPlace)
  (hval:∀ (j:Nat) t v,Tryz.f11.params[j]?=some t->args[j]?=some v->Value.okWide prog W .any base t v)
  (hW:DataW.Whole enc prog Tryz.f11.params.toList Rows.firesSpec.vars false W args.toList ds gs before) (hc:Rows.uptoSmall H (ds++gs)=true) (hL:laidMetH prog Rows.firesUptoRow.laid W) (hsh:W.ShapedOpen prog) :
  () 11 args W fun e W'=>∃ v,e = .returned v/\Rows.firesSpec.post enc prog Tryz.f11 false true false false W args v W':=by
 have hW':=hW;obtain ⟨p,q,hA0,hV,rfl,hfz,hnd⟩:=hW;have hA:DataW.TrodAll enc prog W 0 (fun _=>true) true Tryz.f11.params.toList args.toList ds p:=hA0;rw [params11] at hA hval;obtain ⟨v0,vs0,d0,ds0,p0,q0,hargs,rfl,rfl,h0,r0⟩:=trodAll_cons hA;obtain ⟨v1,vs1,d1,ds1,p1,q1,hargs1,rfl,rfl,h1,r1⟩:=trodAll_cons r0;obtain ⟨v2,vs2,d2,ds2,p2,q2,hargs2,rfl,rfl,h2,r2⟩:=trodAll_cons r1;obtain ⟨rfl,rfl,rfl⟩:=trodAll_nil r2;obtain rfl:args=#[v0,v1,v2]:=by cases args;simp_all
 obtain ⟨rfl,rfl⟩:=trodVars_none hV;obtain ⟨s,rfl,rfl,rfl,hz⟩:=open_string underlying9 (hval 0 9 v0 rfl rfl) h0;obtain ⟨z,rfl,rfl,rfl,hz2⟩:=open_int underlying3 (hval 2 3 v2 rfl rfl) h2;obtain ⟨a,n,c,rfl⟩:=okWide_slice underlying31 (hval 1 31 v1 rfl rfl);have h1k:=h1;obtain ⟨fuel,hf⟩:=h1;clear hA0;simp only [List.append_nil,List.nil_append] at hW';have hlt:∀ x∈p1,x.block<W.heap.size:=fun x hx=>by simpa using hW'.lt x hx
 obtain ⟨L,rfl,hE,hbk⟩:∃ L:List ByteArray,n=L.length/\Fr.wY W a L/\L.length+Fr.tot L<=Rows.uptoBulk d1:=by
  rcases Go.Deep.open_strs underlying31 underlying9 JE hf with ⟨hcs,hx⟩ | ⟨a,len',cap',m,Sx,hcs,_,hl,hm,hmm,hx,hcell⟩
  ·simp [Value.cells] at hcs;obtain ⟨rfl,rfl,rfl⟩:=hcs;exact ⟨[],rfl,⟨fun i s hs=>by cases hs⟩,Nat.zero_le _⟩
  ·simp [Value.cells] at hcs;obtain ⟨rfl,rfl,rfl⟩:=hcs;simp only [Prod.mk.injEq] at hx;simp only [if_true] at hmm;refine ⟨(List.range n).map Sx,zad,⟨fun i s hs => ?_⟩,?_⟩
   ·have hi:i<n:=by have:=(List.getElem?_eq_some_iff.1 hs).1;simpa using this
    obtain rfl:Sx i=s:=by simpa [hi] using hs
    obtain ⟨b,off,spot⟩:=a;obtain rfl:spot=none:=by simpa [Addr.add] using World.cell?_spot (hcell 0 zaa).1
    exact ⟨b,off,rfl,by rw [<- add_plain];exact (hcell i zaa).1⟩
   ·rw [hx.1];have e:=tI (H:=H) ((List.range n).map Sx);rw [List.map_map] at e;simp only [Rows.uptoBulk];have e2:((List.range n).map fun i=>(.lit (.string (Sx i).data.toList):DataW H))=(List.range n).map ((fun x:ByteArray=>(.lit (.string x.data.toList):DataW H)) ∘ Sx):=rfl;rw [e2,e];omega
 have hbd:s.size+L.length+Fr.tot L<=4194304:=by
  have hc:=of_decide_eq_true hc;simp only [List.append_nil,Rows.uptoBulkAll,Rows.uptoBulk] at hc;have e:s.data.toList.length=s.size:=rfl;omega
 have hv:=Hp hL hsh;refine (Ap s a c L z W hv hv.errT (World.block_lt_of_cell? _ _ hv.errT) (fun ev hev V=>oI ev V zaa) hE hbd).mono fun e W' ⟨he,hb⟩ => ?_;subst he;exact ⟨_,rfl,_,_,_,[],_,[],hW',trodAll_cons_mk (shut_bool underlying4 _) trodAll_mk0,trodAll_cons_mk (shut_string underlying9 hz) (trodAll_cons_mk (Below.trod laidOut zab (of_decide_eq_true zab) h1k hb hlt) (trodAll_cons_mk (shut_int underlying3 hz2) trodAll_mk0)),rfl,hb.frame _,fun h=>zap⟩
noncomputable def xP:DataW Unit->List Value
 | .agg ps=>ps.filterMap fun | .lit (.int k z)=>some (.int k z) | _=>none
 | _=>[]
noncomputable def Kn:DataW Unit->List Value
 | .agg ps=>ps.flatMap xP
 | _=>[]
noncomputable def low:Nat:=(World.holding prog default ⟨#[],#[],[]⟩).heap.size
def J4:ByteArray:=⟨#[118,97,108,117,101,32,111,117,116,32,111,102,32,114,97,110,103,101]⟩
def K4:ByteArray:=⟨#[105,110,118,97,108,105,100,32,115,121,110,116,97,120]⟩
def putAt (h:Array Obj) (g:Nat) (cs:Array Value):Array Obj:=h.modify g fun
 | .cells _ t frozen => .cells cs t frozen
 | o=>o
noncomputable def oS (os:Os):World :=
 let w0:=World.holding prog os ⟨#[.cells #[J4] 456,.cells #[K4] 456],#[],[]⟩
 let h1:=putAt w0.heap 0 #[.iface 269 (.agg #[.pointer (some ⟨9,101,none⟩)])]
 let h2:=putAt h1 1 (xP Rows.laid_math_bits_deBruijn32tab).toArray
 let h3:=putAt h2 2 (xP Rows.laid_math_bits_deBruijn64tab).toArray
 let h4:=putAt h3 4 (xP Rows.laid_unicode_utf8_first).toArray
 let h5:=putAt h4 5 (Kn Rows.laid_unicode_utf8_acceptRanges).toArray
 let h6:=putAt h5 6 (xP Rows.laid_internal_strconv_uint64pow10).toArray
 let h7:=putAt h6 8 #[.iface 454 low]
 let h8:=putAt h7 7 #[.iface 454 (.pointer (some ⟨low+1,0,none⟩))]
 { w0 with heap:=h8 }
theorem Fo (os:Os) (args:Array Value):laidMetH prog Rows.firesUptoRow.laid ((oS os).forCall (fun _ _=>0) ⟨#[],args,[]⟩).memory :=
 laidMetH_of_parts (laidMet_of_run' 8 zab zab) zab
theorem reads (os:Os) {H:Type} (enc:TypeId×Value->H):∃ places,DataW.whole enc prog ((oS os).forCall (fun _ _=>0) ⟨#[],#[ByteArray.empty,.slice none 0 0,(0:Int)],[]⟩).memory Tryz.f11.params.toList Rows.firesSpec.vars false #[Value.string ByteArray.empty,.slice none 0 0,(0:Int)].toList 8=some ([.lit (.string []),.nil,.lit (.int .i64 0)],[],places) :=
 ⟨[],zab⟩
theorem lifted (os:Os) (started:os.Started) (H:Type) (enc:TypeId×Value->H) (F:Stop.Interp) :
  ReturnsInHanded {} Tryz.checked os 11 .any ((Rows.OpenSpec.upto Rows.firesSpec).preRow enc prog Tryz.f11 Rows.firesUptoRow.domain false Rows.firesUptoRow.laid) (((Rows.OpenSpec.upto Rows.firesSpec).at F).post enc prog Tryz.f11 false true false false):=by
 obtain ⟨places,hx⟩:=reads os enc;refine returnsInHanded_of_row (C:=Tryz.checked) (s:=Rows.OpenSpec.upto Rows.firesSpec) own started zab func11
  (witness_row_at (enc:=enc) (C:=Tryz.checked) false (oS os) #[ByteArray.empty,.slice none 0 0,(0:Int)] rfl zab zab zab
   (OpenSpec.preRow_of_cond 8 hx zab (fun k hk=>by cases hk;kernel_rfl) zab (Fo os _))) ?_
 intro W base args ds gs before hval hW _ hc _ hL hsh _;exact ET H enc W base args ds gs before hval hW (hc _ rfl) hL hsh
theorem closed:joinedFacts Tryz.pinned.checked.prog 11 Tryz.f11 (Rows.OpenSpec.upto Rows.firesSpec).bare Rows.firesUptoRow=true:=by
 unfold joinedFacts
 repeat' (with_reducible refine Bool.and_eq_true_iff.2 ⟨?_,?_⟩)
 all_goals as_aux_lemma=>kernel_rfl
theorem said:Rows.FiresUptoSaid :=
 OpenClaim.holds_of_cond 11 Tryz.f11 rfl rfl rfl rfl rfl rfl rfl ⟨rfl,rfl,rfl,rfl,rfl⟩ rfl rfl rfl rfl rfl zab func11 closed
  (of_decide_eq_true zab) (by unfold Func.isWrapper;first | (rw [if_pos zaQ];kernel_rfl) | (rw [if_neg zaQ];exact ⟨rfl,rfl⟩))
  (fun os started H enc _ F=>by rw [OpenClaim.pre_eq_preRow];exact lifted os started H enc F)
theorem plain (f:FuncId) (fn:Func) (hf : Tryz.pinned.checked.prog.funcNamed "charts/chartskeep.Fires" = some f) (hfn:Tryz.pinned.checked.prog.funcs[f]?=some fn) :
  true=Tryz.pinned.checked.prog.looks []/\∀ (j:Nat) t,fn.params[j]?=some t->Tryz.pinned.checked.prog.wantsStandIn t=false:=by
 obtain rfl:f=11:=Option.some.inj ((show Tryz.prog.funcNamed "charts/chartskeep.Fires" = some 11 by kernel_rfl).symm.trans hf) |>.symm;obtain rfl:fn=Tryz.f11:=(Option.some.inj (Tryz.func11.symm.trans hfn)).symm;refine ⟨zab,fun j t ht => ?_⟩;rw [params11] at ht;have ht:t=9\/t=31\/t=3:=by simpa using Array.mem_of_getElem? ht
 rcases ht with rfl | rfl | rfl
 ·exact (show Tryz.prog.wantsStandIn 9=false by kernel_rfl)
 ·exact (show Tryz.prog.wantsStandIn 31=false by kernel_rfl)
 ·exact (show Tryz.prog.wantsStandIn 3=false by kernel_rfl)
theorem KO:Rows.FiresUptoCardSaid :=
 Claim7.holds_tied_plain_at .later [] _ _ _ _ said (fun _ h=>zap) zab (fun _ h=>zap) firesUpto_row_tie rfl ⟨rfl,rfl⟩ zab rfl plain zab
end Go.Proofs.YtegmoddppafkfaaGreatDoor.fires
namespace Go.Proofs.YtegmoddppafkfaaGreatDoor
theorem fires_holds:Rows.FiresUptoCardSaid:=fires.KO
