import Derived.Test.YtkgklodamkkpgaaGreatDoorM25
import Derived.Test.YtkgklodamkkpgaaGreatDoorCards
import Derived.Test.YtkgklodamkkpgaaGreatDoorTie
import Derived.ProofKit
import Derived.OpenShut
import Derived.Deep.DeepHandedRow
import Derived.Deep.Strs
set_option maxRecDepth 100000
set_option maxHeartbeats 8000000
namespace Go.Proofs.YtkgklodamkkpgaaGreatDoor.jumps
theorem zdW {zp:Prop} (h:zp:=by
 simp [Value.cells] at hcs;obtain ⟨rfl,rfl,rfl⟩:=hcs;exact ⟨[],rfl,fun i s hs=>(by cases hs),Nat.zero_le _⟩):zp:=h
open Go.ChangeShapes Go.WideShapes Go.ChangeAt Go.RowKit Go.Proofs
open Go.ChangeMaps (open_string shut_string)
open Go.Proofs.Tryz
theorem own:ownKnob Tryz.prog.godebug=none:=zab
theorem laidOut:laidOutB prog=true:=zab
theorem K4:Tryz.prog.cellsOf 9=1:=zab
theorem K5:Tryz.prog.cellsOf 3=1:=zab
theorem uB {H:Type}:∀ l:List ByteArray,Rows.uptoBulkAll (l.map fun x=>(.lit (.string x.data.toList):DataW H))=l.length+Fr.tot l
 | []=>by simp [Rows.uptoBulkAll,Fr.tot]
 | x::l=>by
  have ih:=uB (H:=H) l;have e:x.data.toList.length=x.size:=rfl;unfold Fr.tot at *;simp only [List.map_cons,Rows.uptoBulkAll,Rows.uptoBulk,List.length_cons,List.sum_cons,ih,e];omega
theorem uA {H:Type} (k:IntKind):∀ l:List Int,l.length<=Rows.uptoBulkAll (lits k l:List (DataW H))
 | []=>Nat.zero_le _
 | x::l=>by
  have ih:=uA (H:=H) k l;show l.length+1<=Rows.uptoBulk (.lit (.int k x):DataW H)+Rows.uptoBulkAll (lits k l:List (DataW H));simp only [Rows.uptoBulk];omega
theorem F8 (H:Type) (enc:TypeId×Value->H) (W:World) (base:Nat) (args:Array Value) (ds gs:List (DataW H)) (before:List MemPlace)
  (hval:∀ (j:Nat) t v,Tryz.f3.params[j]?=some t->args[j]?=some v->Value.okWide prog W .any base t v)
  (hW:DataW.Whole enc prog Tryz.f3.params.toList Rows.jumpsSpec.vars false W args.toList ds gs before) (hc:Rows.uptoSmall H (ds++gs)=true) (hL:laidMetH prog Rows.jumpsUptoRow.laid W) (hsh:W.ShapedOpen prog) :
  () 3 args W fun e W'=>∃ v,e = .returned v/\Rows.jumpsSpec.post enc prog Tryz.f3 false true false false W args v W':=by
 have hW':=hW;obtain ⟨p,q,hA0,hV,rfl,hfz,hnd⟩:=hW;have hA:DataW.TrodAll enc prog W 0 (fun _=>true) true Tryz.f3.params.toList args.toList ds p:=hA0;rw [params3] at hA hval;obtain ⟨v0,vs0,d0,ds0,p0,q0,hargs,rfl,rfl,h0,r0⟩:=trodAll_cons hA;obtain ⟨v1,vs1,d1,ds1,p1,q1,hargs1,rfl,rfl,h1,r1⟩:=trodAll_cons r0;obtain ⟨v2,vs2,d2,ds2,p2,q2,hargs2,rfl,rfl,h2,r2⟩:=trodAll_cons r1;obtain ⟨rfl,rfl,rfl⟩:=trodAll_nil r2;obtain rfl:args=#[v0,v1,v2]:=by cases args;simp_all
 obtain ⟨rfl,rfl⟩:=trodVars_none hV;obtain ⟨s,rfl,rfl,rfl,hz⟩:=open_string underlying9 (hval 0 9 v0 rfl rfl) h0;obtain ⟨a,n,c,rfl⟩:=okWide_slice underlying22 (hval 1 22 v1 rfl rfl);obtain ⟨ra,rn,rc,rfl⟩:=okWide_slice underlying23 (hval 2 23 v2 rfl rfl);have h2k:=h1;obtain ⟨fuel,hf⟩:=h1;have h3k:=h2;obtain ⟨fuel3,hf3⟩:=h2;clear hA0;simp only [List.append_nil,List.nil_append] at hW';have hlt:∀ x∈p1,x.block<W.heap.size:=fun x hx=>hW'.lt x (by simp [hx]);have hlt3:∀ x∈p2,x.block<W.heap.size:=fun x hx=>hW'.lt x (by simp [hx]);obtain ⟨L,rfl,hE,hbk⟩:∃ L:List ByteArray,n=L.length/\Fr.AH W a L/\L.length+Fr.tot L<=Rows.uptoBulk d1:=by
  rcases Go.Deep.open_strs underlying22 underlying9 K4 hf with ⟨hcs,hx⟩ | ⟨a,len',cap',m,Sx,hcs,_,hl,hm,hmm,hx,hcell⟩
  ·exact zdW
  ·simp [Value.cells] at hcs;obtain ⟨rfl,rfl,rfl⟩:=hcs;simp only [Prod.mk.injEq] at hx;simp only [if_true] at hmm;refine ⟨(List.range n).map Sx,zad,fun i s hs => ?_,?_⟩
   ·have hi:i<n:=by have:=(List.getElem?_eq_some_iff.1 hs).1;simpa using this
    obtain rfl:Sx i=s:=by simpa [hi] using hs
    obtain ⟨b,off,spot⟩:=a;obtain rfl:spot=none:=by simpa [Addr.add] using World.cell?_spot (hcell 0 zaa).1
    exact ⟨b,off,rfl,by rw [<- add_plain];exact (hcell i zaa).1⟩
   ·rw [hx.1];have e:=uB (H:=H) ((List.range n).map Sx);rw [List.map_map] at e;simp only [Rows.uptoBulk];have e2:((List.range n).map fun i=>(.lit (.string (Sx i).data.toList):DataW H))=(List.range n).map ((fun x:ByteArray=>(.lit (.string x.data.toList):DataW H)) ∘ Sx):=rfl;rw [e2,e];omega
 obtain ⟨T,rfl,hI,hbi⟩:∃ T:List Int,rn=T.length/\Fr.DD W ra T/\T.length<=Rows.uptoBulk d2:=by
  rcases open_ints underlying23 underlying3 K5 hf3 with ⟨hcs,hx⟩ | ⟨a,len',cap',zs,hcs,_,hl,hm,hzl,hx,hcell,_⟩
  ·exact zdW
  ·simp [Value.cells] at hcs;obtain ⟨rfl,rfl,rfl⟩:=hcs;simp only [Prod.mk.injEq] at hx;simp only [if_true] at hzl;refine ⟨zs.take rn,by rw [List.length_take];omega,fun i z hz => ?_,?_⟩
   ·obtain ⟨hi,rfl⟩:=List.getElem?_eq_some_iff.1 hz;rw [List.length_take] at hi;obtain ⟨b,off,spot⟩:=a;obtain rfl:spot=none:=by simpa [Addr.add] using World.cell?_spot (hcell 0 zaa)
    refine ⟨b,off,rfl,?_⟩;rw [<- add_plain,hcell i zaa,List.getElem_take,List.getD_eq_getElem?_getD,List.getElem?_eq_getElem zaa];rfl
   ·rw [hx.1];have e:=uA (H:=H) .i64 (zs.take rn);simp only [Rows.uptoBulk];omega
 have hbd:s.size+L.length+T.length+Fr.tot L<=4194304:=by
  have hc:=of_decide_eq_true hc;simp only [List.append_nil,Rows.uptoBulkAll,Rows.uptoBulk] at hc;have e:s.data.toList.length=s.size:=rfl;omega
 have hv:=Jk hL hsh;refine (BB s a ra c rc L T W hv (fun ev hev V=>pg ev V zaa) hE hI hbd).mono fun e W' ⟨he,hb⟩ => ?_;subst he;exact ⟨_,rfl,_,_,_,[],_,[],hW',trodAll_cons_mk (shut_bool underlying4 _) trodAll_mk0,trodAll_cons_mk (shut_string underlying9 hz) (trodAll_cons_mk (Below.trod laidOut zab (of_decide_eq_true zab) h2k hb hlt) (trodAll_cons_mk (Below.trod laidOut zab (of_decide_eq_true zab) h3k hb hlt3) trodAll_mk0)),rfl,hb.frame _,fun h=>zat⟩
noncomputable def yW:DataW Unit->List Value
 | .agg ps=>ps.filterMap fun | .lit (.int k z)=>some (.int k z) | _=>none
 | _=>[]
noncomputable def L5:DataW Unit->List Value
 | .agg ps=>ps.flatMap yW
 | _=>[]
noncomputable def low:Nat:=(World.holding prog default ⟨#[],#[],[]⟩).heap.size
def LH:ByteArray:=⟨#[118,97,108,117,101,32,111,117,116,32,111,102,32,114,97,110,103,101]⟩
def MO:ByteArray:=⟨#[105,110,118,97,108,105,100,32,115,121,110,116,97,120]⟩
def putAt (h:Array Obj) (g:Nat) (cs:Array Value):Array Obj:=h.modify g fun
 | .cells _ t frozen => .cells cs t frozen
 | o=>o
noncomputable def pC (os:Os):World :=
 let w0:=World.holding prog os ⟨#[.cells #[LH] 453,.cells #[MO] 453],#[],[]⟩
 let h1:=putAt w0.heap 0 #[.iface 261 (.agg #[.pointer (some ⟨9,60,none⟩)])]
 let h2:=putAt h1 1 (yW Rows.laid_math_bits_deBruijn32tab).toArray
 let h3:=putAt h2 5 (yW Rows.laid_math_bits_deBruijn64tab).toArray
 let h4:=putAt h3 3 (yW Rows.laid_unicode_utf8_first).toArray
 let h5:=putAt h4 4 (L5 Rows.laid_unicode_utf8_acceptRanges).toArray
 let h6:=putAt h5 6 (yW Rows.laid_internal_strconv_uint64pow10).toArray
 let h7:=putAt h6 8 #[.iface 451 low]
 let h8:=putAt h7 7 #[.iface 451 (.pointer (some ⟨low+1,0,none⟩))]
 { w0 with heap:=h8 }
theorem GD (os:Os) (args:Array Value):laidMetH prog Rows.jumpsUptoRow.laid ((pC os).forCall (fun _ _=>0) ⟨#[],args,[]⟩).memory :=
 laidMetH_of_parts (laidMet_of_run' 8 zab zab) zab
theorem reads (os:Os) {H:Type} (enc:TypeId×Value->H):∃ places,DataW.whole enc prog ((pC os).forCall (fun _ _=>0) ⟨#[],#[ByteArray.empty,.slice none 0 0,.slice none 0 0],[]⟩).memory Tryz.f3.params.toList Rows.jumpsSpec.vars false #[Value.string ByteArray.empty,.slice none 0 0,.slice none 0 0].toList 8=some ([.lit (.string []),.nil,.nil],[],places) :=
 ⟨[],zab⟩
theorem lifted (os:Os) (started:os.Started) (H:Type) (enc:TypeId×Value->H) (F:Stop.Interp) :
  ReturnsInHanded {} Tryz.checked os 3 .any ((Rows.OpenSpec.upto Rows.jumpsSpec).preRow enc prog Tryz.f3 Rows.jumpsUptoRow.domain false Rows.jumpsUptoRow.laid) (((Rows.OpenSpec.upto Rows.jumpsSpec).at F).post enc prog Tryz.f3 false true false false):=by
 obtain ⟨places,hx⟩:=reads os enc;refine returnsInHanded_of_row (C:=Tryz.checked) (s:=Rows.OpenSpec.upto Rows.jumpsSpec) own started zab func3
  (witness_row_at (enc:=enc) (C:=Tryz.checked) false (pC os) #[ByteArray.empty,.slice none 0 0,.slice none 0 0] rfl zab zab zab
   (OpenSpec.preRow_of_cond 8 hx zab (fun k hk=>by cases hk;kernel_rfl) zab (GD os _))) ?_
 intro W base args ds gs before hval hW _ hc _ hL hsh _;exact F8 H enc W base args ds gs before hval hW (hc _ rfl) hL hsh
theorem closed:joinedFacts Tryz.pinned.checked.prog 3 Tryz.f3 (Rows.OpenSpec.upto Rows.jumpsSpec).bare Rows.jumpsUptoRow=true:=by
 unfold joinedFacts
 repeat' (with_reducible refine Bool.and_eq_true_iff.2 ⟨?_,?_⟩)
 all_goals as_aux_lemma=>kernel_rfl
theorem said:Rows.JumpsUptoSaid :=
 OpenClaim.holds_of_cond 3 Tryz.f3 rfl rfl rfl rfl rfl rfl rfl ⟨rfl,rfl,rfl,rfl,rfl⟩ rfl rfl rfl rfl rfl zab func3 closed
  (of_decide_eq_true zab) (by unfold Func.isWrapper;first | (rw [if_pos zaS];kernel_rfl) | (rw [if_neg zaS];exact ⟨rfl,rfl⟩))
  (fun os started H enc _ F=>by rw [OpenClaim.pre_eq_preRow];exact lifted os started H enc F)
theorem plain (f:FuncId) (fn:Func) (hf : Tryz.pinned.checked.prog.funcNamed "charts/chartskeep.Jumps" = some f) (hfn:Tryz.pinned.checked.prog.funcs[f]?=some fn) :
  true=Tryz.pinned.checked.prog.looks []/\∀ (j:Nat) t,fn.params[j]?=some t->Tryz.pinned.checked.prog.wantsStandIn t=false:=by
 obtain rfl:f=3:=Option.some.inj ((show Tryz.prog.funcNamed "charts/chartskeep.Jumps" = some 3 by kernel_rfl).symm.trans hf) |>.symm;obtain rfl:fn=Tryz.f3:=(Option.some.inj (Tryz.func3.symm.trans hfn)).symm;refine ⟨zab,fun j t ht => ?_⟩;rw [params3] at ht;have ht:t=9\/t=22\/t=23:=by simpa using Array.mem_of_getElem? ht
 rcases ht with rfl | rfl | rfl
 ·exact (show Tryz.prog.wantsStandIn 9=false by kernel_rfl)
 ·exact (show Tryz.prog.wantsStandIn 22=false by kernel_rfl)
 ·exact (show Tryz.prog.wantsStandIn 23=false by kernel_rfl)
theorem My:Rows.JumpsUptoCardSaid :=
 Claim7.holds_tied_plain_at .later [] _ _ _ _ said (fun _ h=>zat) zab (fun _ h=>zat) jumpsUpto_row_tie rfl ⟨rfl,rfl⟩ zab rfl plain zab
end Go.Proofs.YtkgklodamkkpgaaGreatDoor.jumps
namespace Go.Proofs.YtkgklodamkkpgaaGreatDoor
theorem jumps_holds:Rows.JumpsUptoCardSaid:=jumps.My
