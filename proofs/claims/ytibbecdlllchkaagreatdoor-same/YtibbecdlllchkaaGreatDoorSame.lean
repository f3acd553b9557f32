import Derived.Test.YtibbecdlllchkaaGreatDoorM00
import Derived.Test.YtibbecdlllchkaaGreatDoorM26
import Derived.Test.YtibbecdlllchkaaGreatDoorCards
import Derived.Test.YtibbecdlllchkaaGreatDoorTie
import Derived.WalkKit
import Derived.ProofKit
import Derived.OpenShut
import Derived.Deep.DeepHandedRow
import Derived.Lib.LaidTab
import Derived.ChangeMaps5
import Derived.Deep.Strs
import Derived.ChangeSlices
import Derived.Carry
set_option maxRecDepth 100000
set_option maxHeartbeats 8000000
namespace Go.Proofs.YtibbecdlllchkaaGreatDoor.same
open Go.ChangeShapes Go.WideShapes Go.ChangeAt Go.RowKit Go.Proofs
open Go.ChangeMaps (open_string shut_string)
open Go.Proofs.Tryz
theorem own:ownKnob Tryz.prog.godebug=none:=by kernel_rfl
theorem laidOut:laidOutB prog=true:=by kernel_rfl
theorem Nv:Tryz.prog.cellsOf 9=1:=by kernel_rfl
theorem Nw:Tryz.prog.cellsOf 3=1:=by kernel_rfl
theorem vZ{H:Type}:∀l:List (),Rows.uptoBulkAll (l.map fun x=>(.lit (.string x.data.toList):DataW H))=l.length+F.tot l
 |[]=>by simp[Rows.uptoBulkAll,F.tot]
 |x::l=>by
  have ih:=vZ (H:=H) l
  have e:x.data.toList.length=x.size:=rfl
  unfold F.tot at *
  simp only[List.map_cons,Rows.uptoBulkAll,Rows.uptoBulk,List.length_cons,List.sum_cons,ih,e]
  omega
theorem vY{H:Type}(k:IntKind):∀l:List Int,l.length≤Rows.uptoBulkAll (lits k l:List (DataW H))
 |[]=>Nat.zero_le _
 |x::l=>by
  have ih:=vY (H:=H) k l
  show l.length+1≤Rows.uptoBulk (.lit (.int k x):DataW H)+Rows.uptoBulkAll (lits k l:List (DataW H))
  simp only[Rows.uptoBulk]
  omega
theorem IV(H:Type)(enc:TypeId×Value→H)(W:World)(base:Nat)(args:Array Value)(ds gs:List (DataW H))(before:List MemPlace)
  (hval:∀(j:Nat) t v,Tryz.f3.params[j]?=some t→args[j]?=some v→Value.okWide prog W .any base t v)
  (hW:DataW.Whole enc prog Tryz.f3.params.toList Rows.sameSpec.vars false W args.toList ds gs before) (hc:Rows.uptoSmall H (ds++gs)=true) (hL:laidMetH prog Rows.sameUptoRow.laid W) (WD:W.ShapedOpen prog):
  () 3 args W fun e W'=>∃v,e=.returned v∧Rows.sameSpec.post enc prog Tryz.f3 false true false false W args v W':=by
 have hW':=hW
 obtain⟨p,q,hA0,hV,rfl,Xj,Vi⟩:=hW
 have hA:DataW.TrodAll enc prog W 0 (fun _=>true) true Tryz.f3.params.toList args.toList ds p:=hA0
 rw[params3]at hA hval
 obtain⟨v0,vs0,d0,ds0,p0,q0,hargs,rfl,rfl,h0,r0⟩:=trodAll_cons hA
 obtain⟨v1,vs1,d1,ds1,p1,q1,hargs1,rfl,rfl,h1,r1⟩:=trodAll_cons r0
 obtain⟨v2,vs2,d2,ds2,p2,q2,hargs2,rfl,rfl,h2,r2⟩:=trodAll_cons r1
 obtain⟨rfl,rfl,rfl⟩:=trodAll_nil r2
 obtain rfl:args=#[v0,v1,v2]:=by cases args;simp_all
 obtain⟨rfl,rfl⟩:=trodVars_none hV
 obtain⟨s,rfl,rfl,rfl,hz⟩:=open_string underlying9 (hval 0 9 v0 rfl rfl) h0
 obtain⟨a,n,c,rfl⟩:=okWide_slice underlying22 (hval 1 22 v1 rfl rfl)
 obtain⟨ra,rn,rc,rfl⟩:=okWide_slice underlying23 (hval 2 23 v2 rfl rfl)
 have h2k:=h1
 obtain⟨fuel,hf⟩:=h1
 have h3k:=h2
 obtain⟨fuel3,hf3⟩:=h2
 clear hA0
 simp only[List.append_nil,List.nil_append]at hW'
 have Vd:∀x∈p1,x.block<W.heap.size:=fun x hx=>hW'.lt x (by simp[hx])
 have hlt3:∀x∈p2,x.block<W.heap.size:=fun x hx=>hW'.lt x (by simp[hx])
 obtain⟨L,rfl,hE,Wl⟩:∃L:List (),n=L.length∧F.Fl W a L∧L.length+F.tot L≤Rows.uptoBulk d1:=by
  rcases Go.Deep.open_strs underlying22 underlying9 Nv hf with⟨YJ,hx⟩|⟨a,len',cap',m,Sx,YJ,_,hl,hm,X7,hx,Wr⟩
  ·simp[Value.cells]at YJ
   obtain⟨rfl,rfl,rfl⟩:=YJ
   exact⟨[],rfl,fun i s hs=>(by cases hs),Nat.zero_le _⟩
  ·simp[Value.cells]at YJ
   obtain⟨rfl,rfl,rfl⟩:=YJ
   simp only[Prod.mk.injEq]at hx
   simp only[if_true]at X7
   refine⟨(List.range n).map Sx,by simp,fun i s hs=>?_,?_⟩
   ·have hi:i<n:=by have:=(List.getElem?_eq_some_iff.1 hs).1;simpa using this
    obtain rfl:Sx i=s:=by simpa[hi] using hs
    obtain⟨b,off,spot⟩:=a
    obtain rfl:spot=none:=by simpa[Addr.add] using World.cell?_spot (Wr 0 (by omega)).1
    exact⟨b,off,rfl,by rw[← add_plain];exact(Wr i (by omega)).1⟩
   ·rw[hx.1]
    have e:=vZ (H:=H) ((List.range n).map Sx)
    rw[List.map_map]at e
    simp only[Rows.uptoBulk]
    have e2:((List.range n).map fun i=>(.lit (.string (Sx i).data.toList):DataW H))=(List.range n).map ((fun x:()=>(.lit (.string x.data.toList):DataW H)) ∘ Sx):=rfl
    rw[e2,e]
    omega
 obtain⟨T,rfl,hI,hbi⟩:∃T:List Int,rn=T.length∧F.Hv W ra T∧T.length≤Rows.uptoBulk d2:=by
  rcases open_ints underlying23 underlying3 Nw hf3 with⟨YJ,hx⟩|⟨a,len',cap',zs,YJ,_,hl,hm,Zb,hx,Wr,_⟩
  ·simp[Value.cells]at YJ
   obtain⟨rfl,rfl,rfl⟩:=YJ
   exact⟨[],rfl,fun i s hs=>(by cases hs),Nat.zero_le _⟩
  ·simp[Value.cells]at YJ
   obtain⟨rfl,rfl,rfl⟩:=YJ
   simp only[Prod.mk.injEq]at hx
   simp only[if_true]at Zb
   refine⟨zs.take rn,by rw[List.length_take];omega,fun i z hz=>?_,?_⟩
   ·obtain⟨hi,rfl⟩:=List.getElem?_eq_some_iff.1 hz
    rw[List.length_take]at hi
    obtain⟨b,off,spot⟩:=a
    obtain rfl:spot=none:=by simpa[Addr.add] using World.cell?_spot (Wr 0 (by omega))
    refine⟨b,off,rfl,?_⟩
    rw[← add_plain,Wr i (by omega),List.getElem_take,List.getD_eq_getElem?_getD,List.getElem?_eq_getElem (by omega)]
    rfl
   ·rw[hx.1]
    have e:=vY (H:=H) .i64 (zs.take rn)
    simp only[Rows.uptoBulk]
    omega
 have WM:s.size+L.length+T.length+F.tot L≤4194304:=by
  have hc:=of_decide_eq_true hc
  simp only[List.append_nil,Rows.uptoBulkAll,Rows.uptoBulk]at hc
  have e:s.data.toList.length=s.size:=rfl
  omega
 have hv:=Ln hL WD
 refine(G7 s a ra c rc L T W hv (fun ev Wq V=>qy ev V (by omega)) hE hI WM).mono fun e W' ⟨he,hb⟩=>?_
 subst he
 exact⟨_,rfl,_,_,_,[],_,[],hW',trodAll_cons_mk (shut_bool underlying4 _) trodAll_mk0,trodAll_cons_mk (shut_string underlying9 hz) (trodAll_cons_mk (Below.trod laidOut (by kernel_rfl) (of_decide_eq_true (by kernel_rfl)) h2k hb Vd) (trodAll_cons_mk (Below.trod laidOut (by kernel_rfl) (of_decide_eq_true (by kernel_rfl)) h3k hb hlt3) trodAll_mk0)),rfl,hb.frame _,fun h=>by cases h⟩
noncomputable def Ay:DataW Unit→List Value
 |.agg ps=>ps.filterMap fun|.lit (.int k z)=>some (.int k z)|_=>none
 |_=>[]
noncomputable def OC:DataW Unit→List Value
 |.agg ps=>ps.flatMap Ay
 |_=>[]
noncomputable def low:Nat:=(World.holding prog default ⟨#[],#[],[]⟩).heap.size
def Oa:():=⟨#[118,97,108,117,101,32,111,117,116,32,111,102,32,114,97,110,103,101]⟩
def Pl:():=⟨#[105,110,118,97,108,105,100,32,115,121,110,116,97,120]⟩
def putAt(h:Array Obj)(g:Nat)(cs:Array Value):Array Obj:=h.modify g fun
 |.cells _ t frozen=>.cells cs t frozen
 |o=>o
noncomputable def qF(os:Os):World:=
 let w0:=World.holding prog os ⟨#[.cells #[Oa] 453,.cells #[Pl] 453],#[],[]⟩
 let h1:=putAt w0.heap 0 #[.iface 211 (.agg #[.pointer (some ⟨9,42,none⟩)])]
 let h2:=putAt h1 1 (Ay Rows.laid_math_bits_deBruijn32tab).toArray
 let h3:=putAt h2 5 (Ay Rows.laid_math_bits_deBruijn64tab).toArray
 let h4:=putAt h3 3 (Ay Rows.laid_unicode_utf8_first).toArray
 let h5:=putAt h4 4 (OC Rows.laid_unicode_utf8_acceptRanges).toArray
 let h6:=putAt h5 6 (Ay Rows.laid_internal_strconv_uint64pow10).toArray
 let h7:=putAt h6 8 #[.iface 451 low]
 let h8:=putAt h7 7 #[.iface 451 (low+1,0)]
 { w0 with heap:=h8 }
theorem Jr(os:Os)(args:Array Value):laidMetH prog Rows.sameUptoRow.laid ((qF os).forCall (fun _ _=>0) ⟨#[],args,[]⟩).memory:=
 laidMetH_of_parts (laidMet_of_run' 8 (by kernel_rfl) (by kernel_rfl)) (by kernel_rfl)
theorem reads(os:Os){H:Type}(enc:TypeId×Value→H):∃places,DataW.whole enc prog ((qF os).forCall (fun _ _=>0) ⟨#[],#[ByteArray.empty,.slice none 0 0,.slice none 0 0],[]⟩).memory Tryz.f3.params.toList Rows.sameSpec.vars false #[Value.string ByteArray.empty,.slice none 0 0,.slice none 0 0].toList 8=some ([.lit (.string []),.nil,.nil],[],places):=
 ⟨[],by kernel_rfl⟩
theorem lifted(os:Os)(started:os.Started)(H:Type)(enc:TypeId×Value→H)(F:Stop.Interp):
  ReturnsInHanded {} Tryz.checked os 3 .any ((Rows.OpenSpec.upto Rows.sameSpec).preRow enc prog Tryz.f3 Rows.sameUptoRow.domain false Rows.sameUptoRow.laid) (((Rows.OpenSpec.upto Rows.sameSpec).at F).post enc prog Tryz.f3 false true false false):=by
 obtain⟨places,hx⟩:=reads os enc
 refine returnsInHanded_of_row (C:=Tryz.checked) (s:=Rows.OpenSpec.upto Rows.sameSpec) own started (by kernel_rfl) func3
  (witness_row_at (enc:=enc) (C:=Tryz.checked) false (qF os) #[ByteArray.empty,.slice none 0 0,.slice none 0 0] rfl (by kernel_rfl) (by kernel_rfl) (by kernel_rfl)
   (OpenSpec.preRow_of_cond 8 hx (by kernel_rfl) (fun k hk=>by cases hk;kernel_rfl) (by kernel_rfl) (Jr os _))) ?_
 intro W base args ds gs before hval hW _ hc _ hL WD _
 exact IV H enc W base args ds gs before hval hW (hc _ rfl) hL WD
theorem closed:joinedFacts Tryz.pinned.checked.prog 3 Tryz.f3 (Rows.OpenSpec.upto Rows.sameSpec).bare Rows.sameUptoRow=true:=by
 unfold joinedFacts
 repeat' (with_reducible refine Bool.and_eq_true_iff.2 ⟨?_,?_⟩)
 all_goals as_aux_lemma=>kernel_rfl
theorem said:Rows.SameUptoSaid:=
 OpenClaim.holds_of_cond 3 Tryz.f3 rfl rfl rfl rfl rfl rfl rfl ⟨rfl,rfl,rfl,rfl,rfl⟩ rfl rfl rfl rfl rfl (by kernel_rfl) func3 closed
  (of_decide_eq_true (by kernel_rfl)) (by unfold Func.isWrapper;first|(rw[if_pos (by decide +kernel)];kernel_rfl)|(rw[if_neg (by decide +kernel)];exact⟨rfl,rfl⟩))
  (fun os started H enc _ F=>by rw[OpenClaim.pre_eq_preRow];exact lifted os started H enc F)
theorem plain(f:FuncId)(fn:Func)(hf: Tryz.pinned.checked.prog.funcNamed "charts/chartskeep.Same"=some f)(YA:Tryz.pinned.checked.prog.funcs[f]?=some fn):
  true=Tryz.pinned.checked.prog.looks []∧∀(j:Nat) t,fn.params[j]?=some t→Tryz.pinned.checked.prog.wantsStandIn t=false:=by
 obtain rfl:f=3:=Option.some.inj ((show Tryz.prog.funcNamed "charts/chartskeep.Same"=some 3 by kernel_rfl).symm.trans hf) |>.symm
 obtain rfl:fn=Tryz.f3:=(Option.some.inj (Tryz.func3.symm.trans YA)).symm
 refine⟨by kernel_rfl,fun j t ht=>?_⟩
 rw[params3]at ht
 have ht:t=9∨t=22∨t=23:=by simpa using Array.mem_of_getElem? ht
 rcases ht with rfl|rfl|rfl
 ·exact(show Tryz.prog.wantsStandIn 9=false by kernel_rfl)
 ·exact(show Tryz.prog.wantsStandIn 22=false by kernel_rfl)
 ·exact(show Tryz.prog.wantsStandIn 23=false by kernel_rfl)
theorem O4:Rows.SameUptoCardSaid:=
 Claim7.holds_tied_plain_at .later [] _ _ _ _ said (fun _ h=>by cases h) (by kernel_rfl) (fun _ h=>by cases h) sameUpto_row_tie rfl ⟨rfl,rfl⟩ (by kernel_rfl) rfl plain (by kernel_rfl)
end Go.Proofs.YtibbecdlllchkaaGreatDoor.same
namespace Go.Proofs.YtibbecdlllchkaaGreatDoor
theorem same_holds:Rows.SameUptoCardSaid:=same.O4
end Go.Proofs.YtibbecdlllchkaaGreatDoor
