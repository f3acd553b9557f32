import Derived.Test.YtpkhcncoildcnaaGreatDoorM26
import Derived.Test.YtpkhcncoildcnaaGreatDoorCards
import Derived.Test.YtpkhcncoildcnaaGreatDoorTie
import Derived.ProofKit
import Derived.OpenShut
import Derived.Deep.DeepHandedRow
import Derived.Deep.Strs
set_option maxRecDepth 100000
set_option maxHeartbeats 8000000
namespace Go.Proofs.YtpkhcncoildcnaaGreatDoor.legal
theorem zd2{zp:Prop}(h:zp:=by
 simp[Value.cells]at YA;obtain⟨rfl,rfl,rfl⟩:=YA;exact⟨[],rfl,fun i s hs=>(by cases hs),Nat.zero_le _⟩):zp:=h
open Go.ChangeShapes Go.WideShapes Go.ChangeAt Go.RowKit Go.Proofs
open Go.ChangeMaps (open_string shut_string)
open Go.Proofs.Tryz
theorem own:ownKnob Tryz.prog.godebug=none:=zab
theorem laidOut:laidOutB prog=true:=zab
theorem Mz:Tryz.prog.cellsOf 9=1:=zab
theorem MA:Tryz.prog.cellsOf 3=1:=zab
theorem vA{H:Type}:∀l:List (),Rows.uptoBulkAll (l.map fun x=>(.lit (.string x.data.toList):DataW H))=l.length+F.tot l
 |[]=>by simp[Rows.uptoBulkAll,F.tot]
 |x::l=>by
  have ih:=vA (H:=H) l;have e:x.data.toList.length=x.size:=rfl;unfold F.tot at *;simp only[List.map_cons,Rows.uptoBulkAll,Rows.uptoBulk,List.length_cons,List.sum_cons,ih,e];omega
theorem vz{H:Type}(k:IntKind):∀l:List Int,l.length<=Rows.uptoBulkAll (lits k l:List (DataW H))
 |[]=>Nat.zero_le _
 |x::l=>by
  have ih:=vz (H:=H) k l;show l.length+1<=Rows.uptoBulk (.lit (.int k x):DataW H)+Rows.uptoBulkAll (lits k l:List (DataW H));simp only[Rows.uptoBulk];omega
theorem Hj(H:Type)(enc:TypeId×Value->H)(W:World)(base:Nat)(args:Array Value)(ds gs:List (DataW H))(before:List MemPlace)
  (Zk:∀(j:Nat) t v,Tryz.f3.params[j]?=some t->args[j]?=some v->Value.okWide prog W .any base t v)
  (hW:DataW.Whole enc prog Tryz.f3.params.toList Rows.legalSpec.vars false W args.toList ds gs before) (hc:Rows.uptoSmall H (ds++gs)=true) (hL:laidMetH prog Rows.legalUptoRow.laid W) (VH:W.ShapedOpen prog):
  () 3 args W fun e W'=>∃v,e=.returned v/\Rows.legalSpec.post enc prog Tryz.f3 false true false false W args v W':=by
 have hW':=hW;obtain⟨p,q,hA0,hV,rfl,Vp,Ua⟩:=hW;have hA:DataW.TrodAll enc prog W 0 (fun _=>true) true Tryz.f3.params.toList args.toList ds p:=hA0;rw[params3]at hA Zk;obtain⟨v0,vs0,d0,ds0,p0,q0,hargs,rfl,rfl,h0,r0⟩:=trodAll_cons hA;obtain⟨v1,vs1,d1,ds1,p1,q1,hargs1,rfl,rfl,h1,r1⟩:=trodAll_cons r0;obtain⟨v2,vs2,d2,ds2,p2,q2,hargs2,rfl,rfl,h2,r2⟩:=trodAll_cons r1;obtain⟨rfl,rfl,rfl⟩:=trodAll_nil r2;obtain rfl:args=#[v0,v1,v2]:=by cases args;simp_all
 obtain⟨rfl,rfl⟩:=trodVars_none hV;obtain⟨s,rfl,rfl,rfl,hz⟩:=open_string underlying9 (Zk 0 9 v0 rfl rfl) h0;obtain⟨a,n,c,rfl⟩:=okWide_slice underlying22 (Zk 1 22 v1 rfl rfl);obtain⟨ra,rn,rc,rfl⟩:=okWide_slice underlying23 (Zk 2 23 v2 rfl rfl);have h2k:=h1;obtain⟨fuel,hf⟩:=h1;have h3k:=h2;obtain⟨fuel3,hf3⟩:=h2;clear hA0;simp only[List.append_nil,List.nil_append]at hW';have TX:∀x∈p1,x.block<W.heap.size:=fun x hx=>hW'.lt x (by simp[hx]);have hlt3:∀x∈p2,x.block<W.heap.size:=fun x hx=>hW'.lt x (by simp[hx]);obtain⟨L,rfl,hE,V5⟩:∃L:List (),n=L.length/\F.JP W a L/\L.length+F.tot L<=Rows.uptoBulk d1:=by
  rcases Go.Deep.open_strs underlying22 underlying9 Mz hf with⟨YA,hx⟩|⟨a,len',cap',m,Sx,YA,_,hl,hm,XB,hx,Ve⟩
  ·exact zd2
  ·simp[Value.cells]at YA;obtain⟨rfl,rfl,rfl⟩:=YA;simp only[Prod.mk.injEq]at hx;simp only[if_true]at XB;refine⟨(List.range n).map Sx,zad,fun i s hs=>?_,?_⟩
   ·have hi:i<n:=by have:=(List.getElem?_eq_some_iff.1 hs).1;simpa using this
    obtain rfl:Sx i=s:=by simpa[hi] using hs
    obtain⟨b,off,spot⟩:=a;obtain rfl:spot=none:=by simpa[Addr.add] using World.cell?_spot (Ve 0 zaa).1
    exact⟨b,off,rfl,by rw[<- add_plain];exact(Ve i zaa).1⟩
   ·rw[hx.1];have e:=vA (H:=H) ((List.range n).map Sx);rw[List.map_map]at e;simp only[Rows.uptoBulk];have e2:((List.range n).map fun i=>(.lit (.string (Sx i).data.toList):DataW H))=(List.range n).map ((fun x:()=>(.lit (.string x.data.toList):DataW H)) ∘ Sx):=rfl;rw[e2,e];omega
 obtain⟨T,rfl,hI,hbi⟩:∃T:List Int,rn=T.length/\F.Mj W ra T/\T.length<=Rows.uptoBulk d2:=by
  rcases open_ints underlying23 underlying3 MA hf3 with⟨YA,hx⟩|⟨a,len',cap',zs,YA,_,hl,hm,XP,hx,Ve,_⟩
  ·exact zd2
  ·simp[Value.cells]at YA;obtain⟨rfl,rfl,rfl⟩:=YA;simp only[Prod.mk.injEq]at hx;simp only[if_true]at XP;refine⟨zs.take rn,by rw[List.length_take];omega,fun i z hz=>?_,?_⟩
   ·obtain⟨hi,rfl⟩:=List.getElem?_eq_some_iff.1 hz;rw[List.length_take]at hi;obtain⟨b,off,spot⟩:=a;obtain rfl:spot=none:=by simpa[Addr.add] using World.cell?_spot (Ve 0 zaa)
    refine⟨b,off,rfl,?_⟩;rw[<- add_plain,Ve i zaa,List.getElem_take,List.getD_eq_getElem?_getD,List.getElem?_eq_getElem zaa];rfl
   ·rw[hx.1];have e:=vz (H:=H) .i64 (zs.take rn);simp only[Rows.uptoBulk];omega
 have VV:s.size+L.length+T.length+F.tot L<=4194304:=by
  have hc:=of_decide_eq_true hc;simp only[List.append_nil,Rows.uptoBulkAll,Rows.uptoBulk]at hc;have e:s.data.toList.length=s.size:=rfl;omega
 have hv:=Kr hL VH;refine(Cz s a ra c rc L T W hv (fun ev Vg V=>pV ev V zaa) hE hI VV).mono fun e W' ⟨he,hb⟩=>?_;subst he;exact⟨_,rfl,_,_,_,[],_,[],hW',trodAll_cons_mk (shut_bool underlying4 _) trodAll_mk0,trodAll_cons_mk (shut_string underlying9 hz) (trodAll_cons_mk (Below.trod laidOut zab (of_decide_eq_true zab) h2k hb TX) (trodAll_cons_mk (Below.trod laidOut zab (of_decide_eq_true zab) h3k hb hlt3) trodAll_mk0)),rfl,hb.frame _,fun h=>zav⟩
noncomputable def zW:DataW Unit->List Value
 |.agg ps=>ps.filterMap fun|.lit (.int k z)=>some (.int k z)|_=>none
 |_=>[]
noncomputable def NG:DataW Unit->List Value
 |.agg ps=>ps.flatMap zW
 |_=>[]
noncomputable def low:Nat:=(World.holding prog default ⟨#[],#[],[]⟩).heap.size
def Nj:():=⟨#[118,97,108,117,101,32,111,117,116,32,111,102,32,114,97,110,103,101]⟩
def Oq:():=⟨#[105,110,118,97,108,105,100,32,115,121,110,116,97,120]⟩
def putAt(h:Array Obj)(g:Nat)(cs:Array Value):Array Obj:=h.modify g fun
 |.cells _ t frozen=>.cells cs t frozen
 |o=>o
noncomputable def p9(os:Os):World:=
 let w0:=World.holding prog os ⟨#[.cells #[Nj] 456,.cells #[Oq] 456],#[],[]⟩
 let h1:=putAt w0.heap 0 #[.iface 197 (.agg #[.pointer (some ⟨9,48,none⟩)])]
 let h2:=putAt h1 1 (zW Rows.laid_math_bits_deBruijn32tab).toArray
 let h3:=putAt h2 3 (zW Rows.laid_math_bits_deBruijn64tab).toArray
 let h4:=putAt h3 4 (zW Rows.laid_unicode_utf8_first).toArray
 let h5:=putAt h4 5 (NG Rows.laid_unicode_utf8_acceptRanges).toArray
 let h6:=putAt h5 6 (zW Rows.laid_internal_strconv_uint64pow10).toArray
 let h7:=putAt h6 8 #[.iface 454 low]
 let h8:=putAt h7 7 #[.iface 454 (low+1,0)]
 { w0 with heap:=h8 }
theorem Iq(os:Os)(args:Array Value):laidMetH prog Rows.legalUptoRow.laid ((p9 os).forCall (fun _ _=>0) ⟨#[],args,[]⟩).memory:=
 laidMetH_of_parts (laidMet_of_run' 8 zab zab) zab
theorem reads(os:Os){H:Type}(enc:TypeId×Value->H):∃places,DataW.whole enc prog ((p9 os).forCall (fun _ _=>0) ⟨#[],#[ByteArray.empty,.slice none 0 0,.slice none 0 0],[]⟩).memory Tryz.f3.params.toList Rows.legalSpec.vars false #[Value.string ByteArray.empty,.slice none 0 0,.slice none 0 0].toList 8=some ([.lit (.string []),.nil,.nil],[],places):=
 ⟨[],zab⟩
theorem lifted(os:Os)(started:os.Started)(H:Type)(enc:TypeId×Value->H)(F:Stop.Interp):
  ReturnsInHanded {} Tryz.checked os 3 .any ((Rows.OpenSpec.upto Rows.legalSpec).preRow enc prog Tryz.f3 Rows.legalUptoRow.domain false Rows.legalUptoRow.laid) (((Rows.OpenSpec.upto Rows.legalSpec).at F).post enc prog Tryz.f3 false true false false):=by
 obtain⟨places,hx⟩:=reads os enc;refine returnsInHanded_of_row (C:=Tryz.checked) (s:=Rows.OpenSpec.upto Rows.legalSpec) own started zab func3
  (witness_row_at (enc:=enc) (C:=Tryz.checked) false (p9 os) #[ByteArray.empty,.slice none 0 0,.slice none 0 0] rfl zab zab zab
   (OpenSpec.preRow_of_cond 8 hx zab (fun k hk=>by cases hk;kernel_rfl) zab (Iq os _))) ?_
 intro W base args ds gs before Zk hW _ hc _ hL VH _;exact Hj H enc W base args ds gs before Zk hW (hc _ rfl) hL VH
theorem closed:joinedFacts Tryz.pinned.checked.prog 3 Tryz.f3 (Rows.OpenSpec.upto Rows.legalSpec).bare Rows.legalUptoRow=true:=by
 unfold joinedFacts
 repeat' (with_reducible refine Bool.and_eq_true_iff.2 ⟨?_,?_⟩)
 all_goals as_aux_lemma=>kernel_rfl
theorem said:Rows.LegalUptoSaid:=
 OpenClaim.holds_of_cond 3 Tryz.f3 rfl rfl rfl rfl rfl rfl rfl ⟨rfl,rfl,rfl,rfl,rfl⟩ rfl rfl rfl rfl rfl zab func3 closed
  (of_decide_eq_true zab) (by unfold Func.isWrapper;first|(rw[if_pos zaU];kernel_rfl)|(rw[if_neg zaU];exact⟨rfl,rfl⟩))
  (fun os started H enc _ F=>by rw[OpenClaim.pre_eq_preRow];exact lifted os started H enc F)
theorem plain(f:FuncId)(fn:Func)(hf: Tryz.pinned.checked.prog.funcNamed "charts/chartskeep.Legal"=some f)(YP:Tryz.pinned.checked.prog.funcs[f]?=some fn):
  true=Tryz.pinned.checked.prog.looks []/\∀(j:Nat) t,fn.params[j]?=some t->Tryz.pinned.checked.prog.wantsStandIn t=false:=by
 obtain rfl:f=3:=Option.some.inj ((show Tryz.prog.funcNamed "charts/chartskeep.Legal"=some 3 by kernel_rfl).symm.trans hf) |>.symm;obtain rfl:fn=Tryz.f3:=(Option.some.inj (Tryz.func3.symm.trans YP)).symm;refine⟨zab,fun j t ht=>?_⟩;rw[params3]at ht;have ht:t=9\/t=22\/t=23:=by simpa using Array.mem_of_getElem? ht
 rcases ht with rfl|rfl|rfl
 ·exact(show Tryz.prog.wantsStandIn 9=false by kernel_rfl)
 ·exact(show Tryz.prog.wantsStandIn 22=false by kernel_rfl)
 ·exact(show Tryz.prog.wantsStandIn 23=false by kernel_rfl)
theorem N8:Rows.LegalUptoCardSaid:=
 Claim7.holds_tied_plain_at .later [] _ _ _ _ said (fun _ h=>zav) zab (fun _ h=>zav) legalUpto_row_tie rfl ⟨rfl,rfl⟩ zab rfl plain zab
end Go.Proofs.YtpkhcncoildcnaaGreatDoor.legal
namespace Go.Proofs.YtpkhcncoildcnaaGreatDoor
theorem legal_holds:Rows.LegalUptoCardSaid:=legal.N8
