import Derived.Test.YtegmoddppafkfaaGreatDoorM00
import Derived.Test.YtegmoddppafkfaaGreatDoorM20
import Derived.Test.YtegmoddppafkfaaGreatDoorM28
import Derived.Test.YtegmoddppafkfaaGreatDoorRows
import Derived.LaidLaws
import Derived.LaidHandle
import Derived.Lib.LaidTab
import Derived.Shelf.Vars
set_option maxRecDepth 100000
set_option maxHeartbeats 8000000
namespace Go.Proofs.YtegmoddppafkfaaGreatDoor
section
open Go.RowKit Go.Proofs
theorem oW {P:Program} {w:World}:∀ {l:List (String×DataW Unit)} {ps:List MemPlace},DataW.LaidVars P w l ps→∀ {n:String} {d:DataW Unit},(n,d)∈l→∃ g t cs fuel p,P.globalNamed n=some g∧(P.globals[g]?).map (·.type)=some t∧w.var? P n=some cs∧DataW.trod (fun _=>()) P w 0 (fun _=>true) false fuel t cs.toList=some (d,p)
 | [],_,_,_,_,h=>by cases h
 | (n',d')::r,ps,h,n,d,hm=>by
  obtain ⟨g,t,cs,fuel,p,q,h1,h2,h3,h4,h5,_⟩:=h
  rcases List.mem_cons.1 hm with e | hm
  ·cases e;exact ⟨g,t,cs,fuel,p,h1,h2,h3,h4⟩
  ·exact oW h5 hm
theorem uO {P:Program} {w:World} {l:List (String×DataW Unit)} {ps:List MemPlace} (h:DataW.LaidVars P w l ps) {n nm:String} {d:DataW Unit} (hm:(n,.iface nm d)∈l) {g:Nat} {t:TypeId} {ms:Array (String×TypeId)} (hg:P.globalNamed n=some g) (hty:(P.globals[g]?).map (·.type)=some t) (ht:P.underlying t=some (.interface ms)) :
  ∃ u v,w.cell? ⟨g,0,none⟩=some (.iface u v):=by
 obtain ⟨g',t',cs,fuel,p,h1,h2,h3,h4⟩:=oW h hm
 obtain rfl:=Option.some.inj (hg.symm.trans h1)
 obtain rfl:=Option.some.inj (hty.symm.trans h2)
 obtain ⟨_,u,v,hc,_,_⟩:=iface_of_trod ht h4
 refine ⟨u,v,?_⟩
 rw [World.var?_cell hg h3 0,← Array.getElem?_toList,hc];rfl
theorem x8 {P:Program} {w:World} {l:List (String×DataW Unit)} {ps:List MemPlace} (h:DataW.LaidVars P w l ps) {n:String} {k:IntKind} {zs:List Int} (hm:(n,Lib.tabData k zs)∈l) {g:Nat} {t e:TypeId} {m:Nat} (hg:P.globalNamed n=some g) (hty:(P.globals[g]?).map (·.type)=some t) (ht:P.underlying t=some (.array m e)) (he:P.underlying e=some (.int k)) (hce:P.cellsOf e=1) (hct:P.cellsOf t=m) :
  Lib.TabIs P w n k zs:=by
 obtain ⟨g',t',cs,fuel,p,h1,h2,h3,h4⟩:=oW h hm
 obtain rfl:=Option.some.inj (hg.symm.trans h1)
 obtain rfl:=Option.some.inj (hty.symm.trans h2)
 unfold Lib.TabIs
 rw [h3,← Lib.cells_of_tab ht he hce hct h4]
theorem Tryz.GV : Tryz.prog.globalNamed "strconv.ErrSyntax" = some 7:=by kernel_rfl
theorem Tryz.GU : Tryz.prog.globalNamed "strconv.ErrRange" = some 8:=by kernel_rfl
theorem Tryz.GS : Tryz.prog.globalNamed "internal/strconv.uint64pow10" = some 6:=by kernel_rfl
theorem Tryz.gEt : Tryz.prog.globalNamed "errors.errorType" = some 0:=by kernel_rfl
theorem Tryz.gRt:(Tryz.prog.cutTypes.find? (·.1 == "internal/reflectlite.rtype")).map (·.2)=some 269:=by kernel_rfl
theorem Tryz.FE:((List.range 499).filter fun t=>Tryz.prog.rowNamed t [101,114,114,111,114])=[101]:=by kernel_rfl
theorem Tryz.FR:Tryz.prog.types.size=499:=by kernel_rfl
theorem Tryz.Ge:(Tryz.prog.globals[7]?).map (·.type)=some 101:=by kernel_rfl
theorem Tryz.Gd:(Tryz.prog.globals[8]?).map (·.type)=some 101:=by kernel_rfl
def gq:List (String×DataW Unit) := [("math/bits.deBruijn32tab",Rows.laid_math_bits_deBruijn32tab), ("math/bits.deBruijn64tab",Rows.laid_math_bits_deBruijn64tab), ("internal/strconv.uint64pow10",Rows.laid_internal_strconv_uint64pow10), ("unicode/utf8.acceptRanges",Rows.laid_unicode_utf8_acceptRanges), ("strconv.ErrRange",Rows.laid_strconv_ErrRange), ("strconv.ErrSyntax",Rows.laid_strconv_ErrSyntax), ("unicode/utf8.first",Rows.laid_unicode_utf8_first)]
theorem oX {W:World} (h:laidMetH Tryz.prog Rows.lowersRow.laid W):laidMet Tryz.prog gq W∧handlesMet Tryz.prog [("errors.errorType",Rows.laid_errors_errorType)] W:=h
theorem DE {W:World} (h:handlesMet Tryz.prog [("errors.errorType",Rows.laid_errors_errorType)] W):W.cell? ⟨0,0,none⟩=some (.iface 269 (.agg #[.pointer (some ⟨9,101,none⟩)])):=by
 obtain ⟨name,u,ty,e1,e2,e3,e4,e5⟩:=h _ (List.mem_singleton.2 rfl)
 have en:name=[101,114,114,111,114]:=(Option.some.inj e1).symm
 subst en
 obtain rfl:=Option.some.inj (Tryz.gRt.symm.trans e2)
 have hm:ty∈(List.range 499).filter fun t=>Tryz.prog.rowNamed t [101,114,114,111,114]:=List.mem_filter.2 ⟨List.mem_range.2 (by rw [← Tryz.FR];exact e3),e4⟩
 rw [Tryz.FE] at hm
 obtain rfl:=List.mem_singleton.1 hm
 have hh:typeHandle Tryz.prog 101 = .pointer (some ⟨9,101,none⟩):=by kernel_rfl
 rw [hh] at e5
 simpa using World.var?_cell Tryz.gEt e5 0
theorem Tryz.Gb:(Tryz.prog.globals[6]?).map (fun x=>Tryz.prog.underlying x.type)=some (some (.array 20 37)):=by kernel_rfl
theorem Fp {W:World} (h:laidMetH Tryz.prog Rows.lowersRow.laid W) (hsh:W.ShapedOpen Tryz.prog):rY W:=by
 obtain ⟨⟨ps,hl,_⟩,_⟩:=oX h
 have hm:∃ m,W.cell? ⟨3,0,none⟩=some (.int .i64 m):=cell_of_shapedOpen_int (zero:=#[.int .i64 0]) (t:=3) hsh (of_decide_eq_true (by kernel_rfl)) (by kernel_rfl) rfl (by kernel_rfl) (by kernel_rfl) Tryz.underlying3
 obtain ⟨u1,v1,c1⟩:=uO hl (n := "strconv.ErrSyntax") (by unfold gq Rows.laid_strconv_ErrSyntax;simp only [List.mem_cons];exact .inr (.inr (.inr (.inr (.inr (.inl rfl)))))) Tryz.GV Tryz.Ge Tryz.underlying101
 obtain ⟨u2,v2,c2⟩:=uO hl (n := "strconv.ErrRange") (by unfold gq Rows.laid_strconv_ErrRange;simp only [List.mem_cons];exact .inr (.inr (.inr (.inr (.inl rfl))))) Tryz.GU Tryz.Gd Tryz.underlying101
 have ht:Lib.TabIs Tryz.prog W "internal/strconv.uint64pow10" .u64 Lib.pow10Tab:=by
  obtain ⟨gl,hgl,htt⟩:=Option.map_eq_some_iff.1 Tryz.Gb
  exact x8 hl (n := "internal/strconv.uint64pow10") (k := .u64) (zs:=Lib.pow10Tab) (by unfold gq;simp only [List.mem_cons];exact .inr (.inr (.inl rfl))) Tryz.GS (by rw [hgl];rfl) htt Tryz.underlying37 (by kernel_rfl) (by
   have e:(Tryz.prog.globals[6]?).map (fun x=>Tryz.prog.cellsOf x.type)=some 20:=by kernel_rfl
   rw [hgl] at e
   exact Option.some.inj e)
 exact ⟨⟨⟨⟨_,c1,.inr ⟨u1,v1,rfl⟩⟩,⟨_,c2,.inr ⟨u2,v2,rfl⟩⟩⟩,ht⟩,hm⟩
end
section
open Go.RowKit Go.Proofs Go.Shelf
theorem vV {P:Program} {w:World} {n:String} {zs:List Nat} {g:Nat} (hg:P.globalNamed n=some g) (h:Lib.TabIs P w n .u8 (zs.map fun z:Nat=>(z:Int))):TabAt g zs w:=fun j hj=>by
 rw [World.var?_cell hg h j,← Array.getElem?_toList]
 simp [List.getElem?_eq_getElem hj,List.getD]
theorem Bg {P:Program} {w:World} {n:String} {g:Nat} {cs:Array Value} (hg:P.globalNamed n=some g) (h:w.var? P n=some cs):∃ c t fz,w.heap[g]?=some (.cells c t fz):=by
 have hx:=h
 simp only [World.var?,hg] at hx
 cases hh:w.heap[g]? with
 | none=>simp [hh] at hx
 | some o =>
  cases o with
  | cells c t fz=>exact ⟨c,t,fz,rfl⟩
  | _=>simp [hh] at hx
theorem Tryz.g32 : Tryz.prog.globalNamed "math/bits.deBruijn32tab" = some 1:=by kernel_rfl
theorem Tryz.g64 : Tryz.prog.globalNamed "math/bits.deBruijn64tab" = some 2:=by kernel_rfl
theorem Tryz.GQ:(Tryz.prog.globals[1]?).map (fun x=>Tryz.prog.underlying x.type)=some (some (.array 32 5)):=by kernel_rfl
theorem Tryz.GR:(Tryz.prog.globals[2]?).map (fun x=>Tryz.prog.underlying x.type)=some (some (.array 64 5)):=by kernel_rfl
theorem DD {W:World} (h:laidMetH Tryz.prog Rows.fuelRow.laid W) (hsh:W.ShapedOpen Tryz.prog):wt W:=by
 have hL:laidMetH Tryz.prog Rows.lowersRow.laid W:=h
 have he:=Fp hL hsh
 obtain ⟨⟨ps,hl,_⟩,hh⟩:=oX hL
 have t5:Lib.TabIs Tryz.prog W "math/bits.deBruijn32tab" .u8 (Lib.deBruijn32tab.map fun z:Nat=>(z:Int)):=by
  obtain ⟨gl,hgl,htt⟩:=Option.map_eq_some_iff.1 Tryz.GQ
  exact x8 hl (n := "math/bits.deBruijn32tab") (k := .u8) (by unfold gq;simp only [List.mem_cons];exact .inl rfl) Tryz.g32 (by rw [hgl];rfl) htt Tryz.underlying5 (by kernel_rfl) (by
   have e:(Tryz.prog.globals[1]?).map (fun x=>Tryz.prog.cellsOf x.type)=some 32:=by kernel_rfl
   rw [hgl] at e
   exact Option.some.inj e)
 have t6:Lib.TabIs Tryz.prog W "math/bits.deBruijn64tab" .u8 (Lib.deBruijn64tab.map fun z:Nat=>(z:Int)):=by
  obtain ⟨gl,hgl,htt⟩:=Option.map_eq_some_iff.1 Tryz.GR
  exact x8 hl (n := "math/bits.deBruijn64tab") (k := .u8) (by unfold gq;simp only [List.mem_cons];exact .inr (.inl rfl)) Tryz.g64 (by rw [hgl];rfl) htt Tryz.underlying5 (by kernel_rfl) (by
   have e:(Tryz.prog.globals[2]?).map (fun x=>Tryz.prog.cellsOf x.type)=some 64:=by kernel_rfl
   rw [hgl] at e
   exact Option.some.inj e)
 have b5:=Bg Tryz.g32 t5
 have b6:=Bg Tryz.g64 t6
 refine ⟨he,DE hh,vV Tryz.g64 t6,vV Tryz.g32 t5,b5,?_,?_⟩
 ·obtain ⟨c,t,fz,e⟩:=b6
  exact (Array.getElem?_eq_some_iff.1 e).1
 ·obtain ⟨c,t,fz,e⟩:=b5
  exact (Array.getElem?_eq_some_iff.1 e).1
end
end Go.Proofs.YtegmoddppafkfaaGreatDoor
