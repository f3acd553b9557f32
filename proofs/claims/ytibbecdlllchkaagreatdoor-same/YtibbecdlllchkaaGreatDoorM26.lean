import Derived.Test.YtibbecdlllchkaaGreatDoorM25
import Derived.Test.YtibbecdlllchkaaGreatDoorRows
import Derived.LaidHandle
set_option maxRecDepth 100000
set_option maxHeartbeats 8000000
namespace Go.Proofs.YtibbecdlllchkaaGreatDoor
open Go.Proofs.Tryz
variable {P:Program}{w W:World}{ps:List MemPlace}{g:Nat}{t:TypeId}
section
open Go.RowKit Go.Proofs
theorem tI{P:Program}{w:World}:∀{l:List (String×DataW Unit)} {ps:List MemPlace},DataW.LaidVars P w l ps->∀{n:String} {d:DataW Unit},(n,d)∈l->∃g t cs fuel p,P.globalNamed n=some g/\(P.globals[g]?).map (·.type)=some t/\w.var? P n=some cs/\DataW.trod (fun _=>()) P w 0 (fun _=>true) false fuel t cs.toList=some (d,p)
 |[],_,_,_,_,h=>by cases h
 |(n',d')::r,ps,h,n,d,hm=>by
  obtain⟨g,t,cs,fuel,p,q,h1,h2,h3,h4,h5,_⟩:=h
  rcases QH.1 hm with e|hm
  ·cases e;exact⟨g,t,cs,fuel,p,h1,h2,h3,h4⟩
  ·exact tI h5 hm
theorem AM{l:List (String×DataW Unit)}(h:DataW.LaidVars P w l ps){n nm:String}{d:DataW Unit}(hm:(n,.iface nm d)∈l){ms:Array (String×TypeId)}(hg:P.globalNamed n=some g)(Ym:(P.globals[g]?).map (·.type)=some t)(ht:P.underlying t=some (.interface ms)):
  ∃u v,w.cell? g=some (.iface u v):=by
 obtain⟨g',t',cs,fuel,p,h1,h2,h3,h4⟩:=tI h hm;obtain rfl:=Qh (hg.symm.trans h1);obtain rfl:=Qh (Ym.symm.trans h2);obtain⟨_,u,v,hc,_,_⟩:=iface_of_trod ht h4;refine⟨u,v,?_⟩;rw[World.var?_cell hg h3 0,<- QJ,hc];rfl
theorem D8{l:List (String×DataW Unit)}(h:DataW.LaidVars P w l ps){n:String}{k:IntKind}{zs:List Int}(hm:(n,Lib.tabData k zs)∈l){e:TypeId}{m:Nat}(hg:P.globalNamed n=some g)(Ym:(P.globals[g]?).map (·.type)=some t)(ht:P.underlying t=some (.array m e))(he:P.underlying e=some (.int k))(hce:P.cellsOf e=1)(hct:P.cellsOf t=m):
  Lib.TabIs P w n k zs:=by
 obtain⟨g',t',cs,fuel,p,h1,h2,h3,h4⟩:=tI h hm;obtain rfl:=Qh (hg.symm.trans h1);obtain rfl:=Qh (Ym.symm.trans h2);unfold Lib.TabIs;rw[h3,<- Lib.cells_of_tab ht he hce hct h4]
theorem Pa: Tryz.prog.globalNamed "strconv.ErrSyntax"=some 7:=zab
theorem O9: Tryz.prog.globalNamed "strconv.ErrRange"=some 8:=zab
theorem O8: Tryz.prog.globalNamed "internal/strconv.uint64pow10"=some 6:=zab
theorem gEt: Tryz.prog.globalNamed "errors.errorType"=some 0:=zab
theorem gRt:(Tryz.prog.cutTypes.find? (·.1 == "internal/reflectlite.rtype")).map (·.2)=some 211:=zab
theorem N6:((List.range 496).filter fun t=>Tryz.prog.rowNamed t [101,114,114,111,114])=[42]:=zab
theorem Ol:Tryz.prog.types.size=496:=zab
theorem OG:(Tryz.prog.globals[7]?).map (·.type)=some 42:=zab
theorem OF:(Tryz.prog.globals[8]?).map (·.type)=some 42:=zab
def jr:List (String×DataW Unit):=[("math/bits.deBruijn32tab",Rows.laid_math_bits_deBruijn32tab),("math/bits.deBruijn64tab",Rows.laid_math_bits_deBruijn64tab),("internal/strconv.uint64pow10",Rows.laid_internal_strconv_uint64pow10),("unicode/utf8.acceptRanges",Rows.laid_unicode_utf8_acceptRanges),("strconv.ErrRange",Rows.laid_strconv_ErrRange),("strconv.ErrSyntax",Rows.laid_strconv_ErrSyntax),("unicode/utf8.first",Rows.laid_unicode_utf8_first)]
theorem tJ(h:laidMetH prog Rows.sameUptoRow.laid W):laidMet prog jr W/\handlesMet prog [("errors.errorType",Rows.laid_errors_errorType)] W:=h
theorem Lp(h:handlesMet prog [("errors.errorType",Rows.laid_errors_errorType)] W):W.cell? ⟨0,0,none⟩=some (.iface 211 (.agg #[.pointer (some ⟨9,42,none⟩)])):=by
 obtain⟨name,u,ty,e1,e2,e3,e4,e5⟩:=h _ (PB.2 rfl);have en:name=[101,114,114,111,114]:=(Qh e1).symm;subst en;obtain rfl:=Qh (gRt.symm.trans e2);have hm:ty∈(List.range 496).filter fun t=>Tryz.prog.rowNamed t [101,114,114,111,114]:=Q2.2 ⟨QF.2 (by rw[<- Ol];exact e3),e4⟩;rw[N6]at hm;obtain rfl:=PB.1 hm;have hh:typeHandle prog 42=.pointer (some ⟨9,42,none⟩):=zab;rw[hh]at e5;simpa using World.var?_cell gEt e5 0
theorem OE:(Tryz.prog.globals[6]?).map (fun x=>Tryz.prog.underlying x.type)=some (some (.array 20 48)):=zab
theorem NJ(h:laidMetH prog Rows.sameUptoRow.laid W)(WD:W.ShapedOpen prog):xJ W:=by
 obtain⟨⟨ps,hl,_⟩,_⟩:=tJ h;have hm:∃m,W.cell? ⟨2,0,none⟩=some ↑(m:Int):=cell_of_shapedOpen_int (zero:=#[(0:Int)]) (t:=3) WD (RO zab) zab rfl zab zab underlying3;obtain⟨u1,v1,c1⟩:=AM hl (n:= "strconv.ErrSyntax") (by unfold jr Rows.laid_strconv_ErrSyntax;simp only[List.mem_cons];exact .inr (.inr (.inr (.inr (.inr (.inl rfl)))))) Pa OG underlying42;obtain⟨u2,v2,c2⟩:=AM hl (n:= "strconv.ErrRange") (by unfold jr Rows.laid_strconv_ErrRange;simp only[List.mem_cons];exact .inr (.inr (.inr (.inr (.inl rfl))))) O9 OF underlying42;have ht:Lib.TabIs prog W "internal/strconv.uint64pow10" .u64 Lib.pow10Tab:=by
  obtain⟨gl,V5,htt⟩:=PU.1 OE;exact D8 hl (n:= "internal/strconv.uint64pow10") (k:=.u64) (zs:=Lib.pow10Tab) (by unfold jr;simp only[List.mem_cons];exact .inr (.inr (.inl rfl))) O8 (by rw[V5];rfl) htt underlying48 zab (by
   have e:(Tryz.prog.globals[6]?).map (fun x=>Tryz.prog.cellsOf x.type)=some 20:=zab;rw[V5]at e;exact Qh e)
 exact⟨⟨⟨⟨_,c1,.inr ⟨u1,v1,rfl⟩⟩,⟨_,c2,.inr ⟨u2,v2,rfl⟩⟩⟩,ht⟩,hm⟩
end
section
open Go.RowKit Go.Proofs Go.Shelf
theorem BV{n:String}{zs:List Nat}(hg:P.globalNamed n=some g)(h:Lib.TabIs P w n .u8 (zs.map fun z:Nat=>(z:Int))):TabAt g zs w:=fun j hj=>by
 rw[World.var?_cell hg h j,<- QJ];simp[List.getElem?_eq_getElem hj,List.getD]
theorem IN{P:Program}{w:World}{n:String}{g:Nat}{cs:Array Value}(hg:P.globalNamed n=some g)(h:w.var? P n=some cs):∃c t fz,w.heap[g]?=some (.cells c t fz):=by
 have hx:=h;simp only[World.var?,hg]at hx;cases hh:w.heap[g]? with
 |none=>simp[hh]at hx
 |some o=>
  cases o with
  |cells c t fz=>exact⟨c,t,fz,rfl⟩
  |_=>simp[hh]at hx
theorem g32: Tryz.prog.globalNamed "math/bits.deBruijn32tab"=some 1:=zab
theorem g64: Tryz.prog.globalNamed "math/bits.deBruijn64tab"=some 5:=zab
theorem O6:(Tryz.prog.globals[1]?).map (fun x=>Tryz.prog.underlying x.type)=some (some (.array 32 5)):=zab
theorem O7:(Tryz.prog.globals[5]?).map (fun x=>Tryz.prog.underlying x.type)=some (some (.array 64 5)):=zab
theorem Ln(h:laidMetH prog Rows.sameUptoRow.laid W)(WD:W.ShapedOpen prog):qp W:=by
 have hL:laidMetH prog Rows.sameUptoRow.laid W:=h;have he:=NJ hL WD;obtain⟨⟨ps,hl,_⟩,hh⟩:=tJ hL;have t5:Lib.TabIs prog W "math/bits.deBruijn32tab" .u8 (Lib.deBruijn32tab.map fun z:Nat=>(z:Int)):=by
  obtain⟨gl,V5,htt⟩:=PU.1 O6;exact D8 hl (n:= "math/bits.deBruijn32tab") (k:=.u8) (by unfold jr;simp only[List.mem_cons];exact .inl rfl) g32 (by rw[V5];rfl) htt underlying5 zab (by
   have e:(Tryz.prog.globals[1]?).map (fun x=>Tryz.prog.cellsOf x.type)=some 32:=zab;rw[V5]at e;exact Qh e)
 have t6:Lib.TabIs prog W "math/bits.deBruijn64tab" .u8 (Lib.deBruijn64tab.map fun z:Nat=>(z:Int)):=by
  obtain⟨gl,V5,htt⟩:=PU.1 O7;exact D8 hl (n:= "math/bits.deBruijn64tab") (k:=.u8) (by unfold jr;simp only[List.mem_cons];exact .inr (.inl rfl)) g64 (by rw[V5];rfl) htt underlying5 zab (by
   have e:(Tryz.prog.globals[5]?).map (fun x=>Tryz.prog.cellsOf x.type)=some 64:=zab;rw[V5]at e;exact Qh e)
 have b5:=IN g32 t5;have b6:=IN g64 t6;refine⟨he,Lp hh,BV g64 t6,BV g32 t5,b5,?_,?_⟩
 ·obtain⟨c,t,fz,e⟩:=b6;exact(Pn.1 e).1
 ·obtain⟨c,t,fz,e⟩:=b5;exact(Pn.1 e).1
