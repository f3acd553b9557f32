import Derived.Test.YtegmoddppafkfaaGreatDoorM00
import Derived.Test.YtegmoddppafkfaaGreatDoorM07
import Derived.Test.YtegmoddppafkfaaGreatDoorM13
set_option maxRecDepth 100000
set_option maxHeartbeats 8000000
namespace Go.Proofs.YtegmoddppafkfaaGreatDoor
section
open Go.RowKit Go.Proofs Go.Shelf
attribute [local go_sem] Oper.semAt_some
theorem pr (n:Nat) (hn:n≤4096) (w:World):(Instr.makeSlice 31 (.int .i64 0) (.int .i64 n)).run Tryz.prog w = .ok (.slice (some ⟨w.heap.size,0,none⟩) 0 n) (w.alloc (.cells (madeCells #[.string ⟨#[]⟩] n) 9)):=by
 obtain ⟨i0,hi,hz0,hz1,hz2⟩:=info_parts Tryz.sx
 have h:=run_makeSlice (P:=Tryz.prog) w 31 9 i0 _ Tryz.underlying31 hi hz0 .i64 .i64 0 n (by omega) (by omega) (by rw [hz1];simp;omega) (by rw [hz2];omega) (by omega)
 rw [h,hz1]
 simp only [Int.toNat_natCast,Nat.mul_one]
 rfl
namespace Pg
def Am (s:ByteArray):List Value:=[.string s]
def dP (ps:List PS) (i:Nat):ByteArray:=match ps[i]? with | some p=>p.name | none=>⟨#[]⟩
abbrev Nms (W:World) (base:Nat) (sv:Value) (L:List ByteArray):Prop:=W.ownsRow base 9 1 sv L.length (L.flatMap Am)
theorem Nms.kind {W:World} {base:Nat} {sv:Value} {L:List ByteArray} (h:Nms W base sv L):∀ k,sv.ownBlock=some k→base≤k∧k<W.heap.size∧∃ c,W.heap[k]?=some (.cells c 9 (0,0)):=fun k hk=>by
 rcases h.2 with ⟨a,b⟩ | ⟨g,cap,cur,a,b,c,_⟩
 ·subst a;cases hk
 ·subst a
  cases hk
  exact ⟨b,(Array.getElem?_eq_some_iff.1 c).1,cur,c⟩
theorem Nms.n {W:World} {base:Nat} {sv:Value} {L:List ByteArray} (h:Nms W base sv L):∃ a c,sv = .slice a L.length c:=by
 rcases h.2 with ⟨a,b⟩ | ⟨g,cap,cur,a,_⟩
 ·exact ⟨none,0,by rw [a,b]⟩
 ·exact ⟨_,_,a⟩
theorem Nms.gr {W W':World} {row:Option Nat} {base:Nat} {sv:Value} {L:List ByteArray} (h:Nms W base sv L) (hg:W.grownBy W' row) (hr:∀ r,row=some r→∃ o:Obj,W.heap[r]?=some o∧o.isCells=false):Nms W' base sv L:=Kd.row (jH (E:=fun _=>False) hg hr) h (fun h=>h)
def StI (w:World) (mb Bs Bx:Nat) (L:List ByteArray) (V:World):Prop:=∃ sv,Boxed V Bx 31 sv∧Nms V w.heap.size sv L∧Below w.heap.size w V∧Boxed V w.heap.size 92 (.pointer (some ⟨mb,0,none⟩))∧V.heap[Bs]?=some (.cells #[.string ⟨#[]⟩,.int .u64 0,.slice none 0 0] 63 (0,0))
theorem StI.gr {w V V':World} {row:Option Nat} {mb Bs Bx:Nat} {L:List ByteArray} (h:StI w mb Bs Bx L V) (hg:V.grownBy V' row) (hr:∀ r,row=some r→w.heap.size≤r∧∃ o:Obj,V.heap[r]?=some o∧o.isCells=false):StI w mb Bs Bx L V':=by
 obtain ⟨sv,a,b,c,d,e⟩:=h
 have hk:Kd (fun _=>False) V V':=jH hg (fun r e=>(hr r e).2)
 exact ⟨sv,hk.boxed a (fun h=>h),b.gr hg (fun r e=>(hr r e).2),c.trans ⟨hg.os,hg.tape,hg.output,hg.size,fun k hk'=>hg.block k (by have:=c.size;omega) (fun e=>by have:=(hr k e.symm).1;omega)⟩,hk.boxed d (fun h=>h),(hk.ax _ _ _ _ e (fun h=>h)).trans e⟩
end Pg
theorem vx (w:World) (lo mb pb b cap:Nat) (r:Pg.RSt) (ps:List Pg.PS) (fin:Nat) (EN LV:Nat→List Pg.PA) (ev:ByteArray) (hP:Pg.fw w lo pb b cap ps fin EN LV) (h:Pg.MT w lo mb pb r) (hin:∀ i,i∈Pg.els r.act→i<ps.length) (hcl:∀ V:World,Calls Tryz.prog 141 #[.string ev] V fun e w'=>e = .returned (.string ev)∧Below V.heap.size V w') :
  Calls Tryz.prog 114 #[.pointer (some ⟨mb,0,none⟩),.string ev] w fun e w'=>∃ sv,e = .returned (.agg #[.string ev,.int .u64 r.now,sv])∧Pg.Nms w' w.heap.size sv ((Pg.els r.act).map (Pg.dP ps))∧Below w.heap.size w w':=by
 obtain ⟨i0,hi,hz0,hz1,hz2⟩:=info_parts Tryz.sx
 refine (callsIn_wide (n:=8)).1 ?_
 have hlw:=hP.lw
 have hlo:=h.lo'
 have hact:=h.act
 have hml:=h.lt
 obtain ⟨m0,m1,_⟩:=h.c0
 have hB4:∀ o1 o2 o3 o4:Obj,Below w.heap.size w ((((w.alloc o1).alloc o2).alloc o3).alloc o4):=fun o1 o2 o3 o4=>((((Below.refl _ w).alloc (Nat.le_refl _) _).alloc (by simp) _).alloc (by simp;omega) _).alloc (by simp;omega) _
 have hm4:∀ o1 o2 o3 o4:Obj,((((w.alloc o1).alloc o2).alloc o3).alloc o4).drew.cell? ⟨mb,1,none⟩=some (.int .u32 r.act):=fun o1 o2 o3 o4=>((hB4 o1 o2 o3 o4).cell (p:=⟨mb,1,none⟩) hml).trans m1
 refine callsIn_of_wp_marks Tryz.func114 rfl trivial ?_ rfl
 simp only [Tryz.ntmps114,List.size_toArray,List.length_cons,List.length_nil,Nat.reduceAdd,Nat.reduceSub,Array.replicate_succ,Array.replicate_zero,List.push_toArray,List.append_toArray,List.nil_append,List.cons_append]
 have hmk:=fun (n:Nat) (hn:n≤255) (W:World)=>pr n (by omega) W
 gi_wp2_with (first
  | (refine ⟨trivial,?_⟩;gi_at_call 155;refine (callsIn_wide.2 (DU r.act _ hact)).mono ?_;rintro e w9 ⟨⟨nl,hnl,rfl⟩,hw9⟩;rw [hw9];clear hw9 w9;have hmk2:=fun W=>hmk nl hnl W)
  | (refine ⟨trivial,?_⟩;gi_at_call 150;refine (callsIn_wide.2 (dN r.act _)).mono ?_;rintro e w9 ⟨rfl,hw9⟩;rw [hw9];clear hw9 w9))
 have hh:∀ (W:World) (o:Obj),(W.alloc o).heap[W.heap.size]?=some o:=heap_alloc_new
 have hk:∀ (W:World) (o:Obj) (k:Nat) (u:Obj),W.heap[k]?=some u→(W.alloc o).heap[k]?=some u:=fun W o k u hu=>(Below.heap_alloc W o k (Array.getElem?_eq_some_iff.1 hu).1).trans hu
 have s1:(w.alloc (.cells #[.pointer (some ⟨mb,0,none⟩)] 92)).heap.size=w.heap.size+1:=by simp
 have s2:((w.alloc (.cells #[.pointer (some ⟨mb,0,none⟩)] 92)).alloc (.cells #[.string ⟨#[]⟩,.int .u64 0,.slice none 0 0] 63)).heap.size=w.heap.size+1+1:=by simp
 have s3:(((w.alloc (.cells #[.pointer (some ⟨mb,0,none⟩)] 92)).alloc (.cells #[.string ⟨#[]⟩,.int .u64 0,.slice none 0 0] 63)).alloc (.cells (madeCells #[.string ⟨#[]⟩] nl) 9)).heap.size=w.heap.size+1+1+1:=by simp
 have s4:((((w.alloc (.cells #[.pointer (some ⟨mb,0,none⟩)] 92)).alloc (.cells #[.string ⟨#[]⟩,.int .u64 0,.slice none 0 0] 63)).alloc (.cells (madeCells #[.string ⟨#[]⟩] nl) 9)).alloc (.cells #[.slice (some ⟨w.heap.size+1+1,0,none⟩) 0 nl] 31)).heap.size=w.heap.size+1+1+1+1:=by simp
 have hW0:Below w.heap.size w (((((w.alloc (.cells #[.pointer (some ⟨mb,0,none⟩)] 92)).alloc (.cells #[.string ⟨#[]⟩,.int .u64 0,.slice none 0 0] 63)).alloc (.cells (madeCells #[.string ⟨#[]⟩] nl) 9)).alloc (.cells #[.slice (some ⟨w.heap.size+1+1,0,none⟩) 0 nl] 31)).alloc (.cells #[.int .u32 r.act] 139)).drew:=((hB4 (.cells #[.pointer (some ⟨mb,0,none⟩)] 92) (.cells #[.string ⟨#[]⟩,.int .u64 0,.slice none 0 0] 63) (.cells (madeCells #[.string ⟨#[]⟩] nl) 9) (.cells #[.slice (some ⟨w.heap.size+1+1,0,none⟩) 0 nl] 31)).alloc (by simp;omega) _).drew
 have x0:Boxed (((((w.alloc (.cells #[.pointer (some ⟨mb,0,none⟩)] 92)).alloc (.cells #[.string ⟨#[]⟩,.int .u64 0,.slice none 0 0] 63)).alloc (.cells (madeCells #[.string ⟨#[]⟩] nl) 9)).alloc (.cells #[.slice (some ⟨w.heap.size+1+1,0,none⟩) 0 nl] 31)).alloc (.cells #[.int .u32 r.act] 139)).drew w.heap.size 92 (.pointer (some ⟨mb,0,none⟩)):=hk _ _ _ _ (hk _ _ _ _ (hk _ _ _ _ (hk _ _ _ _ (hh w _))))
 have x1:(((((w.alloc (.cells #[.pointer (some ⟨mb,0,none⟩)] 92)).alloc (.cells #[.string ⟨#[]⟩,.int .u64 0,.slice none 0 0] 63)).alloc (.cells (madeCells #[.string ⟨#[]⟩] nl) 9)).alloc (.cells #[.slice (some ⟨w.heap.size+1+1,0,none⟩) 0 nl] 31)).alloc (.cells #[.int .u32 r.act] 139)).drew.heap[w.heap.size+1]?=some (.cells #[.string ⟨#[]⟩,.int .u64 0,.slice none 0 0] 63 (0,0)):=hk _ _ _ _ (hk _ _ _ _ (hk _ _ _ _ (by rw [← s1];exact hh _ _)))
 have x2:(((((w.alloc (.cells #[.pointer (some ⟨mb,0,none⟩)] 92)).alloc (.cells #[.string ⟨#[]⟩,.int .u64 0,.slice none 0 0] 63)).alloc (.cells (madeCells #[.string ⟨#[]⟩] nl) 9)).alloc (.cells #[.slice (some ⟨w.heap.size+1+1,0,none⟩) 0 nl] 31)).alloc (.cells #[.int .u32 r.act] 139)).drew.heap[w.heap.size+1+1]?=some (.cells (madeCells #[.string ⟨#[]⟩] nl) 9 (0,0)):=hk _ _ _ _ (hk _ _ _ _ (by rw [← s2];exact hh _ _))
 have x3:Boxed (((((w.alloc (.cells #[.pointer (some ⟨mb,0,none⟩)] 92)).alloc (.cells #[.string ⟨#[]⟩,.int .u64 0,.slice none 0 0] 63)).alloc (.cells (madeCells #[.string ⟨#[]⟩] nl) 9)).alloc (.cells #[.slice (some ⟨w.heap.size+1+1,0,none⟩) 0 nl] 31)).alloc (.cells #[.int .u32 r.act] 139)).drew (w.heap.size+1+1+1) 31 (.slice (some ⟨w.heap.size+1+1,0,none⟩) 0 nl):=hk _ _ _ _ (by rw [← s3];exact hh _ _)
 have x4:Boxed (((((w.alloc (.cells #[.pointer (some ⟨mb,0,none⟩)] 92)).alloc (.cells #[.string ⟨#[]⟩,.int .u64 0,.slice none 0 0] 63)).alloc (.cells (madeCells #[.string ⟨#[]⟩] nl) 9)).alloc (.cells #[.slice (some ⟨w.heap.size+1+1,0,none⟩) 0 nl] 31)).alloc (.cells #[.int .u32 r.act] 139)).drew (w.heap.size+1+1+1+1) 139 (.int .u32 r.act):=by
  show ((((w.alloc (.cells #[.pointer (some ⟨mb,0,none⟩)] 92)).alloc (.cells #[.string ⟨#[]⟩,.int .u64 0,.slice none 0 0] 63)).alloc (.cells (madeCells #[.string ⟨#[]⟩] nl) 9)).alloc (.cells #[.slice (some ⟨w.heap.size+1+1,0,none⟩) 0 nl] 31) |>.alloc (.cells #[.int .u32 r.act] 139)).heap[_]?=_
  rw [← s4]
  exact hh _ _
 have hs0:(((((w.alloc (.cells #[.pointer (some ⟨mb,0,none⟩)] 92)).alloc (.cells #[.string ⟨#[]⟩,.int .u64 0,.slice none 0 0] 63)).alloc (.cells (madeCells #[.string ⟨#[]⟩] nl) 9)).alloc (.cells #[.slice (some ⟨w.heap.size+1+1,0,none⟩) 0 nl] 31)).alloc (.cells #[.int .u32 r.act] 139)).drew.heap.size=w.heap.size+5:=by simp
 have hI0:Pg.StI w mb (w.heap.size+1) (w.heap.size+1+1+1) [] (((((w.alloc (.cells #[.pointer (some ⟨mb,0,none⟩)] 92)).alloc (.cells #[.string ⟨#[]⟩,.int .u64 0,.slice none 0 0] 63)).alloc (.cells (madeCells #[.string ⟨#[]⟩] nl) 9)).alloc (.cells #[.slice (some ⟨w.heap.size+1+1,0,none⟩) 0 nl] 31)).alloc (.cells #[.int .u32 r.act] 139)).drew:=⟨_,x3,⟨rfl,.inr ⟨_,nl,_,rfl,by omega,x2,Nat.zero_le _,by unfold maxLen;omega,by rw [size_madeCells];omega,rfl⟩⟩,hW0,x0,x1⟩
 clear s1 s2 s3 s4 hh hk x0 x1 x2 x3 hmk hmk2 hm4 hB4
 generalize (((((w.alloc (.cells #[.pointer (some ⟨mb,0,none⟩)] 92)).alloc (.cells #[.string ⟨#[]⟩,.int .u64 0,.slice none 0 0] 63)).alloc (.cells (madeCells #[.string ⟨#[]⟩] nl) 9)).alloc (.cells #[.slice (some ⟨w.heap.size+1+1,0,none⟩) 0 nl] 31)).alloc (.cells #[.int .u32 r.act] 139)).drew=W0 at *
 have hT0:TabAt 1 Lib.deBruijn32tab W0:=Pg.bT hlw (hW0.mono hlo) h.tab5
 refine lu (by omega) (w.heap.size+1+1+1+1) r.act hact rfl (by omega) (by have:=hlw.g5;omega) x4.cell hT0 rfl
  (fun pre V=>Pg.StI w mb (w.heap.size+1) (w.heap.size+1+1+1) ((Pg.aS pre).map (Pg.dP ps)) V) (fun _ _ _=>False)
  (fun pre A C row h hg hr=>h.gr hg (fun r e=>⟨by have:=(hr r e).1;omega,(hr r e).2⟩))
  (fun _ _ _ _ _ hs _ _=>hs) hI0
  (fun x a' _=>a'={ tmps:=#[.pointer (some ⟨mb,0,none⟩),.string ev,.pointer (some ⟨w.heap.size,0,none⟩),undef,.pointer (some ⟨w.heap.size+1,0,none⟩),.pointer (some ⟨w.heap.size+1+1+1,0,none⟩),.int .i64 x.1,.pointer (some ⟨mb,0,none⟩),.pointer (some ⟨mb,0,none⟩),.pointer (some ⟨mb,1,none⟩),.int .u32 r.act,.int .i64 nl,.slice (some ⟨w.heap.size+1+1,0,none⟩) 0 nl,.pointer (some ⟨mb,0,none⟩),.pointer (some ⟨mb,0,none⟩),.pointer (some ⟨mb,1,none⟩),.int .u32 r.act,.func (.func 187) #[] #[.pointer (some ⟨w.heap.size+1+1+1+1,0,none⟩)],.int .i64 x.1,undef,undef,undef,undef,undef,undef,undef,undef,undef,undef,undef,undef,undef,undef,undef,undef,undef,undef,undef,undef],defers:=[] }) (fun _ _ _ _ _ _ hs _ _=>hs) ?assign ?body ?done ?stop
 case assign =>
  intro l pre x V K hI hK
  gi_wp2
  exact hK _ _ (KeepsFrom.refl _ _) (fun h=>h) hI rfl
 case body =>
  rintro l pre x a' V hl ⟨rl,hrl⟩ ⟨sv,hbx,hN,hB,hbm,hbs⟩ rfl hpl
  have hix:=hin x.1 x.2
  obtain ⟨p,hp⟩:∃ p,ps[x.1]?=some p:=⟨_,List.getElem?_eq_getElem hix⟩
  have hxi:((x.1:Int)<(ps.length:Int)):=by omega
  have hnm:Pg.dP ps x.1=p.name:=by unfold Pg.dP;rw [hp]
  have HSN:Hid ((Pg.aS (pre++[x])).map (Pg.dP ps)=(Pg.aS pre).map (Pg.dP ps)++[p.name]):=by
   unfold Hid
   rw [Pg.dW,List.map_append,← hnm]
   rfl
  have hvl:((Pg.aS pre).map (Pg.dP ps)).length≤32:=by rw [List.length_map,Pg.cn,List.length_map];omega
  generalize (Pg.aS pre).map (Pg.dP ps)=L at *
  obtain ⟨sa,sc,rfl⟩:=hN.n
  have hVs:=hB.size
  have hPV:=hP.below (hB.mono hlo)
  have hBa:Below V.heap.size V (V.drew.alloc (.cells #[.string p.name] 9)):=(Below.refl _ V).drew.alloc (Nat.le_refl _) _
  have hkB:∀ W:World,Below V.heap.size V W→(fun V=>V.cell? ⟨w.heap.size,0,none⟩=some (.pointer (some ⟨mb,0,none⟩))∧V.cell? ⟨mb,0,none⟩=some (.pointer (some ⟨pb,0,none⟩))∧V.cell? ⟨pb,0,none⟩=some (.slice (some ⟨b,0,none⟩) ps.length cap)∧V.cell? ⟨b,x.1*10+1,none⟩=some (.string p.name)) W:=fun W hW=>⟨(aB hbm hW hbm.lt).cell,((h.below hlw hB).below hlw hW).c0.1,(hPV.below (hW.mono (Nat.le_trans hlo hVs))).cX.row,((hPV.below (hW.mono (Nat.le_trans hlo hVs))).cX.at' x.1 p hp).c1⟩
  have cx1:V.drew.cell? ⟨w.heap.size+1+1+1,0,none⟩=some (.slice sa L.length sc):=hbx.cell
  have cx2:(V.drew.alloc (.cells #[.string p.name] 9)).cell? ⟨w.heap.size+1+1+1,0,none⟩=some (.slice sa L.length sc):=(aB hbx hBa hbx.lt).cell
  have cx3:(V.alloc (.cells #[.string p.name] 9)).drew.cell? ⟨w.heap.size+1+1+1,0,none⟩=some (.slice sa L.length sc):=cx2
  have hpbl:pb<w.heap.size:=by have:=hP.pb';omega
  have hbbl:b<w.heap.size:=by have:=hP.b';omega
  have hkd:=hN.kind
  have HG:Hid (∀ (w5:World),(V.drew.alloc (.cells #[.string p.name] 9)).grownBy w5 (Value.ownBlock (.slice sa L.length sc))→(fun V=>V.cell? ⟨w.heap.size,0,none⟩=some (.pointer (some ⟨mb,0,none⟩))∧V.cell? ⟨mb,0,none⟩=some (.pointer (some ⟨pb,0,none⟩))∧V.cell? ⟨pb,0,none⟩=some (.slice (some ⟨b,0,none⟩) ps.length cap)∧V.cell? ⟨b,x.1*10+1,none⟩=some (.string p.name)) w5∧Boxed w5 (w.heap.size+1+1+1) 31 (.slice sa L.length sc)∧Below w.heap.size w w5∧Boxed w5 w.heap.size 92 (.pointer (some ⟨mb,0,none⟩))∧w5.heap[w.heap.size+1]?=some (.cells #[.string ⟨#[]⟩,.int .u64 0,.slice none 0 0] 63 (0,0))∧KeepsOthers V w5):=fun w5 hg=>by
   have hm:Mo (fun k=>Value.ownBlock (.slice sa L.length sc)=some k) V w5:=(aq hBa).trans ⟨hg.os,hg.tape,hg.output,hg.size,fun k hk hn=>hg.block k hk (fun e=>hn e.symm)⟩
   have ne:∀ (k:Nat) (c:Array Value) (t:TypeId) (f:Nat×Nat),V.heap[k]?=some (.cells c t f)→t≠9→¬ (Value.ownBlock (.slice sa L.length sc)=some k):=fun k c t f hk ht e=>by
    obtain ⟨_,_,c',hc'⟩:=hkd k e
    rw [hk] at hc'
    cases hc'
    exact ht rfl
   have hbl:Below w.heap.size w w5:=hm.below hB hVs (fun i hi e=>by have:=(hkd i e).1;omega)
   have hb3:Boxed w5 w.heap.size 92 (.pointer (some ⟨mb,0,none⟩)):=Boxed.mo hbm hm (ne _ _ _ _ hbm (by decide))
   exact ⟨⟨hb3.cell,(h.below hlw hbl).c0.1,(hP.below (hbl.mono hlo)).cX.row,((hP.below (hbl.mono hlo)).cX.at' x.1 p hp).c1⟩,Boxed.mo hbx hm (ne _ _ _ _ hbx (by decide)),hbl,hb3,(hm.block _ (Array.getElem?_eq_some_iff.1 hbs).1 (ne _ _ _ _ hbs (by decide))).trans hbs,⟨hm.size,fun k o hk ho=>(hm.block k (Array.getElem?_eq_some_iff.1 hk).1 (fun e=>by
    obtain ⟨_,_,c',hc'⟩:=hkd k e
    rw [hk] at hc'
    cases hc'
    cases ho)).trans hk⟩⟩
  have hown:(V.drew.alloc (.cells #[.string p.name] 9)).ownsRow w.heap.size 9 1 (.slice sa L.length sc) L.length (L.flatMap Pg.Am):=(show V.drew.ownsRow _ _ _ _ _ _ from hN).alloc _
  gi_wp2
  refine dv (S:=(fun V=>V.cell? ⟨w.heap.size,0,none⟩=some (.pointer (some ⟨mb,0,none⟩))∧V.cell? ⟨mb,0,none⟩=some (.pointer (some ⟨pb,0,none⟩))∧V.cell? ⟨pb,0,none⟩=some (.slice (some ⟨b,0,none⟩) ps.length cap)∧V.cell? ⟨b,x.1*10+1,none⟩=some (.string p.name))) (by kernel_rfl) (by kernel_rfl) (by rintro ⟨_,_,h⟩;exact h) (hkB _ (Below.refl _ V).drew) (fun hHeld => ?_)
  refine tD (some 20) 1 (.pointer (some ⟨mb,0,none⟩)) rfl hHeld ?_
  refine tD (some 21) 2 (.pointer (some ⟨mb,0,none⟩)) rfl hHeld ?_
  refine tD (some 22) 3 (.pointer (some ⟨mb,0,none⟩)) rfl hHeld ?_
  refine tD (some 23) 4 (.pointer (some ⟨pb,0,none⟩)) rfl hHeld ?_
  refine tD (some 24) 5 (.pointer (some ⟨pb,0,none⟩)) rfl hHeld ?_
  refine tD (some 25) 6 (.pointer (some ⟨pb,0,none⟩)) rfl hHeld ?_
  refine tD (some 26) 7 (.slice (some ⟨b,0,none⟩) ps.length cap) rfl hHeld ?_
  refine tD (some 27) 8 (.int .i64 x.1) rfl hHeld ?_
  refine tD (some 28) 9 (.pointer (some ⟨b,x.1*10,none⟩)) rfl hHeld ?_
  refine tD (some 29) 10 (.pointer (some ⟨b,x.1*10+1,none⟩)) rfl hHeld ?_
  refine tD (some 30) 11 (.string p.name) rfl hHeld ?_
  refine yH [0,12] ?_
  refine AllReadyH.cons rfl (fun K hK => ?rg1) (AllReadyH.cons rfl (fun K hK => ?rg2) AllReadyH.nil)
  case' rg1 =>
   go_simp
   refine hK.out _ _ hHeld (fun hHeld => ?_)
   clear hK K
   refine zH 12 rfl fun K hK => ?_
   go_simp
   refine hK.out _ _ (hkB _ hBa) (fun hHeld => ?_)
   clear hK K
   refine zH 13 rfl fun K hK => ?_
   refine step_append_lies _ (by rfl) _ _ _ (by rfl) w.heap.size 9 i0 _ 1 16 Tryz.underlying31 hi hz0 hz1 hz2 rfl (by decide) (.slice sa L.length sc) L.length (L.flatMap Pg.Am) (by rfl) hown ⟨V.drew.heap.size,0,none⟩ 1 1 [.string p.name] (by rfl) (by rfl) (World.news_of_block (cs:=#[.string p.name]) (t:=9) (fr:=(0,0)) (heap_alloc_new V.drew _)) (fun u hu=>by simp at hu;subst hu;rfl) (by omega) (by unfold maxLen;omega) (by omega) (Nat.le_trans hVs hBa.size) _ rfl ?_
   intro g5 cap5 w5 hown5 hgrow hat hlt5
   obtain ⟨hS5,hbx5,hB5,hbm5,hbs5,hko5⟩:=HG.out w5 hgrow
   have c5:=hbx5.cell
   have f5:=hbx5.frozen
   refine hK.out _ _ hS5 (fun hHeld => ?_)
   clear hK K
   refine zH 14 rfl fun K hK => ?_
   go_simp
   refine hK.out _ _ (by
    exact ⟨(au (by intro h;injection h with h1;omega)).trans hHeld.1,(au (by intro h;injection h with h1;omega)).trans hHeld.2.1,(au (by intro h;injection h with h1;omega)).trans hHeld.2.2.1,(au (by intro h;injection h with h1;omega)).trans hHeld.2.2.2⟩) (fun hHeld => ?_)
   clear hK K hHeld
   refine wpAnyH_done (by kernel_rfl) ?_ _
   gi_wp2
   have hne5:∀ k,Value.ownBlock (.slice (some ⟨g5,0,none⟩) (L.length+1) cap5)=some k→¬ (k=w.heap.size+1+1+1):=fun k hk e=>by
    cases hk
    rcases hown5.2 with ⟨a,_⟩ | ⟨g',cp',cu',a,_,c',_⟩
    ·cases a
    ·simp only [Value.slice.injEq,Option.some.injEq,Addr.mk.injEq] at a
     obtain ⟨⟨rfl,_⟩,_⟩:=a
     have hq:=hbx5
     rw [← e] at hq
     rw [show w5.heap[g5]?=_ from hq] at c'
     simp at c'
   have hmo5:Mo (· = w.heap.size+1+1+1) w5 (w5.setCell ⟨w.heap.size+1+1+1,0,none⟩ (.slice (some ⟨g5,0,none⟩) (L.length+1) cap5)):=(Mo.refl _ _).set _ _ rfl
   have hBf:=hB5.setCell (p:=⟨w.heap.size+1+1+1,0,none⟩) (by simp;omega) (.slice (some ⟨g5,0,none⟩) (L.length+1) cap5)
   refine ⟨(hko5.trans (KeepsOthers.setCell _ _ _)).from _,fun hT=>Pg.bT hlw (hBf.mono hlo) h.tab5,_,hbx5.set _,?_,hBf,bP hbm5 (p:=⟨w.heap.size+1+1+1,0,none⟩) (by show w.heap.size≠w.heap.size+1+1+1;omega) _,(Below.heap_setCell w5 ⟨w.heap.size+1+1+1,0,none⟩ _ _ (by show w.heap.size+1≠w.heap.size+1+1+1;omega)).trans hbs5⟩
   have hof:=hmo5.own hown5 hne5
   show Pg.Nms _ _ _ ((Pg.aS (pre++[x])).map (Pg.dP ps))
   rw [HSN.out]
   show World.ownsRow _ _ _ _ _ (L++[p.name]).length ((L++[p.name]).flatMap Pg.Am)
   rw [List.length_append,List.flatMap_append]
   exact hof
  case' rg2 =>
   go_simp
   refine hK.out _ _ (hkB _ hBa) (fun hHeld => ?_)
   clear hK K
   refine zH 0 rfl fun K hK => ?_
   go_simp
   refine hK.out _ _ hHeld (fun hHeld => ?_)
   clear hK K
   refine zH 13 rfl fun K hK => ?_
   refine step_append_lies _ (by rfl) _ _ _ (by rfl) w.heap.size 9 i0 _ 1 16 Tryz.underlying31 hi hz0 hz1 hz2 rfl (by decide) (.slice sa L.length sc) L.length (L.flatMap Pg.Am) (by rfl) hown ⟨V.drew.heap.size,0,none⟩ 1 1 [.string p.name] (by rfl) (by rfl) (World.news_of_block (cs:=#[.string p.name]) (t:=9) (fr:=(0,0)) (heap_alloc_new V.drew _)) (fun u hu=>by simp at hu;subst hu;rfl) (by omega) (by unfold maxLen;omega) (by omega) (Nat.le_trans hVs hBa.size) _ rfl ?_
   intro g5 cap5 w5 hown5 hgrow hat hlt5
   obtain ⟨hS5,hbx5,hB5,hbm5,hbs5,hko5⟩:=HG.out w5 hgrow
   have c5:=hbx5.cell
   have f5:=hbx5.frozen
   refine hK.out _ _ hS5 (fun hHeld => ?_)
   clear hK K
   refine zH 14 rfl fun K hK => ?_
   go_simp
   refine hK.out _ _ (by
    exact ⟨(au (by intro h;injection h with h1;omega)).trans hHeld.1,(au (by intro h;injection h with h1;omega)).trans hHeld.2.1,(au (by intro h;injection h with h1;omega)).trans hHeld.2.2.1,(au (by intro h;injection h with h1;omega)).trans hHeld.2.2.2⟩) (fun hHeld => ?_)
   clear hK K hHeld
   refine wpAnyH_done (by kernel_rfl) ?_ _
   gi_wp2
   have hne5:∀ k,Value.ownBlock (.slice (some ⟨g5,0,none⟩) (L.length+1) cap5)=some k→¬ (k=w.heap.size+1+1+1):=fun k hk e=>by
    cases hk
    rcases hown5.2 with ⟨a,_⟩ | ⟨g',cp',cu',a,_,c',_⟩
    ·cases a
    ·simp only [Value.slice.injEq,Option.some.injEq,Addr.mk.injEq] at a
     obtain ⟨⟨rfl,_⟩,_⟩:=a
     have hq:=hbx5
     rw [← e] at hq
     rw [show w5.heap[g5]?=_ from hq] at c'
     simp at c'
   have hmo5:Mo (· = w.heap.size+1+1+1) w5 (w5.setCell ⟨w.heap.size+1+1+1,0,none⟩ (.slice (some ⟨g5,0,none⟩) (L.length+1) cap5)):=(Mo.refl _ _).set _ _ rfl
   have hBf:=hB5.setCell (p:=⟨w.heap.size+1+1+1,0,none⟩) (by simp;omega) (.slice (some ⟨g5,0,none⟩) (L.length+1) cap5)
   refine ⟨(hko5.trans (KeepsOthers.setCell _ _ _)).from _,fun hT=>Pg.bT hlw (hBf.mono hlo) h.tab5,_,hbx5.set _,?_,hBf,bP hbm5 (p:=⟨w.heap.size+1+1+1,0,none⟩) (by show w.heap.size≠w.heap.size+1+1+1;omega) _,(Below.heap_setCell w5 ⟨w.heap.size+1+1+1,0,none⟩ _ _ (by show w.heap.size+1≠w.heap.size+1+1+1;omega)).trans hbs5⟩
   have hof:=hmo5.own hown5 hne5
   show Pg.Nms _ _ _ ((Pg.aS (pre++[x])).map (Pg.dP ps))
   rw [HSN.out]
   show World.ownsRow _ _ _ _ _ (L++[p.name]).length ((L++[p.name]).flatMap Pg.Am)
   rw [List.length_append,List.flatMap_append]
   exact hof
 case done =>
  rintro D ys V hD hys ⟨sv,hbx,hN,hB,hbm,hbs⟩ hdef
  rw [hys] at hN
  obtain ⟨L,hL⟩:∃ L,Hid ((Pg.els r.act).map (Pg.dP ps)=L):=⟨_,rfl⟩
  rw [hL.out] at hN
  obtain ⟨sa,sc,rfl⟩:=hN.n
  have h1c:(#[.string ev,.int .u64 r.now,.slice sa L.length sc]:Array Value).toList.all (·.oneCell')=true:=rfl
  have hBd:=(Below.refl V.heap.size V).drew
  have hkd:=hN.kind
  have hcl2:∀ W:World,Below V.heap.size V W→Calls Tryz.prog 141 #[.string ev] W fun e w'=>e = .returned (.string ev)∧Below V.heap.size V w':=fun W hW=>(hcl W).mono (fun e w' y=>⟨y.1,hW.trans (y.2.mono hW.size)⟩)
  have hnow:∀ W:World,Below V.heap.size V W→Calls Tryz.prog 45 #[.pointer (some ⟨mb,0,none⟩)] W fun e w'=>e = .returned (.int .u64 r.now)∧Below V.heap.size V w':=fun W hW=>by
   obtain ⟨qv,wh,a,_⟩:=((h.below hlw hB).below hlw hW).ex
   exact (Eb W lo mb pb qv (r.m wh) a).mono (fun e w' y=>⟨y.1,by rw [y.2];exact hW⟩)
  have hkB:∀ W:World,Below V.heap.size V W→(fun V=>V.cell? ⟨w.heap.size,0,none⟩=some (.pointer (some ⟨mb,0,none⟩))∧V.cell? ⟨w.heap.size+1+1+1,0,none⟩=some (.slice sa L.length sc)) W:=fun W hW=>⟨(aB hbm hW hbm.lt).cell,(aB hbx hW hbx.lt).cell⟩
  have HB:Hid (∀ W:World,Below V.heap.size V W→W.heap[w.heap.size+1]?=some (.cells #[.string ⟨#[]⟩,.int .u64 0,.slice none 0 0] 63 (0,0))∧(fun V=>V.cell? ⟨w.heap.size,0,none⟩=some (.pointer (some ⟨mb,0,none⟩))∧V.cell? ⟨w.heap.size+1+1+1,0,none⟩=some (.slice sa L.length sc)) (W.setRow (w.heap.size+1) #[.string ev,.int .u64 r.now,.slice sa L.length sc])∧(W.setRow (w.heap.size+1) #[.string ev,.int .u64 r.now,.slice sa L.length sc]).heap[D]?=some (.deferred (some []))∧((W.setRow (w.heap.size+1) #[.string ev,.int .u64 r.now,.slice sa L.length sc]).putObj D (.deferred none)).heap[w.heap.size+1]?=some (.cells #[.string ev,.int .u64 r.now,.slice sa L.length sc] 63 (0,0))∧Pg.Nms ((W.setRow (w.heap.size+1) #[.string ev,.int .u64 r.now,.slice sa L.length sc]).putObj D (.deferred none)) w.heap.size (.slice sa L.length sc) L∧Below w.heap.size w ((W.setRow (w.heap.size+1) #[.string ev,.int .u64 r.now,.slice sa L.length sc]).putObj D (.deferred none))):=fun W hW=>by
   have hbW:=(hW.block _ (Array.getElem?_eq_some_iff.1 hbs).1).trans hbs
   obtain ⟨k1,k2⟩:=hkB W hW
   have hDV:=(Array.getElem?_eq_some_iff.1 hdef).1
   have hDf:(W.setRow (w.heap.size+1) #[.string ev,.int .u64 r.now,.slice sa L.length sc]).heap[D]?=some (.deferred (some [])):=(setRow_other W _ _ _ (by omega)).trans ((hW.block D hDV).trans hdef)
   have hrow:(W.setRow (w.heap.size+1) #[.string ev,.int .u64 r.now,.slice sa L.length sc]).heap[w.heap.size+1]?=_:=setRow_heap W _ _ #[.string ev,.int .u64 r.now,.slice sa L.length sc] _ _ hbW
   have hmf:Mo (fun k=>k=w.heap.size+1∨k=D) V (W.setRow (w.heap.size+1) #[.string ev,.int .u64 r.now,.slice sa L.length sc]):=(aq hW).trans ((yq (ic W (w.heap.size+1) _)).mono (fun i _ e => .inl e))
   have hmp:Mo (fun k=>k=w.heap.size+1∨k=D) (W.setRow (w.heap.size+1) #[.string ev,.int .u64 r.now,.slice sa L.length sc]) ((W.setRow (w.heap.size+1) #[.string ev,.int .u64 r.now,.slice sa L.length sc]).putObj D (.deferred none)):=by
    have hg:=grownBy_putObj' (W.setRow (w.heap.size+1) #[.string ev,.int .u64 r.now,.slice sa L.length sc]) D (.deferred none)
    exact ⟨hg.os,hg.tape,hg.output,hg.size,fun k hk hn=>hg.block k hk (fun e=>hn (.inr (by cases e;rfl)))⟩
   have hBf:Below w.heap.size w ((W.setRow (w.heap.size+1) #[.string ev,.int .u64 r.now,.slice sa L.length sc]).putObj D (.deferred none)):=(hmf.trans hmp).below hB hB.size (fun i hi e=>by rcases e with e | e <;> omega)
   refine ⟨hbW,⟨(World.cell?_of_block (w:=W) (setRow_other W _ _ _ (by show w.heap.size≠w.heap.size+1;omega))).trans k1,(World.cell?_of_block (w:=W) (setRow_other W _ _ _ (by show w.heap.size+1+1+1≠w.heap.size+1;omega))).trans k2⟩,hDf,(World.putObj_heap_other (by omega)).trans hrow,?_,hBf⟩
   refine (hmf.trans (hmp)).own hN (fun g hg e => ?_)
   obtain ⟨_,gl,c',hc'⟩:=hkd g hg
   rcases e with e | e
   ·rw [e,hbs] at hc'
    simp at hc'
   ·rw [e,hdef] at hc'
    simp at hc'
  gi_wp2
  refine wpIn_wide.2 (jY ?_)
  refine wp_region_held_drew (S:=(fun V=>V.cell? ⟨w.heap.size,0,none⟩=some (.pointer (some ⟨mb,0,none⟩))∧V.cell? ⟨w.heap.size+1+1+1,0,none⟩=some (.slice sa L.length sc))) (by kernel_rfl) (hkB _ (Below.refl _ V).drew) (fun hHeld => ?_)
  refine tD (some 33) 0 (.string ev) rfl hHeld ?_
  refine tD (some 35) 2 (.pointer (some ⟨mb,0,none⟩)) rfl hHeld ?_
  refine tD (some 37) 4 (.slice sa L.length sc) rfl hHeld ?_
  refine zH 1 rfl fun K hK => ?_
  go_simp
  refine (hcl2 _ (by assumption)).mono ?_
  rintro e wA ⟨rfl,hA⟩
  refine hK.out _ _ (hkB wA hA) (fun hHeld => ?_)
  clear hK K
  refine zH 3 rfl fun K hK => ?_
  go_simp
  refine (hnow _ (by assumption)).mono ?_
  rintro e wA ⟨rfl,hA⟩
  refine hK.out _ _ (hkB wA hA) (fun hHeld => ?_)
  clear hK K
  refine tD (some 38) 5 (.agg #[.string ev,.int .u64 r.now,.slice sa L.length sc]) rfl hHeld ?_
  refine yH [6] ?_
  refine lR rfl (by kernel_rfl) (fun K hK => ?_) AllReadyH.nil
  refine jn 63 _ _ rfl (w.heap.size+1) 63 #[.string ⟨#[]⟩,.int .u64 0,.slice none 0 0] #[.string ev,.int .u64 r.now,.slice sa L.length sc] rfl rfl (HB.out wA hA).1 (by kernel_rfl) rfl h1c ?_
  refine hK.out _ _ (HB.out wA hA).2.1 (fun hHeld => ?_)
  clear hK K
  refine wpAnyH_done (by kernel_rfl) ?_ _
  obtain ⟨y1,y2,y3,y4,y5,y6⟩:=HB.out wA hA
  unfold nn
  gi_wp2
  refine ⟨by simp,.inl ⟨_,_,rfl,run_takeDeferred y3,?_⟩⟩
  refine ⟨.agg #[.string ev,.int .u64 r.now,.slice sa L.length sc],?_,_,rfl,(by rw [hL.out];exact y5),y6⟩
  rw [fZ rfl]
  have hld:=run_loadVar_mid (P:=Tryz.prog) ((wA.setRow (w.heap.size+1) #[.string ev,.int .u64 r.now,.slice sa L.length sc]).putObj D (.deferred none)) (w.heap.size+1) 0 63 [.string ev,.int .u64 r.now,.slice sa L.length sc] _ (jg y4) Tryz.underlying63 rfl (by kernel_rfl)
  simpa [asAddr] using hld
 case stop =>
  rintro D c pre V _ _ h _
  exact h.elim
namespace Pg
def whz (i:Nat):Value:=if (i-28) % 65=64∧i<418 then .int .u64 0 else .pointer none
def r0:RSt:=⟨0,fun _=>0,[],0,[],0⟩
def mz (pb:Nat):Array Value:=((List.range 420).map (fE pb (.slice none 0 0) (r0.m whz))).toArray
end Pg
theorem A9 (pb:Nat):Tryz.prog.built 152 [(0,.pointer (some ⟨pb,0,none⟩))]=some (Pg.mz pb):=by kernel_rfl
theorem lW (pb:Nat) (w:World):(Instr.build 152 #[(0,.pointer (some ⟨pb,0,none⟩))]).run Tryz.prog w = .ok (.agg (Pg.mz pb)) w:=run_build w _ _ _ (A9 pb)
namespace Pg
theorem CT {r:Nat} (h:isR r):whz (28+r) = .pointer none:=by
 unfold whz
 rw [if_neg (by rcases h with h | h <;> omega)]
theorem CS {k:Nat} (h:k<6):whz (28+(k*65+64)) = .int .u64 0:=by
 unfold whz
 rw [if_pos (by omega)]
theorem MT.made {w:World} {lo pb:Nat} (hl:Lw lo) (hlo:lo≤w.heap.size) (h6:TabAt 2 Lib.deBruijn64tab w) (h5:TabAt 1 Lib.deBruijn32tab w):MT (w.alloc (.cells (mz pb) 152)) lo w.heap.size pb r0∧Rf lo w (w.alloc (.cells (mz pb) 152)):=by
 have hb:Below w.heap.size w (w.alloc (.cells (mz pb) 152)):=(Below.refl _ w).alloc (Nat.le_refl _) _
 refine ⟨⟨⟨.slice none 0 0,whz,⟨⟨mz pb,heap_alloc_new w _,?_,fun i hi => ?_⟩,QAt.nil _ _,hlo⟩,fun _=>[],⟨⟨fun r hr=>CT hr,fun r hr i x hx=>(by simp at hx),fun r hr x hx=>(by cases hx),fun r q _ _ _ x hx=>(by cases hx),fun r hr=>List.nodup_nil⟩,fun k hk=>⟨0,by decide,CS hk,fun s hs=>by simp⟩⟩,fun r hr=>rfl,fun t ht=>by cases ht⟩,Nat.le_trans hlo hb.size,by decide,by decide,by decide,fq hl (hb.mono hlo) h6,bT hl (hb.mono hlo) h5⟩,RfE.of hb hlo⟩
 ·unfold mz;simp
 ·unfold mz
  rw [List.getElem?_toArray,List.getElem?_map,List.getElem?_range hi]
  rfl
theorem od {w:World} {lo pb b cap:Nat} {ps:List PS} {fin:Nat} {EN LV:Nat→List PA} {hvs:Ref.Sl} {H:List HV} {D:Nat→Bool} {mbm n:Nat} {T:ByteArray→Option (List (Option PM))} {M:ByteArray→Option Nat} {Lr:Nat→List (Option Nat)} {pmF:Nat→PM} {acF:Nat→List PA} (hP:mh w lo pb b cap ps fin EN LV hvs H D mbm n T M Lr pmF acF) (hz:SzP ps EN LV) (hza:∀ m,∀ a∈acF m,PA.sz a) {r:RSt} (hr:ROK ps r) (hq:QOK r) (x:ByteArray):ROK ps (aQ ps fin EN LV H D M Lr pmF acF r x)∧QOK (aQ ps fin EN LV H D M Lr pmF acF r x):=by
 refine ⟨xV hP.inn hr (fun m hm => ?_),xW hz hq (fun m _=>hza m)⟩
 obtain ⟨c1,_⟩:=fg ps r.act (fun m=>(pmF m).lv) (fun m=>(pmF m).own) (eV M Lr x (els (inn ps r.act))) _ (Nat.le_refl _)
 rw [List.take_length] at c1
 exact (hP.want x _ m (c1 m hm)).en
theorem Ch {ps:List PS} {step:RSt→ByteArray→RSt} (hs:∀ r x,ROK ps r→QOK r→ROK ps (step r x)∧QOK (step r x)):∀ (n:Nat) (r:RSt),ROK ps r→QOK r→ROK ps (di step n r)∧QOK (di step n r):=fun n=>by
 induction n with
 | zero =>
  intro r h k
  cases hq:r.q with
  | nil=>rw [j8 hq];exact ⟨h,k⟩
  | cons x qs =>
   by_cases hf:r.fin=0
   ·rw [pj hq hf]
    exact ⟨⟨h.act,h.kept⟩,⟨k.q,.inr (.inr rfl),k.tm⟩⟩
   ·rw [mM hf]
    exact ⟨h,k⟩
 | succ n ih =>
  intro r h k
  cases hq:r.q with
  | nil=>rw [j8 hq];exact ⟨h,k⟩
  | cons x qs =>
   by_cases hf:r.fin=0
   ·rw [ph hq hf]
    obtain ⟨a,b⟩:=hs { r with q:=qs } x ⟨h.act,h.kept⟩ ⟨fun e he=>k.q e (by rw [hq];exact List.mem_cons_of_mem _ he),k.fin,k.tm⟩
    exact ih _ a b
   ·rw [mM hf]
    exact ⟨h,k⟩
theorem o8 {ps:List PS} {step:RSt→ByteArray→RSt} (hs:∀ r x,ROK ps r→QOK r→ROK ps (step r x)∧QOK (step r x)) {r:RSt} (h:ROK ps r) (k:QOK r):ROK ps (dV step r)∧QOK (dV step r):=by
 obtain ⟨a,b⟩:=Ch hs 60 r h k
 exact ⟨⟨a.act,a.kept⟩,⟨fun e he=>(by cases he),b.fin,b.tm⟩⟩
def fM (ps:List PS) (fin:Nat) (EN LV:Nat→List PA) (H:List HV) (D:Nat→Bool) (M:ByteArray→Option Nat) (Lr:Nat→List (Option Nat)) (pmF:Nat→PM) (acF:Nat→List PA) (s:Nat):RSt :=
 dV (aQ ps fin EN LV H D M Lr pmF acF) (bY ps fin EN r0 (els s))
def fuelV (e:Nat):Value:=if e=6 then eP 6 else .nilIface
end Pg
theorem wpMach {op:Oper} {a:Act} {w:World} {K:Act→World→Prop} {Q:Exit→Act→World→Prop} (x:Operand) (ho:op.op = .build 152 #[(0,x)]) (pb:Nat) (hx:a.eval x = .pointer (some ⟨pb,0,none⟩)) (h:K (a.put op.dst (.agg (Pg.mz pb))) w):op.wp Tryz.prog a w K Q:=by
 unfold Oper.wp execOp
 simp only [ho,List.map_toArray,List.map_cons,List.map_nil,hx,Sem.run_bind,lW,Result.andThen_ok,Sem.run_pure]
 exact h
theorem xt (w:World) (lo pb b cap:Nat) (ps:List Pg.PS) (fin:Nat) (EN LV:Nat→List Pg.PA) (hvs:Ref.Sl) (H:List Pg.HV) (D:Nat→Bool) (mbm n:Nat) (T:ByteArray→Option (List (Option Pg.PM))) (M:ByteArray→Option Nat) (Lr:Nat→List (Option Nat)) (pmF:Nat→Pg.PM) (acF:Nat→List Pg.PA) (p0:Pg.PS) (hP:Pg.mh w lo pb b cap ps fin EN LV hvs H D mbm n T M Lr pmF acF) (hz:Pg.SzP ps EN LV) (hza:∀ m,∀ a∈acF m,Pg.PA.sz a) (hp0:ps[0]?=some p0) (hwt:p0.wth<2 ^ ps.length) (hlo:lo≤w.heap.size) (h6:TabAt 2 Lib.deBruijn64tab w) (h5:TabAt 1 Lib.deBruijn32tab w) (hcl:∀ V:World,Calls Tryz.prog 141 #[.string ⟨#[]⟩] V fun e w'=>e = .returned (.string ⟨#[]⟩)∧Below V.heap.size V w') :
  Calls Tryz.prog 74 #[.pointer (some ⟨pb,0,none⟩)] w fun e w'=>∃ mb sb sv,e = .returned (.tuple #[.pointer (some ⟨mb,0,none⟩),.slice (some ⟨sb,0,none⟩) 1 1,Pg.fuelV (Pg.fM ps fin EN LV H D M Lr pmF acF p0.wth).fin])∧w'.heap[sb]?=some (.cells #[.string ⟨#[]⟩,.int .u64 (Pg.fM ps fin EN LV H D M Lr pmF acF p0.wth).now,sv] 63 (0,0))∧Pg.Nms w' lo sv ((Pg.els (Pg.fM ps fin EN LV H D M Lr pmF acF p0.wth).act).map (Pg.dP ps))∧Pg.MT w' lo mb pb (Pg.fM ps fin EN LV H D M Lr pmF acF p0.wth)∧Pg.Rf lo w w'∧lo≤sb:=by
 have hlw:=hP.cX.lw
 have hN:=hP.N
 obtain ⟨hM0,hR0⟩:=Pg.MT.made (pb:=pb) hlw hlo h6 h5
 have hn0:0<ps.length:=(List.getElem?_eq_some_iff.1 hp0).1
 have hr0:Pg.ROK ps Pg.r0:=⟨Nat.two_pow_pos _,fun _=>Nat.two_pow_pos _⟩
 have hq0:Pg.QOK Pg.r0:=⟨fun e he=>(by cases he),.inl rfl,by decide,fun x hx=>(by cases hx)⟩
 have hr1:=Pg.mA (fin:=fin) (EN:=EN) (Pg.els p0.wth) Pg.r0 hr0 (Pg.gV hwt)
 have hq1:=Pg.mB hz (fin:=fin) (Pg.els p0.wth) Pg.r0 hq0
 have hlq1:=Pg.lr hP.cX (Pg.els p0.wth) Pg.r0 (Pg.gV hwt)
 have hle:=Pg.nL p0.wth
 obtain ⟨hr2,hq2⟩:=Pg.o8 (fun r x h k=>Pg.od hP hz hza h k x) hr1 hq1
 have HEN:Hid (Calls Tryz.prog 112 #[.pointer (some ⟨w.heap.size,0,none⟩),.int .u32 p0.wth] (w.alloc (.cells (Pg.mz pb) 152)) fun e w'=>e = .returned (.tuple #[])∧Hid (Pg.MT w' lo w.heap.size pb (Pg.bY ps fin EN Pg.r0 (Pg.els p0.wth))∧Pg.Rf lo w w')) :=
  (qK _ lo w.heap.size pb b cap Pg.r0 ps fin p0.wth EN LV (hP.cX.below hR0.bel) hM0 (Pg.p6 hN hwt) (Pg.gV hwt) (by show 0≤_;omega)).mono (fun e w' x=>⟨x.1,x.2.1,hR0.trans x.2.2⟩)
 have HAR:Hid (∀ V,Hid (Pg.MT V lo w.heap.size pb (Pg.bY ps fin EN Pg.r0 (Pg.els p0.wth))∧Pg.Rf lo w V)→Calls Tryz.prog 113 #[.pointer (some ⟨w.heap.size,0,none⟩)] V fun e w'=>e = .returned (.tuple #[])∧Hid (Pg.MT w' lo w.heap.size pb (Pg.fM ps fin EN LV H D M Lr pmF acF p0.wth)∧Pg.Rf lo w w')):=fun V hV =>
  (iH V lo w.heap.size pb b cap _ ps fin EN LV hvs H D mbm n T M Lr pmF acF (hP.rf hV.out.2) hz hza hV.out.1 hr1 hq1 (by have:Pg.r0.q.length=0:=rfl;omega)).mono (fun e w' x=>⟨x.1,x.2.1,hV.out.2.trans x.2.2⟩)
 have hra:(Pg.fM ps fin EN LV H D M Lr pmF acF p0.wth).act<2 ^ ps.length:=hr2.act
 have hrf:(Pg.fM ps fin EN LV H D M Lr pmF acF p0.wth).fin=0∨(Pg.fM ps fin EN LV H D M Lr pmF acF p0.wth).fin=5∨(Pg.fM ps fin EN LV H D M Lr pmF acF p0.wth).fin=6:=hq2.fin
 clear hr2 hq2 hr1 hq1 hr0 hq0 hlq1 hle
 generalize Pg.fM ps fin EN LV H D M Lr pmF acF p0.wth=r2 at *
 have HST:Hid (∀ V,Hid (Pg.MT V lo w.heap.size pb r2∧Pg.Rf lo w V)→Calls Tryz.prog 114 #[.pointer (some ⟨w.heap.size,0,none⟩),.string ⟨#[]⟩] V fun e w'=>∃ a k c,e = .returned (.agg #[.string ⟨#[]⟩,.int .u64 r2.now,.slice a k c])∧Hid (Pg.MT w' lo w.heap.size pb r2∧Pg.Rf lo w w'∧Pg.Nms w' lo (.slice a k c) ((Pg.els r2.act).map (Pg.dP ps)))):=fun V hV =>
  (vx V lo w.heap.size pb b cap r2 ps fin EN LV ⟨#[]⟩ (hP.rf hV.out.2).cX hV.out.1 (Pg.gV hra) hcl).mono (fun e w' x=>by
   obtain ⟨sv,x1,x2,x3⟩:=x
   obtain ⟨a,c,rfl⟩:=x2.n
   exact ⟨a,_,c,x1,hV.out.1.below hlw x3,hV.out.2.trans (Pg.RfE.of x3 hV.out.1.lo'),x2.1,x2.2.imp id (fun ⟨g,cp,cu,y1,y2,y3⟩=>⟨g,cp,cu,y1,Nat.le_trans hV.out.1.lo' y2,y3⟩)⟩)
 have HOF:Hid (∀ V,Hid (Pg.MT V lo w.heap.size pb r2)→Calls Tryz.prog 98 #[.pointer (some ⟨w.heap.size,0,none⟩)] V fun e w'=>e = .returned (Pg.fuelV r2.fin)∧w'=V):=fun V hV=>by
  obtain ⟨qv,wh,a,_⟩:=hV.out.ex
  exact iz V lo w.heap.size pb qv (r2.m wh) r2.fin a rfl hrf
 have hPa:=(hP.cX.below hR0.bel).cX
 have c0:=hPa.row
 have c7:=(hPa.at' 0 p0 hp0).c7
 simp only [Nat.zero_mul,Nat.zero_add] at c7
 have hn0':((0:Int)<(ps.length:Int)):=by omega
 have HB:Hid (∀ (V:World) (o:Obj),Below V.heap.size V (V.alloc o)):=fun V o=>(Below.refl _ V).alloc (Nat.le_refl _) _
 clear hP hza hz hM0 hR0 hPa h5 h6 hcl hra hrf
 go_enter Tryz.func74,Tryz.ntmps74
 go_wp2_with (first
  | (show wpList _ _ _ (Oper.mk _ (.build _ _) _ _ _ _::_) _ _;refine wpList_plain rfl (fun _ hK=>wpMach _ rfl pb rfl (hK _ _ ?_)))
  | (go_at_call 112;refine HEN.out.mono ?_;rintro e w1 ⟨rfl,h1⟩)
  | (go_at_call 113;refine (HAR.out _ h1).mono ?_;rintro e w2 ⟨rfl,h2⟩)
  | (go_at_call 114;refine (HST.out _ h2).mono ?_;rintro e w3 ⟨sa,sk,sc,rfl,h3⟩)
  | (go_at_call 98;refine (HOF.out _ (h3.out.1.below hlw (HB.out _ _))).mono ?_;rintro e w4 ⟨rfl,hw4⟩;rw [hw4];clear hw4 w4))
 go_ret3
 have hbl:=HB.out w3 (.cells #[.string ⟨#[]⟩,.int .u64 r2.now,.slice sa sk sc] 63)
 exact ⟨_,_,_,rfl,heap_alloc_new _ _,Kd.row (dd (E:=fun _=>False) hbl) h3.out.2.2 (fun h=>h),h3.out.1.below hlw hbl,h3.out.2.1.trans (Pg.RfE.of hbl h3.out.1.lo'),h3.out.1.lo'⟩
namespace Pg
structure St where
 kind:Int
 name:ByteArray
 done:ByteArray
 owner:Int
 enter:Ref.Sl
 leave:Ref.Sl
def PS.st (p:PS):St:=⟨p.kind,p.name,p.done,p.owner,p.enter,p.leave⟩
def MS.st (x:MS):St:=⟨x.kind,x.name,yg++x.name,x.owner,x.ve,x.vl⟩
theorem jb {α β:Type} (f:α→β) (l:List α) (i:Nat) (a b:α) (h:l[i]?=some a) (e:f b=f a):(l.set i b).map f=l.map f:=by
 apply List.ext_getElem?
 intro j
 simp only [List.getElem?_map]
 by_cases hj:i=j
 ·subst hj
  rw [List.getElem?_set_self (List.getElem?_eq_some_iff.1 h).1,h]
  simp [e]
 ·rw [List.getElem?_set_ne hj]
theorem vB (ps:List PS) (i:Nat):(bo ps i).map PS.st=ps.map PS.st:=by
 unfold bo
 split
 ·rfl
 ·rename_i p hp
  have h1:=jb PS.st ps i p { p with wth:=kg ps i p } hp rfl
  split
  ·exact h1
  ·split
   ·exact h1
   ·rename_i q hq
    by_cases e:i=p.owner.toNat
    ·rw [← e] at hq ⊢
     rw [hp] at hq
     cases hq
     rw [List.set_set]
     exact jb PS.st ps i p _ hp rfl
    ·exact (jb PS.st (ps.set i { p with wth:=kg ps i p }) p.owner.toNat q { q with inside:=q.inside|||(p.inside|||2 ^ i) } (by rw [List.getElem?_set_ne e];exact hq) rfl).trans h1
theorem vA (ps:List PS):∀ k,(dT ps k).map PS.st=ps.map PS.st
 | 0=>rfl
 | k+1=>by rw [dT,vB,vA ps k]
theorem tO (X:List MS) (hox:∀ (i:Nat) (x:MS),X[i]?=some x→x.owner = -1∨∃ o:Nat,x.owner=o∧o<i):∀ k,k≤X.length→∀ (i:Nat) (p:PS) (x:MS),i<k→(br X k)[i]?=some p→X[i]?=some x→p.st=x.st
 | 0,_,i,p,x,hi,_,_=>by omega
 | k+1,hk,i,p,x,hi,hp,hx=>by
  have ih:=tO X hox k (by omega)
  have hl:=dC X k
  obtain ⟨y,hy⟩:∃ y,X[k]?=some y:=⟨_,List.getElem?_eq_getElem (by omega)⟩
  rw [br,hy] at hp
  dsimp only at hp
  have hset:∀ (qs:List PS) (ar:Nat),qs.length=X.length→(∀ (i:Nat) (p:PS) (x:MS),i<k→qs[i]?=some p→X[i]?=some x→p.st=x.st)→(qs.set k (BP y ar))[i]?=some p→p.st=x.st:=fun qs ar hql h1 hp=>by
   by_cases e:k=i
   ·subst e
    rw [List.getElem?_set_self (by omega)] at hp
    rw [hy] at hx
    cases hp;cases hx
    rfl
   ·rw [List.getElem?_set_ne e] at hp
    exact h1 i p x (by omega) hp hx
  unfold mi at hp
  split at hp
  ·exact hset _ 0 hl ih hp
  ·rename_i hn
   obtain ⟨o,ho,hoi⟩:∃ o:Nat,y.owner=o∧o<k:=by
    rcases hox k y hy with h | h
    ·rw [h] at hn;exact absurd rfl hn
    ·exact h
   have hto:y.owner.toNat=o:=by rw [ho];rfl
   rw [hto] at hp
   split at hp
   ·rename_i hq
    rw [List.getElem?_eq_getElem (by omega)] at hq
    cases hq
   ·rename_i q hq
    split at hp
    ·exact hset _ _ hl ih hp
    ·refine hset _ _ (by simpa using hl) (fun a pa xa ha hpa hxa => ?_) hp
     by_cases e:o=a
     ·subst e
      rw [List.getElem?_set_self (by omega)] at hpa
      cases hpa
      exact ih o q xa ha hq hxa
     ·rw [List.getElem?_set_ne e] at hpa
      exact ih a pa xa ha hpa hxa
theorem nQ (X:List MS):(psF X).length=X.length:=by unfold psF;rw [mQ,dC]
theorem FB (X:List MS) (hox:∀ (i:Nat) (x:MS),X[i]?=some x→x.owner = -1∨∃ o:Nat,x.owner=o∧o<i) {i:Nat} {p:PS} (hp:(psF X)[i]?=some p):∃ x,X[i]?=some x∧p.st=x.st:=by
 have hi:i<X.length:=by have:=(List.getElem?_eq_some_iff.1 hp).1;rwa [nQ] at this
 obtain ⟨x,hx⟩:∃ x,X[i]?=some x:=⟨_,List.getElem?_eq_getElem hi⟩
 refine ⟨x,hx,?_⟩
 have h1:=congrArg (fun l=>l[i]?) (vA (br X X.length) X.length)
 simp only [List.getElem?_map] at h1
 rw [show (dT (br X X.length) X.length)[i]?=some p from hp] at h1
 obtain ⟨q,hq⟩:∃ q,(br X X.length)[i]?=some q:=⟨_,List.getElem?_eq_getElem (by rw [dC];exact hi)⟩
 rw [hq] at h1
 have h2:p.st=q.st:=by simpa using h1
 rw [h2]
 exact tO X hox X.length (Nat.le_refl _) i q x hi hq hx
theorem n9 (X:List MS) (hox:∀ (i:Nat) (x:MS),X[i]?=some x→x.owner = -1∨∃ o:Nat,x.owner=o∧o<i):∀ k,k≤X.length→cG X.length (br X k)
 | 0,_=>fun i p hp=>by
  have:p=zPS:=List.eq_of_mem_replicate (List.mem_of_getElem? hp)
  subst this
  exact ⟨dw _,dw _,dw _,dw _⟩
 | k+1,hk=>by
  obtain ⟨y,hy⟩:∃ y,X[k]?=some y:=⟨_,List.getElem?_eq_getElem (by omega)⟩
  rw [br,hy]
  exact qx (n9 X hox k (by omega)) (by omega) y (hox k y hy)
theorem pF {N:Nat} {ps:List PS} (hN:ps.length=N) (h:cG N ps):∀ k,k≤N→cG N (dT ps k)
 | 0,_=>h
 | k+1,hk=>ku (pF hN h k (by omega)) (by omega)
theorem Cb (X:List MS) (hox:∀ (i:Nat) (x:MS),X[i]?=some x→x.owner = -1∨∃ o:Nat,x.owner=o∧o<i):cG X.length (psF X):=pF (dC _ _) (n9 X hox _ (Nat.le_refl _)) _ (Nat.le_refl _)
theorem qy (X:List MS) (hox:∀ (i:Nat) (x:MS),X[i]?=some x→x.owner = -1∨∃ o:Nat,x.owner=o∧o<i):∀ k,k≤X.length→Ord X k (br X k)
 | 0,_=>⟨fun i p x hi=>by omega,fun i p hp j hj=>by
  have:p=zPS:=List.eq_of_mem_replicate (List.mem_of_getElem? hp)
  subst this
  have hj:j∈els 0:=hj
  rw [gy] at hj
  cases hj⟩
 | k+1,hk=>by
  obtain ⟨y,hy⟩:∃ y,X[k]?=some y:=⟨_,List.getElem?_eq_getElem (by omega)⟩
  have hl:=dC X k
  rw [br,hy]
  exact tM (qy X hox k (by omega)) (by omega) hy (hox k y hy)
theorem rB {X:List MS} {n:Nat} {ps:List PS} (h:Ord X n ps):∀ k,Ord X n (dT ps k)
 | 0=>h
 | k+1=>l9 (rB h k)
theorem Ed (X:List MS) (hox:∀ (i:Nat) (x:MS),X[i]?=some x→x.owner = -1∨∃ o:Nat,x.owner=o∧o<i):Ord X X.length (psF X):=rB (qy X hox _ (Nat.le_refl _)) _
theorem yj (ps:List PS):∀ (l:List Nat) (o:Nat),sy ps o l≤o
 | [],_=>Nat.le_refl _
 | i::l,o=>Nat.le_trans (yj ps l (o&&&(4294967295-rX ps i))) Nat.and_le_left
theorem DI (ps:List PS) {N a:Nat} (h:a<2 ^ N):inn ps a<2 ^ N:=Nat.lt_of_le_of_lt (yj ps _ _) h
theorem zB {N:Nat} {ps:List PS} (h:cG N ps) (i:Nat):mG ps i<2 ^ N:=by
 unfold mG
 split
 ·rename_i p hp;exact (h i p hp).2.1
 ·exact dw N
theorem C7 {N a b:Nat} (h:a<2 ^ N):a&&&b<2 ^ N:=Nat.lt_of_le_of_lt Nat.and_le_left h
theorem qD {N:Nat} {ps:List PS} (h:cG N ps):∀ (l:List Nat) (o:Nat),o<2 ^ N→kG ps o l<2 ^ N
 | [],_,ho=>ho
 | k::l,o,ho=>by
  show kG ps (if o.testBit k then o else o|||kh ps k) l<_
  refine qD h l _ ?_
  split
  ·exact ho
  ·exact Nat.or_lt_two_pow ho (rM h k)
theorem qC {N:Nat} {ps:List PS} (h:cG N ps):∀ (l:List Nat) (o:Nat),o<2 ^ N→mw ps o l<2 ^ N
 | [],_,ho=>ho
 | i::l,o,ho=>by
  show mw ps (match ps[i]? with | some p=>if p.kind != 1 then o else kG ps o (els p.parts) | none=>o) l<_
  refine qC h l _ ?_
  split
  ·split
   ·exact ho
   ·exact qD h _ _ ho
  ·exact ho
theorem pQ {N:Nat} {ps:List PS} (h:cG N ps) {s:Nat} (hs:s<2 ^ N):complete ps s<2 ^ N:=qC h _ _ hs
theorem Bj {ps:List PS} (h:cG ps.length ps) (i j:Nat):dom ps i j<2 ^ ps.length:=by
 unfold dom
 split
 ·exact zB h _
 ·have:=dw ps.length;omega
theorem zF {ps:List PS} (h:cG ps.length ps) (hh:∀ (i:Nat) (p:PS),ps[i]?=some p→isH p.kind=false) (i d:Nat):Az ps (ja ps i d):=by
 unfold ja
 split
 ·trivial
 ·rename_i p hp
  have h1:p.around&&&dom ps i d<2 ^ ps.length:=C7 (h d p hp).2.2.1
  split
  ·rename_i hk
   exact absurd hk (by rw [hh d p hp];decide)
  ·exact pQ h (Nat.or_lt_two_pow h1 (h d p hp).2.2.2)
end Pg
end
end Go.Proofs.YtegmoddppafkfaaGreatDoor
