import Derived.Test.YtegmoddppafkfaaGreatDoorM00
import Derived.Test.YtegmoddppafkfaaGreatDoorM01
set_option maxRecDepth 100000
set_option maxHeartbeats 8000000
namespace Go.Proofs.YtegmoddppafkfaaGreatDoor
section
open Go.RowKit Go.Proofs Go.Shelf
attribute [local go_sem] Oper.semAt_some
theorem ly {n:Nat} (h1:2≤n) {g:Operand} {ps:Array Tmp} {assign body:Code} {Q:Exit→Act→World→Prop} {a:Act} {w:World} (Bs s:Nat) (hs:s<4294967296)
  (he:a.eval g = .func (.func 187) #[] #[.pointer (some ⟨Bs,0,none⟩)]) (hBs:Bs<w.heap.size) (hg:1<w.heap.size) (hc:w.cell? ⟨Bs,0,none⟩=some (.int .u32 s)) (hT:TabAt 1 Lib.deBruijn32tab w) (hps:1=ps.size)
  (I:List (Pg.In s)→World→Prop) (Ix:Code→List (Pg.In s)→World→Prop) (hI:OwnFrom w.heap.size I) (hIx:∀ c,OwnFrom w.heap.size (Ix c)) (h0:I [] w) (Ax:Pg.In s→Act→World→Prop) (hAx:∀ x a',OwnFrom w.heap.size (fun (_:Unit) W=>Ax x a' W))
  (hassign:∀ (l:Nat) (pre:List (Pg.In s)) (x:Pg.In s) (W:World) (K:Act→World→Prop),I pre W→(∀ a' W',KeepsFrom w.heap.size W W'→Pg.KpT W W'→I pre W'→Ax x a' W'→K a' W') →
   assign.wpIn (Fence.wide.inRound l) (n-1-1) Tryz.prog (Exit.then K (fun _ _ _=>False)) { tmps:=(ps.zip #[Value.int .i64 (x.1:Int)]).foldl (fun t (p,v)=>t.setIfInBounds p v) a.tmps,defers:=[] } W)
  (hbody:∀ (l:Nat) (pre:List (Pg.In s)) (x:Pg.In s) (a':Act) (W:World),w.heap.size≤l→(∃ r,W.heap[l]?=some (.loop r))→I pre W→Ax x a' W→pre.length<32→body.wpIn (Fence.wide.inRound l) (n-1-1) Tryz.prog (ownPostG w.heap.size Pg.KpT I Ix (pre++[x]) W) a' W)
  (hdone:∀ (D:Nat) (xs:List (Pg.In s)) (W:World),w.heap.size≤D→Pg.aQ xs=Pg.els s→I xs W→W.heap[D]?=some (.deferred (some []))→Q .normal { a with defers:={ target := .collected D,args:=#[] }::a.defers } W)
  (hstop:∀ (D:Nat) (c:Code) (pre:List (Pg.In s)) (W:World),w.heap.size≤D→Pg.aQ pre <+: Pg.els s→Ix c pre W→W.heap[D]?=some (.deferred (some []))→c.wpIn Fence.wide n Tryz.prog Q { a with defers:={ target := .collected D,args:=#[] }::a.defers } W) :
  (Code.rangeFunc g ps assign body).wpIn Fence.wide n Tryz.prog Q a w :=
 wpIn_rangeFunc_ownH rfl (by omega) (gf:=187) he trivial (enters_of Tryz.func187 (by kernel_rfl) rfl)
  (iy (n-1) (by omega) Bs s hs w hBs hg hc hT) Pg.KpT.tr (fun W l o o' hl h hc hw=>Pg.KpT.of (belowK_b (n₀:=w.heap.size) (Nat.le_refl _) W l o o' hl h hc hw) hg) (Below.refl _ _) (fun _=>hps)
  I Ix hI hIx h0 Ax hAx hassign hbody (fun D xs W hD hS=>hdone D xs W hD (by rw [Pg.cB];exact hS)) (fun D c pre W hD hS=>hstop D c pre W hD (by rw [Pg.cB];exact hS))
theorem Fs {n:Nat} (h1:2≤n) {g:Operand} {ps:Array Tmp} {assign body:Code} {Q:Exit→Act→World→Prop} {a:Act} {w:World} {l₀:Nat} {r₀:Loop} (hl₀:w.heap[l₀]?=some (.loop r₀)) (Bs s:Nat) (hs:s<4294967296)
  (he:a.eval g = .func (.func 187) #[] #[.pointer (some ⟨Bs,0,none⟩)]) (hBs:Bs<w.heap.size) (hg:1<w.heap.size) (hc:w.cell? ⟨Bs,0,none⟩=some (.int .u32 s)) (hT:TabAt 1 Lib.deBruijn32tab w) (hps:1=ps.size)
  (I:List (Pg.In s)→World→Prop) (Ix:Code→List (Pg.In s)→World→Prop) (hI:OwnFrom w.heap.size I) (hIx:∀ c,OwnFrom w.heap.size (Ix c)) (h0:I [] w) (Ax:Pg.In s→Act→World→Prop) (hAx:∀ x a',OwnFrom w.heap.size (fun (_:Unit) W=>Ax x a' W))
  (hassign:∀ (l:Nat) (pre:List (Pg.In s)) (x:Pg.In s) (W:World) (K:Act→World→Prop),I pre W→(∀ a' W',KeepsFrom w.heap.size W W'→Pg.KpT W W'→I pre W'→Ax x a' W'→K a' W') →
   assign.wpIn (Fence.wide.inRound l) (n-1-1) Tryz.prog (Exit.then K (fun _ _ _=>False)) { tmps:=(ps.zip #[Value.int .i64 (x.1:Int)]).foldl (fun t (p,v)=>t.setIfInBounds p v) a.tmps,defers:=[] } W)
  (hbody:∀ (l:Nat) (pre:List (Pg.In s)) (x:Pg.In s) (a':Act) (W:World),w.heap.size≤l→(∃ r,W.heap[l]?=some (.loop r))→I pre W→Ax x a' W→pre.length<32→body.wpIn (Fence.wide.inRound l) (n-1-1) Tryz.prog (ownPostG w.heap.size Pg.KpT I Ix (pre++[x]) W) a' W)
  (hdone:∀ (xs:List (Pg.In s)) (W:World),Pg.aQ xs=Pg.els s→I xs W→Q .normal a W)
  (hstop:∀ (c:Code) (pre:List (Pg.In s)) (W:World),Pg.aQ pre <+: Pg.els s→Ix c pre W→c.wpIn (Fence.wide.inRound l₀) n Tryz.prog Q a W) :
  (Code.rangeFunc g ps assign body).wpIn (Fence.wide.inRound l₀) n Tryz.prog Q a w :=
 wpIn_rangeFunc_ownN (l₀:=l₀) (r₀:=r₀) rfl hl₀ (by omega) (gf:=187) he trivial (enters_of Tryz.func187 (by kernel_rfl) rfl)
  ((iy (n-1) (by omega) Bs s hs w hBs hg hc hT).inRound l₀) Pg.KpT.tr (fun W l o o' hl h hc hw=>Pg.KpT.of (belowK_b (n₀:=w.heap.size) (Nat.le_refl _) W l o o' hl h hc hw) hg) (Below.refl _ _) (fun _=>hps)
  I Ix hI hIx h0 Ax hAx hassign hbody (fun xs W hS=>hdone xs W (by rw [Pg.cB];exact hS)) (fun c pre W hS=>hstop c pre W (by rw [Pg.cB];exact hS))
namespace Pg
def kF (ps:List PS) (o:Nat) (l:List Nat):Nat:=l.foldl (fun o k=>if o.testBit k then o else o|||ki ps k) o
def mE (ps:List PS) (o:Nat) (l:List Nat):Nat:=l.foldl (fun o i=>match ps[i]? with | some p=>if p.kind != 1 then o else kF ps o (els p.parts) | none=>o) o
def complete (ps:List PS) (s:Nat):Nat:=mE ps s (els s)
theorem zr (ps:List PS) (o:Nat) (l:List Nat) (k:Nat):kF ps o (l++[k])=if (kF ps o l).testBit k then kF ps o l else kF ps o l|||ki ps k:=by
 unfold kF;rw [List.foldl_append];rfl
theorem zq (ps:List PS) (o:Nat) (l:List Nat) (i:Nat) {p:PS} (hp:ps[i]?=some p):mE ps o (l++[i])=if p.kind != 1 then mE ps o l else kF ps (mE ps o l) (els p.parts):=by
 unfold mE;rw [List.foldl_append];simp only [List.foldl_cons,List.foldl_nil,hp]
def Sms (ps:List PS):Prop:=∀ (i:Nat) (p:PS),ps[i]?=some p→p.Sm
theorem nT {ps:List PS} (h:Sms ps):∀ (l:List Nat) (o:Nat),o<4294967296→kF ps o l<4294967296
 | [],_,ho=>ho
 | k::l,o,ho=>by
  show kF ps (if o.testBit k then o else o|||ki ps k) l<_
  split
  ·exact nT h l _ ho
  ·exact nT h l _ (Ck ho (zc h k))
theorem yB {ps:List PS} (h:Sms ps):∀ (l:List Nat) (o:Nat),o<4294967296→mE ps o l<4294967296
 | [],_,ho=>ho
 | i::l,o,ho=>by
  show mE ps (match ps[i]? with | some p=>if p.kind != 1 then o else kF ps o (els p.parts) | none=>o) l<_
  refine yB h l _ ?_
  split
  ·split
   ·exact ho
   ·exact nT h _ _ ho
  ·exact ho
end Pg
theorem sA (w:World) (pb b cap:Nat) (ps:List Pg.PS) (s:Nat) (hs:s<4294967296) (hin:∀ i,i∈Pg.els s→i<ps.length) (hpt:∀ (i:Nat) (p:Pg.PS),ps[i]?=some p→∀ j∈Pg.els p.parts,j<ps.length) (hP:Pg.dh w pb b cap ps) (hpb:pb<w.heap.size) (hb:b<w.heap.size)
  (hg:1<w.heap.size) (hT:TabAt 1 Lib.deBruijn32tab w) :
  Calls Tryz.prog 197 #[.pointer (some ⟨pb,0,none⟩),.int .u32 s] w fun e w'=>e = .returned (.int .u32 (Pg.complete ps s))∧Below w.heap.size w w':=by
 refine (callsIn_wide (n:=6)).1 ?_
 have hlen:=hP.len
 refine callsIn_of_wp_marks Tryz.func197 rfl trivial ?_ rfl
 simp only [Tryz.ntmps197,List.size_toArray,List.length_cons,List.length_nil,Nat.reduceAdd,Nat.reduceSub,Array.replicate_succ,Array.replicate_zero,List.push_toArray,List.append_toArray,List.nil_append,List.cons_append]
 gi_wp2_with (refine ⟨trivial,?_⟩;gi_at_call 150;refine (callsIn_wide.2 (dQ s _)).mono ?_;rintro e w9 ⟨rfl,hw9⟩;rw [hw9];clear hw9 w9)
 have c0:=((Boxed.new w 137 (.pointer (some ⟨pb,0,none⟩))).alloc (.cells #[.int .u32 s] 139)).alloc (.cells #[.int .u32 s] 139)
 have c1:=(Boxed.new (w.alloc (.cells #[.pointer (some ⟨pb,0,none⟩)] 137)) 139 (.int .u32 s)).alloc (.cells #[.int .u32 s] 139)
 have c2:=Boxed.new ((w.alloc (.cells #[.pointer (some ⟨pb,0,none⟩)] 137)).alloc (.cells #[.int .u32 s] 139)) 139 (.int .u32 s)
 simp only [World.size_alloc] at c1 c2
 have hB0:Below w.heap.size w (((w.alloc (.cells #[.pointer (some ⟨pb,0,none⟩)] 137)).alloc (.cells #[.int .u32 s] 139)).alloc (.cells #[.int .u32 s] 139)):=(((Below.refl _ w).alloc (Nat.le_refl _) _).alloc (by simp) _).alloc (by simp;omega) _
 have hsz:(((w.alloc (.cells #[.pointer (some ⟨pb,0,none⟩)] 137)).alloc (.cells #[.int .u32 s] 139)).alloc (.cells #[.int .u32 s] 139)).heap.size=w.heap.size+3:=by simp
 obtain ⟨W0,hW0⟩:∃ W0,((w.alloc (.cells #[.pointer (some ⟨pb,0,none⟩)] 137)).alloc (.cells #[.int .u32 s] 139)).alloc (.cells #[.int .u32 s] 139)=W0:=⟨_,rfl⟩
 rw [hW0] at c0 c1 c2 hB0 hsz ⊢
 clear hW0
 refine ly (by omega) (w.heap.size+1+1) s hs rfl (by omega) (by omega) c2.cell (Pg.KpT.of hB0 hg hT) rfl
  (fun pre W=>(Boxed W w.heap.size 137 (.pointer (some ⟨pb,0,none⟩))∧Boxed W (w.heap.size+1) 139 (.int .u32 (Pg.mE ps s (Pg.aQ pre))))∧Below w.heap.size w W)
  (fun _ _ _=>False)
  (OwnFrom.and (OwnFrom.and (Own.from (boxed_own _ _ _) _) (Own.from (boxed_own _ _ _) _)) (ownFrom_below (Nat.le_refl _) (by omega)))
  (fun _ _ _ _ _ hs _ _=>hs)
  ⟨⟨c0,c1⟩,hB0⟩
  (fun x a' _=>a'={ tmps:=#[.pointer (some ⟨pb,0,none⟩),.int .u32 s,.pointer (some ⟨w.heap.size,0,none⟩),.pointer (some ⟨w.heap.size+1,0,none⟩),.int .u32 0,.int .i64 x.1,undef,.int .u32 s,.func (.func 187) #[] #[.pointer (some ⟨w.heap.size+1+1,0,none⟩)],.int .i64 x.1,undef,undef,undef,undef,undef,undef,undef,undef,undef,undef,undef,undef,undef,undef,undef,undef,undef,undef,undef,undef,undef,undef,undef,undef,undef,undef,undef,undef,undef,undef,undef,undef,undef,undef],defers:=[] })
  (fun _ _ _ _ _ _ hs _ _=>hs)
  ?assign ?body ?done ?stop
 case assign =>
  intro l pre x W K hI hK
  gi_wp2
  exact hK _ _ (KeepsFrom.refl _ _) (fun h=>h) hI rfl
 case body =>
  rintro l pre x a' W hl ⟨r,hr⟩ ⟨⟨hp,hc⟩,hB⟩ rfl _
  have hxl:=hin x.1 x.2
  obtain ⟨p,hpx⟩:∃ p,ps[x.1]?=some p:=⟨_,List.getElem?_eq_getElem hxl⟩
  have hP':=hP.below hB hpb hb
  have hsn:=Pg.zq ps s (Pg.aQ pre) x.1 hpx
  rw [← Pg.ed] at hsn
  have h0:=hP'.row
  have k0:=(hP'.at' x.1 p hpx).c0
  have k4:=(hP'.at' x.1 p hpx).c4
  have hpc:=hp.cell
  by_cases hk:(p.kind != 1)=true
  ·rw [if_pos hk] at hsn
   gi_wp2
   exact ⟨KeepsFrom.refl _ _,(fun h=>h),⟨hp,by rw [hsn];exact hc⟩,hB⟩
  have hk:(p.kind != 1)=false:=by simpa using hk
  rw [if_neg (by rw [hk];decide)] at hsn
  have h1':2≤6-1-1:=by omega
  gi_wp2_with (refine ⟨trivial,?_⟩;gi_at_call 150;refine (aC (dQ p.parts _)).mono ?_;rintro e w9 ⟨rfl,hw9⟩;rw [hw9];clear hw9 w9)
  have hsW:=hB.size
  have bN:=Boxed.new W 139 (.int .u32 p.parts)
  have hr':(W.alloc (.cells #[.int .u32 p.parts] 139)).heap[l]?=some (.loop r):=(Below.heap_alloc W _ l (Array.getElem?_eq_some_iff.1 hr).1).trans hr
  have hBa:=hB.alloc hsW (.cells #[.int .u32 p.parts] 139)
  refine Fs h1' (l₀:=l) (r₀:=r) hr' W.heap.size p.parts (hP.sm x.1 p hpx).hp rfl (by simp) (by simp;omega) bN.cell (Pg.KpT.of hBa hg hT) rfl
   (fun pre' W'=>(Boxed W' w.heap.size 137 (.pointer (some ⟨pb,0,none⟩))∧Boxed W' (w.heap.size+1) 139 (.int .u32 (Pg.kF ps (Pg.mE ps s (Pg.aQ pre)) (Pg.aQ pre'))))∧(Below w.heap.size W W'∧KeepsFrom W0.heap.size W W'))
   (fun _ _ _=>False)
   (OwnFrom.and (OwnFrom.and (Own.from (boxed_own _ _ _) _) (Own.from (boxed_own _ _ _) _)) (OwnFrom.and (ownFrom_below hsW (by simp;omega)) (ownFrom_keepsFrom (by simp))))
   (fun _ _ _ _ _ hs _ _=>hs)
   ⟨⟨hp.alloc _,hc.alloc _⟩,(Below.refl _ W).alloc hsW _,(KeepsOthers.alloc _ _).from _⟩
   (fun y a'' _=>a''={ tmps:=#[.pointer (some ⟨pb,0,none⟩),.int .u32 s,.pointer (some ⟨w.heap.size,0,none⟩),.pointer (some ⟨w.heap.size+1,0,none⟩),.int .u32 0,.int .i64 x.1,.int .i64 y.1,.int .u32 s,.func (.func 187) #[] #[.pointer (some ⟨w.heap.size+1+1,0,none⟩)],.int .i64 x.1,.pointer (some ⟨pb,0,none⟩),.pointer (some ⟨pb,0,none⟩),.pointer (some ⟨pb,0,none⟩),.slice (some ⟨b,0,none⟩) ps.length cap,.int .i64 x.1,.pointer (some ⟨b,x.1*10,none⟩),.pointer (some ⟨b,x.1*10,none⟩),.int .i64 p.kind,.bool false,.pointer (some ⟨pb,0,none⟩),.pointer (some ⟨pb,0,none⟩),.pointer (some ⟨pb,0,none⟩),.slice (some ⟨b,0,none⟩) ps.length cap,.int .i64 x.1,.pointer (some ⟨b,x.1*10,none⟩),.pointer (some ⟨b,x.1*10+4,none⟩),.int .u32 p.parts,.func (.func 187) #[] #[.pointer (some ⟨W.heap.size,0,none⟩)],.int .i64 y.1,undef,undef,undef,undef,undef,undef,undef,undef,undef,undef,undef,undef,undef,undef,undef],defers:=[] })
   (fun _ _ _ _ _ _ hs _ _=>hs)
   ?assign2 ?body2 ?done2 ?stop2
  case assign2 =>
   rintro l2 pre' y W' K hi hK
   gi_wp2
   exact hK _ _ (KeepsFrom.refl _ _) (fun h=>h) hi rfl
  case body2 =>
   rintro l2 pre' y a'' W' _ _ ⟨⟨hp2,hc2⟩,hBW,hKF⟩ rfl _
   have hyl:=hpt x.1 p hpx y.1 y.2
   obtain ⟨q,hqy⟩:∃ q,ps[y.1]?=some q:=⟨_,List.getElem?_eq_getElem hyl⟩
   have hP2:=hP'.below hBW hpb hb
   have hsn2:=Pg.zr ps (Pg.mE ps s (Pg.aQ pre)) (Pg.aQ pre') y.1
   rw [← Pg.ed] at hsn2
   have hlt:=Pg.nT hP.sm (Pg.aQ pre') _ (Pg.yB hP.sm (Pg.aQ pre) s hs)
   have cS:=hc2.cell
   have fS:=hc2.frozen
   have cP:=hp2.cell
   have r0:=hP2.row
   have r7:=(hP2.at' y.1 q hqy).c7
   have hw7:=(hP.sm y.1 q hqy).hw
   have hwa:Pg.ki ps y.1=q.wth:=by unfold Pg.ki;rw [hqy]
   obtain ⟨o,ho⟩:∃ o,Pg.kF ps (Pg.mE ps s (Pg.aQ pre)) (Pg.aQ pre')=o:=⟨_,rfl⟩
   rw [ho] at hsn2 hlt cS hc2
   have h32:y.1<32:=by omega
   obtain ⟨t,ht⟩:∃ t,o.testBit y.1=t:=⟨_,rfl⟩
   have hha:=yF o y.1 W' h32 hlt
   rw [ht] at hha hsn2
   have ha:=u32_or_nat _ _ hlt hw7
   have hbc:∀ V:World,Boxed V (w.heap.size+1) 139 (.int .u32 (o:Nat))→Boxed (V.setCell ⟨w.heap.size+1,0,none⟩ (.int .u32 ((o|||q.wth:Nat):Int))) (w.heap.size+1) 139 (.int .u32 ((o|||q.wth:Nat):Int)):=fun V h=>h.set _
   cases t
   all_goals gi_wp2_with (refine ⟨trivial,?_⟩;gi_at_call 236;refine (aC hha).mono ?_;rintro e w9 ⟨rfl,hw9⟩;rw [hw9];clear hw9 w9)
   ·gi_region
    all_goals gi_wp2
    all_goals
     rw [if_neg (by decide),hwa] at hsn2
     exact ⟨((KeepsOthers.drew W').trans (KeepsOthers.setCell _ _ _)).from _,Pg.KpT.of (((Below.refl w.heap.size W').drew).setCell (p:=⟨w.heap.size+1,0,none⟩) (by simp) _) hg,⟨Boxed.kept (W:=W'.drew) (show Boxed W'.drew _ _ _ from hp2) (grownBy_setCell' _ _ _) (by simp),by rw [hsn2];exact hbc W'.drew hc2⟩,(hBW.trans ((Below.refl _ W').drew)).setCell (p:=⟨w.heap.size+1,0,none⟩) (by simp) _,hKF.trans (((KeepsOthers.drew W').trans (KeepsOthers.setCell _ _ _)).from _)⟩
   ·rw [if_pos (by trivial)] at hsn2
    exact ⟨KeepsFrom.refl _ _,(fun h=>h),⟨hp2,by rw [hsn2];exact hc2⟩,hBW,hKF⟩
  case done2 =>
   rintro ys W' hys ⟨⟨hp2,hc2⟩,hBW,hKF⟩
   rw [hys] at hc2
   gi_wp2
   exact ⟨hKF,Pg.KpT.of hBW hg,⟨hp2,by rw [hsn];exact hc2⟩,hB.trans hBW⟩
  case stop2 =>
   rintro c pre' W' _ h
   exact h.elim
 case done =>
  rintro D ys W hD hys ⟨⟨_,hc⟩,hB⟩ hK
  have hc:=hc.cell
  rw [hys] at hc
  gi_wp2
  refine ⟨by simp,.inl ⟨_,_,rfl,run_takeDeferred hK,?_⟩⟩
  exact ⟨_,results_tmp rfl _ _ _,rfl,hB.trans (belowK_b (w:=w) (Nat.le_refl _) W D _ _ (by omega) hK rfl rfl)⟩
 case stop =>
  rintro D c pre W _ _ h _
  exact h.elim
end
section
open Go.RowKit
structure Mo (P:Nat→Prop) (w w':World):Prop where
 os:w'.os=w.os
 tape:w'.tape=w.tape
 output:w'.output=w.output
 size:w.heap.size≤w'.heap.size
 block:∀ k,k<w.heap.size→¬ P k→w'.heap[k]?=w.heap[k]?
theorem Mo.refl (P:Nat→Prop) (w:World):Mo P w w:=⟨rfl,rfl,rfl,Nat.le_refl _,fun _ _ _=>rfl⟩
theorem Mo.trans {P:Nat→Prop} {a b c:World} (h:Mo P a b) (k:Mo P b c):Mo P a c :=
 ⟨k.os.trans h.os,k.tape.trans h.tape,k.output.trans h.output,Nat.le_trans h.size k.size,fun i hi hn=>by rw [k.block i (Nat.lt_of_lt_of_le hi h.size) hn,h.block i hi hn]⟩
theorem Mo.trans' {P Q:Nat→Prop} {a b c:World} (h:Mo P a b) (k:Mo Q b c) (hQ:∀ i,i<a.heap.size→Q i→P i):Mo P a c :=
 ⟨k.os.trans h.os,k.tape.trans h.tape,k.output.trans h.output,Nat.le_trans h.size k.size,fun i hi hn=>by rw [k.block i (Nat.lt_of_lt_of_le hi h.size) (fun q=>hn (hQ i hi q)),h.block i hi hn]⟩
theorem Mo.mono {P Q:Nat→Prop} {a b:World} (h:Mo P a b) (hQ:∀ i,i<a.heap.size→P i→Q i):Mo Q a b :=
 ⟨h.os,h.tape,h.output,h.size,fun i hi hn=>h.block i hi (fun p=>hn (hQ i hi p))⟩
theorem aq {P:Nat→Prop} {a b:World} (h:Below a.heap.size a b):Mo P a b:=⟨h.os,h.tape,h.output,h.size,fun i hi _=>h.block i hi⟩
theorem yM {g:Nat} {a b:World} (h:fQ g a b):Mo (· = g) a b:=⟨h.os,h.tape,h.output,by rw [h.size];exact Nat.le_refl _,fun i _ hn=>h.block i hn⟩
theorem Mo.below {B:Nat} {P:Nat→Prop} {o a b:World} (h:Mo P a b) (hb:Below B o a) (hB:B≤a.heap.size) (hP:∀ i,i<B→¬ P i):Below B o b :=
 hb.trans ⟨h.os,h.tape,h.output,h.size,fun k hk=>h.block k (by omega) (hP k hk)⟩
theorem Mo.cell {P:Nat→Prop} {a b:World} (h:Mo P a b) {p:Addr} (hp:p.block<a.heap.size) (hn:¬ P p.block):b.cell? p=a.cell? p:=World.cell?_of_block (w:=a) (h.block p.block hp hn)
theorem Mo.own {P:Nat→Prop} {a b:World} {base size n:Nat} {e:TypeId} {v:Value} {xs:List Value} (h:Mo P a b) (ho:a.ownsRow base e size v n xs) (hn:∀ g,v.ownBlock=some g→¬ P g):b.ownsRow base e size v n xs:=by
 refine ⟨ho.1,?_⟩
 rcases ho.2 with h' | ⟨k,cap,cur,hv,hb,hk',r⟩
 ·exact .inl h'
 ·refine .inr ⟨k,cap,cur,hv,hb,?_,r⟩
  rw [h.block k (Array.getElem?_eq_some_iff.1 hk').1 (hn k (by rw [hv];rfl))];exact hk'
end
section
open Go.RowKit Go.Proofs Go.Shelf
attribute [local go_sem] Oper.semAt_some
theorem Mo.bel {P:Nat→Prop} {W0 A A':World} (hm:Mo P W0 A) (hb:Below W0.heap.size A A'):Mo P W0 A':=⟨hb.os.trans hm.os,hb.tape.trans hm.tape,hb.output.trans hm.output,Nat.le_trans hm.size hb.size,fun k hk hn=>(hb.block k hk).trans (hm.block k hk hn)⟩
theorem Cl {β:Type} {W0:World} {P:Nat→Prop} {J:β→World→Prop} (hJ:∀ s A A',J s A→Below W0.heap.size A A'→J s A'):OwnFrom W0.heap.size (fun s W=>J s W∧Mo P W0 W):=fun s A A' row h hg hr=>by
 have hb:Below W0.heap.size A A':=(Below.refl _ A).grown hg h.2.size (fun k e=>(hr k e).1)
 exact ⟨hJ s A A' h.1 hb,h.2.bel hb⟩
theorem Mo.set {P:Nat→Prop} {a b:World} (h:Mo P a b) (p:Addr) (v:Value) (hp:P p.block):Mo P a (b.setCell p v):=⟨h.os,h.tape,h.output,Nat.le_trans h.size (by simp),fun k hk hn=>(Below.heap_setCell b p v k (fun e=>hn (e ▸ hp))).trans (h.block k hk hn)⟩
theorem Mo.kpT {P:Nat→Prop} {a b:World} (h:Mo P a b) (hg:1<a.heap.size) (hn:¬ P 1):Pg.KpT a b:=fun x j hj=>(h.cell (p:=⟨1,j,none⟩) hg hn).trans (x j hj)
theorem Boxed.mo {P:Nat→Prop} {a b:World} {B:Nat} {t:TypeId} {v:Value} (h:Boxed a B t v) (hm:Mo P a b) (hn:¬ P B):Boxed b B t v:=(hm.block B h.lt hn).trans h
theorem ax {w:World} {a b:Addr} {v:Value} (h:a≠b):(w.setCell a v).cell? b=w.cell? b:=World.cell?_setCell_other w a b v h
theorem j6 {P:Nat→Prop} {a b:World} (h:Mo P a b):Mo P a b.drew:=⟨h.os,h.tape,h.output,h.size,h.block⟩
theorem bm {W:World} {B:Nat} {t:TypeId} {v:Value} (h:Boxed W B t v) {p:Addr} (hn:B≠p.block) (u:Value):Boxed (W.setCell p u) B t v:=(Below.heap_setCell W p u B hn).trans h
theorem au {W W':World} {n B:Nat} {t:TypeId} {v:Value} (h:Boxed W B t v) (hB:Below n W W') (hb:B<n):Boxed W' B t v:=(hB.block B hb).trans h
namespace Pg
def PS.cells (p:PS):List Value:=[.int .i64 p.kind,.string p.name,.string p.done,.int .i64 p.owner,.int .u32 p.parts,.int .u32 p.inside,.int .u32 p.around,.int .u32 p.wth,p.enter.v,p.leave.v]
structure bl (W:World) (pb b cap:Nat) (ps:List PS):Prop where
 row:W.cell? ⟨pb,0,none⟩=some (.slice (some ⟨b,0,none⟩) ps.length cap)
 at':∀ (i:Nat) (p:PS),ps[i]?=some p→∀ (k:Nat) (v:Value),p.cells[k]?=some v→W.cell? ⟨b,i*10+k,none⟩=some v∧W.frozen? ⟨b,i*10+k,none⟩=false
 len:ps.length≤24
 ne:pb≠b
theorem bl.ps {W:World} {pb b cap i:Nat} {ps:List PS} {p:PS} (h:bl W pb b cap ps) (hi:ps[i]?=some p):pV W b i p where
 c0:=(h.at' i p hi 0 _ rfl).1
 c1:=(h.at' i p hi 1 _ rfl).1
 c2:=(h.at' i p hi 2 _ rfl).1
 c3:=(h.at' i p hi 3 _ rfl).1
 c4:=(h.at' i p hi 4 _ rfl).1
 c5:=(h.at' i p hi 5 _ rfl).1
 c6:=(h.at' i p hi 6 _ rfl).1
 c7:=(h.at' i p hi 7 _ rfl).1
 c8:=(h.at' i p hi 8 _ rfl).1
 c9:=(h.at' i p hi 9 _ rfl).1
theorem bl.dc {W:World} {pb b cap:Nat} {ps:List PS} (h:bl W pb b cap ps) (hs:Sms ps):dh W pb b cap ps where
 row:=h.row
 at':=fun _ _ hi=>h.ps hi
 sm:=hs
 len:=h.len
theorem bl.below {W W':World} {B pb b cap:Nat} {ps:List PS} (h:bl W pb b cap ps) (hB:Below B W W') (h1:pb<B) (h2:b<B):bl W' pb b cap ps where
 row:=(hB.cell (p:=⟨pb,0,none⟩) h1).trans h.row
 at':=fun i p hi k v hv=>by
  have:=h.at' i p hi k v hv
  exact ⟨(hB.cell (p:=⟨b,_,none⟩) h2).trans this.1,(hB.frozen (p:=⟨b,_,none⟩) h2).trans this.2⟩
 len:=h.len
 ne:=h.ne
theorem bl.set {W:World} {pb b cap i:Nat} {ps:List PS} {p:PS} (h:bl W pb b cap ps) (hi:ps[i]?=some p) (k:Nat) (v:Value) (p':PS) (hk:k<10) (hc:∀ j,p'.cells[j]?=if j=k then some v else p.cells[j]?):bl (W.setCell ⟨b,i*10+k,none⟩ v) pb b cap (ps.set i p') where
 row:=by
  rw [ax (by intro e;injection e with e1;exact h.ne e1.symm),List.length_set];exact h.row
 at':=fun i' q hq k' v' hv=>by
  have hil:i<ps.length:=(List.getElem?_eq_some_iff.1 hi).1
  rw [World.frozen?_setCell]
  have hk':k'<10:=by have:=(List.getElem?_eq_some_iff.1 hv).1;simpa [PS.cells] using this
  obtain ⟨v0,hv0⟩:∃ v0,p.cells[k]?=some v0:=⟨_,List.getElem?_eq_getElem (by simpa [PS.cells] using hk)⟩
  by_cases e:i'=i
  ·subst e
   rw [List.getElem?_set_self hil] at hq
   cases hq
   rw [hc] at hv
   by_cases e2:k'=k
   ·subst e2
    rw [if_pos rfl] at hv
    cases hv
    have:=h.at' i' p hi k' v0 hv0
    exact ⟨World.cell?_setCell_same _ _ _ this.1,this.2⟩
   ·rw [if_neg e2] at hv
    have:=h.at' i' p hi k' v' hv
    exact ⟨(ax (by intro x;injection x with x1 x2;omega)).trans this.1,this.2⟩
  ·rw [List.getElem?_set_ne (fun x=>e x.symm)] at hq
   have:=h.at' i' q hq k' v' hv
   exact ⟨(ax (by intro x;injection x with x1 x2;omega)).trans this.1,this.2⟩
 len:=by rw [List.length_set];exact h.len
 ne:=h.ne
def orW (ps:List PS) (o:Nat) (l:List Nat):Nat:=l.foldl (fun o k=>o|||ki ps k) o
theorem Cj (ps:List PS) (o:Nat) (l:List Nat) (k:Nat):orW ps o (l++[k])=orW ps o l|||ki ps k:=by
 unfold orW;rw [List.foldl_append];rfl
theorem Ci {ps:List PS} (h:Sms ps):∀ (l:List Nat) (o:Nat),o<4294967296→orW ps o l<4294967296
 | [],_,ho=>ho
 | k::l,_,ho=>Ci h l _ (Ck ho (zc h k))
def mi (ps:List PS) (i:Nat) (p:PS):Nat:=orW ps (2 ^ i) (if p.kind == 0 then (els p.parts).take 1 else els p.parts)
def bL (ps:List PS) (i:Nat):List PS:=match ps[i]? with
 | none=>ps
 | some p=>if p.owner == -1 then ps.set i { p with wth:=mi ps i p } else match ps[p.owner.toNat]? with
  | none=>ps.set i { p with wth:=mi ps i p }
  | some q=>(ps.set i { p with wth:=mi ps i p }).set p.owner.toNat { q with inside:=q.inside|||(p.inside|||2 ^ i) }
theorem AI {s:Nat} {pre:List (In s)} (h:aQ pre <+: els s) {x:Nat} (he:aQ pre=[x]):(els s).take 1=[x]:=by
 obtain ⟨t,ht⟩:=h
 rw [← ht,he];rfl
def stay {s:Nat} (p:PS) (pre:List (In s)):Prop:=p.kind=0→pre=[]
def brk {s:Nat} (p:PS) (pre:List (In s)):Prop:=p.kind=0∧∃ x,aQ pre=[x]
end Pg
theorem wb {i:Nat} (h:i<32):2 ^ i<4294967296:=Nat.lt_of_lt_of_le (Nat.pow_lt_pow_right (by decide) h) (by decide)
theorem tN (w:World) (pb b cap:Nat) (ps:List Pg.PS) (i:Nat) (p:Pg.PS) (hpi:ps[i]?=some p) (hpt:∀ j∈Pg.els p.parts,i<j∧j<ps.length) (how:p.owner = -1) (hP:Pg.bl w pb b cap ps) (hsm:Pg.Sms ps) (hpb:pb<w.heap.size) (hb:b<w.heap.size)
  (hg:1<w.heap.size) (hgb:1≠b) (hT:TabAt 1 Lib.deBruijn32tab w) :
  Calls Tryz.prog 116 #[.pointer (some ⟨pb,0,none⟩),.int .i64 i] w fun e w'=>e = .returned (.tuple #[])∧Pg.bl w' pb b cap (Pg.bL ps i)∧Mo (· = b) w w':=by
 have HOW:Hid (p.owner = -1):=how
 clear how
 have hil:i<ps.length:=(List.getElem?_eq_some_iff.1 hpi).1
 have hlen:=hP.len
 have hi32:i<32:=by omega
 have hne:=hP.ne
 obtain ⟨t,ht⟩:∃ t,2 ^ i=t:=⟨_,rfl⟩
 have htl:t<4294967296:=by rw [← ht];exact wb hi32
 have hone:∀ V:World,Calls Tryz.prog 151 #[.int .i64 i] V fun e w'=>e = .returned (.int .u32 t)∧w'=V:=fun V=>by rw [← ht];exact ji i V hi32
 refine (callsIn_wide (n:=6)).1 ?_
 refine callsIn_of_wp_marks Tryz.func116 rfl trivial ?_ rfl
 simp only [Tryz.ntmps116,List.size_toArray,List.length_cons,List.length_nil,Nat.reduceAdd,Nat.reduceSub,Array.replicate_succ,Array.replicate_zero,List.push_toArray,List.append_toArray,List.nil_append,List.cons_append]
 have c0:=(Boxed.new w 137 (.pointer (some ⟨pb,0,none⟩)))
 have hB0:Below w.heap.size w (w.alloc (.cells #[.pointer (some ⟨pb,0,none⟩)] 137)):=(Below.refl _ w).alloc (Nat.le_refl _) _
 have hr0:=(hP.below hB0 hpb hb).row
 gi_wp2
 have c0:=c0.alloc (.cells #[.pointer (some ⟨b,i*10,none⟩)] 307)
 have c1:=Boxed.new (w.alloc (.cells #[.pointer (some ⟨pb,0,none⟩)] 137)) 307 (.pointer (some ⟨b,i*10,none⟩))
 simp only [World.size_alloc] at c1
 have hB1:=hB0.alloc (by simp) (.cells #[.pointer (some ⟨b,i*10,none⟩)] 307)
 have hP1:=hP.below hB1 hpb hb
 obtain ⟨W1,hW1⟩:∃ W1,(w.alloc (.cells #[.pointer (some ⟨pb,0,none⟩)] 137)).alloc (.cells #[.pointer (some ⟨b,i*10,none⟩)] 307)=W1:=⟨_,rfl⟩
 have hsz:W1.heap.size=w.heap.size+1+1:=by rw [← hW1];simp
 rw [hW1] at c0 c1 hB1 hP1 ⊢
 clear hW1 hB0 hr0
 have k7f:=(hP1.at' i p hpi 7 _ rfl).2
 have k7c:=(hP1.at' i p hpi 7 _ rfl).1
 refine wpIn_wide.2 (mq ?_)
 refine wp_region_held_drew (S:=(fun V=>V.cell? ⟨w.heap.size+1,0,none⟩=some (.pointer (some ⟨b,i*10,none⟩)))) (by kernel_rfl) c1.cell (fun hHeld => ?_)
 refine tH 0 (.pointer (some ⟨b,i*10,none⟩)) rfl hHeld ?_
 refine tH 1 (.int .i64 i) rfl hHeld ?_
 refine zH 2 rfl fun K hK => ?_
 go_simp
 refine (hone _).mono ?_
 rintro e w9 ⟨rfl,rfl⟩
 refine hK.out _ _ hHeld (fun hHeld => ?_)
 clear hK K
 refine tH 3 (.pointer (some ⟨b,i*10,none⟩)) rfl hHeld ?_
 refine tH 4 (.pointer (some ⟨b,i*10+7,none⟩)) rfl hHeld ?_
 refine zH 5 rfl fun K hK => ?_
 go_simp
 refine hK.out _ _ (by
  have e:∀ (a:Addr),a≠⟨b,i*10+7,none⟩→∀ v,(W1.setCell ⟨b,i*10+7,none⟩ v).drew.cell? a=W1.drew.cell? a:=fun a ha v=>ax (fun h=>ha h.symm)
  (try dsimp only at hHeld);(try dsimp only)
  rw [e _ (by intro h;injection h with h1 h2;omega)]
  exact hHeld) (fun hHeld => ?_)
 clear hK K
 refine wpAnyH_done (by kernel_rfl) ?_ _
 unfold qZ
 have hP2:=hP1.set hpi 7 (.int .u32 t) { p with wth:=t } (by decide) (fun j=>by
  match j with
  | 0 | 1 | 2 | 3 | 4 | 5 | 6 | 7 | 8 | 9=>rfl
  | j+10=>rfl)
 have hP2:Pg.bl (W1.setCell ⟨b,i*10+7,none⟩ (.int .u32 t)).drew pb b cap (ps.set i { p with wth:=t }):=⟨hP2.row,hP2.at',hP2.len,hP2.ne⟩
 have c0:Boxed (W1.setCell ⟨b,i*10+7,none⟩ (.int .u32 t)).drew w.heap.size 137 (.pointer (some ⟨pb,0,none⟩)):=bm c0 (p:=⟨b,i*10+7,none⟩) (by simp;omega) _
 have c1:Boxed (W1.setCell ⟨b,i*10+7,none⟩ (.int .u32 t)).drew (w.heap.size+1) 307 (.pointer (some ⟨b,i*10,none⟩)):=bm c1 (p:=⟨b,i*10+7,none⟩) (by simp;omega) _
 have hM2:Mo (· = b) w (W1.setCell ⟨b,i*10+7,none⟩ (.int .u32 t)).drew:=j6 ((aq hB1).set ⟨b,i*10+7,none⟩ _ rfl)
 obtain ⟨W2,hW2⟩:∃ W2,(W1.setCell ⟨b,i*10+7,none⟩ (.int .u32 t)).drew=W2:=⟨_,rfl⟩
 have hsz2:W2.heap.size=w.heap.size+1+1:=by rw [← hW2];simp [World.drew,hsz]
 rw [hW2] at c0 c1 hP2 hM2 ⊢
 clear hW2 k7f k7c
 have hpi2:(ps.set i { p with wth:=t })[i]?=some { p with wth:=t }:=List.getElem?_set_self hil
 have d1:=c1.cell
 have d4:=(hP2.ps hpi2).c4
 gi_wp2_with (refine ⟨trivial,?_⟩;gi_at_call 150;refine (callsIn_wide.2 (dQ p.parts _)).mono ?_;rintro e w9 ⟨rfl,hw9⟩;rw [hw9];clear hw9 w9)
 have hB3:=(Below.refl W2.heap.size W2).alloc (Nat.le_refl _) (.cells #[.int .u32 p.parts] 139)
 have c2:=Boxed.new W2 139 (.int .u32 p.parts)
 have hP3:=hP2.below hB3 (by omega) (by omega)
 have c0:=au c0 hB3 c0.lt
 have c1:=au c1 hB3 c1.lt
 have hM3:Mo (· = b) w (W2.alloc (.cells #[.int .u32 p.parts] 139)):=hM2.trans (aq hB3)
 obtain ⟨W3,hW3⟩:∃ W3,W2.alloc (.cells #[.int .u32 p.parts] 139)=W3:=⟨_,rfl⟩
 have hsz3:W3.heap.size=w.heap.size+1+1+1:=by rw [← hW3];simp [hsz2]
 rw [hsz2] at c2
 rw [hW3] at c0 c1 c2 hP3 hM3 ⊢
 clear hW3 hB3 hP2 hM2 d1 d4 hpi2 hP1 hB1
 have hT3:TabAt 1 Lib.deBruijn32tab W3:=hM3.kpT hg hgb hT
 have hs:=(hsm i p hpi).hp
 have hb3:b<W3.heap.size:=by omega
 refine ly (by omega) (w.heap.size+1+1) p.parts hs rfl (by omega) (by omega) c2.cell hT3 rfl
  (fun pre W=>(Pg.stay p pre∧Boxed W w.heap.size 137 (.pointer (some ⟨pb,0,none⟩))∧Boxed W (w.heap.size+1) 307 (.pointer (some ⟨b,i*10,none⟩))∧Pg.bl W pb b cap (ps.set i { p with wth:=Pg.orW ps t (Pg.aQ pre) }))∧Mo (· = b) W3 W)
  (fun c pre W=>((c = .exit 0∧Pg.brk p pre)∧Boxed W w.heap.size 137 (.pointer (some ⟨pb,0,none⟩))∧Boxed W (w.heap.size+1) 307 (.pointer (some ⟨b,i*10,none⟩))∧Pg.bl W pb b cap (ps.set i { p with wth:=Pg.orW ps t (Pg.aQ pre) }))∧Mo (· = b) W3 W)
  (Cl (fun s A A' h hb=>⟨h.1,au h.2.1 hb (by omega),au h.2.2.1 hb (by omega),h.2.2.2.below hb (by omega) (by omega)⟩))
  (fun c=>Cl (fun s A A' h hb=>⟨h.1,au h.2.1 hb (by omega),au h.2.2.1 hb (by omega),h.2.2.2.below hb (by omega) (by omega)⟩))
  ⟨⟨fun _=>rfl,c0,c1,hP3⟩,Mo.refl _ _⟩
  (fun x a' _=>a'={ tmps:=#[.pointer (some ⟨pb,0,none⟩),.int .i64 i,.pointer (some ⟨w.heap.size,0,none⟩),undef,.pointer (some ⟨w.heap.size+1,0,none⟩),.int .i64 x.1,.pointer (some ⟨pb,0,none⟩),.pointer (some ⟨pb,0,none⟩),.pointer (some ⟨pb,0,none⟩),.slice (some ⟨b,0,none⟩) ps.length cap,.int .i64 i,.pointer (some ⟨b,i*10,none⟩),.pointer (some ⟨b,i*10,none⟩),.int .i64 i,.int .u32 t,.pointer (some ⟨b,i*10,none⟩),.pointer (some ⟨b,i*10+7,none⟩),.pointer (some ⟨b,i*10,none⟩),.pointer (some ⟨b,i*10,none⟩),.pointer (some ⟨b,i*10+4,none⟩),.int .u32 p.parts,.func (.func 187) #[] #[.pointer (some ⟨w.heap.size+1+1,0,none⟩)],.int .i64 x.1,undef,undef,undef,undef,undef,undef,undef,undef,undef,undef,undef,undef,undef,undef,undef,undef,undef,undef,undef,undef,undef,undef,undef,undef,undef,undef,undef,undef,undef,undef,undef,undef,undef,undef,undef,undef,undef,undef,undef,undef,undef,undef,undef,undef,undef,undef],defers:=[] })
  (fun _ _ _ _ _ _ hs _ _=>hs)
  ?assign ?body ?done ?stop
 case assign =>
  intro l pre x W K hI hK
  gi_wp2
  exact hK _ _ (KeepsFrom.refl _ _) (fun h=>h) hI rfl
 case body =>
  rintro l pre x a' W _ _ ⟨⟨hk0,h0,h1,hPW⟩,hM⟩ rfl _
  obtain ⟨hx1,hx2⟩:=hpt x.1 x.2
  obtain ⟨q,hqx⟩:∃ q,ps[x.1]?=some q:=⟨_,List.getElem?_eq_getElem hx2⟩
  obtain ⟨o,ho⟩:∃ o,Pg.orW ps t (Pg.aQ pre)=o:=⟨_,rfl⟩
  have holt:=Pg.Ci hsm (Pg.aQ pre) _ htl
  have hsn:=Pg.Cj ps t (Pg.aQ pre) x.1
  have hwa:Pg.ki ps x.1=q.wth:=by unfold Pg.ki;rw [hqx]
  rw [← Pg.ed,hwa,ho] at hsn
  rw [ho] at holt hPW
  have hpi':(ps.set i { p with wth:=o })[i]?=some { p with wth:=o }:=List.getElem?_set_self hil
  have hqx':(ps.set i { p with wth:=o })[x.1]?=some q:=by rw [List.getElem?_set_ne (by omega)];exact hqx
  have h0c:=h0.cell
  have h1c:=h1.cell
  have hrow:=hPW.row
  rw [List.length_set] at hrow
  have hq7:=(hPW.ps hqx').c7
  have k7:=hPW.at' i _ hpi' 7 _ rfl
  have k7c:=k7.1
  have k7f:=k7.2
  have ha:=u32_or_nat _ _ holt (hsm x.1 q hqx).hw
  have hx10:x.1*10+7≠i*10+7:=by omega
  have hP4:=hPW.set hpi' 7 (.int .u32 ((o|||q.wth:Nat):Int)) { p with wth:=o|||q.wth } (by decide) (fun j=>by
   match j with
   | 0 | 1 | 2 | 3 | 4 | 5 | 6 | 7 | 8 | 9=>rfl
   | j+10=>rfl)
  rw [List.set_set,← hsn] at hP4
  gi_wp2
  refine dy (S:=(fun V=>V.cell? ⟨w.heap.size,0,none⟩=some (.pointer (some ⟨pb,0,none⟩))∧V.cell? ⟨w.heap.size+1,0,none⟩=some (.pointer (some ⟨b,i*10,none⟩))∧V.cell? ⟨pb,0,none⟩=some (.slice (some ⟨b,0,none⟩) ps.length cap)∧V.cell? ⟨b,x.1*10+7,none⟩=some (.int .u32 q.wth))) (by kernel_rfl) (by kernel_rfl) (by rintro ⟨_,_,h⟩;exact h) ⟨h0c,h1c,hrow,hq7⟩ (fun hHeld => ?_)
  refine tH 0 (.pointer (some ⟨b,i*10,none⟩)) rfl hHeld ?_
  refine tH 1 (.pointer (some ⟨b,i*10,none⟩)) rfl hHeld ?_
  refine tH 2 (.pointer (some ⟨b,i*10+7,none⟩)) rfl hHeld ?_
  refine tH 4 (.pointer (some ⟨pb,0,none⟩)) rfl hHeld ?_
  refine tH 5 (.pointer (some ⟨pb,0,none⟩)) rfl hHeld ?_
  refine tH 6 (.pointer (some ⟨pb,0,none⟩)) rfl hHeld ?_
  refine tH 7 (.slice (some ⟨b,0,none⟩) ps.length cap) rfl hHeld ?_
  refine tH 8 (.int .i64 x.1) rfl hHeld ?_
  refine tH 9 (.pointer (some ⟨b,x.1*10,none⟩)) rfl hHeld ?_
  refine tH 10 (.pointer (some ⟨b,x.1*10+7,none⟩)) rfl hHeld ?_
  refine tH 11 (.int .u32 q.wth) rfl hHeld ?_
  refine zH 3 rfl fun K hK => ?_
  go_simp
  refine hK.out _ _ hHeld (fun hHeld => ?_)
  clear hK K
  refine tH 12 (.int .u32 ((o|||q.wth:Nat):Int)) rfl hHeld ?_
  refine tH 13 (.pointer (some ⟨b,i*10,none⟩)) rfl hHeld ?_
  refine tH 14 (.pointer (some ⟨b,i*10+7,none⟩)) rfl hHeld ?_
  refine zH 15 rfl fun K hK => ?_
  go_simp
  refine hK.out _ _ (by
   have e:∀ (a:Addr),a≠⟨b,i*10+7,none⟩→∀ v,(W.setCell ⟨b,i*10+7,none⟩ v).drew.cell? a=W.drew.cell? a:=fun a ha v=>ax (fun h=>ha h.symm)
   (try dsimp only at hHeld);(try dsimp only)
   rw [e _ (by intro h;injection h with h1 h2;omega),e _ (by intro h;injection h with h1 h2;omega),e _ (by intro h;injection h with h1 h2;omega),e _ (by intro h;injection h with h1 h2;omega)]
   exact hHeld) (fun hHeld => ?_)
  clear hK K
  refine wpAnyH_done (by kernel_rfl) ?_ _
  clear hHeld
  have hP4:Pg.bl (W.setCell ⟨b,i*10+7,none⟩ (.int .u32 ((o|||q.wth:Nat):Int))).drew pb b cap (ps.set i { p with wth:=Pg.orW ps t (Pg.aQ (pre++[x])) }):=by
   rw [hsn] at hP4 ⊢;exact ⟨hP4.row,hP4.at',hP4.len,hP4.ne⟩
  have g0:Boxed (W.setCell ⟨b,i*10+7,none⟩ (.int .u32 ((o|||q.wth:Nat):Int))).drew w.heap.size 137 (.pointer (some ⟨pb,0,none⟩)):=bm h0 (p:=⟨b,i*10+7,none⟩) (by simp;omega) _
  have g1:Boxed (W.setCell ⟨b,i*10+7,none⟩ (.int .u32 ((o|||q.wth:Nat):Int))).drew (w.heap.size+1) 307 (.pointer (some ⟨b,i*10,none⟩)):=bm h1 (p:=⟨b,i*10+7,none⟩) (by simp;omega) _
  have gM:Mo (· = b) W (W.setCell ⟨b,i*10+7,none⟩ (.int .u32 ((o|||q.wth:Nat):Int))).drew:=j6 ((Mo.refl _ W).set ⟨b,i*10+7,none⟩ _ rfl)
  have gK:KeepsOthers W (W.setCell ⟨b,i*10+7,none⟩ (.int .u32 ((o|||q.wth:Nat):Int))).drew:=(KeepsOthers.setCell _ _ _).trans (KeepsOthers.drew _)
  have gT:=gM.kpT (by have:=hM.size;omega) hgb
  obtain ⟨W5,hW5⟩:∃ W5,(W.setCell ⟨b,i*10+7,none⟩ (.int .u32 ((o|||q.wth:Nat):Int))).drew=W5:=⟨_,rfl⟩
  rw [hW5] at hP4 g0 g1 gM gK gT ⊢
  clear hW5 hPW h0 h1 h0c h1c hrow hq7 k7 k7c k7f
  have hpi5:(ps.set i { p with wth:=Pg.orW ps t (Pg.aQ (pre++[x])) })[i]?=some { p with wth:=Pg.orW ps t (Pg.aQ (pre++[x])) }:=List.getElem?_set_self hil
  have e1:=g1.cell
  have e0:=(hP4.ps hpi5).c0
  by_cases hk:p.kind=0
  ·have hbr:Pg.brk p (pre++[x]):=⟨hk,x.1,by rw [hk0 hk];rfl⟩
   have hk':(p.kind == 0)=true:=by rw [hk];rfl
   clear hk hk0
   gi_wp2
   exact ⟨gK.from _,⟨⟨rfl,hbr⟩,g0,g1,hP4⟩,hM.trans gM⟩
  ·have hst:Pg.stay p (pre++[x]):=fun h=>absurd h hk
   have hk':(p.kind == 0)=false:=by simpa using hk
   clear hk hk0
   gi_wp2
   exact ⟨gK.from _,gT,⟨hst,g0,g1,hP4⟩,hM.trans gM⟩
 case' done =>
  rintro D ys W hD hys ⟨⟨hk0,h0,h1,hPW⟩,hM⟩ hK
  have hsw:Pg.orW ps t (Pg.aQ ys)=Pg.mi ps i p:=by
   unfold Pg.mi
   rw [ht]
   by_cases hk:p.kind=0
   ·rw [if_pos (by rw [hk];rfl),← hys,hk0 hk];rfl
   ·rw [if_neg (by simpa using hk),hys]
  rw [hsw] at hPW
  clear hsw hk0 hys ys
 case' stop =>
  rintro D c pre W hD hpre ⟨⟨⟨rfl,⟨hk,x,hx⟩⟩,h0,h1,hPW⟩,hM⟩ hK
  have hsw:Pg.orW ps t (Pg.aQ pre)=Pg.mi ps i p:=by
   unfold Pg.mi
   rw [ht]
   rw [if_pos (by rw [hk];rfl),Pg.AI hpre hx,hx]
  rw [hsw] at hPW
  clear hsw hpre hk hx x pre
 all_goals
  have hpi4:(ps.set i { p with wth:=Pg.mi ps i p })[i]?=some { p with wth:=Pg.mi ps i p }:=List.getElem?_set_self hil
  have h0c:=h0.cell
  have h1c:=h1.cell
  have hrow:=hPW.row
  rw [List.length_set] at hrow
  have k3:W.cell? ⟨b,i*10+3,none⟩=some (.int .i64 p.owner):=(hPW.ps hpi4).c3
  have k5:W.cell? ⟨b,i*10+5,none⟩=some (.int .u32 p.inside):=(hPW.ps hpi4).c5
  have hend:∀ V:World,Pg.bl V pb b cap (Pg.bL ps i)→Mo (· = b) W V→V.heap[D]?=some (.deferred (some []))→Pg.bl (V.putObj D (.deferred none)) pb b cap (Pg.bL ps i)∧Mo (· = b) w (V.putObj D (.deferred none)):=by
   intro V hV hMV hKV
   have hbk:=belowK_b (w:=W3) (n₀:=W3.heap.size) (Nat.le_refl _) V D _ (.deferred none) hD hKV rfl rfl
   exact ⟨hV.below hbk (by omega) (by omega),hM3.trans ((hM.trans hMV).bel hbk)⟩
  have ho:=HOW.out
  ·have hsr:Pg.bL ps i=ps.set i { p with wth:=Pg.mi ps i p }:=by unfold Pg.bL;rw [hpi];simp only [ho];rfl
   have hfin:=hend W (by rw [hsr];exact hPW) (Mo.refl _ _) hK
   rw [ho] at k3
   clear hsr hend ho
   gi_wp2
   refine ⟨by simp,.inl ⟨_,_,rfl,run_takeDeferred hK,?_⟩⟩
   exact ⟨_,results_none rfl _ _ _,rfl,hfin⟩
end
end Go.Proofs.YtegmoddppafkfaaGreatDoor
