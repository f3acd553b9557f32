import Derived.Test.YtegmoddppafkfaaGreatDoorM00
import Derived.Test.YtegmoddppafkfaaGreatDoorM20
import Derived.BigQuiet
import Derived.WalkSmall
import Derived.Deep.LoopGhost
import Derived.Deep.RegionHeld3
import Derived.Deep.RegionWith
import Derived.Deep.CutBlock
import Derived.Deep.DeepCutAuto
import Derived.Deep.AppendLies
import Derived.Deep.RegionLaw
set_option maxRecDepth 100000
set_option maxHeartbeats 8000000
namespace Go.Proofs.YtegmoddppafkfaaGreatDoor
section
open Go.RowKit
variable {w0 w:World} {db mb nm:Nat} {sv pv ov:Ref.Sl} {tm:Bool} {X:List Pro.DS} {SP:List (Int×Int)} {O:List Nat} {PT:Nat→List Nat} {D:DataW Nat}
theorem al.Fz (G:al w0 w db sv pv ov mb tm X SP O PT nm D) {k:Nat} (hk:k<O.length):∃ g cap,ov=⟨some ⟨g,0,none⟩,O.length,cap⟩∧w.cell? ⟨g,k,none⟩=some (.int .i64 O[k])∧O.length≤cap:=by
 obtain ⟨g,cap,e⟩:=Ref.gE G.opens (by omega)
 have h:=G.opens
 rw [e] at h
 have hc:=Row.cell (α:=Nat) (n:=1) (j:=0) (f:=dG) (fun _=>rfl) (aD h (Nat.zero_le _)) (by decide) hk
 refine ⟨g,cap,?_,?_,?_⟩
 ·cases ov
  simp [Ref.Sl.v] at e
  simp [e.1,e.2.1,e.2.2]
 ·simpa [dG] using hc
 ·rcases h.2 with ⟨h,_⟩ | ⟨g',cap',cur,h,_,_,hle,_⟩
  ·cases h
  ·simp at h;rw [h.2];exact hle
theorem lN (num:Int) (dep:Nat) (G:al w0 w db sv pv ov mb tm X SP O PT nm D) (h:dep=0∨O.length<dep) (hd:dep≤1073741824) :
  Calls Tryz.prog 360 #[.pointer (some ⟨db,0,none⟩),.agg #[.int .i64 num,.int .i64 dep]] w (a8 3 num w):=by
 obtain ⟨c0,c1,c2,c3,c4⟩:=G.cells
 have hlt:=G.dlt
 rw [G.EH] at c2
 by_cases h0:dep=0
 ·subst h0
  go_enter Tryz.func360,Tryz.ntmps360
  go_upto_region 1 with fail
  go_quiet (fail)
  go_wp2_with fail
  refine (aK num 0 3 _).mono ?_
  rintro e w1 ⟨hb,b,h4,h5,rfl⟩
  dsimp only
  refine ⟨rfl,?_⟩
  exact ⟨(below_drewN ((Below.refl w.heap.size w).alloc (Nat.le_refl _) _) _).trans (hb.mono (by simp)),b,by simp at h4;omega,h5,rfl⟩
 ·have h1:O.length<dep:=by omega
  have hz:((dep:Int) == 0)=false:=by simp;omega
  go_enter Tryz.func360,Tryz.ntmps360
  go_upto_region 1 with fail
  go_quiet (fail)
  go_wp2_with fail
  refine (aK num dep 3 _).mono ?_
  rintro e w1 ⟨hb,b,h4,h5,rfl⟩
  dsimp only
  refine ⟨rfl,?_⟩
  exact ⟨(below_drewN ((Below.refl w.heap.size w).alloc (Nat.le_refl _) _) _).trans (hb.mono (by simp)),b,by simp at h4;omega,h5,rfl⟩
theorem qY (num:Int) (dep k:Nat) (G:al w0 w db sv pv ov mb tm X SP O PT nm D) (hk:k<O.length) (hd:dep=k+1) (hO:O.length≤1073741824) :
  Calls Tryz.prog 360 #[.pointer (some ⟨db,0,none⟩),.agg #[.int .i64 num,.int .i64 dep]] w fun e w'=>e = .returned (.int .i64 O[k])∧Below w.heap.size w w':=by
 subst hd
 obtain ⟨c0,c1,c2,c3,c4⟩:=G.cells
 obtain ⟨g,cap,rfl,cO,hcap⟩:=G.Fz hk
 have hlt:=G.dlt
 have hgl:=World.block_lt_of_cell? _ _ cO
 have hz:((k:Int)+1 == 0)=false:=by simp;omega
 have hgt:decide ((O.length:Int)<(k:Int)+1)=false:=by simp;omega
 go_enter Tryz.func360,Tryz.ntmps360
 go_upto_region 1 with fail
 go_quiet (fail)
 go_wp2_with fail
 go_quiet (fail)
 go_wp2
 go_ret
 exact ⟨rfl,below_drewN (below_drewN ((Below.refl w.heap.size w).alloc (Nat.le_refl _) _) _) _⟩
theorem iy (k:Int) (w:World):Calls Tryz.prog 156 #[.int .i64 k] w fun e w'=>e = .returned (.bool (decide (k=3)||decide (k=4)))∧w'=w:=by
 by_cases h3:k=3
 ·subst h3
  go_enter Tryz.func156,Tryz.ntmps156
  go_wp2
  go_ret
  exact ⟨rfl,rfl⟩
 ·by_cases h4:k=4
  ·subst h4
   go_enter Tryz.func156,Tryz.ntmps156
   go_wp2
   go_ret
   exact ⟨rfl,rfl⟩
  ·have e3:(k == 3)=false:=by simpa using h3
   have e4:(k == 4)=false:=by simpa using h4
   go_enter Tryz.func156,Tryz.ntmps156
   go_wp2
   go_ret
   exact ⟨by simp [h3,h4],rfl⟩
variable {w0 w:World} {db mb nm:Nat} {sv pv ov:Ref.Sl} {tm:Bool} {X:List Pro.DS} {SP:List (Int×Int)} {O:List Nat} {PT:Nat→List Nat} {D:DataW Nat}
theorem Tryz.bR:(Tryz.prog.info? 242).map (·.size)=some 8:=by kernel_rfl
namespace Pro
def cD (k:Int):Bool:=decide (k=3)||decide (k=4)
def holds (x:DS) (p:List Nat) (k:Int):Bool:=if ao x.s=0 then !p.isEmpty || !cD k else if ao x.s=1 then !decide (k=2) else false
end Pro
theorem al.Ag {g cap u:Nat} (G:al w0 w db ⟨some ⟨g,0,none⟩,X.length,cap⟩ pv ov mb tm X SP O PT nm D) (hu:u<X.length):w.rangeAt g (u*8) (Pro.aH X[u]) :=
 Row.range (f:=Pro.aH) (fun _=>rfl) (aD G.states (Nat.zero_le _)) hu
theorem al.ER (G:al w0 w db sv pv ov mb tm X SP O PT nm D) {u:Nat} (hu:u<X.length):X[u].vp.n=(PT u).length:=by
 rcases (G.parts u hu).2 with ⟨h,h0⟩ | ⟨g,cap,cur,h,_⟩
 ·simp [Ref.Sl.v] at h;rw [h0];exact h.2.1
 ·simp [Ref.Sl.v] at h;exact h.2.1
theorem al.yV {g cap:Nat} (G:al w0 w db ⟨some ⟨g,0,none⟩,X.length,cap⟩ pv ov mb tm X SP O PT nm D):X.length≤cap∧g<w.heap.size∧w0.heap.size≤g:=by
 rcases G.states.2 with ⟨h,_⟩ | ⟨g',cap',cur,h,hb,hg,hle,_⟩
 ·cases h
 ·simp [Ref.Sl.v] at h
  obtain ⟨rfl,rfl⟩:=h
  exact ⟨hle,(Array.getElem?_eq_some_iff.1 hg).1,hb⟩
theorem sG (k:Int):Calls Tryz.prog 361 #[.pointer (some ⟨db,0,none⟩),.int .i64 (-1),.int .i64 k] w fun e w'=>e = .returned (.bool (!Pro.cD k))∧Below w.heap.size w w':=by
 go_enter Tryz.func361,Tryz.ntmps361
 go_wp2_with fail
 refine (iy k _).mono ?_
 rintro e w9 ⟨rfl,hw9⟩
 rw [hw9]
 clear hw9 w9
 obtain ⟨h,hh⟩:∃ h,h=Pro.cD k:=⟨_,rfl⟩
 have hi:(decide (k=3)||decide (k=4))=h:=hh.symm
 rw [hi]
 have HH:Hid _:=hh
 clear hh hi
 dsimp only
 go_wp2
 go_ret
 exact ⟨by rw [← HH.out];rfl,Below.refl _ _⟩
theorem sH (k:Int) (u:Nat) (G:al w0 w db sv pv ov mb tm X SP O PT nm D) (hu:u<X.length) (hX:X.length≤1073741824):Calls Tryz.prog 361 #[.pointer (some ⟨db,0,none⟩),.int .i64 u,.int .i64 k] w fun e w'=>e = .returned (.bool (Pro.holds X[u] (PT u) k))∧Below w.heap.size w w':=by
 obtain ⟨g,cap,rfl⟩:=G.Cl (by omega)
 obtain ⟨c0,c1,c2,c3,c4⟩:=G.cells
 have hrng:=G.Ag hu
 have hvp:=G.ER hu
 obtain ⟨hcap,hgl,_⟩:=G.yV
 have hdl:=G.dlt
 have hneg:((u:Int) == -1)=false:=by simp
 obtain ⟨x,hx⟩:∃ x,x=X[u]:=⟨_,rfl⟩
 rw [← hx] at hrng hvp ⊢
 clear hx G
 rw [Pro.aH,hvp] at hrng
 by_cases h0:Pro.ao x.s=0
 ·have HV:Hid (Pro.holds x (PT u) k=(!(PT u).isEmpty || !Pro.cD k)):=by unfold Hid Pro.holds;rw [if_pos h0]
  rw [h0] at hrng
  go_enter Tryz.func361,Tryz.ntmps361
  by_cases hp:0<(PT u).length
  ·go_wp2_with (first
    | (refine wpList_load_mid rfl 242 (.tmp 18) rfl g (u*8) rfl _ _ hrng Tryz.underlying242 rfl Tryz.bR ?_)
    | (refine az rfl 242 (.tmp 7) (.tmp 19) rfl 242 _ _ rfl rfl Tryz.bR rfl rfl ?_))
   go_ret
   exact ⟨by rw [HV.out];cases hq:PT u with | nil=>simp [hq] at hp | cons a b=>rfl,(Below.refl _ _).alloc (Nat.le_refl _) _⟩
  ·have hp0:PT u=[]:=List.length_eq_zero_iff.1 (by omega)
   rw [hp0] at hrng
   go_wp2_with (first
    | (refine wpList_load_mid rfl 242 (.tmp 18) rfl g (u*8) rfl _ _ hrng Tryz.underlying242 rfl Tryz.bR ?_)
    | (refine az rfl 242 (.tmp 7) (.tmp 19) rfl 242 _ _ rfl rfl Tryz.bR rfl rfl ?_)
    | (go_at_call 156;refine (iy k _).mono ?_;rintro e w9 ⟨rfl,hw9⟩;rw [hw9];clear hw9 w9))
   go_ret
   have e:(!decide (k=3) && !decide (k=4)) = !Pro.cD k:=by unfold Pro.cD;cases decide (k=3) <;> rfl
   refine ⟨?_,(Below.refl _ _).alloc (Nat.le_refl _) _⟩
   show Ending.returned (Value.bool (!decide (k=3) && !decide (k=4)))=_
   rw [HV.out,hp0,e];rfl
 ·by_cases h1:Pro.ao x.s=1
  ·have HV:Hid (Pro.holds x (PT u) k = !decide (k=2)):=by unfold Hid Pro.holds;rw [if_neg h0,if_pos h1]
   rw [h1] at hrng
   go_enter Tryz.func361,Tryz.ntmps361
   go_wp2_with (first
    | (refine wpList_load_mid rfl 242 (.tmp 18) rfl g (u*8) rfl _ _ hrng Tryz.underlying242 rfl Tryz.bR ?_)
    | (refine az rfl 242 (.tmp 7) (.tmp 19) rfl 242 _ _ rfl rfl Tryz.bR rfl rfl ?_))
   go_ret
   refine ⟨?_,(Below.refl _ _).alloc (Nat.le_refl _) _⟩
   rw [HV.out]
   by_cases hk:k=2
   ·subst hk;rfl
   ·simp [hk]
  ·have HV:Hid (Pro.holds x (PT u) k=false):=by unfold Hid Pro.holds;rw [if_neg h0,if_neg h1]
   have e0:(Pro.ao x.s == 0)=false:=by simpa using h0
   have e1:(Pro.ao x.s == 1)=false:=by simpa using h1
   generalize Pro.ao x.s=kk at *
   go_enter Tryz.func361,Tryz.ntmps361
   go_wp2_with (first
    | (refine wpList_load_mid rfl 242 (.tmp 18) rfl g (u*8) rfl _ _ hrng Tryz.underlying242 rfl Tryz.bR ?_)
    | (refine az rfl 242 (.tmp 7) (.tmp 19) rfl 242 _ _ rfl rfl Tryz.bR rfl rfl ?_))
   go_ret
   exact ⟨by rw [HV.out];rfl,(Below.refl _ _).alloc (Nat.le_refl _) _⟩
variable {w0 w:World} {db mb nm:Nat} {sv pv ov:Ref.Sl} {tm:Bool} {X:List Pro.DS} {SP:List (Int×Int)} {O:List Nat} {PT:Nat→List Nat} {D:DataW Nat}
theorem qe (num:Int) (dep:Nat) (kv:Value) (G:al w0 w db sv pv ov mb tm X SP O PT nm D) (h:dep=0∨O.length<dep) (hd:dep≤1073741824) :
  Calls Tryz.prog 367 #[.pointer (some ⟨db,0,none⟩),.agg #[.int .i64 num,.int .i64 dep],kv] w (a8 3 num w):=by
 obtain ⟨c0,c1,c2,c3,c4⟩:=G.cells
 have hdl:=G.dlt
 go_enter Tryz.func367,Tryz.ntmps367
 go_upto_region 1 with fail
 have hb1:Below w.heap.size w (w.alloc (.cells #[.int .i64 num,.int .i64 dep] 286)):=(Below.refl _ _).alloc (Nat.le_refl _) _
 have c0':(w.alloc (.cells #[.int .i64 num,.int .i64 dep] 286)).cell? ⟨db,0,none⟩=some (.slice sv.a sv.n sv.c):=by rw [World.cell?_alloc_lt _ _ ⟨db,0,none⟩ hdl];exact c0
 have G1:=(G.ax hb1).ax ((Below.refl _ _).drew)
 have hend:∀ e w1,a8 3 num ((w.alloc (.cells #[.int .i64 num,.int .i64 dep] 286)).drew) e w1→a8 3 num w e w1:=by
  rintro e w1 ⟨hb,b,h4,h5,h6⟩
  exact ⟨hb1.drew.trans (hb.mono (by simp)),b,by simp at h4;omega,h5,h6⟩
 refine wp_region_any (by kernel_rfl) ?_
 change wpAny _ _ _ _ _ _ _ (World.drew _)
 refine tA 0 (.pointer (some ⟨db,0,none⟩)) rfl ?_
 refine tA 1 (.pointer (some ⟨db,0,none⟩)) rfl ?_
 refine tA 2 (.pointer (some ⟨db,0,none⟩)) rfl ?_
 refine tA 4 (.pointer (some ⟨db,0,none⟩)) rfl ?_
 refine yA [3,5] ?_
 refine AllReady.cons rfl (fun K hK => ?_) (AllReady.cons rfl (fun K hK => ?_) AllReady.nil)
 ·go_simp
  refine hK _ _ ?_
  clear hK K
  refine zA 5 rfl fun K hK => ?_
  go_simp
  refine hK _ _ ?_
  clear hK K
  refine zA 6 rfl fun K hK => ?_
  go_simp
  (refine (lN num dep G1 h hd).mono ?_;rintro e w4 h4;obtain ⟨hb,b,h5,h6,rfl⟩:=hend _ _ h4;dsimp only;exact ⟨rfl,hb,b,h5,h6,rfl⟩)
 ·go_simp
  refine hK _ _ ?_
  clear hK K
  refine yA [3,6] ?_
  refine AllReady.cons rfl (fun K hK => ?_) (AllReady.cons rfl (fun K hK => ?_) AllReady.nil)
  ·go_simp
   refine hK _ _ ?_
   clear hK K
   refine zA 6 rfl fun K hK => ?_
   go_simp
   (refine (lN num dep G1 h hd).mono ?_;rintro e w4 h4;obtain ⟨hb,b,h5,h6,rfl⟩:=hend _ _ h4;dsimp only;exact ⟨rfl,hb,b,h5,h6,rfl⟩)
  ·go_simp
   (refine (lN num dep G1 h hd).mono ?_;rintro e w4 h4;obtain ⟨hb,b,h5,h6,rfl⟩:=hend _ _ h4;dsimp only;exact ⟨rfl,hb,b,h5,h6,rfl⟩)
def k9 (num:Int) (k:Int) (ks:List Int) (p:Addr) (w:World) (e:Ending) (w':World):Prop:=if k∈ks then a8 3 num w e w' else e = .returned (.pointer (some p))∧Below w.heap.size w w'
theorem kt (num:Int) (dep k u:Nat) (ks:List Int) (kb:Nat) (g cap:Nat) (G:al w0 w db ⟨some ⟨g,0,none⟩,X.length,cap⟩ pv ov mb tm X SP O PT nm D) (hk:k<O.length) (hd:dep=k+1) (hO:O.length≤1073741824) (hku:O[k]=u) (hu:u<X.length)
  (hkb:w.heap[kb]?=some (.cells (ks.map (Value.int .i64)).toArray 238 (0,0))) (hks:ks.length≤10) :
  Calls Tryz.prog 367 #[.pointer (some ⟨db,0,none⟩),.agg #[.int .i64 num,.int .i64 dep],.slice (some ⟨kb,0,none⟩) ks.length ks.length] w (k9 num (Pro.ao X[u].s) ks ⟨g,u*8,none⟩ w):=by
 obtain ⟨c0,c1,c2,c3,c4⟩:=G.cells
 have hdl:=G.dlt
 have hrng:=G.Ag hu
 obtain ⟨hcap,hgl,_⟩:=G.yV
 have hkl:=(Array.getElem?_eq_some_iff.1 hkb).1
 obtain ⟨kd,hkd⟩:∃ kd,kd=Pro.ao X[u].s:=⟨_,rfl⟩
 have cK:=hrng 0 (.int .i64 kd) (by rw [hkd];rfl)
 rw [Nat.add_zero] at cK
 rw [← hkd]
 have HO:Hid (∀ W:World,W=(w.alloc (.cells #[.int .i64 num,.int .i64 dep] 286)).drew→Calls Tryz.prog 360 #[.pointer (some ⟨db,0,none⟩),.agg #[.int .i64 num,.int .i64 dep]] W fun e w'=>e = .returned (.int .i64 u)∧Below W.heap.size W w'):=by
  rintro W rfl
  rw [← hku]
  exact qY num dep k ((G.ax ((Below.refl _ _).alloc (Nat.le_refl _) _)).ax ((Below.refl _ _).drew)) hk hd hO
 clear hd hku hk hO hrng hkd G
 go_enter Tryz.func367,Tryz.ntmps367
 go_upto_region 1 with fail
 have hb1:Below w.heap.size w (w.alloc (.cells #[.int .i64 num,.int .i64 dep] 286)):=(Below.refl _ _).alloc (Nat.le_refl _) _
 have c0':(w.alloc (.cells #[.int .i64 num,.int .i64 dep] 286)).cell? ⟨db,0,none⟩=some (.slice (some ⟨g,0,none⟩) X.length cap):=by rw [World.cell?_alloc_lt _ _ ⟨db,0,none⟩ hdl];exact c0
 have p0:(w.alloc (.cells #[.int .i64 num,.int .i64 dep] 286)).cell? ⟨w.heap.size,0,none⟩=some (.int .i64 num):=by simp
 have p1:(w.alloc (.cells #[.int .i64 num,.int .i64 dep] 286)).cell? ⟨w.heap.size,1,none⟩=some (.int .i64 dep):=by simp
 have hpl:w.heap.size<(w.alloc (.cells #[.int .i64 num,.int .i64 dep] 286)).heap.size:=by simp
 obtain ⟨W1,hW1⟩:∃ y,y=w.alloc (.cells #[.int .i64 num,.int .i64 dep] 286):=⟨_,rfl⟩
 change Code.wp _ _ _ _ (w.alloc (.cells #[.int .i64 num,.int .i64 dep] 286))
 rw [← hW1] at p0 p1 hpl c0' hb1 HO ⊢
 clear hW1
 have hdl1:db<W1.heap.size:=Nat.lt_of_lt_of_le hdl hb1.size
 go_region_held3 (fun W=>W.cell? ⟨db,0,none⟩=some (.slice (some ⟨g,0,none⟩) X.length cap)∧W.cell? ⟨w.heap.size,0,none⟩=some (.int .i64 num)∧W.cell? ⟨w.heap.size,1,none⟩=some (.int .i64 dep)) (first | go_keep | exact ⟨k0,k1,k2⟩)
  ((go_at_call 360;refine (HO.out _ rfl).mono ?_;rintro e w4 ⟨rfl,hb4⟩;have k0:=(World.cell?_of_block (w:=W1.drew) (w':=w4) (a:=⟨db,0,none⟩) (hb4.block db hdl1)).trans c0';have k1:=(World.cell?_of_block (w:=W1.drew) (w':=w4) (a:=⟨w.heap.size,0,none⟩) (hb4.block w.heap.size hpl)).trans p0;have k2:=(World.cell?_of_block (w:=W1.drew) (w':=w4) (a:=⟨w.heap.size,1,none⟩) (hb4.block w.heap.size hpl)).trans p1;dsimp only))
 have hb4':Below w.heap.size w w4:=hb1.drew.trans (hb4.mono hb1.size)
 have cK4:w4.cell? ⟨g,u*8,none⟩=some (.int .i64 kd):=(World.cell?_of_block (w:=w) (hb4'.block g hgl)).trans cK
 have kb4:=(hb4'.block kb hkl).trans hkb
 have HS4:Hid _:=hb4'
 clear k0 hb4' hb4 cK hkb hgl hb1 c0' p0 p1 hpl HO hdl1 c0 c1 c2 c3 c4
 go_wp2
 go_loop [20] (fun i=>∃ j:Nat,j≤ks.length∧i = .int .i64 j∧∀ q (h:q<ks.length),q<j→¬ ks[q]=kd) (fun i=>ks.length-(intOf i).toNat)
 case atStart=>exact ⟨0,Nat.zero_le _,rfl,fun _ _ h=>by omega⟩
 case round =>
  obtain ⟨j,hj,rfl,hno⟩:=hrel
  by_cases hjn:j<ks.length
  ·have cj:w4.cell? ⟨kb,j,none⟩=some (.int .i64 ks[j]):=by
    rw [cell_of_row w4 _ j _ _ _ kb4]
    simp [List.getElem?_eq_getElem hjn]
   obtain ⟨z,hz⟩:∃ z,z=ks[j]:=⟨_,rfl⟩
   rw [← hz] at cj
   by_cases he:kd=z
   ·have hm:Hid (kd∈ks):=by rw [he,hz];exact List.getElem_mem hjn
    have he':(kd == z)=true:=by simpa using he
    clear he hz hno
    go_wp2_with fail
    refine (aK num dep 3 _).mono ?_
    rintro e w5 ⟨hb,b,h4,h5,rfl⟩
    dsimp only
    refine ⟨rfl,?_⟩
    unfold k9
    rw [if_pos hm.out]
    exact ⟨HS4.out.trans (hb.mono HS4.out.size),b,Nat.le_trans HS4.out.size h4,h5,rfl⟩
   ·have he':(kd == z)=false:=by simpa using he
    have HZ:Hid (¬ ks[j]=kd):=by rw [← hz];exact fun h=>he h.symm
    clear hz he
    go_wp2
    go_round
    case rel =>
     refine ⟨j+1,by omega,by go_num,fun q h hq => ?_⟩
     by_cases e:q=j
     ·subst e;exact HZ.out
     ·exact hno q h (by omega)
    case measure=>simp [intOf];omega
  ·have hm:Hid (¬ kd∈ks):=by
    intro h
    obtain ⟨q,hq,e⟩:=List.getElem_of_mem h
    exact hno q hq (by omega) e
   clear hno
   go_wp2
   go_ret
   unfold k9
   rw [if_neg hm.out]
   exact ⟨rfl,HS4.out⟩
variable {w0 w:World} {db mb nm:Nat} {sv pv ov:Ref.Sl} {tm:Bool} {X:List Pro.DS} {SP:List (Int×Int)} {O:List Nat} {PT:Nat→List Nat} {D:DataW Nat}
theorem Tryz.zr:(Tryz.prog.info? 295).map (fun i=>(i.zero,i.size,i.bytes))=some (some (.agg #[.string ByteArray.empty,.bool false,.int .u64 0,.string ByteArray.empty,.slice none 0 0]),5,72):=by kernel_rfl
def cd (num:Int) (dep:Nat) (y:Pro.PV):Array Value:=#[.int .i64 num,.int .i64 dep,.string y.m.event,.bool y.m.after,.int .u64 y.m.delay,.string y.m.to,.slice y.v.a y.v.n y.v.c]
theorem jM (num:Int) (dep:Nat) (y:Pro.PV) (G:al w0 w db sv pv ov mb tm X SP O PT nm D) (h:dep=0∨O.length<dep) (hd:dep≤1073741824) :
  Calls Tryz.prog 364 #[.agg (cd num dep y),.pointer (some ⟨db,0,none⟩)] w (a8 3 num w):=by
 have hdl:=G.dlt
 have hb1:Below w.heap.size w ((w.alloc (.cells (cd num dep y) 380)).alloc (.cells #[.int .i64 2,.int .i64 3,.int .i64 4] 238)):=((Below.refl _ _).alloc (Nat.le_refl _) _).alloc (by simp) _
 have HC:Hid _:=qe num dep (.slice (some ⟨w.heap.size+1,0,none⟩) 3 3) (G.ax hb1) h hd
 unfold cd at hb1 HC ⊢
 go_enter Tryz.func364,Tryz.ntmps364
 go_wp2_with fail
 refine Calls.mono HC.out ?_
 rintro e w4 ⟨hb,b,h5,h6,rfl⟩
 dsimp only
 exact ⟨rfl,hb1.trans (hb.mono hb1.size),b,Nat.le_trans hb1.size h5,h6,rfl⟩
theorem p8 (num:Int) (dep:Nat) (y:Pro.PV) (k u g cap:Nat) (G:al w0 w db ⟨some ⟨g,0,none⟩,X.length,cap⟩ pv ov mb tm X SP O PT nm D) (hk:k<O.length) (hd:dep=k+1) (hO:O.length≤1073741824) (hku:O[k]=u) (hu:u<X.length) (hh:Pro.ao X[u].s∈([2,3,4]:List Int)) :
  Calls Tryz.prog 364 #[.agg (cd num dep y),.pointer (some ⟨db,0,none⟩)] w (a8 3 num w):=by
 have hdl:=G.dlt
 have hb1:Below w.heap.size w ((w.alloc (.cells (cd num dep y) 380)).alloc (.cells #[.int .i64 2,.int .i64 3,.int .i64 4] 238)):=((Below.refl _ _).alloc (Nat.le_refl _) _).alloc (by simp) _
 have HC:Hid _:=kt num dep k u [2,3,4] (w.heap.size+1) g cap (G.ax hb1) hk hd hO hku hu (bE _ _ _) (by decide)
 clear hd hku hk hO
 unfold cd at hb1 HC ⊢
 go_enter Tryz.func364,Tryz.ntmps364
 go_wp2_with fail
 refine Calls.mono HC.out ?_
 rintro e w4 h4
 unfold k9 at h4
 rw [if_pos hh] at h4
 obtain ⟨hb,b,h5,h6,rfl⟩:=h4
 dsimp only
 exact ⟨rfl,hb1.trans (hb.mono hb1.size),b,Nat.le_trans hb1.size h5,h6,rfl⟩
theorem p9 (num:Int) (dep:Nat) (y:Pro.PV) (k u g cap:Nat) (G:al w0 w db ⟨some ⟨g,0,none⟩,X.length,cap⟩ pv ov mb tm X SP O PT nm D) (hk:k<O.length) (hd:dep=k+1) (hO:O.length≤1073741824) (hku:O[k]=u) (hu:u<X.length) (hh:¬ Pro.ao X[u].s∈([2,3,4]:List Int))
  (hy:w0.ownsRow 0 324 1 y.v.v y.m.ak.length (y.m.ak.map aZ)) (hml:X[u].s.moves.length≤1000000) :
  Calls Tryz.prog 364 #[.agg (cd num dep y),.pointer (some ⟨db,0,none⟩)] w fun e w'=>e = .returned (.tuple #[])∧∃ vm',al w0 w' db ⟨some ⟨g,0,none⟩,X.length,cap⟩ pv ov mb (tm||y.m.after) (X.set u (Pro.bZ X[u] y vm')) SP O PT nm D:=by
 have hdl:=G.dlt
 obtain ⟨hcap,hgl,hg0⟩:=G.yV
 have hb1:Below w.heap.size w ((w.alloc (.cells (cd num dep y) 380)).alloc (.cells #[.int .i64 2,.int .i64 3,.int .i64 4] 238)):=((Below.refl _ _).alloc (Nat.le_refl _) _).alloc (by simp) _
 have HC:Hid _:=kt num dep k u [2,3,4] (w.heap.size+1) g cap (G.ax hb1) hk hd hO hku hu (bE _ _ _) (by decide)
 have hbx:((w.alloc (.cells (cd num dep y) 380)).alloc (.cells #[.int .i64 2,.int .i64 3,.int .i64 4] 238)).heap[w.heap.size]?=some (.cells (cd num dep y) 380 (0,0)):=fh _ _ _
 obtain ⟨i0,hi,hz0,hz1,hz2⟩:=info_parts Tryz.zr
 clear hd hku hk hO
 have hlw:w.heap.size<((w.alloc (.cells (cd num dep y) 380)).alloc (.cells #[.int .i64 2,.int .i64 3,.int .i64 4] 238)).heap.size:=by simp;omega
 unfold cd at hb1 HC hbx hlw ⊢
 go_enter Tryz.func364,Tryz.ntmps364
 go_wp2_with fail
 refine Calls.mono HC.out ?_
 rintro e w4 h4
 unfold k9 at h4
 rw [if_neg hh] at h4
 obtain ⟨rfl,hb4⟩:=h4
 have hbw:=hb1.trans (hb4.mono hb1.size)
 have G4:=G.ax hbw
 have hbx4:=(hb4.block _ hlw).trans hbx
 have hbs:=hbw.size
 obtain ⟨M,hM1,hM2,hM3⟩:=(G4.deep u hu).moves
 have hMl:M.length≤1000000:=by rw [← hM1] at hml;simpa using hml
 have c7:w4.cell? ⟨g,u*8+7,none⟩=some (.slice X[u].vm.a X[u].vm.n X[u].vm.c):=G4.Ag hu 7 _ rfl
 have f7:w4.frozen? ⟨g,u*8+7,none⟩=false:=World.ownsRow.frozenAt (aD G4.states (Nat.zero_le _)) _
 have e2:w4.cell? ⟨w.heap.size,2,none⟩=some (.string y.m.event):=by rw [cell_of_row w4 _ _ _ _ _ hbx4];rfl
 have e3:w4.cell? ⟨w.heap.size,3,none⟩=some (.bool y.m.after):=by rw [cell_of_row w4 _ _ _ _ _ hbx4];rfl
 have e4:w4.cell? ⟨w.heap.size,4,none⟩=some (.int .u64 y.m.delay):=by rw [cell_of_row w4 _ _ _ _ _ hbx4];rfl
 have e5:w4.cell? ⟨w.heap.size,5,none⟩=some (.string y.m.to):=by rw [cell_of_row w4 _ _ _ _ _ hbx4];rfl
 have e6:w4.cell? ⟨w.heap.size,6,none⟩=some (.slice y.v.a y.v.n y.v.c):=by rw [cell_of_row w4 _ _ _ _ _ hbx4];rfl
 have hgl4:g<w4.heap.size:=Nat.lt_of_lt_of_le hgl hbs
 have hlw4:w.heap.size<w4.heap.size:=(Array.getElem?_eq_some_iff.1 hbx4).1
 have hw04:w0.heap.size≤w4.heap.size:=G4.bel.size
 have HND:Hid (some g≠X[u].vm.v.ownBlock):=fun e=>by
  obtain ⟨c,hc⟩:=bB hM2 _ e.symm
  obtain ⟨c',hc'⟩:=bB G4.states g rfl
  rw [hc] at hc';simp at hc'
 have HB4:Hid _:=hbx4
 clear hbx hbx4 HC hh hlw hb1
 dsimp only
 go_upto_region 2 with fail
 go_cut [] (fun wx=>∃ vm',al w0 wx db ⟨some ⟨g,0,none⟩,X.length,cap⟩ pv ov mb tm (X.set u (Pro.bZ X[u] y vm')) SP O PT nm D∧wx.heap[w.heap.size]?=some (.cells (cd num dep y) 380 (0,0)))
 case first =>
  go_region_law
   ((refine step_append_lies _ (by rfl) _ _ _ (by rfl) w0.heap.size 295 i0 _ 5 72 Tryz.underlying240 hi hz0 hz1 hz2 rfl (by decide) (.slice X[u].vm.a X[u].vm.n X[u].vm.c) M.length (M.flatMap Pro.aR) (by rfl) ((World.ownsRow.alloc hM2 _).drew) ⟨w4.heap.size,0,none⟩ 1 1 (Pro.aR y) (by rfl) (by rfl) (World.news_of_block (cs:=(Pro.aR y).toArray) (t:=295) (fr:=(0,0)) (heap_alloc_new w4 _)) (by simp [Pro.aR,Value.oneCell']) (by omega) (by unfold maxLen;omega) (by omega) (by simp;omega) (w4.heap.size+1) (by simp) ?_;intro g5 cap5 w5 hown5 hgrow hat hlt5;have hfz5:=((hgrow.frozen_far ⟨g,u*8+7,none⟩ (by simp;omega) HND.out).trans ((((Below.refl w4.heap.size w4).alloc (Nat.le_refl _) _).drew).frozen (p:=⟨g,u*8+7,none⟩) hgl4)).trans f7;have hcc5:=((hgrow.cell_far ⟨g,u*8+7,none⟩ (by simp;omega) HND.out).trans ((((Below.refl w4.heap.size w4).alloc (Nat.le_refl _) _).drew).cell (p:=⟨g,u*8+7,none⟩) hgl4)).trans c7))
  all_goals (
   go_wp2_with fail
   go_meet
   case rel =>
    have hbc:Below w4.heap.size w4 ((w4.alloc (.cells #[.string y.m.event,.bool y.m.after,.int .u64 y.m.delay,.string y.m.to,.slice y.v.a y.v.n y.v.c] 295)).drew):=((Below.refl _ _).alloc (Nat.le_refl _) _).drew
    refine ⟨⟨some ⟨g5,0,none⟩,M.length+1,cap5⟩,G4.addMove (vm':=⟨some ⟨g5,0,none⟩,M.length+1,cap5⟩) (y:=y) (M:=M) hbc hu hM1 hM2 hM3 hgrow hown5 ?_ hy,?_⟩
    ·rcases hat with h | h
     ·exact .inl h.symm
     ·exact .inr (by rw [h];simp [Ref.Sl.v,Value.ownBlock])
    ·have t1:Touch 295 _ w5:=cQ (World.ownsRow.drew (World.ownsRow.alloc hM2 _)) hgrow
     have b5:=bu (bu HB4.out (bL (e:=295) hbc) (by decide)) t1 (by decide)
     rw [(aa w5 g (u*8+7) _).block w.heap.size (by omega)]
     exact b5)
 case rest =>
  obtain ⟨vm',G6,hbx6⟩:=hcut
  obtain ⟨W6,hW6⟩:∃ y:World,y=wc:=⟨wc,rfl⟩
  subst hW6
  obtain ⟨d0,d1,d2,d3,d4⟩:=G6.cells
  have fd:=G6.frozen 4
  have hl6:=G6.dlt
  have e3':W6.cell? ⟨w.heap.size,3,none⟩=some (.bool y.m.after):=by rw [cell_of_row W6 _ _ _ _ _ hbx6];rfl
  have HG:Hid _:=G6
  clear e2 e3 e4 e5 e6 c7 f7 hi hz0 hz1 hz2 hM1 hM2 hM3
  cases tm with
  | true =>
   go_wp2
   go_end0
   exact ⟨rfl,vm',by simpa using HG.out.vq true (Below.refl _ _)⟩
  | false =>
   go_wp2
   go_end0
   exact ⟨rfl,vm',by simpa using HG.out.vq y.m.after (Below.refl _ _)⟩
end
end Go.Proofs.YtegmoddppafkfaaGreatDoor
