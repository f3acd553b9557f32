import Derived.Test.YtegmoddppafkfaaGreatDoorM00
import Derived.Test.YtegmoddppafkfaaGreatDoorM12
set_option maxRecDepth 100000
set_option maxHeartbeats 8000000
namespace Go.Proofs.YtegmoddppafkfaaGreatDoor
section
open Go.RowKit Go.Proofs Go.Shelf
namespace Pg
def flt (p:Nat→Bool) (L:List Nat):List Nat:=L.filter fun x => !p x
theorem BC (p:Nat→Bool) (L:List Nat) (x:Nat):flt p (L++[x])=if p x then flt p L else flt p L++[x]:=by
 unfold flt
 rw [List.filter_append]
 cases h:p x <;> simp [h]
theorem uK (p:Nat→Bool) {L:List Nat} {j x:Nat} (h:L[j]?=some x):flt p (L.take (j+1))=if p x then flt p (L.take j) else flt p (L.take j)++[x]:=by
 rw [← BC,List.take_add_one,h]
 rfl
theorem uJ {p:Nat→Bool} {L:List Nat} (h:∀ x∈L,p x=false):flt p L=L:=List.filter_eq_self.2 fun x hx=>by rw [h x hx];rfl
structure DlI (w:World) (g cap:Nat) (p:Nat→Bool) (L:List Nat) (i j:Nat) (V:World):Prop where
 ik:i=(flt p (L.take j)).length
 ij:i<j
 jl:j≤L.length
 mo:Mo (· = g) w V
 row:∃ cur:Array Value,V.heap[g]?=some (.cells cur 316 (0,0))∧cur.size=cap∧(∀ (a x:Nat),(flt p (L.take j))[a]?=some x→cur[a]?=some (.pointer (some ⟨x,0,none⟩)))∧∀ (a x:Nat),j≤a→L[a]?=some x→cur[a]?=some (.pointer (some ⟨x,0,none⟩))
theorem BJ {p:Nat→Bool}:∀ {l:List Nat},ixF p l = -1→∀ x∈l,p x=false
 | [],_,x,hx=>by cases hx
 | y::l,h,x,hx=>by
  unfold ixF at h
  split at h
  ·omega
  ·rename_i h1
   split at h
   ·rename_i h2
    rcases List.mem_cons.1 hx with rfl | hx
    ·simpa using h1
    ·exact BJ h2 x hx
   ·rename_i h2
    have:ixF p l≥0∨ixF p l = -1:=ixF_cases p l
    omega
 where ixF_cases (p:Nat→Bool):∀ l:List Nat,ixF p l≥0∨ixF p l = -1
 | [] => .inr rfl
 | y::l=>by
  unfold ixF
  split
  ·exact .inl (by omega)
  ·split
   ·exact .inr rfl
   ·rename_i h2
    rcases ixF_cases p l with h3 | h3
    ·exact .inl (by omega)
    ·exact absurd h3 h2
theorem uW {p:Nat→Bool}:∀ {l:List Nat},ixF p l ≠ -1→∃ (k x:Nat),ixF p l=k∧l[k]?=some x∧p x=true∧∀ (j y:Nat),j<k→l[j]?=some y→p y=false
 | [],h=>absurd rfl h
 | y::l,h=>by
  cases hp:p y
  ·have h2:ixF p l ≠ -1:=fun e=>h (by unfold ixF;rw [if_neg (by rw [hp];decide),if_pos e])
   obtain ⟨k,x,a,b,c,d⟩:=uW h2
   refine ⟨k+1,x,?_,by simpa using b,c,fun j z hj hz => ?_⟩
   ·unfold ixF
    rw [if_neg (by rw [hp];decide),if_neg h2,a]
    omega
   ·cases j with
    | zero=>simp at hz;subst hz;exact hp
    | succ j=>exact d j z (by omega) (by simpa using hz)
  ·exact ⟨0,y,by unfold ixF;rw [if_pos hp];rfl,rfl,hp,fun j _ hj=>by omega⟩
end Pg
theorem uw (w:World) (g cap:Nat) (L:List Nat) (cur:Array Value) (p:Nat→Bool) (B3 B5:Nat) (hl:L.length≤1000) (hR:Pg.MvR w g cap L cur)
  (hf:∀ (V:World) (x:Nat),Mo (· = g) w V→x∈L→Calls Tryz.prog 259 #[.pointer (some ⟨x,0,none⟩),.pointer (some ⟨B3,0,none⟩),.pointer (some ⟨B5,0,none⟩)] V fun e w'=>e = .returned (.bool (p x))∧Below V.heap.size V w') :
  Calls Tryz.prog 263 #[.slice (some ⟨g,0,none⟩) L.length cap,.func (.func 259) #[] #[.pointer (some ⟨B3,0,none⟩),.pointer (some ⟨B5,0,none⟩)]] w fun e w'=>e = .returned (.slice (some ⟨g,0,none⟩) (Pg.flt p L).length cap)∧(∃ cur',Pg.MvR w' g cap (Pg.flt p L) cur')∧Mo (· = g) w w':=by
 have hgl:=(Array.getElem?_eq_some_iff.1 hR.blk).1
 have hix:=iO w (some ⟨g,0,none⟩) cap L p B3 B5 hl (fun j x hx=>⟨g,rfl,hgl,hR.cell hx⟩) (fun V x hV hx=>(hf V x (aq hV) hx).mono (fun e w' y=>⟨y.1,hV.trans (y.2.mono hV.size)⟩))
 have hle:=hR.le
 have hcs:=hR.size
 by_cases hm:Pg.ixF p L = -1
 ·have hfl:=Pg.uJ (Pg.BJ hm)
  rw [hm] at hix
  rw [hfl]
  have HR:Hid _:=hR
  clear hR hf hfl
  go_enter Tryz.func263,Tryz.ntmps263
  go_wp2_with (go_at_call 283;refine hix.mono ?_;rintro e w9 ⟨rfl,hb9⟩)
  go_ret
  exact ⟨rfl,⟨cur,HR.out.mo (P:=fun _=>False) (aq hb9) (fun h=>h)⟩,aq hb9⟩
 ·obtain ⟨k,x0,hk,hx0,hp0,hbef⟩:=Pg.uW hm
  have hkl:=(List.getElem?_eq_some_iff.1 hx0).1
  rw [hk] at hix
  have hk1:((k:Int) == -1)=false:=by simp
  have hfk:Pg.flt p (L.take k)=L.take k:=Pg.uJ fun y hy=>by
   obtain ⟨j,hj⟩:=List.mem_iff_getElem?.1 hy
   have hjk:j<k:=by have:=(List.getElem?_eq_some_iff.1 hj).1;rw [List.length_take] at this;omega
   rw [List.getElem?_take_of_lt hjk] at hj
   exact hbef j y hjk hj
  have HI:Hid (∀ w9,Below w.heap.size w w9→Pg.DlI w g cap p L k (k+1) w9):=fun w9 hb=>by
   have hR9:=hR.mo (P:=fun _=>False) (aq hb) (fun h=>h)
   have e:Pg.flt p (L.take (k+1))=L.take k:=by rw [Pg.uK p hx0,if_pos hp0,hfk]
   refine ⟨by rw [e,List.length_take];omega,by omega,by omega,aq hb,cur,hR9.blk,hcs,fun a x hx => ?_,fun a x _ hx=>hR9.at' a x hx⟩
   rw [e] at hx
   have hak:a<k:=by have:=(List.getElem?_eq_some_iff.1 hx).1;rw [List.length_take] at this;omega
   rw [List.getElem?_take_of_lt hak] at hx
   exact hR9.at' a x hx
  have HF:Hid _:=hf
  clear hf hR hm hk hfk hbef hx0 hp0
  go_enter Tryz.func263,Tryz.ntmps263
  go_wp2_with (go_at_call 283;refine hix.mono ?_;rintro e w9 ⟨rfl,hb9⟩;have H9:Hid _:=HI.out w9 hb9;clear hb9)
  go_loopw [5,6] (fun iv jv wr=>∃ i j:Nat,iv = .int .i64 i∧jv = .int .i64 j∧Hid (Pg.DlI w g cap p L i j wr)) (fun _ jv _=>L.length-(intOf jv).toNat)
  case atStart=>exact ⟨k,k+1,rfl,by simp,H9⟩
  case round =>
   obtain ⟨i,j,rfl,rfl,HD⟩:=hrel
   clear H9 hix
   obtain ⟨d1,d2,d3,d4,cu,e1,e2,e3,e4⟩:=HD.out
   by_cases hj:j<L.length
   ·obtain ⟨x,hx⟩:∃ x,L[j]?=some x:=⟨_,List.getElem?_eq_getElem hj⟩
    have cx:wr.cell? ⟨g,j,none⟩=some (.pointer (some ⟨x,0,none⟩)):=by rw [cell_of_row wr _ _ _ _ _ e1];exact e4 j x (Nat.le_refl _) hx
    have hcall:=HF.out wr x d4 (List.mem_of_getElem? hx)
    have hft:=Pg.uK p hx
    obtain ⟨b,hb⟩:∃ b,p x=b:=⟨_,rfl⟩
    rw [hb] at hcall hft
    have HT:Hid _:=hft
    have D1:Hid _:=d1
    have HX:Hid _:=hx
    have E3:Hid _:=e3
    have E4:Hid _:=e4
    have E1:Hid _:=e1
    have HB:Hid _:=hb
    have hji:((j:Int)<(L.length:Int)):=by omega
    have hii:((i:Int)<(L.length:Int)):=by omega
    clear hft d1 hx e3 e4 hb
    have hgr:∀ V,Below wr.heap.size wr V→V.heap[g]?=some (.cells cu 316 (0,0)):=fun V hV=>(hV.block g (Array.getElem?_eq_some_iff.1 e1).1).trans e1
    have HG:Hid _:=hgr
    clear hgr e1
    cases b
    ·have HS:Hid (∀ V,Below wr.heap.size wr V→Pg.DlI w g cap p L (i+1) (j+1) (V.setCell ⟨g,i,none⟩ (.pointer (some ⟨x,0,none⟩)))∧V.frozen? ⟨g,i,none⟩=false∧∃ u,V.cell? ⟨g,i,none⟩=some u):=fun V hV=>by
      have hgV:=HG.out V hV
      have hft:=HT.out
      rw [if_neg (by decide)] at hft
      refine ⟨⟨by rw [hft,List.length_append,← D1.out];rfl,by omega,by omega,(d4.trans (aq hV)).set _ _ rfl,cu.setIfInBounds i (.pointer (some ⟨x,0,none⟩)),heap_setCell_same V g i _ _ _ hgV,by simp [e2],fun a y hy => ?_,fun a y ha hy => ?_⟩,by simp [World.frozen?,hgV],cu[i]'(by omega),by rw [cell_of_row V _ _ _ _ _ hgV];exact Array.getElem?_eq_getElem (by omega)⟩
      ·rw [hft] at hy
       by_cases ha:a<(Pg.flt p (L.take j)).length
       ·rw [List.getElem?_append_left ha] at hy
        rw [Array.getElem?_setIfInBounds_ne (by rw [D1.out];omega)]
        exact E3.out a y hy
       ·have hai:a=i:=by
         have:=(List.getElem?_eq_some_iff.1 hy).1
         rw [List.length_append,List.length_singleton] at this
         have:=D1.out
         omega
        subst hai
        rw [List.getElem?_append_right (by omega),← D1.out] at hy
        simp at hy
        subst hy
        exact Array.getElem?_setIfInBounds_self_of_lt (by omega)
      ·rw [Array.getElem?_setIfInBounds_ne (by omega)]
       exact E4.out a y (by omega) hy
     go_wp2_with (go_at_call 259;refine hcall.mono ?_;rintro e w9 ⟨rfl,hb9⟩;obtain ⟨x1,x2,u,x3⟩:=HS.out w9 hb9;have X1:Hid _:=x1;clear x1)
     go_roundw
     case rel=>exact ⟨i+1,j+1,by simp,by simp,X1⟩
     case measure=>simp only [intOf];omega
    ·have HS:Hid (∀ V,Below wr.heap.size wr V→Pg.DlI w g cap p L i (j+1) V):=fun V hV=>by
      have hft:=HT.out
      rw [if_pos rfl] at hft
      exact ⟨by rw [hft];exact D1.out,by omega,by omega,d4.trans (aq hV),cu,HG.out V hV,e2,fun a y hy=>E3.out a y (by rw [hft] at hy;exact hy),fun a y ha hy=>E4.out a y (by omega) hy⟩
     go_wp2_with (go_at_call 259;refine hcall.mono ?_;rintro e w9 ⟨rfl,hb9⟩;have X1:Hid _:=HS.out w9 hb9)
     go_roundw
     case rel=>exact ⟨i,j+1,rfl,by simp,X1⟩
     case measure=>simp only [intOf];omega
   ·obtain rfl:j=L.length:=by omega
    rw [List.take_length] at d1 e3
    have hcl:=tC wr g i (L.length-i) (cap-i) cu 0 e1 (by omega) (by omega)
    have D1:Hid _:=d1
    have hgr:(wr.setRow g (cu.toList.take i++List.replicate (L.length-i) (Value.pointer none)++cu.toList.drop (i+(L.length-i))).toArray).heap[g]?=some (.cells (cu.toList.take i++List.replicate (L.length-i) (Value.pointer none)++cu.toList.drop (i+(L.length-i))).toArray 316 (0,0)):=setRow_heap wr g _ _ _ _ e1
    have hmo:Mo (· = g) wr (wr.setRow g (cu.toList.take i++List.replicate (L.length-i) (Value.pointer none)++cu.toList.drop (i+(L.length-i))).toArray):=yM (il wr g _)
    have HE:Hid ((∃ cur',Pg.MvR (wr.setRow g (cu.toList.take i++List.replicate (L.length-i) (Value.pointer none)++cu.toList.drop (i+(L.length-i))).toArray) g cap (Pg.flt p L) cur')∧Mo (· = g) w (wr.setRow g (cu.toList.take i++List.replicate (L.length-i) (Value.pointer none)++cu.toList.drop (i+(L.length-i))).toArray)):=by
     refine ⟨⟨_,hgr,?_,by rw [← D1.out];omega,fun a x hx => ?_⟩,d4.trans hmo⟩
     ·simp
      omega
     ·have ha:a<i:=by rw [D1.out];exact (List.getElem?_eq_some_iff.1 hx).1
      have h1:=e3 a x hx
      rw [List.getElem?_toArray,List.append_assoc,List.getElem?_append_left (by simp;omega),List.getElem?_take_of_lt ha,Array.getElem?_toList]
      exact h1
    have hi2:i≤L.length:=by omega
    generalize wr.setRow g (cu.toList.take i++List.replicate (L.length-i) (Value.pointer none)++cu.toList.drop (i+(L.length-i))).toArray=W2 at *
    clear d1 e3 e4 hgr hmo HD e1
    go_wp2
    go_ret
    exact ⟨by rw [← D1.out];rfl,HE.out⟩
namespace Pg
abbrev TkS (W:World) (base:Nat) (sv:Value) (L:List Nat):Prop:=W.ownsRow base 316 1 sv L.length (L.flatMap jU)
theorem uH (L:List Nat) (j x:Nat) (h:L[j]?=some x):(L.flatMap jU)[j]?=some (.pointer (some ⟨x,0,none⟩)):=by
 induction L generalizing j with
 | nil=>simp at h
 | cons y L ih =>
  cases j with
  | zero=>simp at h;subst h;rfl
  | succ j=>simp at h;exact ih j h
theorem iN (L:List Nat):(L.flatMap jU).length=L.length:=by
 induction L with
 | nil=>rfl
 | cons y L ih=>rw [List.flatMap_cons,List.length_append,ih];simp [jU];omega
theorem TkS.form {W:World} {base:Nat} {sv:Value} {L:List Nat} (h:TkS W base sv L):(sv = .slice none 0 0∧L=[])∨∃ g cap cur,sv = .slice (some ⟨g,0,none⟩) L.length cap∧base≤g∧cap≤maxLen∧MvR W g cap L cur:=by
 rcases h.2 with ⟨a,b⟩ | ⟨g,cap,cur,a,b,c,d,e,f,k⟩
 ·exact .inl ⟨a,List.length_eq_zero_iff.1 b⟩
 ·refine .inr ⟨g,cap,cur,a,b,e,c,by omega,d,fun j x hx => ?_⟩
  have h1:=uH L j x hx
  rw [← k,Nat.mul_one,List.getElem?_take_of_lt (List.getElem?_eq_some_iff.1 hx).1,Array.getElem?_toList] at h1
  exact h1
theorem TkS.of {W:World} {base g cap:Nat} {L:List Nat} {cur:Array Value} (h:MvR W g cap L cur) (hb:base≤g) (hc:cap≤maxLen):TkS W base (.slice (some ⟨g,0,none⟩) L.length cap) L:=by
 refine ⟨by rw [iN];omega,.inr ⟨g,cap,cur,rfl,hb,h.blk,h.le,hc,by have:=h.size;omega,?_⟩⟩
 refine List.ext_getElem? (fun j => ?_)
 rw [Nat.mul_one]
 by_cases hj:j<L.length
 ·rw [List.getElem?_take_of_lt hj,Array.getElem?_toList,uH L j _ (List.getElem?_eq_getElem hj)]
  exact h.at' j _ (List.getElem?_eq_getElem hj)
 ·rw [List.getElem?_eq_none (by rw [List.length_take];omega),List.getElem?_eq_none (by rw [iN];omega)]
theorem TkS.kind {W:World} {base:Nat} {sv:Value} {L:List Nat} (h:TkS W base sv L):∀ k,sv.ownBlock=some k→base≤k∧k<W.heap.size∧∃ c,W.heap[k]?=some (.cells c 316 (0,0)):=fun k hk=>by
 rcases h.2 with ⟨a,b⟩ | ⟨g,cap,cur,a,b,c,_⟩
 ·subst a;cases hk
 ·subst a
  cases hk
  exact ⟨b,(Array.getElem?_eq_some_iff.1 c).1,cur,c⟩
theorem TkS.n {W:World} {base:Nat} {sv:Value} {L:List Nat} (h:TkS W base sv L):∃ a c,sv = .slice a L.length c:=by
 rcases h.2 with ⟨a,b⟩ | ⟨g,cap,cur,a,_⟩
 ·exact ⟨none,0,by rw [a,b]⟩
 ·exact ⟨_,_,a⟩
theorem MT.moT {P:Nat→Prop} {W W':World} {lo mb pb:Nat} {r:RSt} (h:MT W lo mb pb r) (hl:Lw lo) (hm:Mo P W W') (hP:∀ k,P k→lo≤k∧∃ c,W.heap[k]?=some (.cells c 316 (0,0))):MT W' lo mb pb r:=by
 obtain ⟨qv,wh,a,b⟩:=h.ex
 have hb:Below lo W W':=⟨hm.os,hm.tape,hm.output,hm.size,fun k hk=>hm.block k (by have:=h.lo';omega) (fun hp=>by have:=(hP k hp).1;omega)⟩
 have hk:Kd (fun t=>t=316) W W':=gE hm (fun k c t f hp hc=>by
  obtain ⟨_,c',hc'⟩:=hP k hp
  rw [hc] at hc'
  cases hc'
  rfl)
 refine ⟨⟨qv,wh,a.mo hm (fun e => ?_) (fun g hg e => ?_),b.kd hk (by decide) rfl rfl⟩,Nat.le_trans h.lo' hm.size,h.act,h.now,h.tml,fc hl hb h.tab,bM hl hb h.tab5⟩
 ·obtain ⟨_,c,hc⟩:=hP _ e
  obtain ⟨arr,a1,_⟩:=a.blk
  rw [hc] at a1
  simp at a1
 ·obtain ⟨_,c,hc⟩:=hP _ e
  obtain ⟨c',hc'⟩:=a.que.kind g hg
  rw [hc] at hc'
  simp at hc'
def tP (act:Nat) (lF oF:Nat→Nat) (ar:Nat) (L:List Nat) (v:Nat):List Nat:=if L.any (fun x=>fF act (lF x) (lF v) && !ar.testBit (oF x)) then L else flt (fun x=>fF act (lF x) (lF v)) L++[v]
end Pg
theorem ux (w:World) (base:Nat) (sv:Value) (L:List Nat) (p:Nat→Bool) (B3 B5:Nat) (hl:L.length≤1000) (h:Pg.TkS w base sv L)
  (hf:∀ (V:World) (x:Nat),Mo (fun k=>sv.ownBlock=some k) w V→x∈L→Calls Tryz.prog 259 #[.pointer (some ⟨x,0,none⟩),.pointer (some ⟨B3,0,none⟩),.pointer (some ⟨B5,0,none⟩)] V fun e w'=>e = .returned (.bool (p x))∧Below V.heap.size V w') :
  Calls Tryz.prog 263 #[sv,.func (.func 259) #[] #[.pointer (some ⟨B3,0,none⟩),.pointer (some ⟨B5,0,none⟩)]] w fun e w'=>∃ sv',e = .returned sv'∧Pg.TkS w' base sv' (Pg.flt p L)∧sv'.ownBlock=sv.ownBlock∧Mo (fun k=>sv.ownBlock=some k) w w':=by
 rcases h.form with ⟨rfl,rfl⟩ | ⟨g,cap,cur,rfl,hb,hc,hR⟩
 ·have hix:=iO w none 0 [] p B3 B5 (by simp) (fun j x hx=>by simp at hx) (fun V x _ hx=>by cases hx)
  have hi0:Pg.ixF p [] = -1:=rfl
  rw [hi0] at hix
  have HN:Hid (∀ W:World,Pg.TkS W base (.slice none 0 0) (Pg.flt p [])):=fun W=>⟨rfl,.inl ⟨rfl,rfl⟩⟩
  clear h hf
  simp only [List.length_nil] at hix
  go_enter Tryz.func263,Tryz.ntmps263
  go_wp2_with (go_at_call 283;refine hix.mono ?_;rintro e w9 ⟨rfl,hb9⟩)
  go_ret
  exact ⟨_,rfl,HN.out _,rfl,aq hb9⟩
 ·have hP:(fun k=>Value.ownBlock (.slice (some ⟨g,0,none⟩) L.length cap)=some k)=(· = g):=by
   funext k
   exact propext ⟨fun e=>by cases e;rfl,fun e=>by subst e;rfl⟩
  rw [hP] at hf ⊢
  refine (uw w g cap L cur p B3 B5 hl hR hf).mono ?_
  rintro e w' ⟨rfl,⟨cur',hR'⟩,hm⟩
  exact ⟨_,rfl,Pg.TkS.of hR' hb hc,rfl,hm⟩
theorem CY (w:World) (lo mb pb b cap base:Nat) (r:Pg.RSt) (ps:List Pg.PS) (fin:Nat) (EN LV:Nat→List Pg.PA) (sv:Value) (L:List Nat) (v:Nat) (pv:Pg.PS) (lF oF:Nat→Nat) (hP:Pg.fi w lo pb b cap ps fin EN LV) (h:Pg.MT w lo mb pb r) (hT:Pg.TkS w base sv L) (hbase:lo≤base) (hbw:base≤w.heap.size) (hl:L.length≤900) (hM:∀ x,x=v∨x∈L→Pg.MvB w x (oF x) (lF x)∧oF x<32) (hpv:ps[oF v]?=some pv) :
  Calls Tryz.prog 235 #[.pointer (some ⟨mb,0,none⟩),sv,.pointer (some ⟨v,0,none⟩)] w fun e w'=>∃ sv',e = .returned sv'∧Pg.TkS w' base sv' (Pg.tP r.act lF oF pv.around L v)∧Mo (fun k=>sv.ownBlock=some k) w w':=by
 obtain ⟨i0,hi,hz0,hz1,hz2⟩:=info_parts Tryz.j3
 have hlw:=hP.lw
 have hlo:=h.lo'
 obtain ⟨sa,sc,rfl⟩:=hT.n
 have hB3:∀ o1 o2 o3:Obj,Below w.heap.size w (((w.alloc o1).alloc o2).alloc o3):=fun o1 o2 o3=>(((Below.refl _ w).alloc (Nat.le_refl _) _).alloc (by simp) _).alloc (by simp;omega) _
 have hB:=hB3 (.cells #[.pointer (some ⟨mb,0,none⟩)] 92) (.cells #[.pointer (some ⟨v,0,none⟩)] 316) (.cells #[.func (.func 259) #[] #[.pointer (some ⟨w.heap.size,0,none⟩),.pointer (some ⟨w.heap.size+1,0,none⟩)]] 415)
 have x3:Boxed (((w.alloc (.cells #[.pointer (some ⟨mb,0,none⟩)] 92)).alloc (.cells #[.pointer (some ⟨v,0,none⟩)] 316)).alloc (.cells #[.func (.func 259) #[] #[.pointer (some ⟨w.heap.size,0,none⟩),.pointer (some ⟨w.heap.size+1,0,none⟩)]] 415)) w.heap.size 92 (.pointer (some ⟨mb,0,none⟩)):=((Boxed.new w _ _).alloc _).alloc _
 have x5:Boxed (((w.alloc (.cells #[.pointer (some ⟨mb,0,none⟩)] 92)).alloc (.cells #[.pointer (some ⟨v,0,none⟩)] 316)).alloc (.cells #[.func (.func 259) #[] #[.pointer (some ⟨w.heap.size,0,none⟩),.pointer (some ⟨w.heap.size+1,0,none⟩)]] 415)) (w.heap.size+1) 316 (.pointer (some ⟨v,0,none⟩)):=by
  have:=(Boxed.new (w.alloc (.cells #[.pointer (some ⟨mb,0,none⟩)] 92)) 316 (.pointer (some ⟨v,0,none⟩))).alloc (.cells #[.func (.func 259) #[] #[.pointer (some ⟨w.heap.size,0,none⟩),.pointer (some ⟨w.heap.size+1,0,none⟩)]] 415)
  rw [World.size_alloc] at this
  exact this
 have x7:Boxed (((w.alloc (.cells #[.pointer (some ⟨mb,0,none⟩)] 92)).alloc (.cells #[.pointer (some ⟨v,0,none⟩)] 316)).alloc (.cells #[.func (.func 259) #[] #[.pointer (some ⟨w.heap.size,0,none⟩),.pointer (some ⟨w.heap.size+1,0,none⟩)]] 415)) (w.heap.size+1+1) 415 (.func (.func 259) #[] #[.pointer (some ⟨w.heap.size,0,none⟩),.pointer (some ⟨w.heap.size+1,0,none⟩)]):=by
  have:=Boxed.new ((w.alloc (.cells #[.pointer (some ⟨mb,0,none⟩)] 92)).alloc (.cells #[.pointer (some ⟨v,0,none⟩)] 316)) 415 (.func (.func 259) #[] #[.pointer (some ⟨w.heap.size,0,none⟩),.pointer (some ⟨w.heap.size+1,0,none⟩)])
  rw [World.size_alloc,World.size_alloc] at this
  exact this
 have hs1:(((w.alloc (.cells #[.pointer (some ⟨mb,0,none⟩)] 92)).alloc (.cells #[.pointer (some ⟨v,0,none⟩)] 316)).alloc (.cells #[.func (.func 259) #[] #[.pointer (some ⟨w.heap.size,0,none⟩),.pointer (some ⟨w.heap.size+1,0,none⟩)]] 415)).heap.size=w.heap.size+3:=by simp
 have hsto:∀ (W:World) (a:Addr),(store a (.func (.func 259) #[] #[.pointer (some ⟨w.heap.size,0,none⟩),.pointer (some ⟨w.heap.size+1,0,none⟩)])).run Tryz.prog W=stored Tryz.prog W a (.func (.func 259) #[] #[.pointer (some ⟨w.heap.size,0,none⟩),.pointer (some ⟨w.heap.size+1,0,none⟩)]) .plain:=fun W a=>run_store _ W a _ _ rfl
 have hkd:=hT.kind
 have HKD:Hid _:=hkd
 obtain ⟨W1,hW1⟩:∃ W1,(((w.alloc (.cells #[.pointer (some ⟨mb,0,none⟩)] 92)).alloc (.cells #[.pointer (some ⟨v,0,none⟩)] 316)).alloc (.cells #[.func (.func 259) #[] #[.pointer (some ⟨w.heap.size,0,none⟩),.pointer (some ⟨w.heap.size+1,0,none⟩)]] 415))=W1:=⟨_,rfl⟩
 rw [hW1] at hB x3 x5 x7 hs1
 have HT1:Hid (∀ V,Below W1.heap.size W1 V→Pg.TkS V base (.slice sa L.length sc) L):=fun V hV=>(aq (P:=fun _=>False) (hB.trans (hV.mono hB.size))).own hT (fun _ _ h=>h)
 have HV:Hid (∀ V W,Below W1.heap.size W1 V→Mo (fun k=>Value.ownBlock (.slice sa L.length sc)=some k) V W→Pg.MT W lo mb pb r∧Pg.fi W lo pb b cap ps fin EN LV∧(∀ x,x=v∨x∈L→Pg.MvB W x (oF x) (lF x))∧Pg.TkB W mb v w.heap.size (w.heap.size+1)∧Boxed W (w.heap.size+1+1) 415 (.func (.func 259) #[] #[.pointer (some ⟨w.heap.size,0,none⟩),.pointer (some ⟨w.heap.size+1,0,none⟩)])):=fun V W hV hm=>by
  have hwV:=hB.trans (hV.mono hB.size)
  have hk:∀ k,Value.ownBlock (.slice sa L.length sc)=some k→lo≤k∧k<w.heap.size∧∃ c,V.heap[k]?=some (.cells c 316 (0,0)):=fun k e=>by
   obtain ⟨a,b',c,d⟩:=HKD.out k e
   exact ⟨by omega,b',c,(hwV.block k b').trans d⟩
  have hbl:Below lo V W:=⟨hm.os,hm.tape,hm.output,hm.size,fun k hk'=>hm.block k (by have:=hwV.size;omega) (fun e=>by have:=(hk k e).1;omega)⟩
  refine ⟨(h.below hlw hwV).moT hlw hm (fun k e=>⟨(hk k e).1,(hk k e).2.2⟩),hP.below ((hwV.mono hlo).trans hbl),fun x hx => ?_,⟨?_,?_⟩,?_⟩
  ·have hx1:=(hM x hx).1.below hwV
   refine hx1.mo hm (fun e => ?_)
   obtain ⟨_,_,c,hc⟩:=hk _ e
   obtain ⟨c',hc'⟩:=hx1.ty
   rw [hc] at hc'
   simp at hc'
  ·exact Boxed.mo (au x3 hV (by omega)) hm (fun e=>by have:=(hk _ e).2.1;omega)
  ·exact Boxed.mo (au x5 hV (by omega)) hm (fun e=>by have:=(hk _ e).2.1;omega)
  ·exact Boxed.mo (au x7 hV (by omega)) hm (fun e=>by have:=(hk _ e).2.1;omega)
 have hcon:=pZ W1 sa sc L (fun x=>Pg.fF r.act (lF x) (lF v) && !pv.around.testBit (oF x)) (w.heap.size+1+1) w.heap.size (w.heap.size+1) (by omega) (fun j x hx=>by
   rcases (HT1.out W1 (Below.refl _ _)).form with ⟨_,e2⟩ | ⟨g,cp,cu,e1,e2,e3,e4⟩
   ·subst e2
    simp at hx
   ·simp only [Value.slice.injEq] at e1
    obtain ⟨rfl,_,rfl⟩:=e1
    exact ⟨g,rfl,(Array.getElem?_eq_some_iff.1 e4.blk).1,e4.cell hx⟩)
  (fun V x hV hx=>by
   obtain ⟨a1,a2,a3,a4,a5⟩:=HV.out V V hV (Mo.refl _ _)
   exact (xX V lo mb pb b cap r ps fin EN LV x (oF x) (lF x) v (oF v) (lF v) _ _ _ pv a2 a1 (a3 x (.inr hx)) (a3 v (.inl rfl)) a4 hpv (hM x (.inr hx)).2 a5).mono (fun e w' y=>⟨y.1,hV.trans (y.2.mono hV.size)⟩))
 have hdel:∀ V,Below W1.heap.size W1 V→Calls Tryz.prog 263 #[.slice sa L.length sc,.func (.func 259) #[] #[.pointer (some ⟨w.heap.size,0,none⟩),.pointer (some ⟨w.heap.size+1,0,none⟩)]] V fun e w'=>∃ sv',e = .returned sv'∧Pg.TkS w' base sv' (Pg.flt (fun x=>Pg.fF r.act (lF x) (lF v)) L)∧sv'.ownBlock=Value.ownBlock (.slice sa L.length sc)∧Mo (fun k=>Value.ownBlock (.slice sa L.length sc)=some k) V w':=fun V hV =>
  ux V base (.slice sa L.length sc) L _ _ _ (by omega) (HT1.out V hV) (fun W x hW hx=>by
   obtain ⟨a1,a2,a3,a4,a5⟩:=HV.out V W hV hW
   exact nn W lo mb pb r x (oF x) (lF x) v (oF v) (lF v) _ _ hlw a1 (a3 x (.inr hx)) (a3 v (.inl rfl)) a4)
 obtain ⟨an,han⟩:∃ an,L.any (fun x=>Pg.fF r.act (lF x) (lF v) && !pv.around.testBit (oF x))=an:=⟨_,rfl⟩
 have HTK:Hid (Pg.tP r.act lF oF pv.around L v=if an then L else Pg.flt (fun x=>Pg.fF r.act (lF x) (lF v)) L++[v]):=by
  unfold Hid Pg.tP
  rw [han]
 rw [han] at hcon
 have HFL:Hid ((Pg.flt (fun x=>Pg.fF r.act (lF x) (lF v)) L).length≤L.length):=List.length_filter_le _ _
 generalize Pg.flt (fun x=>Pg.fF r.act (lF x) (lF v)) L=F at *
 clear han h hP hM hT hkd
 cases an
 ·have k5:∀ V W,Below W1.heap.size W1 V→Mo (fun k=>Value.ownBlock (.slice sa L.length sc)=some k) V W→W.cell? ⟨w.heap.size+1,0,none⟩=some (.pointer (some ⟨v,0,none⟩))∧W.cell? ⟨w.heap.size+1+1,0,none⟩=some (.func (.func 259) #[] #[.pointer (some ⟨w.heap.size,0,none⟩),.pointer (some ⟨w.heap.size+1,0,none⟩)]):=fun V W hV hm=>⟨(HV.out V W hV hm).2.2.2.1.b5.cell,(HV.out V W hV hm).2.2.2.2.cell⟩
  go_enter Tryz.func235,Tryz.ntmps235
  go_upto_region 5 with (go_at_call 262;(try rw [hW1]);refine hcon.mono ?_;rintro e w2 ⟨rfl,hb2⟩)
  clear hcon
  have hbd:=hb2.drew
  have hKB:∀ V W,Below W1.heap.size W1 V→Mo (fun k=>Value.ownBlock (.slice sa L.length sc)=some k) V W→(fun V=>V.cell? ⟨w.heap.size+1,0,none⟩=some (.pointer (some ⟨v,0,none⟩))∧V.cell? ⟨w.heap.size+1+1,0,none⟩=some (.func (.func 259) #[] #[.pointer (some ⟨w.heap.size,0,none⟩),.pointer (some ⟨w.heap.size+1,0,none⟩)])) W:=k5
  have hSa:∀ (W:World) (o:Obj),(fun V=>V.cell? ⟨w.heap.size+1,0,none⟩=some (.pointer (some ⟨v,0,none⟩))∧V.cell? ⟨w.heap.size+1+1,0,none⟩=some (.func (.func 259) #[] #[.pointer (some ⟨w.heap.size,0,none⟩),.pointer (some ⟨w.heap.size+1,0,none⟩)])) W→(fun V=>V.cell? ⟨w.heap.size+1,0,none⟩=some (.pointer (some ⟨v,0,none⟩))∧V.cell? ⟨w.heap.size+1+1,0,none⟩=some (.func (.func 259) #[] #[.pointer (some ⟨w.heap.size,0,none⟩),.pointer (some ⟨w.heap.size+1,0,none⟩)])) (W.alloc o):=fun W o hW=>⟨(KpM.below (B:=fun _=>False) ((Below.refl _ W).alloc (Nat.le_refl _) o)).cell hW.1 (fun h=>h),(KpM.below (B:=fun _=>False) ((Below.refl _ W).alloc (Nat.le_refl _) o)).cell hW.2 (fun h=>h)⟩
  have hSg:∀ (W W':World) (row:Option Nat),row=Value.ownBlock (.slice sa L.length sc)→W.grownBy W' row→(fun V=>V.cell? ⟨w.heap.size+1,0,none⟩=some (.pointer (some ⟨v,0,none⟩))∧V.cell? ⟨w.heap.size+1+1,0,none⟩=some (.func (.func 259) #[] #[.pointer (some ⟨w.heap.size,0,none⟩),.pointer (some ⟨w.heap.size+1,0,none⟩)])) W→(fun V=>V.cell? ⟨w.heap.size+1,0,none⟩=some (.pointer (some ⟨v,0,none⟩))∧V.cell? ⟨w.heap.size+1+1,0,none⟩=some (.func (.func 259) #[] #[.pointer (some ⟨w.heap.size,0,none⟩),.pointer (some ⟨w.heap.size+1,0,none⟩)])) W':=fun W W' row hr hg hW=>by
   subst hr
   have hne:∀ q,w.heap.size≤q→some q≠Value.ownBlock (.slice sa L.length sc):=fun q hq e=>by have:=(HKD.out q e.symm).2.1;omega
   exact ⟨(World.cell?_of_block (w:=W) (hg.block _ (fB hW.1) (hne (w.heap.size+1) (by omega)))).trans hW.1,(World.cell?_of_block (w:=W) (hg.block _ (fB hW.2) (hne (w.heap.size+1+1) (by omega)))).trans hW.2⟩
  have hfl:=HFL.out
  have hsz2:=hbd.size
  have hS0:(fun V=>V.cell? ⟨w.heap.size+1,0,none⟩=some (.pointer (some ⟨v,0,none⟩))∧V.cell? ⟨w.heap.size+1+1,0,none⟩=some (.func (.func 259) #[] #[.pointer (some ⟨w.heap.size,0,none⟩),.pointer (some ⟨w.heap.size+1,0,none⟩)])) w2.drew:=hKB _ _ hbd (Mo.refl _ _)
  have hBa:Below W1.heap.size W1 (w2.drew.alloc (.cells #[.pointer (some ⟨v,0,none⟩)] 316)):=hbd.alloc hsz2 _
  refine wp_region_held_drew (S:=(fun V=>V.cell? ⟨w.heap.size+1,0,none⟩=some (.pointer (some ⟨v,0,none⟩))∧V.cell? ⟨w.heap.size+1+1,0,none⟩=some (.func (.func 259) #[] #[.pointer (some ⟨w.heap.size,0,none⟩),.pointer (some ⟨w.heap.size+1,0,none⟩)]))) (by kernel_rfl) hS0 (fun hHeld => ?_)
  refine tD (some 15) 0 (.slice sa L.length sc) rfl hHeld ?_
  refine tD (some 16) 1 (.func (.func 259) #[] #[.pointer (some ⟨w.heap.size,0,none⟩),.pointer (some ⟨w.heap.size+1,0,none⟩)]) rfl hHeld ?_
  refine tD (some 18) 3 (.pointer (some ⟨v,0,none⟩)) rfl hHeld ?_
  refine yH [2,4] ?_
  refine AllReadyH.cons rfl (fun K hK => ?rg1) (AllReadyH.cons rfl (fun K hK => ?rg2) AllReadyH.nil)
  case' rg1 =>
   go_simp
   refine (hdel _ (by first | exact hbd | exact hBa)).mono ?_
   rintro e w9 ⟨sv9,rfl,hT9,hO9,hm9⟩
   refine hK.out _ _ (hKB _ _ (by first | exact hbd | exact hBa) hm9) (fun hHeld => ?_)
   clear hK K
   refine zH 4 rfl fun K hK => ?_
   go_simp
   refine hK.out _ _ (hSa _ _ hHeld) (fun hHeld => ?_)
   clear hK K
   refine zH 5 rfl fun K hK => ?_
   first
    | (refine step_append_lies _ (by rfl) _ _ _ (by rfl) base 316 i0 _ 1 8 Tryz.underlying314 hi hz0 hz1 hz2 rfl (by decide) sv9 F.length (F.flatMap Pg.jU) (by rfl) (hT9.alloc _) ⟨w9.heap.size,0,none⟩ 1 1 [.pointer (some ⟨v,0,none⟩)] (by rfl) (by rfl) (World.news_of_block (cs:=#[.pointer (some ⟨v,0,none⟩)]) (t:=316) (fr:=(0,0)) (heap_alloc_new w9 _)) (fun u hu=>by simp at hu;subst hu;rfl) (by omega) (by unfold maxLen;omega) (by omega) (by have:=hm9.size;simp;simp at this hsz2;omega) _ rfl ?_)
    | (refine step_append_lies _ (by rfl) _ _ _ (by rfl) base 316 i0 _ 1 8 Tryz.underlying314 hi hz0 hz1 hz2 rfl (by decide) sv9 F.length (F.flatMap Pg.jU) (by rfl) hT9 ⟨w2.drew.heap.size,0,none⟩ 1 1 [.pointer (some ⟨v,0,none⟩)] (by rfl) (by rfl) (World.news_of_block (cs:=#[.pointer (some ⟨v,0,none⟩)]) (t:=316) (fr:=(0,0)) ((hm9.block w2.drew.heap.size (by simp) (fun e=>by have:=(HKD.out _ e).2.1;have:w2.drew.heap.size=w2.heap.size:=rfl;have:=hb2.size;omega)).trans (heap_alloc_new w2.drew _))) (fun u hu=>by simp at hu;subst hu;rfl) (by omega) (by unfold maxLen;omega) (by omega) (by have:=hm9.size;simp at this hsz2;omega) _ rfl ?_)
   intro g5 cap5 w5 hown5 hgrow hat hlt5
   refine hK.out _ _ (hSg _ _ _ hO9 hgrow hHeld) (fun hHeld => ?_)
   clear hK K
   refine tD (some 6) 6 (.slice (some ⟨g5,0,none⟩) (F.length+1) cap5) rfl hHeld ?_
   refine wpAnyH_done (by kernel_rfl) ?_ _
   clear hHeld
   go_wp2
   go_ret
   rw [hO9] at hgrow
   have hg5:Mo (fun k=>Value.ownBlock (.slice sa L.length sc)=some k) _ w5:=⟨hgrow.os,hgrow.tape,hgrow.output,hgrow.size,fun k hk hn=>hgrow.block k hk (fun e=>hn e.symm)⟩
   have hMo:Mo (fun k=>Value.ownBlock (.slice sa L.length sc)=some k) w w5:=by
    have h0:Mo (fun k=>Value.ownBlock (.slice sa L.length sc)=some k) w w2.drew:=aq (hB.trans (hbd.mono hB.size))
    have hal:∀ W:World,Mo (fun k=>Value.ownBlock (.slice sa L.length sc)=some k) W (W.alloc (.cells #[.pointer (some ⟨v,0,none⟩)] 316)):=fun W=>aq ((Below.refl _ W).alloc (Nat.le_refl _) _)
    first
     | exact ((h0.trans hm9).trans (hal _)).trans hg5
     | exact ((h0.trans (hal _)).trans hm9).trans hg5
   refine ⟨_,rfl,?_,hMo⟩
   rw [HTK.out,if_neg (by decide)]
   show w5.ownsRow base 316 1 _ (F++[v]).length ((F++[v]).flatMap Pg.jU)
   rw [List.length_append,List.flatMap_append]
   exact hown5
  case' rg2 =>
   go_simp
   refine hK.out _ _ (hSa _ _ hHeld) (fun hHeld => ?_)
   clear hK K
   refine zH 2 rfl fun K hK => ?_
   go_simp
   refine (hdel _ (by first | exact hbd | exact hBa)).mono ?_
   rintro e w9 ⟨sv9,rfl,hT9,hO9,hm9⟩
   refine hK.out _ _ (hKB _ _ (by first | exact hbd | exact hBa) hm9) (fun hHeld => ?_)
   clear hK K
   refine zH 5 rfl fun K hK => ?_
   first
    | (refine step_append_lies _ (by rfl) _ _ _ (by rfl) base 316 i0 _ 1 8 Tryz.underlying314 hi hz0 hz1 hz2 rfl (by decide) sv9 F.length (F.flatMap Pg.jU) (by rfl) (hT9.alloc _) ⟨w9.heap.size,0,none⟩ 1 1 [.pointer (some ⟨v,0,none⟩)] (by rfl) (by rfl) (World.news_of_block (cs:=#[.pointer (some ⟨v,0,none⟩)]) (t:=316) (fr:=(0,0)) (heap_alloc_new w9 _)) (fun u hu=>by simp at hu;subst hu;rfl) (by omega) (by unfold maxLen;omega) (by omega) (by have:=hm9.size;simp;simp at this hsz2;omega) _ rfl ?_)
    | (refine step_append_lies _ (by rfl) _ _ _ (by rfl) base 316 i0 _ 1 8 Tryz.underlying314 hi hz0 hz1 hz2 rfl (by decide) sv9 F.length (F.flatMap Pg.jU) (by rfl) hT9 ⟨w2.drew.heap.size,0,none⟩ 1 1 [.pointer (some ⟨v,0,none⟩)] (by rfl) (by rfl) (World.news_of_block (cs:=#[.pointer (some ⟨v,0,none⟩)]) (t:=316) (fr:=(0,0)) ((hm9.block w2.drew.heap.size (by simp) (fun e=>by have:=(HKD.out _ e).2.1;have:w2.drew.heap.size=w2.heap.size:=rfl;have:=hb2.size;omega)).trans (heap_alloc_new w2.drew _))) (fun u hu=>by simp at hu;subst hu;rfl) (by omega) (by unfold maxLen;omega) (by omega) (by have:=hm9.size;simp at this hsz2;omega) _ rfl ?_)
   intro g5 cap5 w5 hown5 hgrow hat hlt5
   refine hK.out _ _ (hSg _ _ _ hO9 hgrow hHeld) (fun hHeld => ?_)
   clear hK K
   refine tD (some 6) 6 (.slice (some ⟨g5,0,none⟩) (F.length+1) cap5) rfl hHeld ?_
   refine wpAnyH_done (by kernel_rfl) ?_ _
   clear hHeld
   go_wp2
   go_ret
   rw [hO9] at hgrow
   have hg5:Mo (fun k=>Value.ownBlock (.slice sa L.length sc)=some k) _ w5:=⟨hgrow.os,hgrow.tape,hgrow.output,hgrow.size,fun k hk hn=>hgrow.block k hk (fun e=>hn e.symm)⟩
   have hMo:Mo (fun k=>Value.ownBlock (.slice sa L.length sc)=some k) w w5:=by
    have h0:Mo (fun k=>Value.ownBlock (.slice sa L.length sc)=some k) w w2.drew:=aq (hB.trans (hbd.mono hB.size))
    have hal:∀ W:World,Mo (fun k=>Value.ownBlock (.slice sa L.length sc)=some k) W (W.alloc (.cells #[.pointer (some ⟨v,0,none⟩)] 316)):=fun W=>aq ((Below.refl _ W).alloc (Nat.le_refl _) _)
    first
     | exact ((h0.trans hm9).trans (hal _)).trans hg5
     | exact ((h0.trans (hal _)).trans hm9).trans hg5
   refine ⟨_,rfl,?_,hMo⟩
   rw [HTK.out,if_neg (by decide)]
   show w5.ownsRow base 316 1 _ (F++[v]).length ((F++[v]).flatMap Pg.jU)
   rw [List.length_append,List.flatMap_append]
   exact hown5
 ·go_enter Tryz.func235,Tryz.ntmps235
  go_wp2_with (go_at_call 262;(try rw [hW1]);refine hcon.mono ?_;rintro e w2 ⟨rfl,hb2⟩)
  go_ret
  exact ⟨_,rfl,by rw [HTK.out,if_pos trivial];exact HT1.out _ hb2,aq (hB.trans (hb2.mono hB.size))⟩
namespace Pg
structure zg (w:World) (lo pb b N cap:Nat) (hv:Value) (fin mbm n:Nat) (T:ByteArray→Option (List (Option PM))) (M:ByteArray→Option Nat) (L:Nat→List (Option Nat)):Prop where
 pl:di w pb b N cap hv fin (.map (some mbm))
 tab:Tab w pb b N mbm n T M L
theorem zg.rf {w w':World} {lo pb b N cap:Nat} {hv:Value} {fin mbm n:Nat} {T:ByteArray→Option (List (Option PM))} {M:ByteArray→Option Nat} {L:Nat→List (Option Nat)} (h:zg w lo pb b N cap hv fin mbm n T M L) (hR:Rf lo w w') (hpb:pb<lo):zg w' lo pb b N cap hv fin mbm n T M L:=by
 refine ⟨(hR.bel.block pb hpb).trans h.pl,h.tab.kd (P:=(· ≠ mbm)) hR.kd (fun t ht => ?_) (by unfold cG;decide) ⟨hR.bel.os,hR.bel.tape,hR.bel.output,hR.bel.size,fun k hk hn => ?_⟩ (fun h=>h rfl)⟩
 ·rcases ht with rfl | rfl | rfl | rfl | rfl <;> (unfold cG;decide)
 ·have:k=mbm:=Classical.byContradiction hn
  subst this
  obtain ⟨es,cl,hm⟩:=h.tab.map.kind
  exact (hR.oth.same k _ hm rfl).trans hm.symm
def ff (M:ByteArray→Option Nat) (L:Nat→List (Option Nat)) (ev:ByteArray) (l:List Nat):List Nat:=match M ev with
 | none=>[]
 | some g=>dw (L g) l
theorem kh {L:List (Option Nat)}:∀ (l:List Nat) (acc:List Nat),(l.foldl (eF L) acc).length≤acc.length+l.length
 | [],acc=>Nat.le_refl _
 | i::l,acc=>by
  have h1:=kh (L:=L) l (eF L acc i)
  have h2:=rT L acc i
  show (l.foldl (eF L) (eF L acc i)).length≤_
  rw [List.length_cons]
  omega
def arA (ps:List PS) (i:Nat):Nat:=match ps[i]? with | some p=>p.around | none=>0
def gA (ps:List PS) (act:Nat) (lF oF:Nat→Nat) (WL:List Nat):List Nat:=WL.foldl (fun acc v=>tP act lF oF (arA ps (oF v)) acc v) []
theorem oC (ps:List PS) (act:Nat) (lF oF:Nat→Nat) (WL:List Nat) (v:Nat):gA ps act lF oF (WL++[v])=tP act lF oF (arA ps (oF v)) (gA ps act lF oF WL) v:=by unfold gA;rw [List.foldl_append];rfl
theorem CX {act:Nat} {lF oF:Nat→Nat} {ar v x:Nat} {L:List Nat} (h:x∈tP act lF oF ar L v):x=v∨x∈L:=by
 unfold tP at h
 split at h
 ·exact .inr h
 ·rcases List.mem_append.1 h with h | h
  ·exact .inr (List.mem_filter.1 h).1
  ·exact .inl (List.mem_singleton.1 h)
theorem CW (act:Nat) (lF oF:Nat→Nat) (ar v:Nat) (L:List Nat):(tP act lF oF ar L v).length≤L.length+1:=by
 unfold tP
 split
 ·omega
 ·rw [List.length_append,List.length_singleton]
  have:(flt (fun x=>fF act (lF x) (lF v)) L).length≤L.length:=List.length_filter_le _ _
  omega
theorem fq (ps:List PS) (act:Nat) (lF oF:Nat→Nat) (WL:List Nat):∀ k,k≤WL.length→(∀ x∈gA ps act lF oF (WL.take k),x∈WL)∧(gA ps act lF oF (WL.take k)).length≤k
 | 0,_=>⟨fun x hx=>by simp [gA] at hx,by simp [gA]⟩
 | k+1,hk=>by
  obtain ⟨h1,h2⟩:=fq ps act lF oF WL k (by omega)
  obtain ⟨v,hv⟩:∃ v,WL[k]?=some v:=⟨_,List.getElem?_eq_getElem (by omega)⟩
  have e:WL.take (k+1)=WL.take k++[v]:=by rw [List.take_add_one,hv];rfl
  rw [e,oC]
  refine ⟨fun x hx => ?_,Nat.le_trans (CW ..) (by omega)⟩
  rcases CX hx with rfl | hx
  ·exact List.mem_of_getElem? hv
  ·exact h1 x hx
end Pg
theorem AO (w:World) (lo pb b N cap:Nat) (hv:Value) (fin mbm n:Nat) (T:ByteArray→Option (List (Option Pg.PM))) (M:ByteArray→Option Nat) (L:Nat→List (Option Nat)) (ev:ByteArray) (s:Nat) (h:Pg.zg w lo pb b N cap hv fin mbm n T M L) (hev:ev.size≤1000000) (hs:s<4294967296) (hin:∀ i,i∈Pg.els s→i<N) (hg:1<w.heap.size) (hT:TabAt 1 Lib.deBruijn32tab w) :
  Calls Tryz.prog 234 #[.pointer (some ⟨pb,0,none⟩),.string ev,.int .u32 s] w fun e w'=>∃ v:Ref.Sl,e = .returned (.slice v.a v.n v.c)∧Pg.TkS w' w.heap.size (.slice v.a v.n v.c) (Pg.ff M L ev (Pg.els s))∧Below w.heap.size w w':=by
 unfold Pg.ff
 cases hM:M ev with
 | none =>
  refine (wg w pb b cap N hv fin mbm n M ev s h.pl h.tab.map hev hM).mono ?_
  rintro e w' ⟨rfl,hb⟩
  exact ⟨⟨none,0,0⟩,rfl,⟨rfl,.inl ⟨rfl,rfl⟩⟩,hb⟩
 | some g =>
  obtain ⟨h1,h2,row,h3,h4,h5⟩:=h.tab.row ev g hM
  refine (yi w pb b cap N hv fin mbm n M ev s g (L g) h.pl h.tab.map hev hM h1 h2 hs hin (fun i q hq => ?_) hg hT).mono ?_
  ·have:=h5 i
   rw [hq] at this
   cases hr:row[i]? with
   | none=>rw [hr] at this;exact this.elim
   | some z =>
    rw [hr] at this
    cases z with
    | none=>exact this.elim
    | some z =>
     obtain ⟨fv,hm,_⟩:=(this:Pg.dF w pb b q z)
     exact ⟨_,hm⟩
  ·rintro e w' ⟨v,rfl,hr,hb⟩
   exact ⟨v,rfl,hr,hb⟩
theorem wJ (w:World) (lo mb pb b cap:Nat) (r:Pg.RSt) (ps:List Pg.PS) (fin:Nat) (EN LV:Nat→List Pg.PA) (hv:Value) (mbm n:Nat) (T:ByteArray→Option (List (Option Pg.PM))) (M:ByteArray→Option Nat) (Lr:Nat→List (Option Nat)) (ev:ByteArray) (lF oF:Nat→Nat) (WL:List Nat) (hWL:WL=Pg.ff M Lr ev (Pg.els (Pg.inn ps r.act))) (hP:Pg.fi w lo pb b cap ps fin EN LV) (hMv:Pg.zg w lo pb b ps.length cap hv fin mbm n T M Lr) (h:Pg.MT w lo mb pb r) (hev:ev.size≤1000000) (hin:∀ i,i∈Pg.els r.act→i<ps.length) (hin2:∀ i,i∈Pg.els (Pg.inn ps r.act)→i<ps.length) (hMB:∀ x∈WL,Pg.MvB w x (oF x) (lF x)∧oF x<ps.length) :
  Calls Tryz.prog 190 #[.pointer (some ⟨mb,0,none⟩),.string ev] w fun e w'=>∃ sv,e = .returned sv∧Pg.TkS w' w.heap.size sv (Pg.gA ps r.act lF oF WL)∧Below w.heap.size w w':=by
 have hlw:=hP.lw
 have hlo:=h.lo'
 have hps:=hP.dc.len
 have hinl:Pg.inn ps r.act<4294967296:=Pg.Fw ps h.act
 have hwl:WL.length≤32:=by
  rw [hWL]
  unfold Pg.ff
  split
  ·simp
  ·have h1:=Pg.kh (L:=Lr ‹_›) (Pg.els (Pg.inn ps r.act)) []
   have h2:(Pg.els (Pg.inn ps r.act)).length≤32:=by
    have:=List.length_filter_le (Pg.inn ps r.act).testBit (List.range 32)
    rw [List.length_range] at this
    exact this
   unfold Pg.dw
   simp at h1
   omega
 have hRo:∀ V,Below w.heap.size w V→Pg.Rf lo w V:=fun V hV=>Pg.RfE.of hV hlo
 have hin0:∀ V,Below w.heap.size w V→Calls Tryz.prog 159 #[.pointer (some ⟨pb,0,none⟩),.int .u32 r.act] V fun e w'=>e = .returned (.int .u32 (Pg.inn ps r.act))∧Below w.heap.size w w':=fun V hV=>(p6 V pb b cap ps r.act h.act hin (hP.below (hV.mono hlo)).dc (by have:=hV.size;have:=hP.pb';omega) (by have:=hV.size;have:=hP.b';omega) (by have:=hV.size;have:=hlw.g5;omega) (Pg.bM hlw (hV.mono hlo) h.tab5)).mono (fun e w' x=>⟨x.1,hV.trans (x.2.mono hV.size)⟩)
 have hwa:∀ V,Below w.heap.size w V→Calls Tryz.prog 234 #[.pointer (some ⟨pb,0,none⟩),.string ev,.int .u32 (Pg.inn ps r.act)] V fun e w'=>∃ v:Ref.Sl,e = .returned (.slice v.a v.n v.c)∧Pg.TkS w' w.heap.size (.slice v.a v.n v.c) WL∧Below w.heap.size w w':=fun V hV=>(AO V lo pb b ps.length cap hv fin mbm n T M Lr ev _ (hMv.rf (hRo V hV) hP.pb') hev hinl hin2 (by have:=hV.size;have:=hlw.g5;omega) (Pg.bM hlw (hV.mono hlo) h.tab5)).mono (fun e w' x=>by
  obtain ⟨v,x1,x2,x3⟩:=x
  exact ⟨v,x1,by rw [hWL];exact aI x2 hV.size,hV.trans (x3.mono hV.size)⟩)
 have hkB:∀ V:World,Below w.heap.size w V→V.cell? ⟨mb,0,none⟩=some (.pointer (some ⟨pb,0,none⟩))∧V.cell? ⟨mb,1,none⟩=some (.int .u32 r.act):=fun V hV=>⟨(h.below hlw hV).c0.1,(h.below hlw hV).c0.2.1⟩
 have hBd:=(Below.refl w.heap.size w).drew
 obtain ⟨k1,k2⟩:=hkB _ hBd
 obtain ⟨inn,hinn⟩:∃ i,Pg.inn ps r.act=i:=⟨_,rfl⟩
 rw [hinn] at hin0 hwa
 have HTK:Hid (∀ (w3 V:World) (sv:Value) (k x:Nat),Below w.heap.size w w3→Below w3.heap.size w3 V→WL[k]?=some x→Pg.TkS V w3.heap.size sv (Pg.gA ps r.act lF oF (WL.take k))→Calls Tryz.prog 235 #[.pointer (some ⟨mb,0,none⟩),sv,.pointer (some ⟨x,0,none⟩)] V fun e w'=>∃ sv',e = .returned sv'∧Pg.TkS w' w3.heap.size sv' (Pg.gA ps r.act lF oF (WL.take (k+1)))∧Below w3.heap.size w3 w'):=fun w3 V sv k x h3 hV hx hT=>by
  have hwV:=h3.trans (hV.mono h3.size)
  obtain ⟨c1,c2⟩:=Pg.fq ps r.act lF oF WL k (by have:=(List.getElem?_eq_some_iff.1 hx).1;omega)
  have hxl:x∈WL:=List.mem_of_getElem? hx
  obtain ⟨pv,hpv⟩:∃ pv,ps[oF x]?=some pv:=⟨_,List.getElem?_eq_getElem (hMB x hxl).2⟩
  have hkl:=(List.getElem?_eq_some_iff.1 hx).1
  refine (CY V lo mb pb b cap w3.heap.size r ps fin EN LV sv _ x pv lF oF (hP.below (hwV.mono hlo)) (h.below hlw hwV) hT (by have:=h3.size;omega) hV.size (by omega) (fun y hy => ?_) hpv).mono ?_
  ·have hyl:y∈WL:=by
    rcases hy with rfl | hy
    ·exact hxl
    ·exact c1 y hy
   exact ⟨(hMB y hyl).1.below hwV,by have:=(hMB y hyl).2;omega⟩
  ·rintro e w' ⟨sv',rfl,a,m⟩
   refine ⟨sv',rfl,?_,m.below hV hV.size (fun i hi e=>by have:=(hT.kind i e).1;omega)⟩
   have e1:WL.take (k+1)=WL.take k++[x]:=by rw [List.take_add_one,hx];rfl
   have e2:Pg.arA ps (oF x)=pv.around:=by unfold Pg.arA;rw [hpv]
   rw [e1,Pg.oC,e2]
   exact a
 clear h hP hMv hRo hMB hWL hin hin2 hinn
 go_enter Tryz.func190,Tryz.ntmps190
 go_upto_region 2 with fail
 refine wp_region_held_drew (S:=(fun V=>V.cell? ⟨mb,0,none⟩=some (.pointer (some ⟨pb,0,none⟩))∧V.cell? ⟨mb,1,none⟩=some (.int .u32 r.act))) (by kernel_rfl) ⟨k1,k2⟩ (fun hHeld => ?_)
 refine tD (some 8) 0 (.pointer (some ⟨mb,0,none⟩)) rfl hHeld ?_
 refine tD (some 9) 1 (.pointer (some ⟨mb,0,none⟩)) rfl hHeld ?_
 refine tD (some 10) 2 (.pointer (some ⟨mb,0,none⟩)) rfl hHeld ?_
 refine tD (some 11) 3 (.pointer (some ⟨pb,0,none⟩)) rfl hHeld ?_
 refine tD (some 12) 4 (.string ev) rfl hHeld ?_
 refine tD (some 13) 5 (.pointer (some ⟨mb,0,none⟩)) rfl hHeld ?_
 refine tD (some 14) 6 (.pointer (some ⟨mb,0,none⟩)) rfl hHeld ?_
 refine tD (some 15) 7 (.pointer (some ⟨mb,0,none⟩)) rfl hHeld ?_
 refine tD (some 16) 8 (.pointer (some ⟨pb,0,none⟩)) rfl hHeld ?_
 refine tD (some 17) 9 (.pointer (some ⟨mb,0,none⟩)) rfl hHeld ?_
 refine tD (some 18) 10 (.pointer (some ⟨mb,0,none⟩)) rfl hHeld ?_
 refine tD (some 19) 11 (.pointer (some ⟨mb,1,none⟩)) rfl hHeld ?_
 refine tD (some 20) 12 (.int .u32 r.act) rfl hHeld ?_
 refine tD (some 24) 16 (.int .i64 0) rfl hHeld ?_
 refine zH 13 rfl fun K hK => ?_
 go_simp
 refine (hin0 _ (by assumption)).mono ?_
 rintro e wA ⟨rfl,hA⟩
 refine hK.out _ _ (hkB wA hA) (fun hHeld => ?_)
 clear hK K
 refine zH 14 rfl fun K hK => ?_
 go_simp
 refine (hwa _ (by assumption)).mono ?_
 rintro e w3 ⟨v3,rfl,hT3,hB3⟩
 obtain ⟨va,vn,vc⟩:=v3
 dsimp only at hT3
 obtain ⟨a3,c3,hv3⟩:=hT3.n
 simp only [Value.slice.injEq] at hv3
 obtain ⟨rfl,rfl,rfl⟩:=hv3
 refine hK.out _ _ (hkB w3 hB3) (fun hHeld => ?_)
 clear hK K
 refine tD (some 23) 15 (.int .i64 WL.length) rfl hHeld ?_
 refine wpAnyH_done (by kernel_rfl) ?_ _
 clear hHeld
 go_wp2
 (try simp only [Act.put,List.setIfInBounds_toArray,List.set_cons_succ,List.set_cons_zero])
 have HC:Hid (∀ (k x:Nat) (V:World),Below w3.heap.size w3 V→WL[k]?=some x→∃ g,va=some ⟨g,0,none⟩∧V.cell? ⟨g,k,none⟩=some (.pointer (some ⟨x,0,none⟩))):=fun k x V hV hx=>by
  rcases hT3.form with ⟨_,e2⟩ | ⟨g,cp,cu,e1,e2,e3,e4⟩
  ·subst e2
   simp at hx
  ·simp only [Value.slice.injEq] at e1
   obtain ⟨rfl,_,rfl⟩:=e1
   exact ⟨g,rfl,(hV.cell (p:=⟨g,k,none⟩) (Array.getElem?_eq_some_iff.1 e4.blk).1).trans (e4.cell hx)⟩
 go_loopw [24,5] (fun i t wr=>∃ (k:Nat),i = .int .i64 k∧k≤WL.length∧Hid (Pg.TkS wr w3.heap.size t (Pg.gA ps r.act lF oF (WL.take k))∧Below w3.heap.size w3 wr)) (fun i _ _=>WL.length-(intOf i).toNat)
 case atStart=>exact ⟨0,rfl,by omega,⟨rfl,.inl ⟨rfl,rfl⟩⟩,Below.refl _ _⟩
 case round =>
  obtain ⟨k,rfl,hkl,HI⟩:=hrel
  by_cases hk:k<WL.length
  ·obtain ⟨x,hx⟩:∃ x,WL[k]?=some x:=⟨_,List.getElem?_eq_getElem hk⟩
   obtain ⟨g,ha,hcx⟩:=HC.out k x wr HI.out.2 hx
   subst ha
   have hcall:=HTK.out w3 wr u5 k x hB3 HI.out.2 hx HI.out.1
   have hki:((k:Int)<(WL.length:Int)):=by omega
   clear hT3 hx
   go_wp2_with (go_at_call 235;refine hcall.mono ?_;intro e w9 h9;obtain ⟨sv9,rfl,t9,b9⟩:=h9;have T9:Hid _:=t9;clear t9)
   go_roundw
   case rel=>exact ⟨k+1,by simp,by omega,T9.out,b9⟩
   case measure=>simp only [intOf];omega
  ·obtain rfl:k=WL.length:=by omega
   have HF:=HI.out
   rw [List.take_length] at HF
   have HF2:Hid _:=HF
   clear HF
   go_wp2
   go_ret
   exact ⟨_,rfl,aI HF2.out.1 hB3.size,hB3.trans (HF2.out.2.mono hB3.size)⟩
end
end Go.Proofs.YtegmoddppafkfaaGreatDoor
