import Derived.Test.YtegmoddppafkfaaGreatDoorM00
import Derived.Test.YtegmoddppafkfaaGreatDoorM10
import Derived.Laws.CopyRow
set_option maxRecDepth 100000
set_option maxHeartbeats 8000000
namespace Go.Proofs.YtegmoddppafkfaaGreatDoor
section
open Go.RowKit Go.Proofs Go.Shelf
namespace Pg
def ixF (p:Nat→Bool):List Nat→Int
 | [] => -1
 | x::l=>if p x then 0 else if ixF p l = -1 then -1 else ixF p l+1
theorem oN {p:Nat→Bool}:∀ {l:List Nat},(∀ x∈l,p x=false)→ixF p l = -1
 | [],_=>rfl
 | x::l,h=>by
  unfold ixF
  rw [if_neg (by rw [h x (List.mem_cons_self ..)];decide),if_pos (oN fun y hy=>h y (List.mem_cons_of_mem _ hy))]
theorem wI {p:Nat→Bool}:∀ {l:List Nat} {k x:Nat},l[k]?=some x→p x=true→(∀ (j y:Nat),j<k→l[j]?=some y→p y=false)→ixF p l=k
 | [],k,x,h,_,_=>by simp at h
 | y::l,0,x,h,hp,_=>by
  simp at h
  subst h
  unfold ixF
  rw [if_pos hp]
  rfl
 | y::l,k+1,x,h,hp,hb=>by
  simp at h
  have h0:=hb 0 y (by omega) rfl
  have ih:=wI (l:=l) h hp (fun j z hj hz=>hb (j+1) z (by omega) (by simpa using hz))
  unfold ixF
  rw [if_neg (by rw [h0];decide),ih,if_neg (by omega)]
  omega
structure MvR (W:World) (g cap:Nat) (L:List Nat) (cur:Array Value):Prop where
 blk:W.heap[g]?=some (.cells cur 316 (0,0))
 size:cur.size=cap
 le:L.length≤cap
 at':∀ (j x:Nat),L[j]?=some x→cur[j]?=some (.pointer (some ⟨x,0,none⟩))
theorem MvR.cell {W:World} {g cap:Nat} {L:List Nat} {cur:Array Value} (h:MvR W g cap L cur) {j x:Nat} (hx:L[j]?=some x):W.cell? ⟨g,j,none⟩=some (.pointer (some ⟨x,0,none⟩)):=by
 rw [cell_of_row W _ _ _ _ _ h.blk];exact h.at' j x hx
theorem MvR.mo {P:Nat→Prop} {W W':World} {g cap:Nat} {L:List Nat} {cur:Array Value} (h:MvR W g cap L cur) (hm:Mo P W W') (hn:¬ P g):MvR W' g cap L cur:=⟨(hm.block g (Array.getElem?_eq_some_iff.1 h.blk).1 hn).trans h.blk,h.size,h.le,h.at'⟩
end Pg
theorem qp (n:Nat):(Builtin.zeroCells #[Value.pointer none] n).toList=List.replicate n (.pointer none):=by
 unfold Builtin.zeroCells
 simp only [List.size_toArray,List.length_cons,List.length_nil,Nat.zero_add,Nat.mul_one,Nat.mod_one,Array.toList_map,Array.toList_range]
 rw [List.eq_replicate_iff]
 refine ⟨by simp,fun b hb => ?_⟩
 obtain ⟨_,_,rfl⟩:=List.mem_map.1 hb
 rfl
theorem s9 (W:World) (g i n c:Nat) (cur:Array Value) (ty:TypeId) (hg:W.heap[g]?=some (.cells cur 316 (0,0))) (hn:0<n) (hfit:i+n≤cur.size) :
  (Builtin.clear_ #[314] ty #[.slice (some ⟨g,i,none⟩) n c]).run Tryz.prog W = .ok (.tuple #[]) (W.setRow g (cur.toList.take i++List.replicate n (Value.pointer none)++cur.toList.drop (i+n)).toArray):=by
 obtain ⟨m,rfl⟩:∃ m,n=m+1:=⟨n-1,by omega⟩
 obtain ⟨i0,hi,hz0,hz1,hz2⟩:=info_parts Tryz.j2
 have hst:=run_storeCells_at Tryz.prog g i 316 (List.replicate (m+1) (.pointer none)) 0 cur W hg (by simpa using hfit) (fun v hv=>by rw [(List.mem_replicate.1 hv).2];rfl)
 simp only [Nat.add_zero,List.length_replicate] at hst
 unfold Builtin.clear_
 simp [run_underlying Tryz.underlying314,zeroValue,typeInfo,hi,hz0,Value.cells,qp,hst,Result.andThen]
theorem ny (w:World) (a:Option Addr) (c:Nat) (L:List Nat) (p:Nat→Bool) (B7 B3 B5:Nat) (hl:L.length≤1000) (hc:∀ (j x:Nat),L[j]?=some x→∃ g,a=some ⟨g,0,none⟩∧g<w.heap.size∧w.cell? ⟨g,j,none⟩=some (.pointer (some ⟨x,0,none⟩)))
  (hf:∀ (V:World) (x:Nat),Below w.heap.size w V→x∈L→Calls Tryz.prog 260 #[.pointer (some ⟨x,0,none⟩),.pointer (some ⟨B7,0,none⟩),.pointer (some ⟨B3,0,none⟩),.pointer (some ⟨B5,0,none⟩)] V fun e w'=>e = .returned (.bool (p x))∧Below w.heap.size w w') :
  Calls Tryz.prog 283 #[.slice a L.length c,.func (.func 260) #[] #[.pointer (some ⟨B7,0,none⟩),.pointer (some ⟨B3,0,none⟩),.pointer (some ⟨B5,0,none⟩)]] w fun e w'=>e = .returned (.int .i64 (Pg.ixF p L))∧Below w.heap.size w w':=by
 have HC:Hid _:=hc
 have HF:Hid _:=hf
 clear hc hf
 go_enter Tryz.func283,Tryz.ntmps283
 go_wp2
 go_loopw [8] (fun i wr=>∃ k:Nat,i = .int .i64 k∧k≤L.length∧Hid ((∀ (j y:Nat),j<k→L[j]?=some y→p y=false)∧Below w.heap.size w wr)) (fun i _=>L.length-(intOf i).toNat)
 case atStart=>exact ⟨0,rfl,by omega,fun j y hj=>by omega,Below.refl _ _⟩
 case round =>
  obtain ⟨k,rfl,hkl,HK⟩:=hrel
  by_cases hk:k<L.length
  ·obtain ⟨x,hx⟩:∃ x,L[k]?=some x:=⟨_,List.getElem?_eq_getElem hk⟩
   obtain ⟨g,ha,hg,hcx⟩:=HC.out k x hx
   subst ha
   have hcr:wr.cell? ⟨g,k,none⟩=some (.pointer (some ⟨x,0,none⟩)):=(HK.out.2.cell (p:=⟨g,k,none⟩) hg).trans hcx
   have hcall:=HF.out wr x HK.out.2 (List.mem_of_getElem? hx)
   have hki:((k:Int)<(L.length:Int)):=by omega
   have HX:Hid _:=hx
   clear hcx hx
   obtain ⟨b,hb⟩:∃ b,p x=b:=⟨_,rfl⟩
   rw [hb] at hcall
   have HB:Hid _:=hb
   clear hb
   cases b
   ·go_wp2_with (go_at_call 260;refine hcall.mono ?_;rintro e w9 ⟨rfl,hb9⟩)
    go_roundw
    case rel=>exact ⟨k+1,by simp,by omega,fun j y hj hy=>by
     by_cases e:j=k
     ·subst e
      rw [HX.out] at hy
      cases hy
      exact HB.out
     ·exact HK.out.1 j y (by omega) hy,hb9⟩
    case measure=>simp only [intOf];omega
   ·go_wp2_with (go_at_call 260;refine hcall.mono ?_;rintro e w9 ⟨rfl,hb9⟩)
    go_ret
    exact ⟨by rw [Pg.wI HX.out HB.out HK.out.1];rfl,hb9⟩
  ·obtain rfl:k=L.length:=by omega
   have HN:Hid (Pg.ixF p L = -1):=Pg.oN fun y hy=>by
    obtain ⟨j,hj⟩:=List.mem_iff_getElem?.1 hy
    exact HK.out.1 j y (List.getElem?_eq_some_iff.1 hj).1 hj
   go_wp2
   go_ret
   exact ⟨by rw [HN.out];rfl,HK.out.2⟩
theorem iL (w:World) (a:Option Addr) (c:Nat) (L:List Nat) (p:Nat→Bool) (B3 B5:Nat) (hl:L.length≤1000) (hc:∀ (j x:Nat),L[j]?=some x→∃ g,a=some ⟨g,0,none⟩∧g<w.heap.size∧w.cell? ⟨g,j,none⟩=some (.pointer (some ⟨x,0,none⟩)))
  (hf:∀ (V:World) (x:Nat),Below w.heap.size w V→x∈L→Calls Tryz.prog 259 #[.pointer (some ⟨x,0,none⟩),.pointer (some ⟨B3,0,none⟩),.pointer (some ⟨B5,0,none⟩)] V fun e w'=>e = .returned (.bool (p x))∧Below w.heap.size w w') :
  Calls Tryz.prog 283 #[.slice a L.length c,.func (.func 259) #[] #[.pointer (some ⟨B3,0,none⟩),.pointer (some ⟨B5,0,none⟩)]] w fun e w'=>e = .returned (.int .i64 (Pg.ixF p L))∧Below w.heap.size w w':=by
 have HC:Hid _:=hc
 have HF:Hid _:=hf
 clear hc hf
 go_enter Tryz.func283,Tryz.ntmps283
 go_wp2
 go_loopw [8] (fun i wr=>∃ k:Nat,i = .int .i64 k∧k≤L.length∧Hid ((∀ (j y:Nat),j<k→L[j]?=some y→p y=false)∧Below w.heap.size w wr)) (fun i _=>L.length-(intOf i).toNat)
 case atStart=>exact ⟨0,rfl,by omega,fun j y hj=>by omega,Below.refl _ _⟩
 case round =>
  obtain ⟨k,rfl,hkl,HK⟩:=hrel
  by_cases hk:k<L.length
  ·obtain ⟨x,hx⟩:∃ x,L[k]?=some x:=⟨_,List.getElem?_eq_getElem hk⟩
   obtain ⟨g,ha,hg,hcx⟩:=HC.out k x hx
   subst ha
   have hcr:wr.cell? ⟨g,k,none⟩=some (.pointer (some ⟨x,0,none⟩)):=(HK.out.2.cell (p:=⟨g,k,none⟩) hg).trans hcx
   have hcall:=HF.out wr x HK.out.2 (List.mem_of_getElem? hx)
   have hki:((k:Int)<(L.length:Int)):=by omega
   have HX:Hid _:=hx
   clear hcx hx
   obtain ⟨b,hb⟩:∃ b,p x=b:=⟨_,rfl⟩
   rw [hb] at hcall
   have HB:Hid _:=hb
   clear hb
   cases b
   ·go_wp2_with (go_at_call 259;refine hcall.mono ?_;rintro e w9 ⟨rfl,hb9⟩)
    go_roundw
    case rel=>exact ⟨k+1,by simp,by omega,fun j y hj hy=>by
     by_cases e:j=k
     ·subst e
      rw [HX.out] at hy
      cases hy
      exact HB.out
     ·exact HK.out.1 j y (by omega) hy,hb9⟩
    case measure=>simp only [intOf];omega
   ·go_wp2_with (go_at_call 259;refine hcall.mono ?_;rintro e w9 ⟨rfl,hb9⟩)
    go_ret
    exact ⟨by rw [Pg.wI HX.out HB.out HK.out.1];rfl,hb9⟩
  ·obtain rfl:k=L.length:=by omega
   have HN:Hid (Pg.ixF p L = -1):=Pg.oN fun y hy=>by
    obtain ⟨j,hj⟩:=List.mem_iff_getElem?.1 hy
    exact HK.out.1 j y (List.getElem?_eq_some_iff.1 hj).1 hj
   go_wp2
   go_ret
   exact ⟨by rw [HN.out];rfl,HK.out.2⟩
theorem pR (w:World) (a:Option Addr) (c:Nat) (L:List Nat) (p:Nat→Bool) (B7 B3 B5:Nat) (hl:L.length≤1000) (hc:∀ (j x:Nat),L[j]?=some x→∃ g,a=some ⟨g,0,none⟩∧g<w.heap.size∧w.cell? ⟨g,j,none⟩=some (.pointer (some ⟨x,0,none⟩)))
  (hf:∀ (V:World) (x:Nat),Below w.heap.size w V→x∈L→Calls Tryz.prog 260 #[.pointer (some ⟨x,0,none⟩),.pointer (some ⟨B7,0,none⟩),.pointer (some ⟨B3,0,none⟩),.pointer (some ⟨B5,0,none⟩)] V fun e w'=>e = .returned (.bool (p x))∧Below w.heap.size w w') :
  Calls Tryz.prog 262 #[.slice a L.length c,.func (.func 260) #[] #[.pointer (some ⟨B7,0,none⟩),.pointer (some ⟨B3,0,none⟩),.pointer (some ⟨B5,0,none⟩)]] w fun e w'=>e = .returned (.bool (L.any p))∧Below w.heap.size w w':=by
 have hix:=ny w a c L p B7 B3 B5 hl hc hf
 have hge:(decide ((Pg.ixF p L)≥0))=L.any p:=by
  clear hix hf hc hl
  induction L with
  | nil=>rfl
  | cons x L ih =>
   unfold Pg.ixF
   rw [List.any_cons]
   cases hp:p x
   ·rw [if_neg (by decide),Bool.false_or,← ih]
    split
    ·rename_i h
     rw [h]
    ·rename_i h
     have:Pg.ixF p L≥0∨Pg.ixF p L = -1:=by
      clear ih h hp
      induction L with
      | nil=>exact .inr rfl
      | cons y L ih2 =>
       unfold Pg.ixF
       split
       ·exact .inl (by omega)
       ·split
        ·exact .inr rfl
        ·rename_i h2
         rcases ih2 with h3 | h3
         ·exact .inl (by omega)
         ·exact absurd h3 h2
     have h4:Pg.ixF p L≥0:=this.resolve_right h
     simp [h4]
     omega
   ·rw [if_pos rfl,Bool.true_or]
    rfl
 generalize L.any p=bb at *
 generalize Pg.ixF p L=ix at *
 have hge2:decide (0≤ix)=bb:=hge
 clear hc hf hge
 go_enter Tryz.func262,Tryz.ntmps262
 go_wp2_with (go_at_call 283;refine hix.mono ?_;rintro e w9 ⟨rfl,hb9⟩)
 go_ret
 exact ⟨by rw [← hge2];rfl,hb9⟩
namespace Pg
def flt (p:Nat→Bool) (L:List Nat):List Nat:=L.filter fun x => !p x
theorem Bm (p:Nat→Bool) (L:List Nat) (x:Nat):flt p (L++[x])=if p x then flt p L else flt p L++[x]:=by
 unfold flt
 rw [List.filter_append]
 cases h:p x <;> simp [h]
theorem uy (p:Nat→Bool) {L:List Nat} {j x:Nat} (h:L[j]?=some x):flt p (L.take (j+1))=if p x then flt p (L.take j) else flt p (L.take j)++[x]:=by
 rw [← Bm,List.take_add_one,h]
 rfl
theorem ux {p:Nat→Bool} {L:List Nat} (h:∀ x∈L,p x=false):flt p L=L:=List.filter_eq_self.2 fun x hx=>by rw [h x hx];rfl
structure DlI (w:World) (g cap:Nat) (p:Nat→Bool) (L:List Nat) (i j:Nat) (V:World):Prop where
 ik:i=(flt p (L.take j)).length
 ij:i<j
 jl:j≤L.length
 mo:Mo (· = g) w V
 row:∃ cur:Array Value,V.heap[g]?=some (.cells cur 316 (0,0))∧cur.size=cap∧(∀ (a x:Nat),(flt p (L.take j))[a]?=some x→cur[a]?=some (.pointer (some ⟨x,0,none⟩)))∧∀ (a x:Nat),j≤a→L[a]?=some x→cur[a]?=some (.pointer (some ⟨x,0,none⟩))
theorem Bv {p:Nat→Bool}:∀ {l:List Nat},ixF p l = -1→∀ x∈l,p x=false
 | [],_,x,hx=>by cases hx
 | y::l,h,x,hx=>by
  unfold ixF at h
  split at h
  ·omega
  ·rename_i h1
   split at h
   ·rename_i h2
    rcases List.mem_cons.1 hx with rfl | hx
    ·simpa using h1
    ·exact Bv h2 x hx
   ·rename_i h2
    have:ixF p l≥0∨ixF p l = -1:=ixF_cases p l
    omega
 where ixF_cases (p:Nat→Bool):∀ l:List Nat,ixF p l≥0∨ixF p l = -1
 | [] => .inr rfl
 | y::l=>by
  unfold ixF
  split
  ·exact .inl (by omega)
  ·split
   ·exact .inr rfl
   ·rename_i h2
    rcases ixF_cases p l with h3 | h3
    ·exact .inl (by omega)
    ·exact absurd h3 h2
theorem uI {p:Nat→Bool}:∀ {l:List Nat},ixF p l ≠ -1→∃ (k x:Nat),ixF p l=k∧l[k]?=some x∧p x=true∧∀ (j y:Nat),j<k→l[j]?=some y→p y=false
 | [],h=>absurd rfl h
 | y::l,h=>by
  cases hp:p y
  ·have h2:ixF p l ≠ -1:=fun e=>h (by unfold ixF;rw [if_neg (by rw [hp];decide),if_pos e])
   obtain ⟨k,x,a,b,c,d⟩:=uI h2
   refine ⟨k+1,x,?_,by simpa using b,c,fun j z hj hz => ?_⟩
   ·unfold ixF
    rw [if_neg (by rw [hp];decide),if_neg h2,a]
    omega
   ·cases j with
    | zero=>simp at hz;subst hz;exact hp
    | succ j=>exact d j z (by omega) (by simpa using hz)
  ·exact ⟨0,y,by unfold ixF;rw [if_pos hp];rfl,rfl,hp,fun j _ hj=>by omega⟩
end Pg
theorem ug (w:World) (g cap:Nat) (L:List Nat) (cur:Array Value) (p:Nat→Bool) (B3 B5:Nat) (hl:L.length≤1000) (hR:Pg.MvR w g cap L cur)
  (hf:∀ (V:World) (x:Nat),Mo (· = g) w V→x∈L→Calls Tryz.prog 259 #[.pointer (some ⟨x,0,none⟩),.pointer (some ⟨B3,0,none⟩),.pointer (some ⟨B5,0,none⟩)] V fun e w'=>e = .returned (.bool (p x))∧Below V.heap.size V w') :
  Calls Tryz.prog 263 #[.slice (some ⟨g,0,none⟩) L.length cap,.func (.func 259) #[] #[.pointer (some ⟨B3,0,none⟩),.pointer (some ⟨B5,0,none⟩)]] w fun e w'=>e = .returned (.slice (some ⟨g,0,none⟩) (Pg.flt p L).length cap)∧(∃ cur',Pg.MvR w' g cap (Pg.flt p L) cur')∧Mo (· = g) w w':=by
 have hgl:=(Array.getElem?_eq_some_iff.1 hR.blk).1
 have hix:=iL w (some ⟨g,0,none⟩) cap L p B3 B5 hl (fun j x hx=>⟨g,rfl,hgl,hR.cell hx⟩) (fun V x hV hx=>(hf V x (aq hV) hx).mono (fun e w' y=>⟨y.1,hV.trans (y.2.mono hV.size)⟩))
 have hle:=hR.le
 have hcs:=hR.size
 by_cases hm:Pg.ixF p L = -1
 ·have hfl:=Pg.ux (Pg.Bv hm)
  rw [hm] at hix
  rw [hfl]
  have HR:Hid _:=hR
  clear hR hf hfl
  go_enter Tryz.func263,Tryz.ntmps263
  go_wp2_with (go_at_call 283;refine hix.mono ?_;rintro e w9 ⟨rfl,hb9⟩)
  go_ret
  exact ⟨rfl,⟨cur,HR.out.mo (P:=fun _=>False) (aq hb9) (fun h=>h)⟩,aq hb9⟩
 ·obtain ⟨k,x0,hk,hx0,hp0,hbef⟩:=Pg.uI hm
  have hkl:=(List.getElem?_eq_some_iff.1 hx0).1
  rw [hk] at hix
  have hk1:((k:Int) == -1)=false:=by simp
  have hfk:Pg.flt p (L.take k)=L.take k:=Pg.ux fun y hy=>by
   obtain ⟨j,hj⟩:=List.mem_iff_getElem?.1 hy
   have hjk:j<k:=by have:=(List.getElem?_eq_some_iff.1 hj).1;rw [List.length_take] at this;omega
   rw [List.getElem?_take_of_lt hjk] at hj
   exact hbef j y hjk hj
  have HI:Hid (∀ w9,Below w.heap.size w w9→Pg.DlI w g cap p L k (k+1) w9):=fun w9 hb=>by
   have hR9:=hR.mo (P:=fun _=>False) (aq hb) (fun h=>h)
   have e:Pg.flt p (L.take (k+1))=L.take k:=by rw [Pg.uy p hx0,if_pos hp0,hfk]
   refine ⟨by rw [e,List.length_take];omega,by omega,by omega,aq hb,cur,hR9.blk,hcs,fun a x hx => ?_,fun a x _ hx=>hR9.at' a x hx⟩
   rw [e] at hx
   have hak:a<k:=by have:=(List.getElem?_eq_some_iff.1 hx).1;rw [List.length_take] at this;omega
   rw [List.getElem?_take_of_lt hak] at hx
   exact hR9.at' a x hx
  have HF:Hid _:=hf
  clear hf hR hm hk hfk hbef hx0 hp0
  go_enter Tryz.func263,Tryz.ntmps263
  go_wp2_with (go_at_call 283;refine hix.mono ?_;rintro e w9 ⟨rfl,hb9⟩;have H9:Hid _:=HI.out w9 hb9;clear hb9)
  go_loopw [5,6] (fun iv jv wr=>∃ i j:Nat,iv = .int .i64 i∧jv = .int .i64 j∧Hid (Pg.DlI w g cap p L i j wr)) (fun _ jv _=>L.length-(intOf jv).toNat)
  case atStart=>exact ⟨k,k+1,rfl,by simp,H9⟩
  case round =>
   obtain ⟨i,j,rfl,rfl,HD⟩:=hrel
   clear H9 hix
   obtain ⟨d1,d2,d3,d4,cu,e1,e2,e3,e4⟩:=HD.out
   by_cases hj:j<L.length
   ·obtain ⟨x,hx⟩:∃ x,L[j]?=some x:=⟨_,List.getElem?_eq_getElem hj⟩
    have cx:wr.cell? ⟨g,j,none⟩=some (.pointer (some ⟨x,0,none⟩)):=by rw [cell_of_row wr _ _ _ _ _ e1];exact e4 j x (Nat.le_refl _) hx
    have hcall:=HF.out wr x d4 (List.mem_of_getElem? hx)
    have hft:=Pg.uy p hx
    obtain ⟨b,hb⟩:∃ b,p x=b:=⟨_,rfl⟩
    rw [hb] at hcall hft
    have HT:Hid _:=hft
    have D1:Hid _:=d1
    have HX:Hid _:=hx
    have E3:Hid _:=e3
    have E4:Hid _:=e4
    have E1:Hid _:=e1
    have HB:Hid _:=hb
    have hji:((j:Int)<(L.length:Int)):=by omega
    have hii:((i:Int)<(L.length:Int)):=by omega
    clear hft d1 hx e3 e4 hb
    have hgr:∀ V,Below wr.heap.size wr V→V.heap[g]?=some (.cells cu 316 (0,0)):=fun V hV=>(hV.block g (Array.getElem?_eq_some_iff.1 e1).1).trans e1
    have HG:Hid _:=hgr
    clear hgr e1
    cases b
    ·have HS:Hid (∀ V,Below wr.heap.size wr V→Pg.DlI w g cap p L (i+1) (j+1) (V.setCell ⟨g,i,none⟩ (.pointer (some ⟨x,0,none⟩)))∧V.frozen? ⟨g,i,none⟩=false∧∃ u,V.cell? ⟨g,i,none⟩=some u):=fun V hV=>by
      have hgV:=HG.out V hV
      have hft:=HT.out
      rw [if_neg (by decide)] at hft
      refine ⟨⟨by rw [hft,List.length_append,← D1.out];rfl,by omega,by omega,(d4.trans (aq hV)).set _ _ rfl,cu.setIfInBounds i (.pointer (some ⟨x,0,none⟩)),heap_setCell_same V g i _ _ _ hgV,by simp [e2],fun a y hy => ?_,fun a y ha hy => ?_⟩,by simp [World.frozen?,hgV],cu[i]'(by omega),by rw [cell_of_row V _ _ _ _ _ hgV];exact Array.getElem?_eq_getElem (by omega)⟩
      ·rw [hft] at hy
       by_cases ha:a<(Pg.flt p (L.take j)).length
       ·rw [List.getElem?_append_left ha] at hy
        rw [Array.getElem?_setIfInBounds_ne (by rw [D1.out];omega)]
        exact E3.out a y hy
       ·have hai:a=i:=by
         have:=(List.getElem?_eq_some_iff.1 hy).1
         rw [List.length_append,List.length_singleton] at this
         have:=D1.out
         omega
        subst hai
        rw [List.getElem?_append_right (by omega),← D1.out] at hy
        simp at hy
        subst hy
        exact Array.getElem?_setIfInBounds_self_of_lt (by omega)
      ·rw [Array.getElem?_setIfInBounds_ne (by omega)]
       exact E4.out a y (by omega) hy
     go_wp2_with (go_at_call 259;refine hcall.mono ?_;rintro e w9 ⟨rfl,hb9⟩;obtain ⟨x1,x2,u,x3⟩:=HS.out w9 hb9;have X1:Hid _:=x1;clear x1)
     go_roundw
     case rel=>exact ⟨i+1,j+1,by simp,by simp,X1⟩
     case measure=>simp only [intOf];omega
    ·have HS:Hid (∀ V,Below wr.heap.size wr V→Pg.DlI w g cap p L i (j+1) V):=fun V hV=>by
      have hft:=HT.out
      rw [if_pos rfl] at hft
      exact ⟨by rw [hft];exact D1.out,by omega,by omega,d4.trans (aq hV),cu,HG.out V hV,e2,fun a y hy=>E3.out a y (by rw [hft] at hy;exact hy),fun a y ha hy=>E4.out a y (by omega) hy⟩
     go_wp2_with (go_at_call 259;refine hcall.mono ?_;rintro e w9 ⟨rfl,hb9⟩;have X1:Hid _:=HS.out w9 hb9)
     go_roundw
     case rel=>exact ⟨i,j+1,rfl,by simp,X1⟩
     case measure=>simp only [intOf];omega
   ·obtain rfl:j=L.length:=by omega
    rw [List.take_length] at d1 e3
    have hcl:=s9 wr g i (L.length-i) (cap-i) cu 0 e1 (by omega) (by omega)
    have D1:Hid _:=d1
    have hgr:(wr.setRow g (cu.toList.take i++List.replicate (L.length-i) (Value.pointer none)++cu.toList.drop (i+(L.length-i))).toArray).heap[g]?=some (.cells (cu.toList.take i++List.replicate (L.length-i) (Value.pointer none)++cu.toList.drop (i+(L.length-i))).toArray 316 (0,0)):=setRow_heap wr g _ _ _ _ e1
    have hmo:Mo (· = g) wr (wr.setRow g (cu.toList.take i++List.replicate (L.length-i) (Value.pointer none)++cu.toList.drop (i+(L.length-i))).toArray):=yq (ic wr g _)
    have HE:Hid ((∃ cur',Pg.MvR (wr.setRow g (cu.toList.take i++List.replicate (L.length-i) (Value.pointer none)++cu.toList.drop (i+(L.length-i))).toArray) g cap (Pg.flt p L) cur')∧Mo (· = g) w (wr.setRow g (cu.toList.take i++List.replicate (L.length-i) (Value.pointer none)++cu.toList.drop (i+(L.length-i))).toArray)):=by
     refine ⟨⟨_,hgr,?_,by rw [← D1.out];omega,fun a x hx => ?_⟩,d4.trans hmo⟩
     ·simp
      omega
     ·have ha:a<i:=by rw [D1.out];exact (List.getElem?_eq_some_iff.1 hx).1
      have h1:=e3 a x hx
      rw [List.getElem?_toArray,List.append_assoc,List.getElem?_append_left (by simp;omega),List.getElem?_take_of_lt ha,Array.getElem?_toList]
      exact h1
    have hi2:i≤L.length:=by omega
    generalize wr.setRow g (cu.toList.take i++List.replicate (L.length-i) (Value.pointer none)++cu.toList.drop (i+(L.length-i))).toArray=W2 at *
    clear d1 e3 e4 hgr hmo HD e1
    go_wp2
    go_ret
    exact ⟨by rw [← D1.out];rfl,HE.out⟩
namespace Pg
abbrev TkS (W:World) (base:Nat) (sv:Value) (L:List Nat):Prop:=W.ownsRow base 316 1 sv L.length (L.flatMap jU)
theorem uv (L:List Nat) (j x:Nat) (h:L[j]?=some x):(L.flatMap jU)[j]?=some (.pointer (some ⟨x,0,none⟩)):=by
 induction L generalizing j with
 | nil=>simp at h
 | cons y L ih =>
  cases j with
  | zero=>simp at h;subst h;rfl
  | succ j=>simp at h;exact ih j h
theorem iK (L:List Nat):(L.flatMap jU).length=L.length:=by
 induction L with
 | nil=>rfl
 | cons y L ih=>rw [List.flatMap_cons,List.length_append,ih];simp [jU];omega
theorem TkS.form {W:World} {base:Nat} {sv:Value} {L:List Nat} (h:TkS W base sv L):(sv = .slice none 0 0∧L=[])∨∃ g cap cur,sv = .slice (some ⟨g,0,none⟩) L.length cap∧base≤g∧cap≤maxLen∧MvR W g cap L cur:=by
 rcases h.2 with ⟨a,b⟩ | ⟨g,cap,cur,a,b,c,d,e,f,k⟩
 ·exact .inl ⟨a,List.length_eq_zero_iff.1 b⟩
 ·refine .inr ⟨g,cap,cur,a,b,e,c,by omega,d,fun j x hx => ?_⟩
  have h1:=uv L j x hx
  rw [← k,Nat.mul_one,List.getElem?_take_of_lt (List.getElem?_eq_some_iff.1 hx).1,Array.getElem?_toList] at h1
  exact h1
theorem TkS.of {W:World} {base g cap:Nat} {L:List Nat} {cur:Array Value} (h:MvR W g cap L cur) (hb:base≤g) (hc:cap≤maxLen):TkS W base (.slice (some ⟨g,0,none⟩) L.length cap) L:=by
 refine ⟨by rw [iK];omega,.inr ⟨g,cap,cur,rfl,hb,h.blk,h.le,hc,by have:=h.size;omega,?_⟩⟩
 refine List.ext_getElem? (fun j => ?_)
 rw [Nat.mul_one]
 by_cases hj:j<L.length
 ·rw [List.getElem?_take_of_lt hj,Array.getElem?_toList,uv L j _ (List.getElem?_eq_getElem hj)]
  exact h.at' j _ (List.getElem?_eq_getElem hj)
 ·rw [List.getElem?_eq_none (by rw [List.length_take];omega),List.getElem?_eq_none (by rw [iK];omega)]
theorem TkS.kind {W:World} {base:Nat} {sv:Value} {L:List Nat} (h:TkS W base sv L):∀ k,sv.ownBlock=some k→base≤k∧k<W.heap.size∧∃ c,W.heap[k]?=some (.cells c 316 (0,0)):=fun k hk=>by
 rcases h.2 with ⟨a,b⟩ | ⟨g,cap,cur,a,b,c,_⟩
 ·subst a;cases hk
 ·subst a
  cases hk
  exact ⟨b,(Array.getElem?_eq_some_iff.1 c).1,cur,c⟩
theorem TkS.n {W:World} {base:Nat} {sv:Value} {L:List Nat} (h:TkS W base sv L):∃ a c,sv = .slice a L.length c:=by
 rcases h.2 with ⟨a,b⟩ | ⟨g,cap,cur,a,_⟩
 ·exact ⟨none,0,by rw [a,b]⟩
 ·exact ⟨_,_,a⟩
theorem MT.moT {P:Nat→Prop} {W W':World} {lo mb pb:Nat} {r:RSt} (h:MT W lo mb pb r) (hl:Lw lo) (hm:Mo P W W') (hP:∀ k,P k→lo≤k∧∃ c,W.heap[k]?=some (.cells c 316 (0,0))):MT W' lo mb pb r:=by
 obtain ⟨qv,wh,a,b⟩:=h.ex
 have hb:Below lo W W':=⟨hm.os,hm.tape,hm.output,hm.size,fun k hk=>hm.block k (by have:=h.lo';omega) (fun hp=>by have:=(hP k hp).1;omega)⟩
 have hk:Kd (fun t=>t=316) W W':=gB hm (fun k c t f hp hc=>by
  obtain ⟨_,c',hc'⟩:=hP k hp
  rw [hc] at hc'
  cases hc'
  rfl)
 refine ⟨⟨qv,wh,a.mo hm (fun e => ?_) (fun g hg e => ?_),b.kd hk (by decide) rfl rfl⟩,Nat.le_trans h.lo' hm.size,h.act,h.now,h.tml,fq hl hb h.tab,bT hl hb h.tab5⟩
 ·obtain ⟨_,c,hc⟩:=hP _ e
  obtain ⟨arr,a1,_⟩:=a.blk
  rw [hc] at a1
  simp at a1
 ·obtain ⟨_,c,hc⟩:=hP _ e
  obtain ⟨c',hc'⟩:=a.que.kind g hg
  rw [hc] at hc'
  simp at hc'
def tv (act:Nat) (lF oF:Nat→Nat) (ar:Nat) (L:List Nat) (v:Nat):List Nat:=if L.any (fun x=>fA act (lF x) (lF v) && !ar.testBit (oF x)) then L else flt (fun x=>fA act (lF x) (lF v)) L++[v]
end Pg
theorem uh (w:World) (base:Nat) (sv:Value) (L:List Nat) (p:Nat→Bool) (B3 B5:Nat) (hl:L.length≤1000) (h:Pg.TkS w base sv L)
  (hf:∀ (V:World) (x:Nat),Mo (fun k=>sv.ownBlock=some k) w V→x∈L→Calls Tryz.prog 259 #[.pointer (some ⟨x,0,none⟩),.pointer (some ⟨B3,0,none⟩),.pointer (some ⟨B5,0,none⟩)] V fun e w'=>e = .returned (.bool (p x))∧Below V.heap.size V w') :
  Calls Tryz.prog 263 #[sv,.func (.func 259) #[] #[.pointer (some ⟨B3,0,none⟩),.pointer (some ⟨B5,0,none⟩)]] w fun e w'=>∃ sv',e = .returned sv'∧Pg.TkS w' base sv' (Pg.flt p L)∧sv'.ownBlock=sv.ownBlock∧Mo (fun k=>sv.ownBlock=some k) w w':=by
 rcases h.form with ⟨rfl,rfl⟩ | ⟨g,cap,cur,rfl,hb,hc,hR⟩
 ·have hix:=iL w none 0 [] p B3 B5 (by simp) (fun j x hx=>by simp at hx) (fun V x _ hx=>by cases hx)
  have hi0:Pg.ixF p [] = -1:=rfl
  rw [hi0] at hix
  have HN:Hid (∀ W:World,Pg.TkS W base (.slice none 0 0) (Pg.flt p [])):=fun W=>⟨rfl,.inl ⟨rfl,rfl⟩⟩
  clear h hf
  simp only [List.length_nil] at hix
  go_enter Tryz.func263,Tryz.ntmps263
  go_wp2_with (go_at_call 283;refine hix.mono ?_;rintro e w9 ⟨rfl,hb9⟩)
  go_ret
  exact ⟨_,rfl,HN.out _,rfl,aq hb9⟩
 ·have hP:(fun k=>Value.ownBlock (.slice (some ⟨g,0,none⟩) L.length cap)=some k)=(· = g):=by
   funext k
   exact propext ⟨fun e=>by cases e;rfl,fun e=>by subst e;rfl⟩
  rw [hP] at hf ⊢
  refine (ug w g cap L cur p B3 B5 hl hR hf).mono ?_
  rintro e w' ⟨rfl,⟨cur',hR'⟩,hm⟩
  exact ⟨_,rfl,Pg.TkS.of hR' hb hc,rfl,hm⟩
theorem CJ (w:World) (lo mb pb b cap base:Nat) (r:Pg.RSt) (ps:List Pg.PS) (fin:Nat) (EN LV:Nat→List Pg.PA) (sv:Value) (L:List Nat) (v:Nat) (pv:Pg.PS) (lF oF:Nat→Nat) (hP:Pg.fw w lo pb b cap ps fin EN LV) (h:Pg.MT w lo mb pb r) (hT:Pg.TkS w base sv L) (hbase:lo≤base) (hbw:base≤w.heap.size) (hl:L.length≤900) (hM:∀ x,x=v∨x∈L→Pg.MvB w x (oF x) (lF x)∧oF x<32) (hpv:ps[oF v]?=some pv) :
  Calls Tryz.prog 235 #[.pointer (some ⟨mb,0,none⟩),sv,.pointer (some ⟨v,0,none⟩)] w fun e w'=>∃ sv',e = .returned sv'∧Pg.TkS w' base sv' (Pg.tv r.act lF oF pv.around L v)∧Mo (fun k=>sv.ownBlock=some k) w w':=by
 obtain ⟨i0,hi,hz0,hz1,hz2⟩:=info_parts Tryz.j2
 have hlw:=hP.lw
 have hlo:=h.lo'
 obtain ⟨sa,sc,rfl⟩:=hT.n
 have hB3:∀ o1 o2 o3:Obj,Below w.heap.size w (((w.alloc o1).alloc o2).alloc o3):=fun o1 o2 o3=>(((Below.refl _ w).alloc (Nat.le_refl _) _).alloc (by simp) _).alloc (by simp;omega) _
 have hB:=hB3 (.cells #[.pointer (some ⟨mb,0,none⟩)] 92) (.cells #[.pointer (some ⟨v,0,none⟩)] 316) (.cells #[.func (.func 259) #[] #[.pointer (some ⟨w.heap.size,0,none⟩),.pointer (some ⟨w.heap.size+1,0,none⟩)]] 415)
 have x3:Boxed (((w.alloc (.cells #[.pointer (some ⟨mb,0,none⟩)] 92)).alloc (.cells #[.pointer (some ⟨v,0,none⟩)] 316)).alloc (.cells #[.func (.func 259) #[] #[.pointer (some ⟨w.heap.size,0,none⟩),.pointer (some ⟨w.heap.size+1,0,none⟩)]] 415)) w.heap.size 92 (.pointer (some ⟨mb,0,none⟩)):=((Boxed.new w _ _).alloc _).alloc _
 have x5:Boxed (((w.alloc (.cells #[.pointer (some ⟨mb,0,none⟩)] 92)).alloc (.cells #[.pointer (some ⟨v,0,none⟩)] 316)).alloc (.cells #[.func (.func 259) #[] #[.pointer (some ⟨w.heap.size,0,none⟩),.pointer (some ⟨w.heap.size+1,0,none⟩)]] 415)) (w.heap.size+1) 316 (.pointer (some ⟨v,0,none⟩)):=by
  have:=(Boxed.new (w.alloc (.cells #[.pointer (some ⟨mb,0,none⟩)] 92)) 316 (.pointer (some ⟨v,0,none⟩))).alloc (.cells #[.func (.func 259) #[] #[.pointer (some ⟨w.heap.size,0,none⟩),.pointer (some ⟨w.heap.size+1,0,none⟩)]] 415)
  rw [World.size_alloc] at this
  exact this
 have x7:Boxed (((w.alloc (.cells #[.pointer (some ⟨mb,0,none⟩)] 92)).alloc (.cells #[.pointer (some ⟨v,0,none⟩)] 316)).alloc (.cells #[.func (.func 259) #[] #[.pointer (some ⟨w.heap.size,0,none⟩),.pointer (some ⟨w.heap.size+1,0,none⟩)]] 415)) (w.heap.size+1+1) 415 (.func (.func 259) #[] #[.pointer (some ⟨w.heap.size,0,none⟩),.pointer (some ⟨w.heap.size+1,0,none⟩)]):=by
  have:=Boxed.new ((w.alloc (.cells #[.pointer (some ⟨mb,0,none⟩)] 92)).alloc (.cells #[.pointer (some ⟨v,0,none⟩)] 316)) 415 (.func (.func 259) #[] #[.pointer (some ⟨w.heap.size,0,none⟩),.pointer (some ⟨w.heap.size+1,0,none⟩)])
  rw [World.size_alloc,World.size_alloc] at this
  exact this
 have hs1:(((w.alloc (.cells #[.pointer (some ⟨mb,0,none⟩)] 92)).alloc (.cells #[.pointer (some ⟨v,0,none⟩)] 316)).alloc (.cells #[.func (.func 259) #[] #[.pointer (some ⟨w.heap.size,0,none⟩),.pointer (some ⟨w.heap.size+1,0,none⟩)]] 415)).heap.size=w.heap.size+3:=by simp
 have hsto:∀ (W:World) (a:Addr),(store a (.func (.func 259) #[] #[.pointer (some ⟨w.heap.size,0,none⟩),.pointer (some ⟨w.heap.size+1,0,none⟩)])).run Tryz.prog W=stored Tryz.prog W a (.func (.func 259) #[] #[.pointer (some ⟨w.heap.size,0,none⟩),.pointer (some ⟨w.heap.size+1,0,none⟩)]) .plain:=fun W a=>run_store _ W a _ _ rfl
 have hkd:=hT.kind
 have HKD:Hid _:=hkd
 obtain ⟨W1,hW1⟩:∃ W1,(((w.alloc (.cells #[.pointer (some ⟨mb,0,none⟩)] 92)).alloc (.cells #[.pointer (some ⟨v,0,none⟩)] 316)).alloc (.cells #[.func (.func 259) #[] #[.pointer (some ⟨w.heap.size,0,none⟩),.pointer (some ⟨w.heap.size+1,0,none⟩)]] 415))=W1:=⟨_,rfl⟩
 rw [hW1] at hB x3 x5 x7 hs1
 have HT1:Hid (∀ V,Below W1.heap.size W1 V→Pg.TkS V base (.slice sa L.length sc) L):=fun V hV=>(aq (P:=fun _=>False) (hB.trans (hV.mono hB.size))).own hT (fun _ _ h=>h)
 have HV:Hid (∀ V W,Below W1.heap.size W1 V→Mo (fun k=>Value.ownBlock (.slice sa L.length sc)=some k) V W→Pg.MT W lo mb pb r∧Pg.fw W lo pb b cap ps fin EN LV∧(∀ x,x=v∨x∈L→Pg.MvB W x (oF x) (lF x))∧Pg.TkB W mb v w.heap.size (w.heap.size+1)∧Boxed W (w.heap.size+1+1) 415 (.func (.func 259) #[] #[.pointer (some ⟨w.heap.size,0,none⟩),.pointer (some ⟨w.heap.size+1,0,none⟩)])):=fun V W hV hm=>by
  have hwV:=hB.trans (hV.mono hB.size)
  have hk:∀ k,Value.ownBlock (.slice sa L.length sc)=some k→lo≤k∧k<w.heap.size∧∃ c,V.heap[k]?=some (.cells c 316 (0,0)):=fun k e=>by
   obtain ⟨a,b',c,d⟩:=HKD.out k e
   exact ⟨by omega,b',c,(hwV.block k b').trans d⟩
  have hbl:Below lo V W:=⟨hm.os,hm.tape,hm.output,hm.size,fun k hk'=>hm.block k (by have:=hwV.size;omega) (fun e=>by have:=(hk k e).1;omega)⟩
  refine ⟨(h.below hlw hwV).moT hlw hm (fun k e=>⟨(hk k e).1,(hk k e).2.2⟩),hP.below ((hwV.mono hlo).trans hbl),fun x hx => ?_,⟨?_,?_⟩,?_⟩
  ·have hx1:=(hM x hx).1.below hwV
   refine hx1.mo hm (fun e => ?_)
   obtain ⟨_,_,c,hc⟩:=hk _ e
   obtain ⟨c',hc'⟩:=hx1.ty
   rw [hc] at hc'
   simp at hc'
  ·exact Boxed.mo (aB x3 hV (by omega)) hm (fun e=>by have:=(hk _ e).2.1;omega)
  ·exact Boxed.mo (aB x5 hV (by omega)) hm (fun e=>by have:=(hk _ e).2.1;omega)
  ·exact Boxed.mo (aB x7 hV (by omega)) hm (fun e=>by have:=(hk _ e).2.1;omega)
 have hcon:=pR W1 sa sc L (fun x=>Pg.fA r.act (lF x) (lF v) && !pv.around.testBit (oF x)) (w.heap.size+1+1) w.heap.size (w.heap.size+1) (by omega) (fun j x hx=>by
   rcases (HT1.out W1 (Below.refl _ _)).form with ⟨_,e2⟩ | ⟨g,cp,cu,e1,e2,e3,e4⟩
   ·subst e2
    simp at hx
   ·simp only [Value.slice.injEq] at e1
    obtain ⟨rfl,_,rfl⟩:=e1
    exact ⟨g,rfl,(Array.getElem?_eq_some_iff.1 e4.blk).1,e4.cell hx⟩)
  (fun V x hV hx=>by
   obtain ⟨a1,a2,a3,a4,a5⟩:=HV.out V V hV (Mo.refl _ _)
   exact (xz V lo mb pb b cap r ps fin EN LV x (oF x) (lF x) v (oF v) (lF v) _ _ _ pv a2 a1 (a3 x (.inr hx)) (a3 v (.inl rfl)) a4 hpv (hM x (.inr hx)).2 a5).mono (fun e w' y=>⟨y.1,hV.trans (y.2.mono hV.size)⟩))
 have hdel:∀ V,Below W1.heap.size W1 V→Calls Tryz.prog 263 #[.slice sa L.length sc,.func (.func 259) #[] #[.pointer (some ⟨w.heap.size,0,none⟩),.pointer (some ⟨w.heap.size+1,0,none⟩)]] V fun e w'=>∃ sv',e = .returned sv'∧Pg.TkS w' base sv' (Pg.flt (fun x=>Pg.fA r.act (lF x) (lF v)) L)∧sv'.ownBlock=Value.ownBlock (.slice sa L.length sc)∧Mo (fun k=>Value.ownBlock (.slice sa L.length sc)=some k) V w':=fun V hV =>
  uh V base (.slice sa L.length sc) L _ _ _ (by omega) (HT1.out V hV) (fun W x hW hx=>by
   obtain ⟨a1,a2,a3,a4,a5⟩:=HV.out V W hV hW
   exact mT W lo mb pb r x (oF x) (lF x) v (oF v) (lF v) _ _ hlw a1 (a3 x (.inr hx)) (a3 v (.inl rfl)) a4)
 obtain ⟨an,han⟩:∃ an,L.any (fun x=>Pg.fA r.act (lF x) (lF v) && !pv.around.testBit (oF x))=an:=⟨_,rfl⟩
 have HTK:Hid (Pg.tv r.act lF oF pv.around L v=if an then L else Pg.flt (fun x=>Pg.fA r.act (lF x) (lF v)) L++[v]):=by
  unfold Hid Pg.tv
  rw [han]
 rw [han] at hcon
 have HFL:Hid ((Pg.flt (fun x=>Pg.fA r.act (lF x) (lF v)) L).length≤L.length):=List.length_filter_le _ _
 generalize Pg.flt (fun x=>Pg.fA r.act (lF x) (lF v)) L=F at *
 clear han h hP hM hT hkd
 cases an
 ·have k5:∀ V W,Below W1.heap.size W1 V→Mo (fun k=>Value.ownBlock (.slice sa L.length sc)=some k) V W→W.cell? ⟨w.heap.size+1,0,none⟩=some (.pointer (some ⟨v,0,none⟩))∧W.cell? ⟨w.heap.size+1+1,0,none⟩=some (.func (.func 259) #[] #[.pointer (some ⟨w.heap.size,0,none⟩),.pointer (some ⟨w.heap.size+1,0,none⟩)]):=fun V W hV hm=>⟨(HV.out V W hV hm).2.2.2.1.b5.cell,(HV.out V W hV hm).2.2.2.2.cell⟩
  go_enter Tryz.func235,Tryz.ntmps235
  go_upto_region 5 with (go_at_call 262;(try rw [hW1]);refine hcon.mono ?_;rintro e w2 ⟨rfl,hb2⟩)
  clear hcon
  have hbd:=hb2.drew
  have hKB:∀ V W,Below W1.heap.size W1 V→Mo (fun k=>Value.ownBlock (.slice sa L.length sc)=some k) V W→(fun V=>V.cell? ⟨w.heap.size+1,0,none⟩=some (.pointer (some ⟨v,0,none⟩))∧V.cell? ⟨w.heap.size+1+1,0,none⟩=some (.func (.func 259) #[] #[.pointer (some ⟨w.heap.size,0,none⟩),.pointer (some ⟨w.heap.size+1,0,none⟩)])) W:=k5
  have hSa:∀ (W:World) (o:Obj),(fun V=>V.cell? ⟨w.heap.size+1,0,none⟩=some (.pointer (some ⟨v,0,none⟩))∧V.cell? ⟨w.heap.size+1+1,0,none⟩=some (.func (.func 259) #[] #[.pointer (some ⟨w.heap.size,0,none⟩),.pointer (some ⟨w.heap.size+1,0,none⟩)])) W→(fun V=>V.cell? ⟨w.heap.size+1,0,none⟩=some (.pointer (some ⟨v,0,none⟩))∧V.cell? ⟨w.heap.size+1+1,0,none⟩=some (.func (.func 259) #[] #[.pointer (some ⟨w.heap.size,0,none⟩),.pointer (some ⟨w.heap.size+1,0,none⟩)])) (W.alloc o):=fun W o hW=>⟨(KpM.below (B:=fun _=>False) ((Below.refl _ W).alloc (Nat.le_refl _) o)).cell hW.1 (fun h=>h),(KpM.below (B:=fun _=>False) ((Below.refl _ W).alloc (Nat.le_refl _) o)).cell hW.2 (fun h=>h)⟩
  have hSg:∀ (W W':World) (row:Option Nat),row=Value.ownBlock (.slice sa L.length sc)→W.grownBy W' row→(fun V=>V.cell? ⟨w.heap.size+1,0,none⟩=some (.pointer (some ⟨v,0,none⟩))∧V.cell? ⟨w.heap.size+1+1,0,none⟩=some (.func (.func 259) #[] #[.pointer (some ⟨w.heap.size,0,none⟩),.pointer (some ⟨w.heap.size+1,0,none⟩)])) W→(fun V=>V.cell? ⟨w.heap.size+1,0,none⟩=some (.pointer (some ⟨v,0,none⟩))∧V.cell? ⟨w.heap.size+1+1,0,none⟩=some (.func (.func 259) #[] #[.pointer (some ⟨w.heap.size,0,none⟩),.pointer (some ⟨w.heap.size+1,0,none⟩)])) W':=fun W W' row hr hg hW=>by
   subst hr
   have hne:∀ q,w.heap.size≤q→some q≠Value.ownBlock (.slice sa L.length sc):=fun q hq e=>by have:=(HKD.out q e.symm).2.1;omega
   exact ⟨(World.cell?_of_block (w:=W) (hg.block _ (fU hW.1) (hne (w.heap.size+1) (by omega)))).trans hW.1,(World.cell?_of_block (w:=W) (hg.block _ (fU hW.2) (hne (w.heap.size+1+1) (by omega)))).trans hW.2⟩
  have hfl:=HFL.out
  have hsz2:=hbd.size
  have hS0:(fun V=>V.cell? ⟨w.heap.size+1,0,none⟩=some (.pointer (some ⟨v,0,none⟩))∧V.cell? ⟨w.heap.size+1+1,0,none⟩=some (.func (.func 259) #[] #[.pointer (some ⟨w.heap.size,0,none⟩),.pointer (some ⟨w.heap.size+1,0,none⟩)])) w2.drew:=hKB _ _ hbd (Mo.refl _ _)
  have hBa:Below W1.heap.size W1 (w2.drew.alloc (.cells #[.pointer (some ⟨v,0,none⟩)] 316)):=hbd.alloc hsz2 _
  refine wp_region_held_drew (S:=(fun V=>V.cell? ⟨w.heap.size+1,0,none⟩=some (.pointer (some ⟨v,0,none⟩))∧V.cell? ⟨w.heap.size+1+1,0,none⟩=some (.func (.func 259) #[] #[.pointer (some ⟨w.heap.size,0,none⟩),.pointer (some ⟨w.heap.size+1,0,none⟩)]))) (by kernel_rfl) hS0 (fun hHeld => ?_)
  refine tD (some 15) 0 (.slice sa L.length sc) rfl hHeld ?_
  refine tD (some 16) 1 (.func (.func 259) #[] #[.pointer (some ⟨w.heap.size,0,none⟩),.pointer (some ⟨w.heap.size+1,0,none⟩)]) rfl hHeld ?_
  refine tD (some 18) 3 (.pointer (some ⟨v,0,none⟩)) rfl hHeld ?_
  refine yH [2,4] ?_
  refine AllReadyH.cons rfl (fun K hK => ?rg1) (AllReadyH.cons rfl (fun K hK => ?rg2) AllReadyH.nil)
  case' rg1 =>
   go_simp
   refine (hdel _ (by first | exact hbd | exact hBa)).mono ?_
   rintro e w9 ⟨sv9,rfl,hT9,hO9,hm9⟩
   refine hK.out _ _ (hKB _ _ (by first | exact hbd | exact hBa) hm9) (fun hHeld => ?_)
   clear hK K
   refine zH 4 rfl fun K hK => ?_
   go_simp
   refine hK.out _ _ (hSa _ _ hHeld) (fun hHeld => ?_)
   clear hK K
   refine zH 5 rfl fun K hK => ?_
   first
    | (refine step_append_lies _ (by rfl) _ _ _ (by rfl) base 316 i0 _ 1 8 Tryz.underlying314 hi hz0 hz1 hz2 rfl (by decide) sv9 F.length (F.flatMap Pg.jU) (by rfl) (hT9.alloc _) ⟨w9.heap.size,0,none⟩ 1 1 [.pointer (some ⟨v,0,none⟩)] (by rfl) (by rfl) (World.news_of_block (cs:=#[.pointer (some ⟨v,0,none⟩)]) (t:=316) (fr:=(0,0)) (heap_alloc_new w9 _)) (fun u hu=>by simp at hu;subst hu;rfl) (by omega) (by unfold maxLen;omega) (by omega) (by have:=hm9.size;simp;simp at this hsz2;omega) _ rfl ?_)
    | (refine step_append_lies _ (by rfl) _ _ _ (by rfl) base 316 i0 _ 1 8 Tryz.underlying314 hi hz0 hz1 hz2 rfl (by decide) sv9 F.length (F.flatMap Pg.jU) (by rfl) hT9 ⟨w2.drew.heap.size,0,none⟩ 1 1 [.pointer (some ⟨v,0,none⟩)] (by rfl) (by rfl) (World.news_of_block (cs:=#[.pointer (some ⟨v,0,none⟩)]) (t:=316) (fr:=(0,0)) ((hm9.block w2.drew.heap.size (by simp) (fun e=>by have:=(HKD.out _ e).2.1;have:w2.drew.heap.size=w2.heap.size:=rfl;have:=hb2.size;omega)).trans (heap_alloc_new w2.drew _))) (fun u hu=>by simp at hu;subst hu;rfl) (by omega) (by unfold maxLen;omega) (by omega) (by have:=hm9.size;simp at this hsz2;omega) _ rfl ?_)
   intro g5 cap5 w5 hown5 hgrow hat hlt5
   refine hK.out _ _ (hSg _ _ _ hO9 hgrow hHeld) (fun hHeld => ?_)
   clear hK K
   refine tD (some 6) 6 (.slice (some ⟨g5,0,none⟩) (F.length+1) cap5) rfl hHeld ?_
   refine wpAnyH_done (by kernel_rfl) ?_ _
   clear hHeld
   go_wp2
   go_ret
   rw [hO9] at hgrow
   have hg5:Mo (fun k=>Value.ownBlock (.slice sa L.length sc)=some k) _ w5:=⟨hgrow.os,hgrow.tape,hgrow.output,hgrow.size,fun k hk hn=>hgrow.block k hk (fun e=>hn e.symm)⟩
   have hMo:Mo (fun k=>Value.ownBlock (.slice sa L.length sc)=some k) w w5:=by
    have h0:Mo (fun k=>Value.ownBlock (.slice sa L.length sc)=some k) w w2.drew:=aq (hB.trans (hbd.mono hB.size))
    have hal:∀ W:World,Mo (fun k=>Value.ownBlock (.slice sa L.length sc)=some k) W (W.alloc (.cells #[.pointer (some ⟨v,0,none⟩)] 316)):=fun W=>aq ((Below.refl _ W).alloc (Nat.le_refl _) _)
    first
     | exact ((h0.trans hm9).trans (hal _)).trans hg5
     | exact ((h0.trans (hal _)).trans hm9).trans hg5
   refine ⟨_,rfl,?_,hMo⟩
   rw [HTK.out,if_neg (by decide)]
   show w5.ownsRow base 316 1 _ (F++[v]).length ((F++[v]).flatMap Pg.jU)
   rw [List.length_append,List.flatMap_append]
   exact hown5
  case' rg2 =>
   go_simp
   refine hK.out _ _ (hSa _ _ hHeld) (fun hHeld => ?_)
   clear hK K
   refine zH 2 rfl fun K hK => ?_
   go_simp
   refine (hdel _ (by first | exact hbd | exact hBa)).mono ?_
   rintro e w9 ⟨sv9,rfl,hT9,hO9,hm9⟩
   refine hK.out _ _ (hKB _ _ (by first | exact hbd | exact hBa) hm9) (fun hHeld => ?_)
   clear hK K
   refine zH 5 rfl fun K hK => ?_
   first
    | (refine step_append_lies _ (by rfl) _ _ _ (by rfl) base 316 i0 _ 1 8 Tryz.underlying314 hi hz0 hz1 hz2 rfl (by decide) sv9 F.length (F.flatMap Pg.jU) (by rfl) (hT9.alloc _) ⟨w9.heap.size,0,none⟩ 1 1 [.pointer (some ⟨v,0,none⟩)] (by rfl) (by rfl) (World.news_of_block (cs:=#[.pointer (some ⟨v,0,none⟩)]) (t:=316) (fr:=(0,0)) (heap_alloc_new w9 _)) (fun u hu=>by simp at hu;subst hu;rfl) (by omega) (by unfold maxLen;omega) (by omega) (by have:=hm9.size;simp;simp at this hsz2;omega) _ rfl ?_)
    | (refine step_append_lies _ (by rfl) _ _ _ (by rfl) base 316 i0 _ 1 8 Tryz.underlying314 hi hz0 hz1 hz2 rfl (by decide) sv9 F.length (F.flatMap Pg.jU) (by rfl) hT9 ⟨w2.drew.heap.size,0,none⟩ 1 1 [.pointer (some ⟨v,0,none⟩)] (by rfl) (by rfl) (World.news_of_block (cs:=#[.pointer (some ⟨v,0,none⟩)]) (t:=316) (fr:=(0,0)) ((hm9.block w2.drew.heap.size (by simp) (fun e=>by have:=(HKD.out _ e).2.1;have:w2.drew.heap.size=w2.heap.size:=rfl;have:=hb2.size;omega)).trans (heap_alloc_new w2.drew _))) (fun u hu=>by simp at hu;subst hu;rfl) (by omega) (by unfold maxLen;omega) (by omega) (by have:=hm9.size;simp at this hsz2;omega) _ rfl ?_)
   intro g5 cap5 w5 hown5 hgrow hat hlt5
   refine hK.out _ _ (hSg _ _ _ hO9 hgrow hHeld) (fun hHeld => ?_)
   clear hK K
   refine tD (some 6) 6 (.slice (some ⟨g5,0,none⟩) (F.length+1) cap5) rfl hHeld ?_
   refine wpAnyH_done (by kernel_rfl) ?_ _
   clear hHeld
   go_wp2
   go_ret
   rw [hO9] at hgrow
   have hg5:Mo (fun k=>Value.ownBlock (.slice sa L.length sc)=some k) _ w5:=⟨hgrow.os,hgrow.tape,hgrow.output,hgrow.size,fun k hk hn=>hgrow.block k hk (fun e=>hn e.symm)⟩
   have hMo:Mo (fun k=>Value.ownBlock (.slice sa L.length sc)=some k) w w5:=by
    have h0:Mo (fun k=>Value.ownBlock (.slice sa L.length sc)=some k) w w2.drew:=aq (hB.trans (hbd.mono hB.size))
    have hal:∀ W:World,Mo (fun k=>Value.ownBlock (.slice sa L.length sc)=some k) W (W.alloc (.cells #[.pointer (some ⟨v,0,none⟩)] 316)):=fun W=>aq ((Below.refl _ W).alloc (Nat.le_refl _) _)
    first
     | exact ((h0.trans hm9).trans (hal _)).trans hg5
     | exact ((h0.trans (hal _)).trans hm9).trans hg5
   refine ⟨_,rfl,?_,hMo⟩
   rw [HTK.out,if_neg (by decide)]
   show w5.ownsRow base 316 1 _ (F++[v]).length ((F++[v]).flatMap Pg.jU)
   rw [List.length_append,List.flatMap_append]
   exact hown5
 ·go_enter Tryz.func235,Tryz.ntmps235
  go_wp2_with (go_at_call 262;(try rw [hW1]);refine hcon.mono ?_;rintro e w2 ⟨rfl,hb2⟩)
  go_ret
  exact ⟨_,rfl,by rw [HTK.out,if_pos trivial];exact HT1.out _ hb2,aq (hB.trans (hb2.mono hB.size))⟩
end
end Go.Proofs.YtegmoddppafkfaaGreatDoor
