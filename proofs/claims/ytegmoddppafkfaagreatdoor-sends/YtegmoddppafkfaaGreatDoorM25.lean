import Derived.Test.YtegmoddppafkfaaGreatDoorM00
import Derived.Test.YtegmoddppafkfaaGreatDoorM20
import Derived.Test.YtegmoddppafkfaaGreatDoorM22
import Derived.Test.YtegmoddppafkfaaGreatDoorM24
set_option maxRecDepth 100000
set_option maxHeartbeats 8000000
namespace Go.Proofs.YtegmoddppafkfaaGreatDoor
section
open Go.RowKit
variable {w0 w:World} {db mb nm:Nat} {sv pv ov:Ref.Sl} {tm:Bool} {X:List Pro.DS} {SP:List (Int×Int)} {O:List Nat} {PT:Nat→List Nat} {D:DataW Nat}
def ED (num:Int) (dep:Nat) (nme:ByteArray) (ow:Int) (ns:Ref.State) (w0:World) (db mb:Nat) (tm:Bool) (X:List Pro.DS) (SP:List (Int×Int)) (O:List Nat) (PT:Nat→List Nat) (nm:Nat) (D:DataW Nat) (w':World):Prop :=
 ∃ sv' pv' ov' X',X'.map (·.s)=X.map (·.s)++[ns]∧al w0 w' db sv' pv' ov' mb tm X' (SP++[(num,(dep:Int))]) (O.take dep++[X.length]) (fun i=>if (i:Int)=ow then PT i++[X.length] else PT i) (nm+1) (if Go.Maps.has D (.string nme.data.toList) then D else D.put (.string nme.data.toList) (.lit (.int .i64 num)))
theorem nM (num:Int) (dep:Nat) (kd:Int) (nme:ByteArray) (G:al w0 w db sv pv ov mb tm X SP O PT nm D) (h0:0<dep) (h:O.length<dep) (hd:dep≤1073741824) :
  Calls Tryz.prog 359 #[.agg (dM num dep kd nme),.pointer (some ⟨db,0,none⟩)] w (aY 3 num w):=by
 have hb1:Below w.heap.size w (w.alloc (.cells (dM num dep kd nme) 376)):=(Below.refl _ _).alloc (Nat.le_refl _) _
 have HC:Hid _:=lS num dep (G.ay hb1) (.inr h) hd
 unfold dM at hb1 HC ⊢
 go_enter Tryz.func359,Tryz.ntmps359
 go_wp2_with fail
 refine Calls.mono HC.out ?_
 rintro e w4 ⟨hb,b,h5,h6,rfl⟩
 dsimp only
 exact ⟨rfl,hb1.trans (hb.mono hb1.size),b,Nat.le_trans hb1.size h5,h6,rfl⟩
def gU (X:List Pro.DS) (PT:Nat→List Nat) (dep:Nat) (ow kd:Int):Bool :=
 !decide (X.length=24)&&(!decide (5<dep)&&(if ow<0 then !Pro.cH kd else match X[ow.toNat]? with | some x=>Pro.holds x (PT ow.toNat) kd | none=>false))
theorem pI (num:Int) (dep:Nat) (kd ow:Int) (nme:ByteArray) (ns:Ref.State) (G:al w0 w db sv pv ov mb tm X SP O PT nm D) (hX:X.length≤1000) (hSP:SP.length≤1000) (hO:O.length≤1000) (hPTl:∀ i,(PT i).length≤1000) (hnm:nm≤1000)
  (hkd:Pro.ao ns=kd) (hnme:ns.name=nme) (hdep:ns.depth=dep) (hup:ns.up=ow) (hm:ns.moves=[]) (he:ns.enter=[]) (hl:ns.leave=[]) (hd:dep≤O.length) (hsz:nme.size≤1000000) (hnum:(Lit.int .i64 num).wf=true)
  (how:(dep=0∧ow = -1)∨∃ (k u:Nat) (hk:k<O.length),dep=k+1∧O[k]=u∧ow=u∧u<X.length) (hPT:PT X.length=[]) :
  Calls Tryz.prog 359 #[.agg (dM num dep kd nme),.pointer (some ⟨db,0,none⟩)] w fun e w'=>if gU X PT dep ow kd then e = .returned (.tuple #[])∧ED num dep nme ow ns w0 db mb tm X SP O PT nm D w' else aY 3 num w e w':=by
 have hb1:Below w.heap.size w (w.alloc (.cells (dM num dep kd nme) 376)):=(Below.refl _ _).alloc (Nat.le_refl _) _
 have HG:Hid _:=G
 have how':ow = -1∨∃ u:Nat,ow=u∧u<X.length:=by
  rcases how with ⟨_,h⟩ | ⟨k,u,_,_,_,h,hu⟩
  ·exact .inl h
  ·exact .inr ⟨u,h,hu⟩
 have HAdd:Hid (∀ w',Below w.heap.size w w'→Calls Tryz.prog 362 #[.pointer (some ⟨db,0,none⟩),.agg (dM num dep kd nme),.int .i64 ow] w' fun e w'=>e = .returned (.tuple #[])∧ED num dep nme ow ns w0 db mb tm X SP O PT nm D w') :=
  fun w' hb=>wz num dep kd ow nme ns (G.ay hb) hX hSP hO hPTl hnm hkd hnme hdep hup hm he hl hd hsz hnum how' hPT
 have HHold:Hid (∀ w',Below w.heap.size w w'→Calls Tryz.prog 361 #[.pointer (some ⟨db,0,none⟩),.int .i64 ow,.int .i64 kd] w' fun e w''=>e = .returned (.bool (if ow<0 then !Pro.cH kd else match X[ow.toNat]? with | some x=>Pro.holds x (PT ow.toNat) kd | none=>false))∧Below w'.heap.size w' w''):=by
  intro w' hb
  rcases how' with h | ⟨u,h,hu⟩
  ·subst h
   rw [if_pos (by decide)]
   exact sS kd
  ·subst h
   rw [if_neg (by omega)]
   have e:X[((u:Int)).toNat]?=some X[u]:=by simp [hu]
   rw [e]
   exact sT kd u (G.ay hb) hu (by omega)
 have HOwn:Hid (0<dep→∀ w',Below w.heap.size w w'→Calls Tryz.prog 360 #[.pointer (some ⟨db,0,none⟩),.agg #[.int .i64 num,.int .i64 dep]] w' fun e w''=>e = .returned (.int .i64 ow)∧Below w'.heap.size w' w''):=by
  intro h0 w' hb
  rcases how with ⟨h,_⟩ | ⟨k,u,hk,h1,h2,h3,_⟩
  ·omega
  ·rw [h3,← h2]
   exact ri num dep k (G.ay hb) hk h1 (by omega)
 have HO0:Hid (dep=0→ow = -1):=by
  intro h0
  rcases how with ⟨_,h⟩ | ⟨k,u,hk,h1,_⟩
  ·exact h
  ·omega
 have hsn:=G.ER
 have hdb:=G.dlt
 obtain ⟨c0,_,_,_,_⟩:=G.cells
 rw [hsn] at c0
 have HOk:Hid (gU X PT dep ow kd=(!decide (X.length=24)&&(!decide (5<dep)&&(if ow<0 then !Pro.cH kd else match X[ow.toNat]? with | some x=>Pro.holds x (PT ow.toNat) kd | none=>false)))):=rfl
 generalize hq:(if ow<0 then !Pro.cH kd else match X[ow.toNat]? with | some x=>Pro.holds x (PT ow.toNat) kd | none=>false)=hold at *
 clear hq how how' hkd hnme hdep hup hm he hl hd hPT hPTl hsz hnum hsn G
 have hxl:X.length≤1000:=hX
 unfold dM at hb1 HAdd ⊢
 go_enter Tryz.func359,Tryz.ntmps359
 go_upto_if 8 with fail
 change Code.wp _ _ _ _ (w.alloc (.cells #[.int .i64 num,.int .i64 dep,.int .i64 kd,.string nme] 376))
 obtain ⟨W1,hW1⟩:∃ y,y=w.alloc (.cells #[.int .i64 num,.int .i64 dep,.int .i64 kd,.string nme] 376):=⟨_,rfl⟩
 obtain ⟨B,hB⟩:∃ B,B=w.heap.size:=⟨_,rfl⟩
 have hbx:W1.heap[B]?=some (.cells #[.int .i64 num,.int .i64 dep,.int .i64 kd,.string nme] 376 (0,0)):=by rw [hW1,hB];exact heap_alloc_new _ _
 rw [← hW1] at hb1 ⊢
 have HBl:Hid (B=w.heap.size):=hB
 rw [← hB]
 clear hW1 hB
 go_cut [4] (fun v wx=>v = .int .i64 ow∧Below w.heap.size w wx∧wx.heap[B]?=some (.cells #[.int .i64 num,.int .i64 dep,.int .i64 kd,.string nme] 376 (0,0)))
 case first =>
  have b0:W1.cell? ⟨B,0,none⟩=some (.int .i64 num):=by rw [cell_of_row W1 _ _ _ _ _ hbx];rfl
  have b1:W1.cell? ⟨B,1,none⟩=some (.int .i64 dep):=by rw [cell_of_row W1 _ _ _ _ _ hbx];rfl
  by_cases h0:0<dep
  ·go_wp2_with fail
   refine (HOwn.out h0 _ hb1).mono ?_
   rintro e w2 ⟨rfl,hb2⟩
   dsimp only
   go_wp2
   go_meet
   case rel=>exact ⟨rfl,hb1.trans (hb2.mono hb1.size),(hb2.block _ (Array.getElem?_eq_some_iff.1 hbx).1).trans hbx⟩
  ·have hd0:dep=0:=by omega
   have how0:=HO0.out hd0
   go_wp2
   go_meet
   case rel=>exact ⟨by rw [how0],hb1,hbx⟩
 case rest =>
  obtain ⟨rfl,hbw,hbx2⟩:=hcut
  obtain ⟨W2,hW⟩:∃ y:World,y=wc:=⟨wc,rfl⟩
  subst hW
  clear hb1 hbx
  have b0:W2.cell? ⟨B,0,none⟩=some (.int .i64 num):=by rw [cell_of_row W2 _ _ _ _ _ hbx2];rfl
  have b1:W2.cell? ⟨B,1,none⟩=some (.int .i64 dep):=by rw [cell_of_row W2 _ _ _ _ _ hbx2];rfl
  have b2:W2.cell? ⟨B,2,none⟩=some (.int .i64 kd):=by rw [cell_of_row W2 _ _ _ _ _ hbx2];rfl
  have b3:W2.cell? ⟨B,3,none⟩=some (.string nme):=by rw [cell_of_row W2 _ _ _ _ _ hbx2];rfl
  have d0:W2.cell? ⟨db,0,none⟩=some (.slice sv.a X.length sv.c):=(World.cell?_of_block (w:=w) (hbw.block db hdb)).trans c0
  have hbs:=hbw.size
  by_cases h24:X.length=24
  ·have HF:Hid (gU X PT dep ow kd=false):=by unfold Hid;rw [HOk.out,decide_eq_true h24];rfl
   have h24':((X.length:Int) == 24)=true:=by rw [h24];rfl
   clear h24
   go_wp2_with fail
   refine (aL num dep 3 _).mono ?_
   rintro e w3 ⟨hb,b,h5,h6,rfl⟩
   dsimp only
   refine ⟨rfl,?_⟩
   rw [HF.out]
   exact ⟨hbw.trans (hb.mono hbs),b,Nat.le_trans hbs h5,h6,rfl⟩
  ·have h24':((X.length:Int) == 24)=false:=by simp;omega
   by_cases h5:5<dep
   ·have HF:Hid (gU X PT dep ow kd=false):=by unfold Hid;rw [HOk.out,decide_eq_true h5];simp
    clear h24
    go_wp2_with fail
    refine (aL num dep 3 _).mono ?_
    rintro e w3 ⟨hb,b,h5,h6,rfl⟩
    dsimp only
    refine ⟨rfl,?_⟩
    rw [HF.out]
    exact ⟨hbw.trans (hb.mono hbs),b,Nat.le_trans hbs h5,h6,rfl⟩
   ·have HF:Hid (gU X PT dep ow kd=hold):=by unfold Hid;rw [HOk.out,decide_eq_false h24,decide_eq_false h5];rfl
    clear h24
    go_wp2_with fail
    refine (HHold.out _ hbw).mono ?_
    rintro e w3 ⟨rfl,hb3⟩
    have hbw3:=hbw.trans (hb3.mono hbs)
    have hbx3:=(hb3.block _ (Array.getElem?_eq_some_iff.1 hbx2).1).trans hbx2
    have a0:w3.cell? ⟨B,0,none⟩=some (.int .i64 num):=by rw [cell_of_row w3 _ _ _ _ _ hbx3];rfl
    have a1:w3.cell? ⟨B,1,none⟩=some (.int .i64 dep):=by rw [cell_of_row w3 _ _ _ _ _ hbx3];rfl
    have a2:w3.cell? ⟨B,2,none⟩=some (.int .i64 kd):=by rw [cell_of_row w3 _ _ _ _ _ hbx3];rfl
    have a3:w3.cell? ⟨B,3,none⟩=some (.string nme):=by rw [cell_of_row w3 _ _ _ _ _ hbx3];rfl
    clear b0 b1 b2 b3 d0 hb3
    cases hold with
    | false =>
     dsimp only
     go_wp2_with fail
     refine (aL num dep 3 _).mono ?_
     rintro e w4 ⟨hb,b,h5,h6,rfl⟩
     dsimp only
     refine ⟨rfl,?_⟩
     rw [HF.out]
     exact ⟨hbw3.trans (hb.mono hbw3.size),b,Nat.le_trans hbw3.size h5,h6,rfl⟩
    | true =>
     dsimp only
     go_wp2_with fail
     refine (HAdd.out _ hbw3).mono ?_
     rintro e w4 ⟨rfl,hadd⟩
     dsimp only
     go_wp2
     go_end0
     exact ⟨rfl,hadd⟩
namespace Pro
def eR (S:List Ref.State):Nat→List Nat
 | 0=>[]
 | k+1=>(eR S k).take (S.getD k Ref.st0).depth.toNat++[k]
def opn (S:List Ref.State):List Nat:=eR S S.length
def Val (S:List Ref.State):Prop:=∀ k,k<S.length→0≤(S.getD k Ref.st0).depth∧(S.getD k Ref.st0).depth.toNat≤(eR S k).length
theorem fJ {S S':List Ref.State}:∀ k,(∀ i,i<k→(S.getD i Ref.st0).depth=(S'.getD i Ref.st0).depth)→eR S k=eR S' k
 | 0,_=>rfl
 | k+1,h=>by rw [eR,eR,fJ k (fun i hi=>h i (by omega)),h k (by omega)]
theorem C5 {S:List Ref.State} (hV:Val S) (dn:Nat) (hd:0<dn):∀ k,k≤S.length→Ref.we S dn k=match (eR S k)[dn-1]? with | some i=>(i:Int) | none => -1
 | 0,_=>by simp [Ref.we,eR]
 | k+1,hk=>by
  have ih:=C5 hV dn hd k (by omega)
  obtain ⟨h0,h1⟩:=hV k (by omega)
  obtain ⟨e,he⟩:∃ e:Nat,(S.getD k Ref.st0).depth=e:=⟨(S.getD k Ref.st0).depth.toNat,by omega⟩
  rw [he] at h1
  simp only [Int.toNat_natCast] at h1
  rw [Ref.we,eR,he]
  simp only [Int.toNat_natCast]
  have hl:((eR S k).take e).length=e:=by rw [List.length_take];omega
  by_cases h2:(e:Int)=dn-1
  ·rw [if_pos h2,List.getElem?_append_right (by omega),hl]
   have:dn-1-e=0:=by omega
   rw [this];rfl
  ·rw [if_neg h2]
   by_cases h3:(e:Int)<dn-1
   ·rw [if_pos h3,List.getElem?_eq_none (by rw [List.length_append,hl];simp;omega)]
   ·rw [if_neg h3,ih,List.getElem?_append_left (by omega),List.getElem?_take,if_pos (by omega)]
theorem jY {S:List Ref.State} (hV:Val S) (dn:Nat):Ref.eO S dn=if dn=0 then -1 else match (opn S)[dn-1]? with | some i=>(i:Int) | none => -1:=by
 unfold Ref.eO
 by_cases h:dn=0
 ·subst h;rfl
 ·rw [if_neg h,if_pos (by omega),C5 hV dn (by omega) S.length (Nat.le_refl _)];rfl
theorem fa (S:List Ref.State):∀ k,∀ i∈eR S k,i<k
 | 0,i,h=>by simp [eR] at h
 | k+1,i,h=>by
  rw [eR] at h
  rcases List.mem_append.1 h with h | h
  ·have:=fa S k i (List.mem_of_mem_take h);omega
  ·rw [List.mem_singleton.1 h];omega
theorem mS (S:List Ref.State):∀ k,(eR S k).length≤k
 | 0=>by simp [eR]
 | k+1=>by
  have:=mS S k
  rw [eR,List.length_append,List.length_take];simp;omega
theorem bE {S:List Ref.State} {s:Ref.State} {i:Nat} (h:i<S.length):(S++[s]).getD i Ref.st0=S.getD i Ref.st0:=by
 rw [List.getD_eq_getElem?_getD,List.getD_eq_getElem?_getD,List.getElem?_append_left h]
theorem dq {S:List Ref.State} {s:Ref.State}:(S++[s]).getD S.length Ref.st0=s:=by
 rw [List.getD_eq_getElem?_getD,List.getElem?_append_right (Nat.le_refl _)];simp
theorem xG (S:List Ref.State) (s:Ref.State):opn (S++[s])=(opn S).take s.depth.toNat++[S.length]:=by
 unfold opn
 rw [List.length_append,show S.length+[s].length=S.length+1 from rfl,eR,dq,fJ (S':=S) S.length (fun i hi=>by rw [bE hi])]
theorem yg {S:List Ref.State} {s:Ref.State} (hV:Val S) (h0:0≤s.depth) (h1:s.depth.toNat≤(opn S).length):Val (S++[s]):=by
 intro k hk
 by_cases h:k<S.length
 ·rw [bE h,fJ (S':=S) k (fun i hi=>by rw [bE (by omega)])]
  exact hV k h
 ·have e:k=S.length:=by simp at hk;omega
  subst e
  rw [dq,fJ (S':=S) S.length (fun i hi=>by rw [bE hi])]
  exact ⟨h0,h1⟩
def bH (S:List Ref.State) (i:Nat):Nat→List Nat
 | 0=>[]
 | k+1=>if (S.getD k Ref.st0).up=i then bH S i k++[k] else bH S i k
def parts (S:List Ref.State) (i:Nat):List Nat:=bH S i S.length
theorem iG {S S':List Ref.State} (i:Nat):∀ k,(∀ j,j<k→(S.getD j Ref.st0).up=(S'.getD j Ref.st0).up)→bH S i k=bH S' i k
 | 0,_=>rfl
 | k+1,h=>by rw [bH,bH,iG i k (fun j hj=>h j (by omega)),h k (by omega)]
theorem tq (S:List Ref.State) (s:Ref.State) (i:Nat):parts (S++[s]) i=if (i:Int)=s.up then parts S i++[S.length] else parts S i:=by
 unfold parts
 rw [List.length_append,show S.length+[s].length=S.length+1 from rfl,bH,dq,iG (S':=S) i S.length (fun j hj=>by rw [bE hj])]
 by_cases h:s.up=i
 ·rw [if_pos h,if_pos h.symm]
 ·rw [if_neg h,if_neg (fun e=>h e.symm)]
theorem jT (S:List Ref.State) (i:Nat):∀ k,(bH S i k).length≤k
 | 0=>by simp [bH]
 | k+1=>by
  have:=jT S i k
  rw [bH]
  split
  ·rw [List.length_append];simp;omega
  ·omega
theorem lT {S:List Ref.State} {i:Nat}:∀ k,(∀ j,j<k→(S.getD j Ref.st0).up≠i)→bH S i k=[]
 | 0,_=>rfl
 | k+1,h=>by rw [bH,if_neg (h k (by omega)),lT k (fun j hj=>h j (by omega))]
theorem gu {S:List Ref.State} {i x:Nat}:∀ k,x∈bH S i k↔x<k∧(S.getD x Ref.st0).up=i
 | 0=>by simp [bH]
 | k+1=>by
  have ih:=gu (S:=S) (i:=i) (x:=x) k
  rw [bH]
  by_cases h:(S.getD k Ref.st0).up=i
  ·rw [if_pos h,List.mem_append,ih,List.mem_singleton]
   constructor
   ·rintro (⟨h1,h2⟩ | rfl)
    ·exact ⟨by omega,h2⟩
    ·exact ⟨by omega,h⟩
   ·rintro ⟨h1,h2⟩
    by_cases e:x=k
    ·exact .inr e
    ·exact .inl ⟨by omega,h2⟩
  ·rw [if_neg h,ih]
   constructor
   ·rintro ⟨h1,h2⟩;exact ⟨by omega,h2⟩
   ·rintro ⟨h1,h2⟩
    have:x≠k:=by rintro rfl;exact h h2
    exact ⟨by omega,h2⟩
def jy (s:Ref.State):Prop:=∃ k:Int,0≤k∧k≤4∧s.word=a7 k∧s.deep=decide (k=4)
theorem fI {s:Ref.State} {k:Int} (h0:0≤k) (h4:k≤4) (hw:s.word=a7 k) (hd:s.deep=decide (k=4)):ao s=k:=by
 have hk:k=0∨k=1∨k=2∨k=3∨k=4:=by omega
 unfold ao
 rw [hw,hd]
 rcases hk with rfl | rfl | rfl | rfl | rfl
 ·rw [show a7 0=jB from rfl,gL];rfl
 ·rw [show a7 1=eP from rfl,eC];rfl
 ·rw [show a7 2=jA from rfl,gB];rfl
 ·rw [show a7 3=dj from rfl,bZ];rfl
 ·rw [show a7 4=dj from rfl,bZ];rfl
theorem gx {s:Ref.State} (h:jy s):(s.word.toList == Ref.aX)=cH (ao s):=by
 obtain ⟨k,h0,h4,hw,hd⟩:=h
 rw [fI h0 h4 hw hd,hw]
 have hk:k=0∨k=1∨k=2∨k=3∨k=4:=by omega
 rcases hk with rfl | rfl | rfl | rfl | rfl
 ·rw [show a7 0=jB from rfl,gL];rfl
 ·rw [show a7 1=eP from rfl,eC];rfl
 ·rw [show a7 2=jA from rfl,gB];rfl
 ·rw [show a7 3=dj from rfl,bZ];rfl
 ·rw [show a7 4=dj from rfl,bZ];rfl
theorem k9 {s:Ref.State} (h:jy s):(s.word.toList == Ref.bV)=decide (ao s=2):=by
 obtain ⟨k,h0,h4,hw,hd⟩:=h
 rw [fI h0 h4 hw hd,hw]
 have hk:k=0∨k=1∨k=2∨k=3∨k=4:=by omega
 rcases hk with rfl | rfl | rfl | rfl | rfl
 ·rw [show a7 0=jB from rfl,gL];rfl
 ·rw [show a7 1=eP from rfl,eC];rfl
 ·rw [show a7 2=jA from rfl,gB];rfl
 ·rw [show a7 3=dj from rfl,bZ];rfl
 ·rw [show a7 4=dj from rfl,bZ];rfl
theorem wi {s:Ref.State} (h:jy s):(s.word.toList == Ref.aM)=decide (ao s=1):=by
 obtain ⟨k,h0,h4,hw,hd⟩:=h
 rw [fI h0 h4 hw hd,hw]
 have hk:k=0∨k=1∨k=2∨k=3∨k=4:=by omega
 rcases hk with rfl | rfl | rfl | rfl | rfl
 ·rw [show a7 0=jB from rfl,gL];rfl
 ·rw [show a7 1=eP from rfl,eC];rfl
 ·rw [show a7 2=jA from rfl,gB];rfl
 ·rw [show a7 3=dj from rfl,bZ];rfl
 ·rw [show a7 4=dj from rfl,bZ];rfl
theorem jc {s:Ref.State} (h:jy s):0≤ao s∧ao s≤4:=by
 obtain ⟨k,h0,h4,hw,hd⟩:=h
 rw [fI h0 h4 hw hd];exact ⟨h0,h4⟩
end Pro
namespace Pro
structure Inv (S:List Ref.State) (i:Nat):Prop where
 val:Val S
 words:∀ s∈S,jy s
 len:S.length≤24
 up:∀ k,k<S.length → -1≤(S.getD k Ref.st0).up∧(S.getD k Ref.st0).up<k
 enter:∀ s∈S,(0<s.has0↔s.enter≠[])
 leave:∀ s∈S,(0<s.has1↔s.leave≠[])
 moves:∀ s∈S,s.moves.length≤i
theorem Inv.nil:Inv [] 0:=⟨fun k h=>absurd h (by simp),fun s h=>absurd h (by simp),by simp,fun k h=>absurd h (by simp),fun s h=>absurd h (by simp),fun s h=>absurd h (by simp),fun s h=>absurd h (by simp)⟩
theorem dB {S:List Ref.State} {k:Nat} (h:k<S.length):S.getD k Ref.st0∈S:=by
 rw [List.getD_eq_getElem?_getD,List.getElem?_eq_getElem h];exact List.getElem_mem h
theorem getD_eq {S:List Ref.State} {k:Nat} (h:k<S.length):S.getD k Ref.st0=S[k]:=by
 rw [List.getD_eq_getElem?_getD,List.getElem?_eq_getElem h];rfl
theorem y9 {S:List Ref.State} {i:Nat} (hI:Inv S i) {k:Nat} (hk:k<(opn S).length):Ref.eO S ((k+1:Nat):Int)=((opn S)[k]:Int)∧(opn S)[k]<S.length:=by
 refine ⟨?_,fa S S.length _ (List.getElem_mem hk)⟩
 rw [jY hI.val,if_neg (by omega)]
 rw [show k+1-1=k from rfl,List.getElem?_eq_getElem hk]
theorem EA {S:List Ref.State} {i:Nat} (hI:Inv S i) {d:Nat} (h:(opn S).length<d):Ref.eO S (d:Int) = -1:=by
 rw [jY hI.val,if_neg (by omega),List.getElem?_eq_none (by omega)]
theorem s7 (S:List Ref.State) (u:Nat):Ref.xD (S.map Ref.emb) (u:Int)=(parts S u).isEmpty:=by
 unfold Ref.xD parts
 cases h:(bH S u S.length).isEmpty
 ·have hne:bH S u S.length≠[]:=fun e=>by rw [e] at h;cases h
  obtain ⟨x,t,e⟩:=List.exists_cons_of_ne_nil hne
  have hx:x∈bH S u S.length:=by rw [e];exact List.mem_cons_self
  obtain ⟨h1,h2⟩:=(gu S.length).1 hx
  rw [List.all_eq_false]
  exact ⟨Ref.emb (S.getD x Ref.st0),List.mem_map_of_mem (dB h1),by
   show ¬ (!decide ((S.getD x Ref.st0).up=(u:Int)))=true
   rw [decide_eq_true h2];simp⟩
 ·have hn:bH S u S.length=[]:=List.isEmpty_iff.1 h
  rw [List.all_eq_true]
  intro y hy
  obtain ⟨s,hs,rfl⟩:=List.mem_map.1 hy
  obtain ⟨k,hk,rfl⟩:=List.getElem_of_mem hs
  have:¬ k∈bH S u S.length:=by rw [hn];simp
  rw [gu,getD_eq hk] at this
  simp only [Ref.emb,Bool.not_eq_true']
  exact decide_eq_false fun e=>this ⟨hk,e⟩
theorem C4 {S:List Ref.State} {u:Nat} (h:u<S.length):(Ref.C3 (S.map Ref.emb) (u:Int)).s=S[u]:=by
 unfold Ref.C3
 rw [Int.toNat_natCast,List.getD_eq_getElem?_getD,List.getElem?_map,List.getElem?_eq_getElem h];rfl
theorem DJ {S:List Ref.State} {i:Nat} (hI:Inv S i) {ns:Ref.State} (hns:jy ns) {dep:Nat} (hdep:ns.depth=dep) {X:List DS} (hX:X.map (·.s)=S) (how:ns.up = -1∨∃ u:Nat,ns.up=u∧u<S.length) :
  Ref.fits (S.map Ref.emb) (Ref.emb ns)=(!decide (X.length=24)&&(!decide (5<dep)&&(if ns.up<0 then !cH (ao ns) else match X[ns.up.toNat]? with | some x=>holds x (parts S ns.up.toNat) (ao ns) | none=>false))):=by
 have hXl:X.length=S.length:=by rw [← hX,List.length_map]
 unfold Ref.fits
 rw [List.length_map,hXl]
 have hw:=gx hns
 have hf:=k9 hns
 simp only [Ref.emb]
 simp only [hdep,hw,hf]
 by_cases h24:S.length=24
 ·simp [h24]
 ·by_cases h5:5<dep
  ·have:(5:Int)<(dep:Int):=by omega
   simp [h24,h5,this]
  ·have h5':¬ (5:Int)<(dep:Int):=by omega
   rcases how with hu | ⟨u,hu,hul⟩
   ·simp only [hu]
    simp [h24,h5,h5']
   ·simp only [hu]
    have hneg:¬ (u:Int)<0:=by omega
    have hxu:X[u]?=some (X[u]'(by omega)):=List.getElem?_eq_getElem _
    have hxs:(X[u]'(by omega)).s=S[u]:=by
     have:=congrArg (fun l=>l[u]?) hX
     simp only [List.getElem?_map,hxu,List.getElem?_eq_getElem hul,Option.map_some] at this
     exact Option.some.inj this
    have hwu:=hI.words S[u] (List.getElem_mem hul)
    have hU:=C4 hul
    rw [hU,gx hwu,k9 hwu,wi hwu]
    have hn:=s7 S u
    rw [hn]
    simp only [Int.toNat_natCast,hxu]
    unfold holds
    rw [hxs]
    obtain ⟨r0,r4⟩:=jc hwu
    simp only [h24,h5,h5',hneg,decide_false,Bool.false_or,Bool.false_and,Bool.not_false,Bool.true_and,if_false,Bool.false_eq_true]
    have hk:ao S[u]=0∨ao S[u]=1∨ao S[u]=2∨ao S[u]=3∨ao S[u]=4:=by omega
    rcases hk with e | e | e | e | e <;> rw [e] <;> simp [cH]
theorem tR {num:Nat} {k:Int} {n:ByteArray} (up d:Int):Ref.o7 (aA num (.state k n)) up d=⟨a7 k,n,decide (k=4),up,d,num,[],[],[],0,0⟩:=rfl
theorem pJ {S:List Ref.State} {i num d:Nat} {k:Int} {n:ByteArray}:Ref.cZ S i (aA num (.state k n)) (d:Int)=if 0<d∧Ref.eO S d<0 then none else if Ref.fits (S.map Ref.emb) (Ref.emb ⟨a7 k,n,decide (k=4),Ref.eO S d,d,num,[],[],[],0,0⟩) then some (S++[⟨a7 k,n,decide (k=4),Ref.eO S d,d,num,[],[],[],0,0⟩]) else none:=by
 unfold Ref.cZ
 rw [if_pos (show (aA num (.state k n)).kind=115 from rfl),tR]
 have e:(0<(d:Int)∧Ref.eO S ↑d<0)=(0<d∧Ref.eO S ↑d<0):=by simp
 simp only [e]
theorem rH {S:List Ref.State} {i j num d:Nat} (hI:Inv S j) {ev t:ByteArray} {af:Bool} {dl:Int} {A:List Ref.Act}:Ref.cZ S i (aA num (.move ev af dl t A)) (d:Int) =
  if d=0 then none else match (opn S)[d-1]? with
   | none=>none
   | some u=>if ao (S.getD u Ref.st0)∈([2,3,4]:List Int) then none else some (Ref.kZ S u fun p=>{ p with moves:=p.moves++[⟨ev,t,af,dl,A,num⟩] }):=by
 unfold Ref.cZ
 rw [if_neg (show ¬ (aA num (.move ev af dl t A)).kind=115 by simp [aA]),if_pos (show (aA num (.move ev af dl t A)).kind=109 from rfl),jY hI.val]
 by_cases h0:d=0
 ·subst h0;simp
 ·rw [if_neg h0,if_neg h0]
  cases e:(opn S)[d-1]? with
  | none=>simp
  | some u =>
   have hu:u<S.length:=fa S S.length u (List.mem_of_getElem? e)
   have hw:=hI.words _ (dB hu)
   simp only [Int.toNat_natCast]
   rw [if_neg (by omega),if_neg (by omega),gx hw,k9 hw]
   obtain ⟨r0,r4⟩:=jc hw
   have hk:ao (S.getD u Ref.st0)=0∨ao (S.getD u Ref.st0)=1∨ao (S.getD u Ref.st0)=2∨ao (S.getD u Ref.st0)=3∨ao (S.getD u Ref.st0)=4:=by omega
   rcases hk with e | e | e | e | e <;> rw [e] <;> simp [cH,aA]
theorem xZ {S:List Ref.State} {i j num d:Nat} (hI:Inv S j) {A:List Ref.Act}:Ref.cZ S i (aA num (.enter A)) (d:Int) =
  if d=0 then none else match (opn S)[d-1]? with
   | none=>none
   | some u=>if ao (S.getD u Ref.st0)∈([3,4]:List Int) then none else if (S.getD u Ref.st0).enter≠[] then none else some (Ref.kZ S u fun p=>{ p with has0:=i+1,enter:=A }):=by
 unfold Ref.cZ
 rw [if_neg (show ¬ (aA num (.enter A)).kind=115 by simp [aA]),if_neg (show ¬ (aA num (.enter A)).kind=109 by simp [aA]),if_pos (show (aA num (.enter A)).kind=101 from rfl),jY hI.val]
 by_cases h0:d=0
 ·subst h0;simp
 ·rw [if_neg h0,if_neg h0]
  cases e:(opn S)[d-1]? with
  | none=>simp
  | some u =>
   have hu:u<S.length:=fa S S.length u (List.mem_of_getElem? e)
   have hw:=hI.words _ (dB hu)
   have he:=hI.enter _ (dB hu)
   simp only [Int.toNat_natCast]
   rw [if_neg (by omega),if_neg (by omega),gx hw]
   simp only [he]
   obtain ⟨r0,r4⟩:=jc hw
   have hk:ao (S.getD u Ref.st0)=0∨ao (S.getD u Ref.st0)=1∨ao (S.getD u Ref.st0)=2∨ao (S.getD u Ref.st0)=3∨ao (S.getD u Ref.st0)=4:=by omega
   rcases hk with e | e | e | e | e <;> rw [e] <;> simp [cH,aA]
theorem x6 {S:List Ref.State} {i j num d:Nat} (hI:Inv S j) {A:List Ref.Act}:Ref.cZ S i (aA num (.leave A)) (d:Int) =
  if d=0 then none else match (opn S)[d-1]? with
   | none=>none
   | some u=>if ao (S.getD u Ref.st0)∈([3,4]:List Int) then none else if (S.getD u Ref.st0).leave≠[] then none else some (Ref.kZ S u fun p=>{ p with has1:=i+1,leave:=A }):=by
 unfold Ref.cZ
 rw [if_neg (show ¬ (aA num (.leave A)).kind=115 by simp [aA]),if_neg (show ¬ (aA num (.leave A)).kind=109 by simp [aA]),if_neg (show ¬ (aA num (.leave A)).kind=101 by simp [aA]),if_pos (show (aA num (.leave A)).kind=108 from rfl),jY hI.val]
 by_cases h0:d=0
 ·subst h0;simp
 ·rw [if_neg h0,if_neg h0]
  cases e:(opn S)[d-1]? with
  | none=>simp
  | some u =>
   have hu:u<S.length:=fa S S.length u (List.mem_of_getElem? e)
   have hw:=hI.words _ (dB hu)
   have he:=hI.leave _ (dB hu)
   simp only [Int.toNat_natCast]
   rw [if_neg (by omega),if_neg (by omega),gx hw]
   simp only [he]
   obtain ⟨r0,r4⟩:=jc hw
   have hk:ao (S.getD u Ref.st0)=0∨ao (S.getD u Ref.st0)=1∨ao (S.getD u Ref.st0)=2∨ao (S.getD u Ref.st0)=3∨ao (S.getD u Ref.st0)=4:=by omega
   rcases hk with e | e | e | e | e <;> rw [e] <;> simp [cH,aA]
end Pro
namespace Pro
def aZ (S:List Ref.State):Nat→DataW Nat
 | 0 => .map []
 | k+1=>if Go.Maps.has (aZ S k) (.string (S.getD k Ref.st0).name.data.toList) then aZ S k else (aZ S k).put (.string (S.getD k Ref.st0).name.data.toList) (.lit (.int .i64 (S.getD k Ref.st0).line))
def de (S:List Ref.State):List (Int×Int):=S.map fun s=>(s.line,s.depth)
def dI (S:List Ref.State):Bool:=S.any fun s=>s.moves.any (·.after)
structure jw (S S':List Ref.State):Prop where
 len:S'.length=S.length
 same:∀ k,(S'.getD k Ref.st0).word=(S.getD k Ref.st0).word∧(S'.getD k Ref.st0).name=(S.getD k Ref.st0).name∧(S'.getD k Ref.st0).deep=(S.getD k Ref.st0).deep∧(S'.getD k Ref.st0).up=(S.getD k Ref.st0).up∧(S'.getD k Ref.st0).depth=(S.getD k Ref.st0).depth∧(S'.getD k Ref.st0).line=(S.getD k Ref.st0).line
theorem jw.Gn {S S':List Ref.State} (h:jw S S') (k:Nat):eR S' k=eR S k:=fJ k (fun i _=>(h.same i).2.2.2.2.1)
theorem jw.opn {S S':List Ref.State} (h:jw S S'):opn S'=opn S:=by unfold Pro.opn;rw [h.len];exact h.Gn _
theorem jw.parts {S S':List Ref.State} (h:jw S S') (i:Nat):parts S' i=parts S i:=by unfold Pro.parts;rw [h.len];exact iG i _ (fun j _=>(h.same j).2.2.2.1)
theorem jw.first {S S':List Ref.State} (h:jw S S'):∀ k,aZ S' k=aZ S k
 | 0=>rfl
 | k+1=>by rw [aZ,aZ,h.first k,(h.same k).2.1,(h.same k).2.2.2.2.2]
theorem jw.ir {S S':List Ref.State} (h:jw S S'):de S'=de S:=by
 unfold de
 apply List.ext_getElem
 ·simp [h.len]
 ·intro k h1 h2
  simp only [List.length_map] at h1 h2
  have:=h.same k
  rw [getD_eq h1,getD_eq h2] at this
  simp only [List.getElem_map]
  rw [this.2.2.2.2.1,this.2.2.2.2.2]
theorem qQ {S:List Ref.State} {u:Nat} {s':Ref.State} (h:s'.word=(S.getD u Ref.st0).word∧s'.name=(S.getD u Ref.st0).name∧s'.deep=(S.getD u Ref.st0).deep∧s'.up=(S.getD u Ref.st0).up∧s'.depth=(S.getD u Ref.st0).depth∧s'.line=(S.getD u Ref.st0).line):jw S (S.set u s'):=by
 refine ⟨List.length_set,fun k => ?_⟩
 by_cases e:u=k
 ·subst e
  by_cases hu:u<S.length
  ·have:(S.set u s').getD u Ref.st0=s':=by
    rw [List.getD_eq_getElem?_getD,List.getElem?_set];simp [hu]
   rw [this];exact h
  ·rw [List.set_eq_of_length_le (by omega)]
   exact ⟨rfl,rfl,rfl,rfl,rfl,rfl⟩
 ·have:(S.set u s').getD k Ref.st0=S.getD k Ref.st0:=by
   rw [List.getD_eq_getElem?_getD,List.getElem?_set,if_neg e,List.getD_eq_getElem?_getD]
  rw [this]
  exact ⟨rfl,rfl,rfl,rfl,rfl,rfl⟩
theorem DO {S:List Ref.State} {u i:Nat} {s':Ref.State} (hI:Inv S i) (hu:u<S.length) (h:s'.word=(S.getD u Ref.st0).word∧s'.name=(S.getD u Ref.st0).name∧s'.deep=(S.getD u Ref.st0).deep∧s'.up=(S.getD u Ref.st0).up∧s'.depth=(S.getD u Ref.st0).depth∧s'.line=(S.getD u Ref.st0).line)
  (h0:0<s'.has0↔s'.enter≠[]) (h1:0<s'.has1↔s'.leave≠[]) (hm:s'.moves.length≤i+1):Inv (S.set u s') (i+1):=by
 have H:=qQ h
 refine ⟨fun k hk => ?_,fun s hs => ?_,by rw [List.length_set];exact hI.len,fun k hk => ?_,fun s hs => ?_,fun s hs => ?_,fun s hs => ?_⟩
 ·rw [List.length_set] at hk
  rw [(H.same k).2.2.2.2.1,H.Gn];exact hI.val k hk
 ·rcases List.mem_or_eq_of_mem_set hs with h' | h'
  ·exact hI.words s h'
  ·obtain ⟨k,r0,r4,hw,hd⟩:=hI.words _ (dB hu)
   rw [h'];exact ⟨k,r0,r4,h.1.trans hw,h.2.2.1.trans hd⟩
 ·rw [List.length_set] at hk
  rw [(H.same k).2.2.2.1];exact hI.up k hk
 ·rcases List.mem_or_eq_of_mem_set hs with h' | h'
  ·exact hI.enter s h'
  ·rw [h'];exact h0
 ·rcases List.mem_or_eq_of_mem_set hs with h' | h'
  ·exact hI.leave s h'
  ·rw [h'];exact h1
 ·rcases List.mem_or_eq_of_mem_set hs with h' | h'
  ·have:=hI.moves s h';omega
  ·rw [h'];exact hm
theorem xg {S:List Ref.State} {i:Nat} {s:Ref.State} (hI:Inv S i) (hl:S.length≠24) (hw:jy s) (h0:0≤s.depth) (h1:s.depth.toNat≤(opn S).length) (hu0 : -1≤s.up) (hu:s.up<S.length) (he:s.enter=[]) (hlv:s.leave=[]) (hm:s.moves=[]) (hh0:s.has0=0) (hh1:s.has1=0):Inv (S++[s]) (i+1):=by
 have:=hI.len
 refine ⟨yg hI.val h0 h1,fun x hx => ?_,by simp;omega,fun k hk => ?_,fun x hx => ?_,fun x hx => ?_,fun x hx => ?_⟩
 ·rcases List.mem_append.1 hx with h | h
  ·exact hI.words x h
  ·rw [List.mem_singleton.1 h];exact hw
 ·by_cases h:k<S.length
  ·rw [bE h];exact hI.up k h
  ·have e:k=S.length:=by simp at hk;omega
   subst e
   rw [dq];exact ⟨hu0,hu⟩
 ·rcases List.mem_append.1 hx with h | h
  ·exact hI.enter x h
  ·rw [List.mem_singleton.1 h,he,hh0];simp
 ·rcases List.mem_append.1 hx with h | h
  ·exact hI.leave x h
  ·rw [List.mem_singleton.1 h,hlv,hh1];simp
 ·rcases List.mem_append.1 hx with h | h
  ·have:=hI.moves x h;omega
  ·rw [List.mem_singleton.1 h,hm];simp
theorem sJ (S:List Ref.State) (s:Ref.State):aZ (S++[s]) (S++[s]).length=if Go.Maps.has (aZ S S.length) (.string s.name.data.toList) then aZ S S.length else (aZ S S.length).put (.string s.name.data.toList) (.lit (.int .i64 s.line)):=by
 have hc:∀ k,k≤S.length→aZ (S++[s]) k=aZ S k:=by
  intro k
  induction k with
  | zero=>intro _;rfl
  | succ k ih=>intro hk;rw [aZ,aZ,ih (by omega),bE (by omega)]
 rw [List.length_append,show S.length+[s].length=S.length+1 from rfl,aZ,hc S.length (Nat.le_refl _),dq]
theorem tL (S:List Ref.State) (s:Ref.State):de (S++[s])=de S++[(s.line,s.depth)]:=by simp [de]
theorem tQ (S:List Ref.State) (s:Ref.State) (h:s.moves=[]):dI (S++[s])=dI S:=by simp [dI,h]
theorem pQ {S:List Ref.State} {u:Nat} {s':Ref.State} {m:Ref.Move} (hu:u<S.length) (h:s'.moves=(S.getD u Ref.st0).moves++[m]):dI (S.set u s')=(dI S||m.after):=by
 cases ha:(dI S||m.after)
 ·rw [Bool.or_eq_false_iff] at ha
  show List.any _ _=false
  rw [List.any_eq_false]
  intro x hx
  rcases List.mem_or_eq_of_mem_set hx with h' | h'
  ·have:=ha.1
   unfold dI at this
   rw [List.any_eq_false] at this
   exact this x h'
  ·rw [h',h,List.any_append]
   have h1:=ha.1
   unfold dI at h1
   rw [List.any_eq_false] at h1
   have:=h1 _ (dB hu)
   simp [ha.2] at this ⊢
   exact this
 ·show List.any _ _=true
  rw [List.any_eq_true]
  rw [Bool.or_eq_true] at ha
  rcases ha with ha | ha
  ·unfold dI at ha
   rw [List.any_eq_true] at ha
   obtain ⟨x,hx,hxa⟩:=ha
   obtain ⟨k,hk,rfl⟩:=List.getElem_of_mem hx
   by_cases e:u=k
   ·subst e
    refine ⟨s',List.mem_set hu _,?_⟩
    rw [h,List.any_append,getD_eq hu,hxa];rfl
   ·refine ⟨S[k],?_,hxa⟩
    have:(S.set u s')[k]'(by rw [List.length_set];exact hk)=S[k]:=by rw [List.getElem_set,if_neg e]
    rw [← this];exact List.getElem_mem _
  ·refine ⟨s',List.mem_set hu _,?_⟩
   rw [h,List.any_append];simp [ha]
end Pro
structure fU (w0 w:World) (db:Nat) (S:List Ref.State) (i:Nat):Prop where
 mem:∃ sv pv ov mb X nm,X.map (·.s)=S∧nm≤S.length∧al w0 w db sv pv ov mb (Pro.dI S) X (Pro.de S) (Pro.opn S) (Pro.parts S) nm (Pro.aZ S S.length)
 inv:Pro.Inv S i
def gj (w0:World) (db:Nat) (S:List Ref.State) (i d:Nat) (L:Pro.PL) (w:World) (e:Ending) (w':World):Prop:=match Ref.cZ S i (Pro.aA (i+1) L) (d:Int) with
 | none=>aY 3 ((i+1:Nat):Int) w e w'
 | some S'=>e = .returned (.tuple #[])∧fU w0 w' db S' (i+1)
theorem FU {i:Nat} (h:i≤1000000):(Lit.int .i64 ((i:Nat):Int)).wf=true:=WalkArith.wf_i64 (by omega)
theorem yL {X:List Pro.DS} {S:List Ref.State} (h:X.map (·.s)=S) {u:Nat} (hu:u<S.length):∃ hx:u<X.length,X[u].s=S.getD u Ref.st0:=by
 have hl:X.length=S.length:=by rw [← h,List.length_map]
 refine ⟨by omega,?_⟩
 subst h
 rw [Pro.getD_eq hu,List.getElem_map]
theorem xK (w0 w:World) (db:Nat) (S:List Ref.State) (i d:Nat) (k:Int) (n:ByteArray) (H:fU w0 w db S i) (hk0:0≤k) (hk4:k≤4) (hn:n.size≤1000000) (hd:d≤1000000) (hi:i≤100000) :
  Calls Tryz.prog 359 #[.agg (dM ((i+1:Nat):Int) d k n),.pointer (some ⟨db,0,none⟩)] w (gj w0 db S i d (.state k n) w):=by
 obtain ⟨⟨sv,pv,ov,mb,X,nm,hX,hnm,G⟩,I⟩:=H
 have hXl:X.length=S.length:=by rw [← hX,List.length_map]
 have hlen:=I.len
 have hol:=Pro.mS S S.length
 change (Pro.opn S).length≤S.length at hol
 unfold gj
 rw [Pro.pJ]
 by_cases hbad:0<d∧Ref.eO S d<0
 ·rw [if_pos hbad]
  refine nM _ d k n G hbad.1 ?_ (by omega)
  rcases Nat.lt_or_ge (Pro.opn S).length d with h | h
  ·exact h
  ·obtain ⟨d',rfl⟩:∃ d',d=d'+1:=⟨d-1,by omega⟩
   have:=(Pro.y9 I (k:=d') (by omega)).1
   have h2:=hbad.2
   rw [this] at h2;omega
 ·rw [if_neg hbad]
  obtain ⟨ns,hns⟩:∃ ns:Ref.State,ns=⟨Pro.a7 k,n,decide (k=4),Ref.eO S d,d,((i+1:Nat):Int),[],[],[],0,0⟩:=⟨_,rfl⟩
  have hdo:d≤(Pro.opn S).length:=by
   rcases Nat.lt_or_ge (Pro.opn S).length d with h | h
   ·exact absurd ⟨by omega,by rw [Pro.EA I h];decide⟩ hbad
   ·exact h
  have how:(d=0∧Ref.eO S d = -1)∨∃ (k u:Nat) (hk:k<(Pro.opn S).length),d=k+1∧(Pro.opn S)[k]=u∧Ref.eO S d=u∧u<X.length:=by
   by_cases h0:d=0
   ·subst h0;exact .inl ⟨rfl,rfl⟩
   ·obtain ⟨d',rfl⟩:∃ d',d=d'+1:=⟨d-1,by omega⟩
    obtain ⟨h1,h2⟩:=Pro.y9 I (k:=d') (by omega)
    exact .inr ⟨d',_,by omega,rfl,rfl,h1,by omega⟩
  have how2:Ref.eO S d = -1∨∃ u:Nat,Ref.eO S d=u∧u<S.length:=by
   rcases how with ⟨_,h⟩ | ⟨_,u,_,_,_,h,hu⟩
   ·exact .inl h
   ·exact .inr ⟨u,h,by omega⟩
  have hw:Pro.jy ns:=⟨k,hk0,hk4,by rw [hns],by rw [hns]⟩
  have hkd:Pro.ao ns=k:=Pro.fI hk0 hk4 (by rw [hns]) (by rw [hns])
  have hfit:=Pro.DJ I hw (dep:=d) (by rw [hns]) hX (by rw [hns];exact how2)
  have hst:=pI ((i+1:Nat):Int) d k (Ref.eO S d) n ns G (by omega) (by unfold Pro.de;rw [List.length_map];omega) (by omega) (fun j=>by have:=Pro.jT S j S.length;exact Nat.le_trans this (by omega)) (by omega)
   hkd (by rw [hns]) (by rw [hns]) (by rw [hns]) (by rw [hns]) (by rw [hns]) (by rw [hns]) hdo hn (FU (by omega)) how (by
    rw [hXl]
    exact Pro.lT _ (fun j hj e=>by have:=(I.up j hj).2;omega))
  refine Calls.mono hst ?_
  intro e w' h
  have hup:ns.up=Ref.eO S d:=by rw [hns]
  rw [hkd,hup] at hfit
  change _=gU X (Pro.parts S) d (Ref.eO S d) k at hfit
  rw [← hns,hfit]
  cases hok:gU X (Pro.parts S) d (Ref.eO S d) k
  ·rw [hok] at h
   exact h
  ·rw [hok] at h
   obtain ⟨rfl,sv',pv',ov',X',hX',G'⟩:=h
   have h24:S.length≠24:=by
    intro e
    unfold gU at hok
    rw [hXl,decide_eq_true e] at hok
    cases hok
   refine ⟨rfl,⟨sv',pv',ov',mb,X',nm+1,by rw [hX',hX],by simp;omega,?_⟩,?_⟩
   ·have e1:Pro.dI (S++[ns])=Pro.dI S:=Pro.tQ S ns (by rw [hns])
    have e2:Pro.de (S++[ns])=Pro.de S++[(((i+1:Nat):Int),(d:Int))]:=by rw [Pro.tL,hns]
    have e3:Pro.opn (S++[ns])=(Pro.opn S).take d++[X.length]:=by rw [Pro.xG,hXl,hns];rfl
    have e4:Pro.parts (S++[ns])=fun j:Nat=>if (j:Int)=Ref.eO S d then Pro.parts S j++[X.length] else Pro.parts S j:=by
     funext j;rw [Pro.tq,hXl,hup]
    have e5:Pro.aZ (S++[ns]) (S++[ns]).length=if Go.Maps.has (Pro.aZ S S.length) (.string n.data.toList) then Pro.aZ S S.length else (Pro.aZ S S.length).put (.string n.data.toList) (.lit (.int .i64 ((i+1:Nat):Int))):=by rw [Pro.sJ,hns]
    rw [e1,e2,e3,e4,e5];exact G'
   ·refine Pro.xg I h24 hw (by rw [hns];show (0:Int)≤(d:Int);omega) (by rw [hns];simpa using hdo) ?_ ?_ (by rw [hns]) (by rw [hns]) (by rw [hns]) (by rw [hns]) (by rw [hns])
    ·rw [hup];rcases how2 with h | ⟨u,h,_⟩ <;> omega
    ·rw [hup];rcases how2 with h | ⟨u,h,_⟩ <;> omega
theorem sH {w0 w':World} {db:Nat} {S:List Ref.State} {i u:Nat} {sv pv ov:Ref.Sl} {mb nm:Nat} {X:List Pro.DS} {x':Pro.DS} {tm:Bool} (hX:X.map (·.s)=S) (hnm:nm≤S.length) (I:Pro.Inv S i) (hu:u<S.length)
  (h:x'.s.word=(S.getD u Ref.st0).word∧x'.s.name=(S.getD u Ref.st0).name∧x'.s.deep=(S.getD u Ref.st0).deep∧x'.s.up=(S.getD u Ref.st0).up∧x'.s.depth=(S.getD u Ref.st0).depth∧x'.s.line=(S.getD u Ref.st0).line)
  (h0:0<x'.s.has0↔x'.s.enter≠[]) (h1:0<x'.s.has1↔x'.s.leave≠[]) (hm:x'.s.moves.length≤i+1) (ht:Pro.dI (S.set u x'.s)=tm)
  (G:al w0 w' db sv pv ov mb tm (X.set u x') (Pro.de S) (Pro.opn S) (Pro.parts S) nm (Pro.aZ S S.length)):fU w0 w' db (S.set u x'.s) (i+1):=by
 have H:=Pro.qQ h
 refine ⟨⟨sv,pv,ov,mb,X.set u x',nm,?_,by rw [List.length_set];exact hnm,?_⟩,Pro.DO I hu h h0 h1 hm⟩
 ·rw [List.map_set,hX]
 ·have e4:Pro.parts (S.set u x'.s)=Pro.parts S:=funext fun j=>H.parts j
  rw [ht,H.ir,H.opn,e4,H.len,H.first];exact G
theorem An (w0 w:World) (db:Nat) (S:List Ref.State) (i d:Nat) (ev t:ByteArray) (af:Bool) (dl:Int) (A:List Ref.Act) (v:Ref.Sl) (H:fU w0 w db S i) (hd:d≤1000000) (hi:i≤100000) (hA:w0.ownsRow 0 324 1 v.v A.length (A.map bp)) :
  Calls Tryz.prog 364 #[.agg #[.int .i64 ((i+1:Nat):Int),.int .i64 d,.string ev,.bool af,.int .u64 dl,.string t,.slice v.a v.n v.c],.pointer (some ⟨db,0,none⟩)] w (gj w0 db S i d (.move ev af dl t A) w):=by
 obtain ⟨⟨sv,pv,ov,mb,X,nm,hX,hnm,G⟩,I⟩:=H
 have hXl:X.length=S.length:=by rw [← hX,List.length_map]
 have hlen:=I.len
 have hol:=Pro.mS S S.length
 change (Pro.opn S).length≤S.length at hol
 have y:Pro.PV:=⟨⟨ev,t,af,dl,A,((i+1:Nat):Int)⟩,v⟩
 unfold gj
 rw [Pro.rH I]
 by_cases h0:d=0
 ·rw [if_pos h0]
  exact jO _ d ⟨⟨ev,t,af,dl,A,((i+1:Nat):Int)⟩,v⟩ G (.inl h0) (by omega)
 ·rw [if_neg h0]
  obtain ⟨d',rfl⟩:∃ d',d=d'+1:=⟨d-1,by omega⟩
  rw [show d'+1-1=d' from rfl]
  rcases Nat.lt_or_ge d' (Pro.opn S).length with hk | hk
  ·rw [List.getElem?_eq_getElem hk]
   have hu:(Pro.opn S)[d']<S.length:=Pro.fa S S.length _ (List.getElem_mem hk)
   obtain ⟨u,hue⟩:∃ u,u=(Pro.opn S)[d']:=⟨_,rfl⟩
   rw [← hue] at hu ⊢
   obtain ⟨hux,hxs⟩:=yL hX hu
   obtain ⟨g,cap,rfl⟩:=G.Cz (by omega)
   simp only
   by_cases hb:Pro.ao (S.getD u Ref.st0)∈([2,3,4]:List Int)
   ·rw [if_pos hb]
    exact qe _ (d'+1) ⟨⟨ev,t,af,dl,A,((i+1:Nat):Int)⟩,v⟩ d' u g cap G hk rfl (by omega) hue.symm hux (by rw [hxs];exact hb)
   ·rw [if_neg hb]
    have hml:=I.moves _ (Pro.dB hu)
    refine Calls.mono (qg _ (d'+1) ⟨⟨ev,t,af,dl,A,((i+1:Nat):Int)⟩,v⟩ d' u g cap G hk rfl (by omega) hue.symm hux (by rw [hxs];exact hb) hA (by rw [hxs];omega)) ?_
    rintro e w' ⟨rfl,vm',G'⟩
    refine ⟨rfl,?_⟩
    have he:=I.enter _ (Pro.dB hu)
    have hl:=I.leave _ (Pro.dB hu)
    have:=sH (x':=Pro.cd X[u] ⟨⟨ev,t,af,dl,A,((i+1:Nat):Int)⟩,v⟩ vm') hX hnm I hu (by simp [Pro.cd,hxs]) (by simpa [Pro.cd,hxs] using he) (by simpa [Pro.cd,hxs] using hl) (by simp [Pro.cd,hxs];simpa using hml) (Pro.pQ hu (m:=⟨ev,t,af,dl,A,((i+1:Nat):Int)⟩) (by simp [Pro.cd,hxs])) G'
    unfold Ref.kZ
    rw [← hxs]
    exact this
  ·rw [List.getElem?_eq_none hk]
   exact jO _ (d'+1) ⟨⟨ev,t,af,dl,A,((i+1:Nat):Int)⟩,v⟩ G (.inr (by omega)) (by omega)
end
end Go.Proofs.YtegmoddppafkfaaGreatDoor
