import Derived.Test.YtegmoddppafkfaaGreatDoorM00
import Derived.Test.YtegmoddppafkfaaGreatDoorM01
import Derived.Test.YtegmoddppafkfaaGreatDoorM16
import Derived.Deep.RegionHeld3
import Derived.Deep.RegionWith
import Derived.Deep.CutBlock
import Derived.Deep.DeepCutAuto
import Derived.Deep.QuietTactic
import Derived.BigQuiet
import Derived.Deep.LoopGhost
import Derived.Maps.AppendAt
import Derived.Deep.AppendLies
set_option maxRecDepth 100000
set_option maxHeartbeats 8000000
namespace Go.Proofs.YtegmoddppafkfaaGreatDoor
section
open Go.RowKit
namespace Pro
def pOf (P:ByteArray→Bool):List ByteArray→Option (ByteArray×List ByteArray)
 | []=>none
 | x::r=>if P x then some (x,r) else none
def fj:List ByteArray→Option (Int×List ByteArray)
 | []=>none
 | x::r=>if Ref.bI x then some (Ref.dM x,r) else none
def ml:ByteArray:=⟨#[114,97,105,115,101]⟩
def kn:ByteArray:=⟨#[115,101,110,100]⟩
def fo:ByteArray:=⟨#[99,97,110,99,101,108]⟩
def bAs:ByteArray:=⟨#[97,115]⟩
def cC (l:List ByteArray):Option ((ByteArray×Int×Option ByteArray)×List ByteArray) :=
 match pOf Ref.called l with
 | none=>none
 | some (x,l1)=>match fj l1 with
  | none=>none
  | some (d,[])=>some ((x,d,none),[])
  | some (d,y::r)=>if y.toList == bAs.toList then
    match pOf Ref.called r with
    | none=>none
    | some (a,l3)=>some ((x,d,some a),l3)
   else some ((x,d,none),y::r)
end Pro
theorem ai.cell {p:Nat} {w w':World} (h:ai p w w') {a:Addr} (hb:a.block<w.heap.size) (hp:¬ a.block=p):w'.cell? a=w.cell? a:=World.cell?_of_block (w:=w) (h.block a.block hb hp)
def dL (p:Nat) (num dep:Int) (res:Option (Value×List ByteArray)) (w:World) (e:Ending) (w':World):Prop:=match res with
 | none=>bS p 2 num w e w'
 | some (v,r)=>e = .returned v∧ai p w w'∧ag w' p num dep r
theorem eB (p:Nat) (num dep:Int) (l:List ByteArray) (w:World) (H:ag w p num dep l) (hv:bk p w) :
  Calls Tryz.prog 289 #[.pointer (some ⟨p,0,none⟩)] w (dL p num dep ((Pro.pOf Ref.called l).map fun q=>(.agg #[.string q.1],q.2)) w):=by
 cases l with
 | nil=>exact wY p num dep w H
 | cons x r =>
  cases hx:Ref.called x
  ·have:Pro.pOf Ref.called (x::r)=none:=by rw [Pro.pOf,hx];rfl
   rw [this];exact BS p num dep x r w H hv hx
  ·have:Pro.pOf Ref.called (x::r)=some (x,r):=by rw [Pro.pOf,hx];rfl
   rw [this];exact zP p num dep x r w H hv hx
theorem iI (p:Nat) (num dep:Int) (l:List ByteArray) (w:World) (H:ag w p num dep l) (hv:bk p w) :
  Calls Tryz.prog 222 #[.pointer (some ⟨p,0,none⟩)] w (dL p num dep ((Pro.fj l).map fun q=>(.int .u64 q.1,q.2)) w):=by
 cases l with
 | nil=>exact wj p num dep w H
 | cons x r =>
  cases hx:Ref.bI x
  ·have:Pro.fj (x::r)=none:=by rw [Pro.fj,hx];rfl
   rw [this];exact Bh p num dep x r w H hv hx
  ·have:Pro.fj (x::r)=some (Ref.dM x,r):=by rw [Pro.fj,hx];rfl
   rw [this];exact ze p num dep x r w H hv hx
theorem eR (p:Nat) (num dep:Int) (l:List ByteArray) (w:World) (H:ag w p num dep l) (hv:bk p w) :
  Calls Tryz.prog 219 #[.pointer (some ⟨p,0,none⟩),.func (.func 248) #[] #[]] w (dL p num dep ((Pro.pOf Ref.called l).map fun q=>(.string q.1,q.2)) w):=by
 cases l with
 | nil=>exact gZ p num dep _ w H
 | cons x r =>
  cases hx:Ref.called x
  ·have:Pro.pOf Ref.called (x::r)=none:=by rw [Pro.pOf,hx];rfl
   rw [this];exact kr p num dep x r w H hv hx
  ·have:Pro.pOf Ref.called (x::r)=some (x,r):=by rw [Pro.pOf,hx];rfl
   rw [this];exact jP p num dep x r w H hv hx
def ri (x:ByteArray) (d:Int):Option ByteArray→Value
 | none => .iface 329 (.agg #[.string x,.int .u64 d])
 | some a => .iface 331 (.agg #[.string x,.int .u64 d,.string a])
theorem vj (p:Nat) (num dep:Int) (l:List ByteArray) (w:World) (H:ag w p num dep l) (hv:bk p w) :
  Calls Tryz.prog 290 #[.pointer (some ⟨p,0,none⟩)] w (dL p num dep ((Pro.cC l).map fun q=>(ri q.1.1 q.1.2.1 q.1.2.2,q.2)) w):=by
 have hpl:=H.lt
 cases hn:Pro.pOf Ref.called l with
 | none =>
  have HS:Hid (Pro.cC l=none):=by unfold Hid Pro.cC;rw [hn]
  go_enter Tryz.func290,Tryz.ntmps290
  go_wp2_with fail
  refine (eB p num dep l _ H hv).mono ?_
  rintro e w1 h1
  rw [hn] at h1
  obtain ⟨ht,b,h3,h4,rfl⟩:=h1
  dsimp only
  refine ⟨rfl,?_⟩
  rw [HS.out]
  exact ⟨ht,b,h3,h4,rfl⟩
 | some q =>
  obtain ⟨x,l1⟩:=q
  cases hd:Pro.fj l1 with
  | none =>
   have HS:Hid (Pro.cC l=none):=by unfold Hid Pro.cC;rw [hn];simp only;rw [hd]
   go_enter Tryz.func290,Tryz.ntmps290
   go_wp2_with fail
   refine (eB p num dep l _ H hv).mono ?_
   rintro e w1 h1
   rw [hn] at h1
   obtain ⟨rfl,ht1,H1⟩:=h1
   dsimp only
   go_wp2_with fail
   refine (iI p num dep l1 _ H1 (hv.ah ht1)).mono ?_
   rintro e w2 h2
   rw [hd] at h2
   obtain ⟨ht,b,h3,h4,rfl⟩:=h2
   dsimp only
   refine ⟨rfl,?_⟩
   rw [HS.out]
   exact ⟨ht1.trans ht,b,Nat.le_trans ht1.size h3,h4,rfl⟩
  | some q =>
   obtain ⟨d,l2⟩:=q
   go_enter Tryz.func290,Tryz.ntmps290
   go_wp2_with fail
   refine (eB p num dep l _ H hv).mono ?_
   rintro e w1 h1
   rw [hn] at h1
   obtain ⟨rfl,ht1,H1⟩:=h1
   dsimp only
   go_wp2_with fail
   refine (iI p num dep l1 _ H1 (hv.ah ht1)).mono ?_
   rintro e w2 h2
   rw [hd] at h2
   obtain ⟨rfl,ht2,H2⟩:=h2
   dsimp only
   have ht:=ht1.trans ht2
   have hs2:=ht.size
   clear ht1 ht2 H1
   cases l2 with
   | nil =>
    have HS:Hid (Pro.cC l=some ((x,d,none),[])):=by unfold Hid Pro.cC;rw [hn];simp only;rw [hd]
    clear hn hd
    go_wp2_with fail
    refine (skip_none p num dep Pro.bAs _ (H2.alloc _)).mono ?_
    rintro e w9 ⟨rfl,hw9⟩
    rw [hw9]
    clear hw9 w9
    dsimp only
    go_wp2
    go_ret
    unfold dL
    rw [HS.out]
    exact ⟨rfl,ht.alloc _,H2.alloc _⟩
   | cons y r =>
    cases hy:(y.toList == Pro.bAs.toList)
    ·have HS:Hid (Pro.cC l=some ((x,d,none),y::r)):=by unfold Hid Pro.cC;rw [hn];simp only;rw [hd];simp only;rw [hy];rfl
     clear hn hd
     go_wp2_with fail
     refine (nS p num dep y r Pro.bAs _ (H2.alloc _) hy).mono ?_
     rintro e w9 ⟨rfl,hw9⟩
     rw [hw9]
     clear hw9 w9
     dsimp only
     go_wp2
     go_ret
     unfold dL
     rw [HS.out]
     exact ⟨rfl,ht.alloc _,H2.alloc _⟩
    ·have HS:Hid (Pro.cC l=match Pro.pOf Ref.called r with | none=>none | some (a,l3)=>some ((x,d,some a),l3)):=by unfold Hid Pro.cC;rw [hn];simp only;rw [hd];simp only;rw [hy];rfl
     clear hn hd
     go_wp2_with fail
     refine (iQ p num dep y r Pro.bAs _ (H2.alloc _) hy).mono ?_
     rintro e w3 ⟨rfl,ho3,H3⟩
     have hp2:=H2.lt
     have ht3:ai p w w3:=(ht.alloc _).trans ho3.ah
     have hN:w3.heap[w2.heap.size]?=some (.cells #[.string x,.int .u64 d] 329 (0,0)):=by
      rw [ho3.block w2.heap.size (by omega)];exact heap_alloc_new w2 _
     have cN0:w3.cell? ⟨w2.heap.size,0,none⟩=some (.string x):=by rw [cell_of_row w3 _ 0 _ _ _ hN];rfl
     have cN1:w3.cell? ⟨w2.heap.size,1,none⟩=some (.int .u64 d):=by rw [cell_of_row w3 _ 1 _ _ _ hN];rfl
     have hNl:w2.heap.size<w3.heap.size:=(Array.getElem?_eq_some_iff.1 hN).1
     clear ho3
     dsimp only
     go_wp2_with fail
     have hv3:bk p w3.drew:=(hv.ah ht3).ah (ai.refl p w3).drew
     have H3d:ag w3.drew p num dep r:=H3.drew
     have HN:Hid (w2.heap.size<w3.heap.size∧¬ w2.heap.size=p):=⟨hNl,by omega⟩
     cases hr:Pro.pOf Ref.called r with
     | none =>
      have HS2:Hid (Pro.cC l=none):=by unfold Hid;rw [HS.out,hr]
      refine wp_region_any (by kernel_rfl) ?_
      change wpAny _ _ _ _ _ _ _ (World.drew _)
      refine yA [0,1] ?_
      refine AllReady.cons rfl (fun K hK => ?_) (AllReady.cons rfl (fun K hK => ?_) AllReady.nil)
      ·go_simp
       refine hK _ _ ?_
       clear hK K
       refine zA 1 rfl fun K hK => ?_
       go_simp
       refine hK _ _ ?_
       clear hK K
       refine zA 2 rfl fun K hK => ?_
       go_simp
       (refine (eR p num dep r _ H3d hv3).mono ?_;rintro e w4 h4;rw [hr] at h4;obtain ⟨ht,b,h5,h6,rfl⟩:=h4;dsimp only;refine ⟨rfl,?_⟩;rw [HS2.out];exact ⟨ht3.trans ((ai.refl p w3).drew.trans ht),b,Nat.le_trans ht3.size h5,h6,rfl⟩)
      ·go_simp
       refine hK _ _ ?_
       clear hK K
       refine yA [0,2] ?_
       refine AllReady.cons rfl (fun K hK => ?_) (AllReady.cons rfl (fun K hK => ?_) AllReady.nil)
       ·go_simp
        refine hK _ _ ?_
        clear hK K
        refine zA 2 rfl fun K hK => ?_
        go_simp
        (refine (eR p num dep r _ H3d hv3).mono ?_;rintro e w4 h4;rw [hr] at h4;obtain ⟨ht,b,h5,h6,rfl⟩:=h4;dsimp only;refine ⟨rfl,?_⟩;rw [HS2.out];exact ⟨ht3.trans ((ai.refl p w3).drew.trans ht),b,Nat.le_trans ht3.size h5,h6,rfl⟩)
       ·go_simp
        (refine (eR p num dep r _ H3d hv3).mono ?_;rintro e w4 h4;rw [hr] at h4;obtain ⟨ht,b,h5,h6,rfl⟩:=h4;dsimp only;refine ⟨rfl,?_⟩;rw [HS2.out];exact ⟨ht3.trans ((ai.refl p w3).drew.trans ht),b,Nat.le_trans ht3.size h5,h6,rfl⟩)
     | some q =>
      obtain ⟨a,l3⟩:=q
      have HS2:Hid (Pro.cC l=some ((x,d,some a),l3)):=by unfold Hid;rw [HS.out,hr]
      go_region_held3 (fun W=>W.cell? ⟨w2.heap.size,0,none⟩=some (.string x)∧W.cell? ⟨w2.heap.size,1,none⟩=some (.int .u64 d)) (first | go_keep | exact ⟨k0,k1⟩)
       ((go_at_call 219;refine (eR p num dep r _ H3d hv3).mono ?_;rintro e w4 h4;rw [hr] at h4;obtain ⟨rfl,ht4,H4⟩:=h4;have k0:=(ht4.cell (a:=⟨w2.heap.size,0,none⟩) HN.out.1 HN.out.2).trans cN0;have k1:=(ht4.cell (a:=⟨w2.heap.size,1,none⟩) HN.out.1 HN.out.2).trans cN1;dsimp only))
      go_wp2
      go_ret
      unfold dL
      rw [HS2.out]
      exact ⟨rfl,ht3.trans ((ai.refl p w3).drew.trans ht4),H4⟩
namespace Pro
def bc:List ByteArray→Option (Ref.Act×List ByteArray)
 | []=>none
 | x::r =>
  if x.toList == Ref.dZ then (pOf Ref.called r).map fun q=>(⟨ml,q.1,ByteArray.empty,0⟩,q.2)
  else if x.toList == Ref.jB then (cC r).map fun q=>(⟨kn,q.1.1,q.1.2.2.getD ByteArray.empty,q.1.2.1⟩,q.2)
  else if x.toList == Ref.dU then (pOf Ref.called r).map fun q=>(⟨fo,ByteArray.empty,q.1,0⟩,q.2)
  else none
end Pro
def aZ (a:Ref.Act):Value :=
 if a.how.toList == Ref.dZ then .iface 435 (.agg #[.string a.event])
 else if a.how.toList == Ref.dU then .iface 333 (.agg #[.string a.id])
 else ri a.event a.delay (if a.id.size=0 then none else some a.id)
theorem kV:Pro.ml.toList=Ref.dZ:=by rw [ByteArray.toList_eq];rfl
theorem j9:Pro.kn.toList=Ref.jB:=by rw [ByteArray.toList_eq];rfl
theorem fy:Pro.fo.toList=Ref.dU:=by rw [ByteArray.toList_eq];rfl
theorem z7 {s:ByteArray} (h:Ref.plain s=true):¬ s.size=0:=by
 rw [Ref.plain,Bool.and_eq_true,Bool.and_eq_true,decide_eq_true_eq] at h;omega
theorem v8 {s:ByteArray} (h:Ref.called s=true):¬ s.size=0:=by
 rw [Ref.called,Bool.or_eq_true] at h
 rcases h with h | h
 ·exact z7 h
 ·rw [Ref.jL,Bool.and_eq_true] at h
  have:=Ref.mS h.1
  have e:Ref.bw.size=6:=rfl
  omega
theorem fI {P:ByteArray→Bool} {l r:List ByteArray} {x:ByteArray} (h:Pro.pOf P l=some (x,r)):P x=true∧l=x::r:=by
 cases l with
 | nil=>cases h
 | cons y t =>
  rw [Pro.pOf] at h
  split at h
  ·cases h;exact ⟨by assumption,rfl⟩
  ·cases h
theorem B9 {l r:List ByteArray} {x:ByteArray} {d:Int} {a:ByteArray} (h:Pro.cC l=some ((x,d,some a),r)):¬ a.size=0:=by
 unfold Pro.cC at h
 split at h
 ·cases h
 ·split at h
  ·cases h
  ·cases h
  ·split at h
   ·split at h
    ·cases h
    ·rename_i hq
     cases h
     exact v8 (fI hq).1
   ·cases h
theorem vU (n:ByteArray):aZ ⟨Pro.ml,n,ByteArray.empty,0⟩ = .iface 435 (.agg #[.string n]):=by
 unfold aZ
 rw [kV,if_pos (by decide)]
theorem tK (n:ByteArray):aZ ⟨Pro.fo,ByteArray.empty,n,0⟩ = .iface 333 (.agg #[.string n]):=by
 unfold aZ
 rw [fy,if_neg (by decide),if_pos (by decide)]
theorem yL {l r:List ByteArray} {x:ByteArray} {d:Int} {o:Option ByteArray} (h:Pro.cC l=some ((x,d,o),r)):aZ ⟨Pro.kn,x,o.getD ByteArray.empty,d⟩=ri x d o:=by
 unfold aZ
 rw [j9,if_neg (by decide),if_neg (by decide)]
 cases o with
 | none=>rfl
 | some a=>rw [if_neg (show ¬ (Option.getD (some a) ByteArray.empty).size=0 from B9 h)];rfl
theorem nZ (p:Nat) (num dep:Int) (l:List ByteArray) (w:World) (H:ag w p num dep l) (hv:bk p w) :
  Calls Tryz.prog 274 #[.pointer (some ⟨p,0,none⟩)] w (dL p num dep ((Pro.bc l).map fun q=>(aZ q.1,q.2)) w):=by
 cases l with
 | nil =>
  go_enter Tryz.func274,Tryz.ntmps274
  go_wp2_with fail
  refine (j5 p num dep _ H).mono ?_
  rintro e w1 h1
  obtain ⟨ht,b,h3,h4,rfl⟩:=bK (ai.refl p w) h1
  dsimp only
  exact ⟨rfl,ht,b,h3,h4,rfl⟩
 | cons x r =>
  cases h1:(x.toList == [114,97,105,115,101])
  ·cases h2:(x.toList == [115,101,110,100])
   ·cases h3:(x.toList == [99,97,110,99,101,108])
    ·have HS:Hid (Pro.bc (x::r)=none):=by unfold Hid;rw [Pro.bc,Ref.dZ,h1,Ref.jB,h2,Ref.dU,h3];rfl
     go_enter Tryz.func274,Tryz.ntmps274
     go_wp2_with fail
     refine (ay p num dep x r _ H).mono ?_
     rintro e w1 ⟨rfl,ho,H1⟩
     have ht1:=ho.ah
     obtain ⟨c0,c1⟩:=H1.cells
     clear ho
     dsimp only
     go_wp2_with fail
     refine (aK num dep 2 _).mono ?_
     rintro e w2 hq
     obtain ⟨ht,b,h4,h5,rfl⟩:=bK ht1 hq
     dsimp only
     refine ⟨rfl,?_⟩
     rw [HS.out]
     exact ⟨ht,b,h4,h5,rfl⟩
    ·cases hn:Pro.pOf Ref.called r with
     | none =>
      have HS:Hid (Pro.bc (x::r)=none):=by unfold Hid;rw [Pro.bc,Ref.dZ,h1,Ref.jB,h2,Ref.dU,h3,hn];rfl
      go_enter Tryz.func274,Tryz.ntmps274
      go_wp2_with fail
      refine (ay p num dep x r _ H).mono ?_
      rintro e w1 ⟨rfl,ho,H1⟩
      have ht1:=ho.ah
      clear ho
      dsimp only
      go_wp2_with fail
      refine (eB p num dep r _ H1 (hv.ah ht1)).mono ?_
      rintro e w2 hq
      rw [hn] at hq
      obtain ⟨ht,b,h4,h5,rfl⟩:=hq
      dsimp only
      refine ⟨rfl,?_⟩
      rw [HS.out]
      exact ⟨ht1.trans ht,b,Nat.le_trans ht1.size h4,h5,rfl⟩
     | some q =>
      obtain ⟨n,r'⟩:=q
      have HS:Hid (Pro.bc (x::r)=some (⟨Pro.fo,ByteArray.empty,n,0⟩,r')):=by unfold Hid;rw [Pro.bc,Ref.dZ,h1,Ref.jB,h2,Ref.dU,h3,hn];rfl
      go_enter Tryz.func274,Tryz.ntmps274
      go_wp2_with fail
      refine (ay p num dep x r _ H).mono ?_
      rintro e w1 ⟨rfl,ho,H1⟩
      have ht1:=ho.ah
      clear ho
      dsimp only
      go_wp2_with fail
      refine (eB p num dep r _ H1 (hv.ah ht1)).mono ?_
      rintro e w2 hq
      rw [hn] at hq
      obtain ⟨rfl,ht2,H2⟩:=hq
      clear hn
      dsimp only
      go_wp2
      go_ret
      unfold dL
      rw [HS.out]
      exact ⟨by rw [tK];rfl,ht1.trans ht2,H2⟩
   ·cases hn:Pro.cC r with
    | none =>
     have HS:Hid (Pro.bc (x::r)=none):=by unfold Hid;rw [Pro.bc,Ref.dZ,h1,Ref.jB,h2,hn];rfl
     go_enter Tryz.func274,Tryz.ntmps274
     go_wp2_with fail
     refine (ay p num dep x r _ H).mono ?_
     rintro e w1 ⟨rfl,ho,H1⟩
     have ht1:=ho.ah
     clear ho
     dsimp only
     go_wp2_with fail
     refine (vj p num dep r _ H1 (hv.ah ht1)).mono ?_
     rintro e w2 hq
     rw [hn] at hq
     obtain ⟨ht,b,h4,h5,rfl⟩:=hq
     dsimp only
     refine ⟨rfl,?_⟩
     rw [HS.out]
     exact ⟨ht1.trans ht,b,Nat.le_trans ht1.size h4,h5,rfl⟩
    | some q =>
     obtain ⟨⟨n,d,o⟩,r'⟩:=q
     have HS:Hid (Pro.bc (x::r)=some (⟨Pro.kn,n,o.getD ByteArray.empty,d⟩,r')):=by unfold Hid;rw [Pro.bc,Ref.dZ,h1,Ref.jB,h2,hn];rfl
     have HV:Hid _:=yL hn
     go_enter Tryz.func274,Tryz.ntmps274
     go_wp2_with fail
     refine (ay p num dep x r _ H).mono ?_
     rintro e w1 ⟨rfl,ho,H1⟩
     have ht1:=ho.ah
     clear ho
     dsimp only
     go_wp2_with fail
     refine (vj p num dep r _ H1 (hv.ah ht1)).mono ?_
     rintro e w2 hq
     rw [hn] at hq
     obtain ⟨rfl,ht2,H2⟩:=hq
     clear hn
     dsimp only
     go_wp2
     go_ret
     unfold dL
     rw [HS.out]
     exact ⟨by rw [HV.out];rfl,ht1.trans ht2,H2⟩
  ·cases hn:Pro.pOf Ref.called r with
   | none =>
    have HS:Hid (Pro.bc (x::r)=none):=by unfold Hid;rw [Pro.bc,Ref.dZ,h1,hn];rfl
    go_enter Tryz.func274,Tryz.ntmps274
    go_wp2_with fail
    refine (ay p num dep x r _ H).mono ?_
    rintro e w1 ⟨rfl,ho,H1⟩
    have ht1:=ho.ah
    clear ho
    dsimp only
    go_wp2_with fail
    refine (eB p num dep r _ H1 (hv.ah ht1)).mono ?_
    rintro e w2 hq
    rw [hn] at hq
    obtain ⟨ht,b,h4,h5,rfl⟩:=hq
    dsimp only
    refine ⟨rfl,?_⟩
    rw [HS.out]
    exact ⟨ht1.trans ht,b,Nat.le_trans ht1.size h4,h5,rfl⟩
   | some q =>
    obtain ⟨n,r'⟩:=q
    have HS:Hid (Pro.bc (x::r)=some (⟨Pro.ml,n,ByteArray.empty,0⟩,r')):=by unfold Hid;rw [Pro.bc,Ref.dZ,h1,hn];rfl
    go_enter Tryz.func274,Tryz.ntmps274
    go_wp2_with fail
    refine (ay p num dep x r _ H).mono ?_
    rintro e w1 ⟨rfl,ho,H1⟩
    have ht1:=ho.ah
    clear ho
    dsimp only
    go_wp2_with fail
    refine (eB p num dep r _ H1 (hv.ah ht1)).mono ?_
    rintro e w2 hq
    rw [hn] at hq
    obtain ⟨rfl,ht2,H2⟩:=hq
    clear hn
    dsimp only
    go_wp2
    go_ret
    unfold dL
    rw [HS.out]
    exact ⟨by rw [vU];rfl,ht1.trans ht2,H2⟩
namespace Ref
structure Ay (a:Act):Prop where
 how:a.how.size≤1073741824
 event:a.event.size≤1073741824
 id:a.id.size≤1073741824
 delay:∃ n:Nat,a.delay=n∧n≤18446744073709551615
def yk (k:Int) (x:SV):Bool:=decide (x.s.up=k) && !(x.s.word.toList == a7)
def pf (X:List SV) (k:Int):Nat→List Nat
 | 0=>[]
 | i+1=>if (X[i]?.map (yk k)).getD false then pf X k i++[i] else pf X k i
def regions (X:List SV) (k:Int):List Nat:=pf X k X.length
end Ref
def vQ (w:World) (v:Value) (A:List Ref.Act):Prop:=Row w 122 4 Ref.AI v A
namespace Ref
def CN (X:List SV) (k:Int):SV:=X.getD k.toNat ⟨⟨ByteArray.empty,ByteArray.empty,false,0,0,0,[],[],[],0,0⟩,Sl.nil,Sl.nil,Sl.nil⟩
def xd (X:List SV) (u:Int):Bool:=X.all fun y => !decide (y.s.up=u)
def fits (X:List SV) (x:SV):Bool :=
 if decide (X.length=24)||(decide (5<x.s.depth)||(decide (x.s.up<0)&&(x.s.word.toList == a7))) then false
 else if x.s.up<0 then true
 else if ((CN X x.s.up).s.word.toList == bU)||((CN X x.s.up).s.word.toList == a7) then false
 else if (CN X x.s.up).s.word.toList == aM then !(x.s.word.toList == bU)
 else !xd X x.s.up || !(x.s.word.toList == a7)
end Ref
namespace Ref
def Es (ms:List Move):Bool:=ms.any (·.after)
def Gg (X:List SV):Bool:=X.any fun x=>Es x.s.moves
def D7 (X:List SV) (t:Bool) (m:Move):Bool:=(!(m.to.toList == [])&&decide (place X m.to<0))||(t&&(dE m.ak||(!m.after&&bH m.event bw)))
def CD (X:List SV) (t:Bool) (at':Int) (m:Move):Int:=if D7 X t m then lj at' m.line else at'
def CC (t:Bool) (a2:Int) (x:State):Int :=
 if t&&dE x.leave then lj (if t&&dE x.enter then lj a2 x.has0 else a2) x.has1 else if t&&dE x.enter then lj a2 x.has0 else a2
def Al (X:List SV) (t:Bool) (k:Nat) (at':Int) (x:State):Int :=
 CC t (x.moves.foldl (CD X t) (if place X x.name<k then lj at' x.line else at')) x
def sL (X:List SV) (t:Bool):Nat→Int
 | 0=>0
 | k+1=>match X[k]? with
  | some x=>Al X t k (sL X t k) x.s
  | none=>sL X t k
def named (X:List SV):Int:=sL X (Gg X) X.length
end Ref
def CX (w:World) (vm:Ref.Sl) (M:List Ref.MV):Prop:=Row w 120 6 Ref.D8 vm.v M∧∀ x∈M,vQ w x.v.v x.m.ak
structure EW (m:Ref.Move):Prop where
 event:m.event.size≤1073741824
 dst:m.to.size≤1073741824
 ak:∀ a∈m.ak,Ref.Ay a
 len:m.ak.length≤1048576
structure Deep (w:World) (x:Ref.SV):Prop where
 moves:∃ M:List Ref.MV,M.map (·.m)=x.s.moves∧CX w x.vm M
 enter:vQ w x.ve.v x.s.enter
 leave:vQ w x.vl.v x.s.leave
 okM:∀ m∈x.s.moves,EW m
 okE:∀ a∈x.s.enter,Ref.Ay a
 okL:∀ a∈x.s.leave,Ref.Ay a
 lenM:x.s.moves.length≤1048576
 lenE:x.s.enter.length≤1048576
 lenL:x.s.leave.length≤1048576
 name:x.s.name.size≤1073741824
namespace Ref
def emb (s:State):SV:=⟨s,Sl.nil,Sl.nil,Sl.nil⟩
def st0:State:=⟨ByteArray.empty,ByteArray.empty,false,0,0,0,[],[],[],0,0⟩
def vM (S:List State) (d:Int):Nat→Int
 | 0 => -1
 | k+1=>if (S.getD k st0).depth=d-1 then (k:Int) else if (S.getD k st0).depth<d-1 then -1 else vM S d k
def eE (S:List State) (d:Int):Int:=if 0<d then vM S d S.length else -1
def oV (x:nx) (up d:Int):State:=⟨x.word,x.name,x.deep,up,d,x.sline,[],[],[],0,0⟩
def kZ (S:List State) (k:Nat) (f:State→State):List State:=S.set k (f (S.getD k st0))
def cR (S:List State) (i:Nat) (x:nx) (d:Int):Option (List State) :=
 if 0<d∧eE S d<0 then none
 else if x.kind=115 then
  if fits (S.map emb) (emb (oV x (eE S d) d)) then some (S++[oV x (eE S d) d]) else none
 else if eE S d<0 then none
 else if (S.getD (eE S d).toNat st0).word.toList == a7 then none
 else if x.kind=109 then
  if (S.getD (eE S d).toNat st0).word.toList == bU then none
  else some (kZ S (eE S d).toNat fun p=>{ p with moves:=p.moves++[x.m] })
 else if x.kind=101 then
  if 0<(S.getD (eE S d).toNat st0).has0 then none
  else some (kZ S (eE S d).toNat fun p=>{ p with has0:=i+1,enter:=x.ak })
 else if x.kind=108 then
  if 0<(S.getD (eE S d).toNat st0).has1 then none
  else some (kZ S (eE S d).toNat fun p=>{ p with has1:=i+1,leave:=x.ak })
 else some S
def bM (A:List (nx×Int)):Nat→Option (List State)
 | 0=>some []
 | i+1=>match bM A i with
  | none=>none
  | some S=>match A[i]? with
   | none=>some S
   | some (x,d)=>cR S i x d
def ej (S:List State):Nat→Option Int
 | 0=>none
 | k+1=>match ej S k with
  | some l=>some l
  | none=>if ((S.getD k st0).word.toList == aM)&&(regions (S.map emb) k).isEmpty then some (S.getD k st0).line else none
theorem o0 {S:List State} {i:Nat} {l:Int} (h:ej S i=some l):∀ j,i≤j→ej S j=some l
 | 0,hj=>by rw [Nat.le_zero.1 hj] at h;exact h
 | j+1,hj=>by
  by_cases e:i=j+1
  ·rw [← e];exact h
  ·rw [ej,o0 h j (by omega)]
structure LV where
 L:nx
 vm:Sl
 vd:Sl
end Ref
def dG (n:Nat):List Value:=[.int .i64 n]
theorem Row.range {α:Type} {w:World} {e:TypeId} {n:Nat} {f:α→List Value} {g cap:Nat} {X:List α} (hf:∀ x,(f x).length=n) (h:Row w e n f (.slice (some ⟨g,0,none⟩) X.length cap) X) {i:Nat} (hi:i<X.length) :
  w.rangeAt g (i*n) (f X[i]):=by
 intro j v hj
 have hjn:j<n:=by rw [← hf X[i]];exact (List.getElem?_eq_some_iff.1 hj).1
 rw [Row.cell hf h hjn hi];exact hj
theorem oA {α:Type} {f:α→List Value} {n:Nat} (hf:∀ x,(f x).length=n):∀ (X:List α) (i j:Nat) (v:Value) (x':α),j<n→∀ (h:i<X.length),f x'=(f X[i]).set j v→(X.flatMap f).set (i*n+j) v=(X.set i x').flatMap f
 | [],i,j,v,x',_,h,_=>by simp at h
 | x::X,0,j,v,x',hj,_,e=>by
  rw [List.flatMap_cons,Nat.zero_mul,Nat.zero_add,List.set_append_left _ _ (by rw [hf];exact hj),List.set_cons_zero,List.flatMap_cons,e];rfl
 | x::X,i+1,j,v,x',hj,h,e=>by
  have hlen:(f x).length=n:=hf x
  rw [List.flatMap_cons,Nat.succ_mul,List.set_append_right _ _ (by rw [hlen];omega),hlen,List.set_cons_succ,List.flatMap_cons]
  rw [show i*n+n+j-n=i*n+j from by omega,oA hf X i j v x' hj (by simpa using h) e]
theorem j7 {g base size n:Nat} {e e':TypeId} {v:Value} {xs:List Value} {w w':World} {c:Array Value} {fz:Nat×Nat} (h:w.ownsRow base e size v n xs) (ho:fK g w w') (hg:w.heap[g]?=some (.cells c e' fz)) (hne:e≠e'):w'.ownsRow base e size v n xs:=by
 refine ⟨h.1,?_⟩
 rcases h.2 with h' | ⟨k,cap,cur,hv,hb,hk,r⟩
 ·exact .inl h'
 ·have hkg:k≠g:=by
   intro e0;subst e0
   rw [hg] at hk
   simp only [Option.some.injEq,Obj.cells.injEq] at hk
   exact hne hk.2.1.symm
  exact .inr ⟨k,cap,cur,hv,hb,by rw [ho.block k hkg];exact hk,r⟩
theorem aT {base size n:Nat} {e:TypeId} {v:Value} {xs:List Value} {w w':World} (h:w.ownsRow base e size v n xs) (hb:Below w.heap.size w w'):w'.ownsRow base e size v n xs:=by
 refine ⟨h.1,?_⟩
 rcases h.2 with h' | ⟨g,cap,cur,hv,hb',hg,r⟩
 ·exact .inl h'
 ·exact .inr ⟨g,cap,cur,hv,hb',by rw [hb.block g ((Array.getElem?_eq_some_iff.1 hg).1)];exact hg,r⟩
theorem im {A:List (Ref.nx×Int)} {i:Nat} (h:Ref.bM A i=none):∀ j,i≤j→Ref.bM A j=none
 | 0,hj=>by rw [Nat.le_zero.1 hj] at h;exact h
 | j+1,hj=>by
  by_cases e:i=j+1
  ·rw [← e];exact h
  ·rw [Ref.bM,im h j (by omega)]
namespace Pro
def bDo:ByteArray:=⟨#[100,111]⟩
def e8:Nat→List ByteArray→Option (List Ref.Act×List ByteArray)
 | 0,l=>some ([],l)
 | _+1,[]=>some ([],[])
 | f+1,x::r =>
  if x.toList == bDo.toList then
   match bc r with
   | none=>none
   | some (a,r')=>match e8 f r' with
    | none=>none
    | some (A,t)=>some (a::A,t)
  else some ([],x::r)
def aO (l:List ByteArray):Option (List Ref.Act×List ByteArray):=e8 l.length l
theorem nP {P:ByteArray→Bool} {l r:List ByteArray} {x:ByteArray} (h:pOf P l=some (x,r)):r.length+1=l.length:=by
 rw [(fI h).2];rfl
theorem kS {l r:List ByteArray} {d:Int} (h:fj l=some (d,r)):r.length+1=l.length:=by
 cases l with
 | nil=>cases h
 | cons y t =>
  rw [fj] at h
  split at h
  ·cases h;rfl
  ·cases h
theorem zW {l r:List ByteArray} {q:ByteArray×Int×Option ByteArray} (h:cC l=some (q,r)):r.length<l.length:=by
 unfold cC at h
 split at h
 ·cases h
 ·rename_i x l1 h1
  have e1:=nP h1
  split at h
  ·cases h
  ·rename_i d h2
   have e2:=kS h2
   cases h;simp at e2 ⊢;omega
  ·rename_i d y t h2
   have e2:=kS h2
   simp only [List.length_cons] at e2
   split at h
   ·split at h
    ·cases h
    ·rename_i a l3 h3
     have e3:=nP h3
     cases h;omega
   ·cases h;simp only [List.length_cons];omega
theorem ie {l r:List ByteArray} {a:Ref.Act} (h:bc l=some (a,r)):r.length<l.length:=by
 cases l with
 | nil=>cases h
 | cons x t =>
  rw [bc] at h
  simp only [List.length_cons]
  split at h
  ·obtain ⟨⟨n,r'⟩,h1,h2⟩:=Option.map_eq_some_iff.1 h
   cases h2
   have:=nP h1
   dsimp only at this ⊢;omega
  ·split at h
   ·obtain ⟨⟨n,r'⟩,h1,h2⟩:=Option.map_eq_some_iff.1 h
    cases h2
    have:=zW h1
    dsimp only at this ⊢;omega
   ·split at h
    ·obtain ⟨⟨n,r'⟩,h1,h2⟩:=Option.map_eq_some_iff.1 h
     cases h2
     have:=nP h1
     dsimp only at this ⊢;omega
    ·cases h
theorem oZ:∀ (f g:Nat) (l:List ByteArray),l.length≤f→l.length≤g→e8 f l=e8 g l
 | 0,0,l,_,_=>rfl
 | 0,g+1,[],_,_=>rfl
 | f+1,0,[],_,_=>rfl
 | f+1,g+1,[],_,_=>rfl
 | 0,_,x::r,h,_=>by simp at h
 | _+1,0,x::r,_,h=>by simp at h
 | f+1,g+1,x::r,hf,hg=>by
  simp only [e8]
  split
  ·cases h:bc r with
   | none=>rfl
   | some q =>
    obtain ⟨a,r'⟩:=q
    have:=ie h
    simp only [List.length_cons] at hf hg
    simp only
    rw [oZ f g r' (by omega) (by omega)]
  ·rfl
theorem iC {x:ByteArray} {r:List ByteArray} (h:(x.toList == bDo.toList)=false):aO (x::r)=some ([],x::r):=by
 show e8 (r.length+1) (x::r)=_
 rw [e8,h];rfl
theorem iB {x:ByteArray} {r:List ByteArray} (h:(x.toList == bDo.toList)=true) (h2:bc r=none):aO (x::r)=none:=by
 show e8 (r.length+1) (x::r)=_
 rw [e8,h,h2];rfl
theorem iA {x:ByteArray} {r r':List ByteArray} {a:Ref.Act} (h:(x.toList == bDo.toList)=true) (h2:bc r=some (a,r')):aO (x::r)=(aO r').map fun q=>(a::q.1,q.2):=by
 have:=ie h2
 show e8 (r.length+1) (x::r)=_
 rw [e8,h,if_pos rfl,h2]
 simp only
 rw [oZ r.length r'.length r' (by omega) (Nat.le_refl _)]
 show _=(e8 r'.length r').map _
 cases e8 r'.length r' with
 | none=>rfl
 | some q=>rfl
end Pro
theorem oY {p base size n:Nat} {e:TypeId} {v:Value} {xs:List Value} {w w':World} (h:w.ownsRow base e size v n xs) (ht:ai p w w') (hp:p<base):w'.ownsRow base e size v n xs:=by
 refine ⟨h.1,?_⟩
 rcases h.2 with h' | ⟨k,cap,cur,hv,hb,hk,r⟩
 ·exact .inl h'
 ·exact .inr ⟨k,cap,cur,hv,hb,by rw [ht.block k (Array.getElem?_eq_some_iff.1 hk).1 (by omega)];exact hk,r⟩
theorem ai.grown {p:Nat} {w w1 w2:World} {row:Option Nat} (h:ai p w w1) (hg:w1.grownBy w2 row) (hr:∀ k,row=some k→w.heap.size≤k):ai p w w2 :=
 ⟨hg.os.trans h.os,hg.tape.trans h.tape,hg.output.trans h.output,Nat.le_trans h.size hg.size,fun k hk hp=>(hg.block k (Nat.lt_of_lt_of_le hk h.size) (fun e=>by have:=hr k e.symm;omega)).trans (h.block k hk hp)⟩
theorem ag.grown {w w':World} {p:Nat} {num dep:Int} {l:List ByteArray} {row:Option Nat} (H:ag w p num dep l) (hg:w.grownBy w' row) (hr:∀ k,row=some k→p<k):ag w' p num dep l:=by
 obtain ⟨a,cap,hp,hc,hs⟩:=H.row
 refine ⟨⟨a,cap,?_,hc,fun h => ?_⟩,H.len,H.sizes⟩
 ·rw [hg.block p (Array.getElem?_eq_some_iff.1 hp).1 (fun e=>by have:=hr p e.symm;omega)];exact hp
 ·obtain ⟨b,off,h1,h2,h3,h4⟩:=hs h
  refine ⟨b,off,h1,h2,Nat.lt_of_lt_of_le h3 hg.size,fun i hi => ?_⟩
  rw [hg.cell_far ⟨b,off+i,none⟩ h3 (fun e=>by have:=hr b e.symm;omega)];exact h4 i hi
theorem Tryz.kL:(Tryz.prog.info? 324).map (fun i=>(i.zero,i.size,i.bytes))=some (some .nilIface,1,16):=by kernel_rfl
def fs (p:Nat) (num dep:Int) (l:List ByteArray) (w:World) (e:Ending) (w':World):Prop:=match Pro.aO l with
 | none=>bS p 2 num w e w'
 | some (A,r)=>∃ a n c,e = .returned (.slice a n c)∧w'.ownsRow w.heap.size 324 1 (.slice a n c) A.length (A.map aZ)∧ai p w w'∧ag w' p num dep r
theorem vT (a:Ref.Act):∃ t u,aZ a = .iface t u:=by
 unfold aZ ri
 repeat' split
 all_goals exact ⟨_,_,rfl⟩
theorem gS (p:Nat) (num dep:Int) (l:List ByteArray) (w:World) (H:ag w p num dep l) (hv:bk p w) :
  Calls Tryz.prog 246 #[.pointer (some ⟨p,0,none⟩)] w (fs p num dep l w):=by
 have hpl:=H.lt
 have hll:=H.len
 obtain ⟨i0,hi0,hz0,hz1,hz2⟩:=info_parts Tryz.kL
 go_enter Tryz.func246,Tryz.ntmps246
 go_wp2_with fail
 go_loopg [3] l.length (fun q v wr=>∃ (va:Option Addr) (vn vc:Nat) (A:List Ref.Act) (l':List ByteArray),q=l'.length∧v = .slice va vn vc∧A.length+l'.length≤l.length∧Pro.aO l=(Pro.aO l').map (fun q=>(A++q.1,q.2))∧wr.ownsRow w.heap.size 324 1 (.slice va vn vc) A.length (A.map aZ)∧ai p w wr∧ag wr p num dep l')
 case atStart=>exact ⟨none,0,0,[],l,rfl,rfl,by simp,by cases Pro.aO l <;> rfl,World.ownsRow_nil _ _ _ _,ai.refl _ _,H⟩
 case round =>
  obtain ⟨va,vn,vc,A,l',hq,rfl,hlen,hP,hown,ht,H'⟩:=hrel
  have HP:Hid _:=hP
  clear hP
  have hsz:=ht.size
  cases l' with
  | nil =>
   go_wp2_with (go_at_call 245;refine (skip_none p num dep Pro.bDo _ H').mono ?_;rintro e w9 ⟨rfl,hw9⟩;rw [hw9];clear hw9 w9)
   go_ret
   unfold fs
   rw [HP.out]
   exact ⟨va,vn,vc,rfl,by simpa using hown,ht,H'⟩
  | cons x r =>
   cases hx:(x.toList == Pro.bDo.toList)
   ·have HS:Hid _:=Pro.iC (r:=r) hx
    go_wp2_with (go_at_call 245;refine (nS p num dep x r Pro.bDo _ H' hx).mono ?_;rintro e w9 ⟨rfl,hw9⟩;rw [hw9];clear hw9 w9)
    go_ret
    unfold fs
    rw [HP.out,HS.out]
    exact ⟨va,vn,vc,rfl,by simpa using hown,ht,H'⟩
   ·cases ha:Pro.bc r with
    | none =>
     have HS:Hid (Pro.aO l=none):=by unfold Hid;rw [HP.out,Pro.iB hx ha];rfl
     go_wp2_with fail
     refine (iQ p num dep x r Pro.bDo _ H' hx).mono ?_
     rintro e w1 ⟨rfl,ho1,H1⟩
     have ht1:=ht.trans ho1.ah
     clear ho1
     dsimp only
     go_wp2_with fail
     refine (nZ p num dep r _ H1 (hv.ah ht1)).mono ?_
     rintro e w2 hq2
     rw [ha] at hq2
     obtain ⟨ht2,b,h4,h5,rfl⟩:=hq2
     dsimp only
     refine ⟨rfl,?_⟩
     unfold fs
     rw [HS.out]
     exact ⟨ht1.trans ht2,b,Nat.le_trans ht1.size h4,h5,rfl⟩
    | some q =>
     obtain ⟨a,r'⟩:=q
     have hal:=Pro.ie ha
     have HS:Hid (Pro.aO l=(Pro.aO r').map (fun q=>((A++[a])++q.1,q.2))):=by
      unfold Hid;rw [HP.out,Pro.iA hx ha]
      cases Pro.aO r' with
      | none=>rfl
      | some q=>simp
     go_wp2_with fail
     refine (iQ p num dep x r Pro.bDo _ H' hx).mono ?_
     rintro e w1 ⟨rfl,ho1,H1⟩
     have ht1:=ht.trans ho1.ah
     have hown1:=oY hown ho1.ah hpl
     clear ho1
     dsimp only
     go_wp2_with fail
     refine (nZ p num dep r _ H1 (hv.ah ht1)).mono ?_
     rintro e w2 hq2
     rw [ha] at hq2
     obtain ⟨rfl,ht2,H2⟩:=hq2
     have hown2:=oY hown1 ht2 hpl
     have ht3:=ht1.trans ht2
     have hs3:=ht3.size
     clear ha H1 ht1 ht2 hown1 hown
     simp only [List.length_cons] at hlen
     dsimp only
     obtain ⟨at1,au1,hav⟩:=vT a
     rw [hav]
     have HAV:Hid _:=hav
     clear hav
     go_wp2_with (at_builtin;refine wpList_append_lies _ (by rfl) (.tmp 6) (.tmp 9) _ (by rfl) w.heap.size 324 i0 _ 1 16 Tryz.underlying239 hi0 hz0 hz1 hz2 rfl (by decide) (.slice va vn vc) A.length (A.map aZ) (by rfl) (World.ownsRow.alloc hown2 _) ⟨w2.heap.size,0,none⟩ 1 1 [.iface at1 au1] (by rfl) (by rfl) (World.news_of_block (cs:=#[.iface at1 au1]) (t:=324) (fr:=(0,0)) (heap_alloc_new w2 _)) (by intro u hu;rw [List.mem_singleton.1 hu];rfl) (by omega) (by unfold maxLen;omega) (by omega) (by simp;omega) (w2.heap.size+1) (by simp) ?_;intro g5 cap5 w5 hown5 hgrow hat hlt5)
     go_roundg r'.length
     case measure=>omega
     case rel =>
      refine ⟨some ⟨g5,0,none⟩,A.length+1,cap5,A++[a],r',rfl,rfl,by simp;omega,HS.out,?_,(ht3.alloc _).grown hgrow (fun k e=>(World.ownsRow.lt hown2 k e).1),(H2.alloc _).grown hgrow (fun k e=>Nat.lt_of_lt_of_le hpl (World.ownsRow.lt hown2 k e).1)⟩
      rw [List.length_append,List.map_append,List.map_cons,List.map_nil,HAV.out]
      exact hown5
theorem Tryz.Ac:Tryz.f223.results=#[.cell 2 384]:=rfl
theorem Tryz.xv:(Tryz.prog.info? 384).map (·.size)=some 3:=by kernel_rfl
namespace Pro
def bQ (l:List ByteArray):Option (List Ref.Act×List ByteArray):=match aO l with
 | none=>none
 | some ([],_)=>none
 | some (a::A,r)=>some (a::A,r)
end Pro
def dJ (p:Nat) (num dep:Int) (l:List ByteArray) (w:World) (e:Ending) (w':World):Prop:=match Pro.bQ l with
 | none=>bS p 2 num w e w'
 | some (A,r)=>∃ a n c,e = .returned (.agg #[.int .i64 num,.int .i64 dep,.slice a n c])∧w'.ownsRow w.heap.size 324 1 (.slice a n c) A.length (A.map aZ)∧ai p w w'∧ag w' p num dep r
theorem fK.trans {g:Nat} {a b c:World} (h:fK g a b) (k:fK g b c):fK g a c:=⟨k.os.trans h.os,k.tape.trans h.tape,k.output.trans h.output,k.size.trans h.size,fun i hi=>(k.block i hi).trans (h.block i hi)⟩
theorem ai.fY {p N:Nat} {w w1 w2:World} (h:ai p w w1) (ho:fK N w1 w2) (hN:w.heap.size≤N):ai p w w2 :=
 ⟨ho.os.trans h.os,ho.tape.trans h.tape,ho.output.trans h.output,by rw [ho.size];exact h.size,fun k hk hp=>(ho.block k (by omega)).trans (h.block k hk hp)⟩
theorem iW (p:Nat) (num dep:Int) (l:List ByteArray) (w:World) (H:ag w p num dep l) (hv:bk p w) :
  Calls Tryz.prog 223 #[.pointer (some ⟨p,0,none⟩)] w (dJ p num dep l w):=by
 have hpl:=H.lt
 cases ha:Pro.aO l with
 | none =>
  have HS:Hid (Pro.bQ l=none):=by unfold Hid Pro.bQ;rw [ha]
  go_enter Tryz.func223,Tryz.ntmps223
  go_wp2_with fail
  refine (gS p num dep l _ (H.alloc _) (hv.alloc _)).mono ?_
  rintro e w1 h1
  unfold fs at h1
  rw [ha] at h1
  obtain ⟨ht,b,h4,h5,rfl⟩:=h1
  dsimp only
  refine ⟨rfl,?_⟩
  unfold dJ
  rw [HS.out]
  exact ⟨((ai.refl p w).alloc _).trans ht,b,by simp at h4;omega,h5,rfl⟩
 | some q =>
  obtain ⟨A,r⟩:=q
  cases A with
  | nil =>
   have HS:Hid (Pro.bQ l=none):=by unfold Hid Pro.bQ;rw [ha]
   go_enter Tryz.func223,Tryz.ntmps223
   go_wp2_with fail
   refine (gS p num dep l _ (H.alloc _) (hv.alloc _)).mono ?_
   rintro e w1 h1
   unfold fs at h1
   rw [ha] at h1
   obtain ⟨a,n,c,rfl,hown,ht1,H1⟩:=h1
   obtain rfl:n=0:=by
    rcases hown.2 with ⟨hv',_⟩ | ⟨g,cap,cur,hv',_⟩
    ·simp only [Value.slice.injEq] at hv';exact hv'.2.1
    ·simp only [Value.slice.injEq] at hv';exact hv'.2.1
   obtain ⟨c0,c1⟩:=H1.cells
   have ht:ai p w w1:=((ai.refl p w).alloc _).trans ht1
   clear ht1 hown ha
   dsimp only
   go_wp2_with fail
   refine (aK num dep 2 _).mono ?_
   rintro e w2 hq
   obtain ⟨ht',b,h4,h5,rfl⟩:=bK ht hq
   dsimp only
   refine ⟨rfl,?_⟩
   unfold dJ
   rw [HS.out]
   exact ⟨ht',b,h4,h5,rfl⟩
  | cons a0 A =>
   have HS:Hid (Pro.bQ l=some (a0::A,r)):=by unfold Hid Pro.bQ;rw [ha]
   go_enter Tryz.func223,Tryz.ntmps223
   go_wp2_with fail
   refine (gS p num dep l _ (H.alloc _) (hv.alloc _)).mono ?_
   rintro e w1 h1
   unfold fs at h1
   rw [ha] at h1
   obtain ⟨a,n,c,rfl,hown,ht1,H1⟩:=h1
   obtain rfl:n=(a0::A).length:=by
    rcases hown.2 with ⟨hv',h0⟩ | ⟨g,cap,cur,hv',_⟩
    ·simp only [Value.slice.injEq] at hv';rw [h0];exact hv'.2.1
    ·simp only [Value.slice.injEq] at hv';exact hv'.2.1
   have hN:w1.heap[w.heap.size]?=some (.cells #[.int .i64 0,.int .i64 0,.slice none 0 0] 384 (0,0)):=by
    rw [ht1.block w.heap.size (by simp) (by omega)];exact heap_alloc_new w _
   have d0:w1.cell? ⟨w.heap.size,0,none⟩=some (.int .i64 0):=by rw [cell_of_row w1 _ 0 _ _ _ hN];rfl
   have d1:w1.cell? ⟨w.heap.size,1,none⟩=some (.int .i64 0):=by rw [cell_of_row w1 _ 1 _ _ _ hN];rfl
   have d2:w1.cell? ⟨w.heap.size,2,none⟩=some (.slice none 0 0):=by rw [cell_of_row w1 _ 2 _ _ _ hN];rfl
   have f0:w1.frozen? ⟨w.heap.size,0,none⟩=false:=by simp [World.frozen?,hN]
   have f1:w1.frozen? ⟨w.heap.size,1,none⟩=false:=by simp [World.frozen?,hN]
   have f2:w1.frozen? ⟨w.heap.size,2,none⟩=false:=by simp [World.frozen?,hN]
   obtain ⟨c0,c1⟩:=H1.cells
   have ht:ai p w w1:=((ai.refl p w).alloc _).trans ht1
   have hown':=aD hown (show w.heap.size≤(w.alloc (.cells #[.int .i64 0,.int .i64 0,.slice none 0 0] 384)).heap.size by simp)
   have hpos:(((a0::A).length:Int) == 0)=false:=by simp;omega
   clear ht1 ha hown
   generalize hm:(a0::A).length=m at *
   have HM:Hid _:=hm
   clear hm
   dsimp only
   go_wp2
   have o1:=aa w1 w.heap.size 0 (.int .i64 num)
   have o2:=aa (w1.setCell ⟨w.heap.size,0,none⟩ (.int .i64 num)) w.heap.size 1 (.int .i64 dep)
   have o3:=aa ((w1.setCell ⟨w.heap.size,0,none⟩ (.int .i64 num)).setCell ⟨w.heap.size,1,none⟩ (.int .i64 dep)) w.heap.size 2 (.slice a m c)
   have oo:=(o1.trans o2).trans o3
   have g1:=heap_setCell_same w1 w.heap.size 0 _ _ (.int .i64 num) hN
   have g2:=heap_setCell_same _ w.heap.size 1 _ _ (.int .i64 dep) g1
   have g3:=heap_setCell_same _ w.heap.size 2 _ _ (.slice a m c) g2
   refine de Tryz.Ac _ 384 _ (0,0) _ rfl g3 Tryz.underlying384 rfl Tryz.xv rfl ?_
   unfold dJ
   rw [HS.out]
   exact ⟨a,m,c,rfl,by rw [HM.out];exact j7 hown' oo hN (by decide),ht.fY oo (Nat.le_refl _),H1.only oo hpl⟩
theorem dB (p:Nat) (num dep:Int) (l:List ByteArray) (w:World) (H:ag w p num dep l) (hv:bk p w) :
  Calls Tryz.prog 219 #[.pointer (some ⟨p,0,none⟩),.func (.func 244) #[] #[]] w (dL p num dep ((Pro.pOf Ref.plain l).map fun q=>(.string q.1,q.2)) w):=by
 cases l with
 | nil=>exact gZ p num dep _ w H
 | cons x r =>
  cases hx:Ref.plain x
  ·have:Pro.pOf Ref.plain (x::r)=none:=by rw [Pro.pOf,hx];rfl
   rw [this];exact oW p num dep x r w H hv hx
  ·have:Pro.pOf Ref.plain (x::r)=some (x,r):=by rw [Pro.pOf,hx];rfl
   rw [this];exact nz p num dep x r w H hv hx
theorem eC (p:Nat) (num dep:Int) (l:List ByteArray) (w:World) (H:ag w p num dep l) (hv:bk p w) :
  Calls Tryz.prog 219 #[.pointer (some ⟨p,0,none⟩),.func (.func 220) #[] #[]] w (dL p num dep ((Pro.pOf Ref.bF l).map fun q=>(.string q.1,q.2)) w):=by
 cases l with
 | nil=>exact gZ p num dep _ w H
 | cons x r =>
  cases hx:Ref.bF x
  ·have:Pro.pOf Ref.bF (x::r)=none:=by rw [Pro.pOf,hx];rfl
   rw [this];exact lI p num dep x r w H hv hx
  ·have:Pro.pOf Ref.bF (x::r)=some (x,r):=by rw [Pro.pOf,hx];rfl
   rw [this];exact kP p num dep x r w H hv hx
theorem Tryz.Cg:Tryz.f216.results=#[.cell 4 376]:=rfl
theorem Tryz.fp:(Tryz.prog.info? 376).map (·.size)=some 4:=by kernel_rfl
theorem l8 (p:Nat) (num dep k:Int) (l:List ByteArray) (w:World) (H:ag w p num dep l) (hv:bk p w) (hn:Pro.pOf Ref.plain l=none) :
  Calls Tryz.prog 216 #[.pointer (some ⟨p,0,none⟩),.int .i64 k] w (bS p 2 num w):=by
 have hpl:=H.lt
 obtain ⟨c0,c1⟩:=H.cells
 go_enter Tryz.func216,Tryz.ntmps216
 go_wp2_with fail
 have H1:=(H.alloc (.cells #[.int .i64 0,.int .i64 0,.int .i64 0,.string ByteArray.empty] 376)).drew
 have hv1:bk p (w.alloc (.cells #[.int .i64 0,.int .i64 0,.int .i64 0,.string ByteArray.empty] 376)).drew:=(hv.alloc _).ah (ai.refl p _).drew
 refine wp_region_any (by kernel_rfl) ?_
 change wpAny _ _ _ _ _ _ _ (World.drew _)
 refine tA 0 (.pointer (some ⟨p,0,none⟩)) rfl ?_
 refine tA 1 (.pointer (some ⟨p,0,none⟩)) rfl ?_
 refine tA 2 (.pointer (some ⟨p,0,none⟩)) rfl ?_
 refine tA 4 (.int .i64 k) rfl ?_
 refine tA 5 (.pointer (some ⟨p,0,none⟩)) rfl ?_
 refine yA [3,6] ?_
 refine AllReady.cons rfl (fun K hK => ?_) (AllReady.cons rfl (fun K hK => ?_) AllReady.nil)
 ·go_simp
  refine hK _ _ ?_
  clear hK K
  refine zA 6 rfl fun K hK => ?_
  go_simp
  (refine (dB p num dep l _ H1 hv1).mono ?_;rintro e w4 h4;rw [hn] at h4;obtain ⟨ht,b,h5,h6,rfl⟩:=h4;dsimp only;exact ⟨rfl,((ai.refl p w).alloc _).drew.trans ht,b,by simp at h5;omega,h6,rfl⟩)
 ·go_simp
  (refine (dB p num dep l _ H1 hv1).mono ?_;rintro e w4 h4;rw [hn] at h4;obtain ⟨ht,b,h5,h6,rfl⟩:=h4;dsimp only;exact ⟨rfl,((ai.refl p w).alloc _).drew.trans ht,b,by simp at h5;omega,h6,rfl⟩)
theorem ke (p:Nat) (num dep k:Int) (l r:List ByteArray) (x:ByteArray) (w:World) (H:ag w p num dep l) (hv:bk p w) (hn:Pro.pOf Ref.plain l=some (x,r)) :
  Calls Tryz.prog 216 #[.pointer (some ⟨p,0,none⟩),.int .i64 k] w fun e w'=>e = .returned (.agg #[.int .i64 num,.int .i64 dep,.int .i64 k,.string x])∧ai p w w'∧ag w' p num dep r:=by
 have hpl:=H.lt
 obtain ⟨c0,c1⟩:=H.cells
 go_enter Tryz.func216,Tryz.ntmps216
 go_wp2_with fail
 have H1:=(H.alloc (.cells #[.int .i64 0,.int .i64 0,.int .i64 0,.string ByteArray.empty] 376)).drew
 have hv1:bk p (w.alloc (.cells #[.int .i64 0,.int .i64 0,.int .i64 0,.string ByteArray.empty] 376)).drew:=(hv.alloc _).ah (ai.refl p _).drew
 go_region_held3 (fun W=>W.cell? ⟨p,0,none⟩=some (.int .i64 num)∧W.cell? ⟨p,1,none⟩=some (.int .i64 dep)) (first | go_keep | exact ⟨k0,k1⟩ | exact ⟨k2,k3⟩)
  ((go_at_call 219;refine (dB p num dep l _ H1 hv1).mono ?_;rintro e w4 h4;rw [hn] at h4;obtain ⟨rfl,ht4,H4⟩:=h4;obtain ⟨k0,k1⟩:=H4.cells;have hN:w4.heap[w.heap.size]?=some (.cells #[.int .i64 0,.int .i64 0,.int .i64 0,.string ByteArray.empty] 376 (0,0)):=(ht4.block w.heap.size (by simp) (by omega)).trans (heap_alloc_new w _);have d0:w4.cell? ⟨w.heap.size,0,none⟩=some (.int .i64 0):=by rw [cell_of_row w4 _ 0 _ _ _ hN];rfl
    have d1:w4.cell? ⟨w.heap.size,1,none⟩=some (.int .i64 0):=by rw [cell_of_row w4 _ 1 _ _ _ hN];rfl
    have d2:w4.cell? ⟨w.heap.size,2,none⟩=some (.int .i64 0):=by rw [cell_of_row w4 _ 2 _ _ _ hN];rfl
    have d3:w4.cell? ⟨w.heap.size,3,none⟩=some (.string ByteArray.empty):=by rw [cell_of_row w4 _ 3 _ _ _ hN];rfl
    have f0:w4.frozen? ⟨w.heap.size,0,none⟩=false:=by simp [World.frozen?,hN]
    have f1:w4.frozen? ⟨w.heap.size,1,none⟩=false:=by simp [World.frozen?,hN]
    have f2:w4.frozen? ⟨w.heap.size,2,none⟩=false:=by simp [World.frozen?,hN]
    have f3:w4.frozen? ⟨w.heap.size,3,none⟩=false:=by simp [World.frozen?,hN]
    have hne:¬ p=w.heap.size:=by omega
    have hne2:¬ w.heap.size=p:=by omega
    dsimp only))
 go_wp2
 have o1:=aa w4 w.heap.size 0 (.int .i64 num)
 have o2:=aa (w4.setCell ⟨w.heap.size,0,none⟩ (.int .i64 num)) w.heap.size 1 (.int .i64 dep)
 have o3:=aa ((w4.setCell ⟨w.heap.size,0,none⟩ (.int .i64 num)).setCell ⟨w.heap.size,1,none⟩ (.int .i64 dep)) w.heap.size 2 (.int .i64 k)
 have o4:=aa (((w4.setCell ⟨w.heap.size,0,none⟩ (.int .i64 num)).setCell ⟨w.heap.size,1,none⟩ (.int .i64 dep)).setCell ⟨w.heap.size,2,none⟩ (.int .i64 k)) w.heap.size 3 (.string x)
 have oo:=((o1.trans o2).trans o3).trans o4
 have g1:=heap_setCell_same w4 w.heap.size 0 _ _ (.int .i64 num) hN
 have g2:=heap_setCell_same _ w.heap.size 1 _ _ (.int .i64 dep) g1
 have g3:=heap_setCell_same _ w.heap.size 2 _ _ (.int .i64 k) g2
 have g4:=heap_setCell_same _ w.heap.size 3 _ _ (.string x) g3
 have ht:ai p w w4:=((ai.refl p w).alloc _).drew.trans ht4
 exact de Tryz.Cg _ 376 _ (0,0) _ rfl g4 Tryz.underlying376 rfl Tryz.fp rfl ⟨rfl,ht.fY oo (Nat.le_refl _),H4.only oo hpl⟩
end
end Go.Proofs.YtegmoddppafkfaaGreatDoor
