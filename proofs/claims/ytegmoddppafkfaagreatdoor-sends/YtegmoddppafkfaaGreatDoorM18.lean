import Derived.Test.YtegmoddppafkfaaGreatDoorM00
import Derived.Test.YtegmoddppafkfaaGreatDoorM01
import Derived.Test.YtegmoddppafkfaaGreatDoorM17
import Derived.Deep.RegionHeld3
import Derived.Deep.RegionWith
import Derived.Deep.CutBlock
import Derived.Deep.DeepCutAuto
import Derived.Deep.QuietTactic
import Derived.BigQuiet
import Derived.Deep.LoopGhost
import Derived.Maps.AppendAt
import Derived.Deep.AppendLies
set_option maxRecDepth 100000
set_option maxHeartbeats 8000000
namespace Go.Proofs.YtegmoddppafkfaaGreatDoor
section
open Go.RowKit
namespace Pro
def pOf (P:ByteArray→Bool):List ByteArray→Option (ByteArray×List ByteArray)
 | []=>none
 | x::r=>if P x then some (x,r) else none
def fx:List ByteArray→Option (Int×List ByteArray)
 | []=>none
 | x::r=>if Ref.bF x then some (Ref.dG x,r) else none
def mA:ByteArray:=⟨#[114,97,105,115,101]⟩
def ko:ByteArray:=⟨#[115,101,110,100]⟩
def fZ:ByteArray:=⟨#[99,97,110,99,101,108]⟩
def bAs:ByteArray:=⟨#[97,115]⟩
def cy (l:List ByteArray):Option ((ByteArray×Int×Option ByteArray)×List ByteArray) :=
 match pOf Ref.called l with
 | none=>none
 | some (x,l1)=>match fx l1 with
  | none=>none
  | some (d,[])=>some ((x,d,none),[])
  | some (d,y::r)=>if y.toList == bAs.toList then
    match pOf Ref.called r with
    | none=>none
    | some (a,l3)=>some ((x,d,some a),l3)
   else some ((x,d,none),y::r)
end Pro
theorem ai.cell {p:Nat} {w w':World} (h:ai p w w') {a:Addr} (hb:a.block<w.heap.size) (hp:¬ a.block=p):w'.cell? a=w.cell? a:=World.cell?_of_block (w:=w) (h.block a.block hb hp)
def dP (p:Nat) (num dep:Int) (res:Option (Value×List ByteArray)) (w:World) (e:Ending) (w':World):Prop:=match res with
 | none=>bT p 2 num w e w'
 | some (v,r)=>e = .returned v∧ai p w w'∧aa w' p num dep r
theorem eL (p:Nat) (num dep:Int) (l:List ByteArray) (w:World) (H:aa w p num dep l) (hv:bh p w) :
  Calls Tryz.prog 289 #[.pointer (some ⟨p,0,none⟩)] w (dP p num dep ((Pro.pOf Ref.called l).map fun q=>(.agg #[.string q.1],q.2)) w):=by
 cases l with
 | nil=>exact xB p num dep w H
 | cons x r =>
  cases hx:Ref.called x
  ·have:Pro.pOf Ref.called (x::r)=none:=by rw [Pro.pOf,hx];rfl
   rw [this];exact B9 p num dep x r w H hv hx
  ·have:Pro.pOf Ref.called (x::r)=some (x,r):=by rw [Pro.pOf,hx];rfl
   rw [this];exact Ah p num dep x r w H hv hx
theorem iL (p:Nat) (num dep:Int) (l:List ByteArray) (w:World) (H:aa w p num dep l) (hv:bh p w) :
  Calls Tryz.prog 222 #[.pointer (some ⟨p,0,none⟩)] w (dP p num dep ((Pro.fx l).map fun q=>(.int .u64 q.1,q.2)) w):=by
 cases l with
 | nil=>exact wM p num dep w H
 | cons x r =>
  cases hx:Ref.bF x
  ·have:Pro.fx (x::r)=none:=by rw [Pro.fx,hx];rfl
   rw [this];exact Bp p num dep x r w H hv hx
  ·have:Pro.fx (x::r)=some (Ref.dG x,r):=by rw [Pro.fx,hx];rfl
   rw [this];exact zx p num dep x r w H hv hx
theorem e9 (p:Nat) (num dep:Int) (l:List ByteArray) (w:World) (H:aa w p num dep l) (hv:bh p w) :
  Calls Tryz.prog 219 #[.pointer (some ⟨p,0,none⟩),.func (.func 248) #[] #[]] w (dP p num dep ((Pro.pOf Ref.called l).map fun q=>(.string q.1,q.2)) w):=by
 cases l with
 | nil=>exact ig p num dep _ w H
 | cons x r =>
  cases hx:Ref.called x
  ·have:Pro.pOf Ref.called (x::r)=none:=by rw [Pro.pOf,hx];rfl
   rw [this];exact kr p num dep x r w H hv hx
  ·have:Pro.pOf Ref.called (x::r)=some (x,r):=by rw [Pro.pOf,hx];rfl
   rw [this];exact jQ p num dep x r w H hv hx
def vM (x:ByteArray) (d:Int):Option ByteArray→Value
 | none => .iface 329 (.agg #[.string x,.int .u64 d])
 | some a => .iface 331 (.agg #[.string x,.int .u64 d,.string a])
theorem vN (p:Nat) (num dep:Int) (l:List ByteArray) (w:World) (H:aa w p num dep l) (hv:bh p w) :
  Calls Tryz.prog 290 #[.pointer (some ⟨p,0,none⟩)] w (dP p num dep ((Pro.cy l).map fun q=>(vM q.1.1 q.1.2.1 q.1.2.2,q.2)) w):=by
 have hpl:=H.lt
 cases hn:Pro.pOf Ref.called l with
 | none =>
  have HS:Hid (Pro.cy l=none):=by unfold Hid Pro.cy;rw [hn]
  go_enter Tryz.func290,Tryz.ntmps290
  go_wp2_with fail
  refine (eL p num dep l _ H hv).mono ?_
  rintro e w1 h1
  rw [hn] at h1
  obtain ⟨ht,b,h3,h4,rfl⟩:=h1
  dsimp only
  refine ⟨rfl,?_⟩
  rw [HS.out]
  exact ⟨ht,b,h3,h4,rfl⟩
 | some q =>
  obtain ⟨x,l1⟩:=q
  cases hd:Pro.fx l1 with
  | none =>
   have HS:Hid (Pro.cy l=none):=by unfold Hid Pro.cy;rw [hn];simp only;rw [hd]
   go_enter Tryz.func290,Tryz.ntmps290
   go_wp2_with fail
   refine (eL p num dep l _ H hv).mono ?_
   rintro e w1 h1
   rw [hn] at h1
   obtain ⟨rfl,ht1,H1⟩:=h1
   dsimp only
   go_wp2_with fail
   refine (iL p num dep l1 _ H1 (hv.ah ht1)).mono ?_
   rintro e w2 h2
   rw [hd] at h2
   obtain ⟨ht,b,h3,h4,rfl⟩:=h2
   dsimp only
   refine ⟨rfl,?_⟩
   rw [HS.out]
   exact ⟨ht1.trans ht,b,Nat.le_trans ht1.size h3,h4,rfl⟩
  | some q =>
   obtain ⟨d,l2⟩:=q
   go_enter Tryz.func290,Tryz.ntmps290
   go_wp2_with fail
   refine (eL p num dep l _ H hv).mono ?_
   rintro e w1 h1
   rw [hn] at h1
   obtain ⟨rfl,ht1,H1⟩:=h1
   dsimp only
   go_wp2_with fail
   refine (iL p num dep l1 _ H1 (hv.ah ht1)).mono ?_
   rintro e w2 h2
   rw [hd] at h2
   obtain ⟨rfl,ht2,H2⟩:=h2
   dsimp only
   have ht:=ht1.trans ht2
   have hs2:=ht.size
   clear ht1 ht2 H1
   cases l2 with
   | nil =>
    have HS:Hid (Pro.cy l=some ((x,d,none),[])):=by unfold Hid Pro.cy;rw [hn];simp only;rw [hd]
    clear hn hd
    go_wp2_with fail
    refine (skip_none p num dep Pro.bAs _ (H2.alloc _)).mono ?_
    rintro e w9 ⟨rfl,hw9⟩
    rw [hw9]
    clear hw9 w9
    dsimp only
    go_wp2
    go_ret
    unfold dP
    rw [HS.out]
    exact ⟨rfl,ht.alloc _,H2.alloc _⟩
   | cons y r =>
    cases hy:(y.toList == Pro.bAs.toList)
    ·have HS:Hid (Pro.cy l=some ((x,d,none),y::r)):=by unfold Hid Pro.cy;rw [hn];simp only;rw [hd];simp only;rw [hy];rfl
     clear hn hd
     go_wp2_with fail
     refine (n8 p num dep y r Pro.bAs _ (H2.alloc _) hy).mono ?_
     rintro e w9 ⟨rfl,hw9⟩
     rw [hw9]
     clear hw9 w9
     dsimp only
     go_wp2
     go_ret
     unfold dP
     rw [HS.out]
     exact ⟨rfl,ht.alloc _,H2.alloc _⟩
    ·have HS:Hid (Pro.cy l=match Pro.pOf Ref.called r with | none=>none | some (a,l3)=>some ((x,d,some a),l3)):=by unfold Hid Pro.cy;rw [hn];simp only;rw [hd];simp only;rw [hy];rfl
     clear hn hd
     go_wp2_with fail
     refine (iT p num dep y r Pro.bAs _ (H2.alloc _) hy).mono ?_
     rintro e w3 ⟨rfl,ho3,H3⟩
     have hp2:=H2.lt
     have ht3:ai p w w3:=(ht.alloc _).trans ho3.ah
     have hN:w3.heap[w2.heap.size]?=some (.cells #[.string x,.int .u64 d] 329 (0,0)):=by
      rw [ho3.block w2.heap.size (by omega)];exact heap_alloc_new w2 _
     have cN0:w3.cell? ⟨w2.heap.size,0,none⟩=some (.string x):=by rw [cell_of_row w3 _ 0 _ _ _ hN];rfl
     have cN1:w3.cell? ⟨w2.heap.size,1,none⟩=some (.int .u64 d):=by rw [cell_of_row w3 _ 1 _ _ _ hN];rfl
     have hNl:w2.heap.size<w3.heap.size:=(Array.getElem?_eq_some_iff.1 hN).1
     clear ho3
     dsimp only
     go_wp2_with fail
     have hv3:bh p w3.drew:=(hv.ah ht3).ah (ai.refl p w3).drew
     have H3d:aa w3.drew p num dep r:=H3.drew
     have HN:Hid (w2.heap.size<w3.heap.size∧¬ w2.heap.size=p):=⟨hNl,by omega⟩
     cases hr:Pro.pOf Ref.called r with
     | none =>
      have HS2:Hid (Pro.cy l=none):=by unfold Hid;rw [HS.out,hr]
      refine wp_region_any (by kernel_rfl) ?_
      change wpAny _ _ _ _ _ _ _ (World.drew _)
      refine yA [0,1] ?_
      refine AllReady.cons rfl (fun K hK => ?_) (AllReady.cons rfl (fun K hK => ?_) AllReady.nil)
      ·go_simp
       refine hK _ _ ?_
       clear hK K
       refine zA 1 rfl fun K hK => ?_
       go_simp
       refine hK _ _ ?_
       clear hK K
       refine zA 2 rfl fun K hK => ?_
       go_simp
       (refine (e9 p num dep r _ H3d hv3).mono ?_;rintro e w4 h4;rw [hr] at h4;obtain ⟨ht,b,h5,h6,rfl⟩:=h4;dsimp only;refine ⟨rfl,?_⟩;rw [HS2.out];exact ⟨ht3.trans ((ai.refl p w3).drew.trans ht),b,Nat.le_trans ht3.size h5,h6,rfl⟩)
      ·go_simp
       refine hK _ _ ?_
       clear hK K
       refine yA [0,2] ?_
       refine AllReady.cons rfl (fun K hK => ?_) (AllReady.cons rfl (fun K hK => ?_) AllReady.nil)
       ·go_simp
        refine hK _ _ ?_
        clear hK K
        refine zA 2 rfl fun K hK => ?_
        go_simp
        (refine (e9 p num dep r _ H3d hv3).mono ?_;rintro e w4 h4;rw [hr] at h4;obtain ⟨ht,b,h5,h6,rfl⟩:=h4;dsimp only;refine ⟨rfl,?_⟩;rw [HS2.out];exact ⟨ht3.trans ((ai.refl p w3).drew.trans ht),b,Nat.le_trans ht3.size h5,h6,rfl⟩)
       ·go_simp
        (refine (e9 p num dep r _ H3d hv3).mono ?_;rintro e w4 h4;rw [hr] at h4;obtain ⟨ht,b,h5,h6,rfl⟩:=h4;dsimp only;refine ⟨rfl,?_⟩;rw [HS2.out];exact ⟨ht3.trans ((ai.refl p w3).drew.trans ht),b,Nat.le_trans ht3.size h5,h6,rfl⟩)
     | some q =>
      obtain ⟨a,l3⟩:=q
      have HS2:Hid (Pro.cy l=some ((x,d,some a),l3)):=by unfold Hid;rw [HS.out,hr]
      go_region_held3 (fun W=>W.cell? ⟨w2.heap.size,0,none⟩=some (.string x)∧W.cell? ⟨w2.heap.size,1,none⟩=some (.int .u64 d)) (first | go_keep | exact ⟨k0,k1⟩)
       ((go_at_call 219;refine (e9 p num dep r _ H3d hv3).mono ?_;rintro e w4 h4;rw [hr] at h4;obtain ⟨rfl,ht4,H4⟩:=h4;have k0:=(ht4.cell (a:=⟨w2.heap.size,0,none⟩) HN.out.1 HN.out.2).trans cN0;have k1:=(ht4.cell (a:=⟨w2.heap.size,1,none⟩) HN.out.1 HN.out.2).trans cN1;dsimp only))
      go_wp2
      go_ret
      unfold dP
      rw [HS2.out]
      exact ⟨rfl,ht3.trans ((ai.refl p w3).drew.trans ht4),H4⟩
namespace Pro
def aW:List ByteArray→Option (Ref.Act×List ByteArray)
 | []=>none
 | x::r =>
  if x.toList == Ref.eh then (pOf Ref.called r).map fun q=>(⟨mA,q.1,ByteArray.empty,0⟩,q.2)
  else if x.toList == Ref.kq then (cy r).map fun q=>(⟨ko,q.1.1,q.1.2.2.getD ByteArray.empty,q.1.2.1⟩,q.2)
  else if x.toList == Ref.eG then (pOf Ref.called r).map fun q=>(⟨fZ,ByteArray.empty,q.1,0⟩,q.2)
  else none
end Pro
def bp (a:Ref.Act):Value :=
 if a.how.toList == Ref.eh then .iface 435 (.agg #[.string a.event])
 else if a.how.toList == Ref.eG then .iface 333 (.agg #[.string a.id])
 else vM a.event a.delay (if a.id.size=0 then none else some a.id)
theorem kU:Pro.mA.toList=Ref.eh:=by rw [ByteArray.toList_eq];rfl
theorem mW:Pro.ko.toList=Ref.kq:=by rw [ByteArray.toList_eq];rfl
theorem gZ:Pro.fZ.toList=Ref.eG:=by rw [ByteArray.toList_eq];rfl
theorem Ao {s:ByteArray} (h:Ref.plain s=true):¬ s.size=0:=by
 rw [Ref.plain,Bool.and_eq_true,Bool.and_eq_true,decide_eq_true_eq] at h;omega
theorem wG {s:ByteArray} (h:Ref.called s=true):¬ s.size=0:=by
 rw [Ref.called,Bool.or_eq_true] at h
 rcases h with h | h
 ·exact Ao h
 ·rw [Ref.jN,Bool.and_eq_true] at h
  have:=Ref.nj h.1
  have e:Ref.bB.size=6:=rfl
  omega
theorem fO {P:ByteArray→Bool} {l r:List ByteArray} {x:ByteArray} (h:Pro.pOf P l=some (x,r)):P x=true∧l=x::r:=by
 cases l with
 | nil=>cases h
 | cons y t =>
  rw [Pro.pOf] at h
  split at h
  ·cases h;exact ⟨by assumption,rfl⟩
  ·cases h
theorem Cm {l r:List ByteArray} {x:ByteArray} {d:Int} {a:ByteArray} (h:Pro.cy l=some ((x,d,some a),r)):¬ a.size=0:=by
 unfold Pro.cy at h
 split at h
 ·cases h
 ·split at h
  ·cases h
  ·cases h
  ·split at h
   ·split at h
    ·cases h
    ·rename_i hq
     cases h
     exact wG (fO hq).1
   ·cases h
theorem wy (n:ByteArray):bp ⟨Pro.mA,n,ByteArray.empty,0⟩ = .iface 435 (.agg #[.string n]):=by
 unfold bp
 rw [kU,if_pos (by decide)]
theorem tY (n:ByteArray):bp ⟨Pro.fZ,ByteArray.empty,n,0⟩ = .iface 333 (.agg #[.string n]):=by
 unfold bp
 rw [gZ,if_neg (by decide),if_pos (by decide)]
theorem zi {l r:List ByteArray} {x:ByteArray} {d:Int} {o:Option ByteArray} (h:Pro.cy l=some ((x,d,o),r)):bp ⟨Pro.ko,x,o.getD ByteArray.empty,d⟩=vM x d o:=by
 unfold bp
 rw [mW,if_neg (by decide),if_neg (by decide)]
 cases o with
 | none=>rfl
 | some a=>rw [if_neg (show ¬ (Option.getD (some a) ByteArray.empty).size=0 from Cm h)];rfl
theorem oh (p:Nat) (num dep:Int) (l:List ByteArray) (w:World) (H:aa w p num dep l) (hv:bh p w) :
  Calls Tryz.prog 274 #[.pointer (some ⟨p,0,none⟩)] w (dP p num dep ((Pro.aW l).map fun q=>(bp q.1,q.2)) w):=by
 cases l with
 | nil =>
  go_enter Tryz.func274,Tryz.ntmps274
  go_wp2_with fail
  refine (j7 p num dep _ H).mono ?_
  rintro e w1 h1
  obtain ⟨ht,b,h3,h4,rfl⟩:=bK (ai.refl p w) h1
  dsimp only
  exact ⟨rfl,ht,b,h3,h4,rfl⟩
 | cons x r =>
  cases h1:(x.toList == [114,97,105,115,101])
  ·cases h2:(x.toList == [115,101,110,100])
   ·cases h3:(x.toList == [99,97,110,99,101,108])
    ·have HS:Hid (Pro.aW (x::r)=none):=by unfold Hid;rw [Pro.aW,Ref.eh,h1,Ref.kq,h2,Ref.eG,h3];rfl
     go_enter Tryz.func274,Tryz.ntmps274
     go_wp2_with fail
     refine (az p num dep x r _ H).mono ?_
     rintro e w1 ⟨rfl,ho,H1⟩
     have ht1:=ho.ah
     obtain ⟨c0,c1⟩:=H1.cells
     clear ho
     dsimp only
     go_wp2_with fail
     refine (aL num dep 2 _).mono ?_
     rintro e w2 hq
     obtain ⟨ht,b,h4,h5,rfl⟩:=bK ht1 hq
     dsimp only
     refine ⟨rfl,?_⟩
     rw [HS.out]
     exact ⟨ht,b,h4,h5,rfl⟩
    ·cases hn:Pro.pOf Ref.called r with
     | none =>
      have HS:Hid (Pro.aW (x::r)=none):=by unfold Hid;rw [Pro.aW,Ref.eh,h1,Ref.kq,h2,Ref.eG,h3,hn];rfl
      go_enter Tryz.func274,Tryz.ntmps274
      go_wp2_with fail
      refine (az p num dep x r _ H).mono ?_
      rintro e w1 ⟨rfl,ho,H1⟩
      have ht1:=ho.ah
      clear ho
      dsimp only
      go_wp2_with fail
      refine (eL p num dep r _ H1 (hv.ah ht1)).mono ?_
      rintro e w2 hq
      rw [hn] at hq
      obtain ⟨ht,b,h4,h5,rfl⟩:=hq
      dsimp only
      refine ⟨rfl,?_⟩
      rw [HS.out]
      exact ⟨ht1.trans ht,b,Nat.le_trans ht1.size h4,h5,rfl⟩
     | some q =>
      obtain ⟨n,r'⟩:=q
      have HS:Hid (Pro.aW (x::r)=some (⟨Pro.fZ,ByteArray.empty,n,0⟩,r')):=by unfold Hid;rw [Pro.aW,Ref.eh,h1,Ref.kq,h2,Ref.eG,h3,hn];rfl
      go_enter Tryz.func274,Tryz.ntmps274
      go_wp2_with fail
      refine (az p num dep x r _ H).mono ?_
      rintro e w1 ⟨rfl,ho,H1⟩
      have ht1:=ho.ah
      clear ho
      dsimp only
      go_wp2_with fail
      refine (eL p num dep r _ H1 (hv.ah ht1)).mono ?_
      rintro e w2 hq
      rw [hn] at hq
      obtain ⟨rfl,ht2,H2⟩:=hq
      clear hn
      dsimp only
      go_wp2
      go_ret
      unfold dP
      rw [HS.out]
      exact ⟨by rw [tY];rfl,ht1.trans ht2,H2⟩
   ·cases hn:Pro.cy r with
    | none =>
     have HS:Hid (Pro.aW (x::r)=none):=by unfold Hid;rw [Pro.aW,Ref.eh,h1,Ref.kq,h2,hn];rfl
     go_enter Tryz.func274,Tryz.ntmps274
     go_wp2_with fail
     refine (az p num dep x r _ H).mono ?_
     rintro e w1 ⟨rfl,ho,H1⟩
     have ht1:=ho.ah
     clear ho
     dsimp only
     go_wp2_with fail
     refine (vN p num dep r _ H1 (hv.ah ht1)).mono ?_
     rintro e w2 hq
     rw [hn] at hq
     obtain ⟨ht,b,h4,h5,rfl⟩:=hq
     dsimp only
     refine ⟨rfl,?_⟩
     rw [HS.out]
     exact ⟨ht1.trans ht,b,Nat.le_trans ht1.size h4,h5,rfl⟩
    | some q =>
     obtain ⟨⟨n,d,o⟩,r'⟩:=q
     have HS:Hid (Pro.aW (x::r)=some (⟨Pro.ko,n,o.getD ByteArray.empty,d⟩,r')):=by unfold Hid;rw [Pro.aW,Ref.eh,h1,Ref.kq,h2,hn];rfl
     have HV:Hid _:=zi hn
     go_enter Tryz.func274,Tryz.ntmps274
     go_wp2_with fail
     refine (az p num dep x r _ H).mono ?_
     rintro e w1 ⟨rfl,ho,H1⟩
     have ht1:=ho.ah
     clear ho
     dsimp only
     go_wp2_with fail
     refine (vN p num dep r _ H1 (hv.ah ht1)).mono ?_
     rintro e w2 hq
     rw [hn] at hq
     obtain ⟨rfl,ht2,H2⟩:=hq
     clear hn
     dsimp only
     go_wp2
     go_ret
     unfold dP
     rw [HS.out]
     exact ⟨by rw [HV.out];rfl,ht1.trans ht2,H2⟩
  ·cases hn:Pro.pOf Ref.called r with
   | none =>
    have HS:Hid (Pro.aW (x::r)=none):=by unfold Hid;rw [Pro.aW,Ref.eh,h1,hn];rfl
    go_enter Tryz.func274,Tryz.ntmps274
    go_wp2_with fail
    refine (az p num dep x r _ H).mono ?_
    rintro e w1 ⟨rfl,ho,H1⟩
    have ht1:=ho.ah
    clear ho
    dsimp only
    go_wp2_with fail
    refine (eL p num dep r _ H1 (hv.ah ht1)).mono ?_
    rintro e w2 hq
    rw [hn] at hq
    obtain ⟨ht,b,h4,h5,rfl⟩:=hq
    dsimp only
    refine ⟨rfl,?_⟩
    rw [HS.out]
    exact ⟨ht1.trans ht,b,Nat.le_trans ht1.size h4,h5,rfl⟩
   | some q =>
    obtain ⟨n,r'⟩:=q
    have HS:Hid (Pro.aW (x::r)=some (⟨Pro.mA,n,ByteArray.empty,0⟩,r')):=by unfold Hid;rw [Pro.aW,Ref.eh,h1,hn];rfl
    go_enter Tryz.func274,Tryz.ntmps274
    go_wp2_with fail
    refine (az p num dep x r _ H).mono ?_
    rintro e w1 ⟨rfl,ho,H1⟩
    have ht1:=ho.ah
    clear ho
    dsimp only
    go_wp2_with fail
    refine (eL p num dep r _ H1 (hv.ah ht1)).mono ?_
    rintro e w2 hq
    rw [hn] at hq
    obtain ⟨rfl,ht2,H2⟩:=hq
    clear hn
    dsimp only
    go_wp2
    go_ret
    unfold dP
    rw [HS.out]
    exact ⟨by rw [wy];rfl,ht1.trans ht2,H2⟩
namespace Ref
structure AS (a:Act):Prop where
 how:a.how.size≤1073741824
 event:a.event.size≤1073741824
 id:a.id.size≤1073741824
 delay:∃ n:Nat,a.delay=n∧n≤18446744073709551615
def yJ (k:Int) (x:SV):Bool:=decide (x.s.up=k) && !(x.s.word.toList == aX)
def pt (X:List SV) (k:Int):Nat→List Nat
 | 0=>[]
 | i+1=>if (X[i]?.map (yJ k)).getD false then pt X k i++[i] else pt X k i
def regions (X:List SV) (k:Int):List Nat:=pt X k X.length
end Ref
def wm (w:World) (v:Value) (A:List Ref.Act):Prop:=Row w 122 4 Ref.A6 v A
namespace Ref
def C3 (X:List SV) (k:Int):SV:=X.getD k.toNat ⟨⟨ByteArray.empty,ByteArray.empty,false,0,0,0,[],[],[],0,0⟩,Sl.nil,Sl.nil,Sl.nil⟩
def xD (X:List SV) (u:Int):Bool:=X.all fun y => !decide (y.s.up=u)
def fits (X:List SV) (x:SV):Bool :=
 if decide (X.length=24)||(decide (5<x.s.depth)||(decide (x.s.up<0)&&(x.s.word.toList == aX))) then false
 else if x.s.up<0 then true
 else if ((C3 X x.s.up).s.word.toList == bV)||((C3 X x.s.up).s.word.toList == aX) then false
 else if (C3 X x.s.up).s.word.toList == aM then !(x.s.word.toList == bV)
 else !xD X x.s.up || !(x.s.word.toList == aX)
end Ref
namespace Ref
def Eu (ms:List Move):Bool:=ms.any (·.after)
def Gw (X:List SV):Bool:=X.any fun x=>Eu x.s.moves
def Ec (X:List SV) (t:Bool) (m:Move):Bool:=(!(m.to.toList == [])&&decide (place X m.to<0))||(t&&(dH m.aj||(!m.after&&bJ m.event bB)))
def CP (X:List SV) (t:Bool) (at':Int) (m:Move):Int:=if Ec X t m then lr at' m.line else at'
def CO (t:Bool) (a2:Int) (x:State):Int :=
 if t&&dH x.leave then lr (if t&&dH x.enter then lr a2 x.has0 else a2) x.has1 else if t&&dH x.enter then lr a2 x.has0 else a2
def AF (X:List SV) (t:Bool) (k:Nat) (at':Int) (x:State):Int :=
 CO t (x.moves.foldl (CP X t) (if place X x.name<k then lr at' x.line else at')) x
def sY (X:List SV) (t:Bool):Nat→Int
 | 0=>0
 | k+1=>match X[k]? with
  | some x=>AF X t k (sY X t k) x.s
  | none=>sY X t k
def named (X:List SV):Int:=sY X (Gw X) X.length
end Ref
def Df (w:World) (vm:Ref.Sl) (M:List Ref.MV):Prop:=Row w 120 6 Ref.Ed vm.v M∧∀ x∈M,wm w x.v.v x.m.aj
structure E5 (m:Ref.Move):Prop where
 event:m.event.size≤1073741824
 dst:m.to.size≤1073741824
 aj:∀ a∈m.aj,Ref.AS a
 len:m.aj.length≤1048576
structure Deep (w:World) (x:Ref.SV):Prop where
 moves:∃ M:List Ref.MV,M.map (·.m)=x.s.moves∧Df w x.vm M
 enter:wm w x.ve.v x.s.enter
 leave:wm w x.vl.v x.s.leave
 okM:∀ m∈x.s.moves,E5 m
 okE:∀ a∈x.s.enter,Ref.AS a
 okL:∀ a∈x.s.leave,Ref.AS a
 lenM:x.s.moves.length≤1048576
 lenE:x.s.enter.length≤1048576
 lenL:x.s.leave.length≤1048576
 name:x.s.name.size≤1073741824
namespace Ref
def emb (s:State):SV:=⟨s,Sl.nil,Sl.nil,Sl.nil⟩
def st0:State:=⟨ByteArray.empty,ByteArray.empty,false,0,0,0,[],[],[],0,0⟩
def we (S:List State) (d:Int):Nat→Int
 | 0 => -1
 | k+1=>if (S.getD k st0).depth=d-1 then (k:Int) else if (S.getD k st0).depth<d-1 then -1 else we S d k
def eO (S:List State) (d:Int):Int:=if 0<d then we S d S.length else -1
def o7 (x:nH) (up d:Int):State:=⟨x.word,x.name,x.deep,up,d,x.sline,[],[],[],0,0⟩
def kZ (S:List State) (k:Nat) (f:State→State):List State:=S.set k (f (S.getD k st0))
def cZ (S:List State) (i:Nat) (x:nH) (d:Int):Option (List State) :=
 if 0<d∧eO S d<0 then none
 else if x.kind=115 then
  if fits (S.map emb) (emb (o7 x (eO S d) d)) then some (S++[o7 x (eO S d) d]) else none
 else if eO S d<0 then none
 else if (S.getD (eO S d).toNat st0).word.toList == aX then none
 else if x.kind=109 then
  if (S.getD (eO S d).toNat st0).word.toList == bV then none
  else some (kZ S (eO S d).toNat fun p=>{ p with moves:=p.moves++[x.m] })
 else if x.kind=101 then
  if 0<(S.getD (eO S d).toNat st0).has0 then none
  else some (kZ S (eO S d).toNat fun p=>{ p with has0:=i+1,enter:=x.aj })
 else if x.kind=108 then
  if 0<(S.getD (eO S d).toNat st0).has1 then none
  else some (kZ S (eO S d).toNat fun p=>{ p with has1:=i+1,leave:=x.aj })
 else some S
def bP (A:List (nH×Int)):Nat→Option (List State)
 | 0=>some []
 | i+1=>match bP A i with
  | none=>none
  | some S=>match A[i]? with
   | none=>some S
   | some (x,d)=>cZ S i x d
def eB (S:List State):Nat→Option Int
 | 0=>none
 | k+1=>match eB S k with
  | some l=>some l
  | none=>if ((S.getD k st0).word.toList == aM)&&(regions (S.map emb) k).isEmpty then some (S.getD k st0).line else none
theorem pg {S:List State} {i:Nat} {l:Int} (h:eB S i=some l):∀ j,i≤j→eB S j=some l
 | 0,hj=>by rw [Nat.le_zero.1 hj] at h;exact h
 | j+1,hj=>by
  by_cases e:i=j+1
  ·rw [← e];exact h
  ·rw [eB,pg h j (by omega)]
structure LV where
 L:nH
 vm:Sl
 vd:Sl
end Ref
def dK (n:Nat):List Value:=[.int .i64 n]
theorem Row.range {α:Type} {w:World} {e:TypeId} {n:Nat} {f:α→List Value} {g cap:Nat} {X:List α} (hf:∀ x,(f x).length=n) (h:Row w e n f (.slice (some ⟨g,0,none⟩) X.length cap) X) {i:Nat} (hi:i<X.length) :
  w.rangeAt g (i*n) (f X[i]):=by
 intro j v hj
 have hjn:j<n:=by rw [← hf X[i]];exact (List.getElem?_eq_some_iff.1 hj).1
 rw [Row.cell hf h hjn hi];exact hj
theorem oJ {α:Type} {f:α→List Value} {n:Nat} (hf:∀ x,(f x).length=n):∀ (X:List α) (i j:Nat) (v:Value) (x':α),j<n→∀ (h:i<X.length),f x'=(f X[i]).set j v→(X.flatMap f).set (i*n+j) v=(X.set i x').flatMap f
 | [],i,j,v,x',_,h,_=>by simp at h
 | x::X,0,j,v,x',hj,_,e=>by
  rw [List.flatMap_cons,Nat.zero_mul,Nat.zero_add,List.set_append_left _ _ (by rw [hf];exact hj),List.set_cons_zero,List.flatMap_cons,e];rfl
 | x::X,i+1,j,v,x',hj,h,e=>by
  have hlen:(f x).length=n:=hf x
  rw [List.flatMap_cons,Nat.succ_mul,List.set_append_right _ _ (by rw [hlen];omega),hlen,List.set_cons_succ,List.flatMap_cons]
  rw [show i*n+n+j-n=i*n+j from by omega,oJ hf X i j v x' hj (by simpa using h) e]
theorem ka {g base size n:Nat} {e e':TypeId} {v:Value} {xs:List Value} {w w':World} {c:Array Value} {fz:Nat×Nat} (h:w.ownsRow base e size v n xs) (ho:fQ g w w') (hg:w.heap[g]?=some (.cells c e' fz)) (hne:e≠e'):w'.ownsRow base e size v n xs:=by
 refine ⟨h.1,?_⟩
 rcases h.2 with h' | ⟨k,cap,cur,hv,hb,hk,r⟩
 ·exact .inl h'
 ·have hkg:k≠g:=by
   intro e0;subst e0
   rw [hg] at hk
   simp only [Option.some.injEq,Obj.cells.injEq] at hk
   exact hne hk.2.1.symm
  exact .inr ⟨k,cap,cur,hv,hb,by rw [ho.block k hkg];exact hk,r⟩
theorem aR {base size n:Nat} {e:TypeId} {v:Value} {xs:List Value} {w w':World} (h:w.ownsRow base e size v n xs) (hb:Below w.heap.size w w'):w'.ownsRow base e size v n xs:=by
 refine ⟨h.1,?_⟩
 rcases h.2 with h' | ⟨g,cap,cur,hv,hb',hg,r⟩
 ·exact .inl h'
 ·exact .inr ⟨g,cap,cur,hv,hb',by rw [hb.block g ((Array.getElem?_eq_some_iff.1 hg).1)];exact hg,r⟩
theorem iu {A:List (Ref.nH×Int)} {i:Nat} (h:Ref.bP A i=none):∀ j,i≤j→Ref.bP A j=none
 | 0,hj=>by rw [Nat.le_zero.1 hj] at h;exact h
 | j+1,hj=>by
  by_cases e:i=j+1
  ·rw [← e];exact h
  ·rw [Ref.bP,iu h j (by omega)]
namespace Pro
def bDo:ByteArray:=⟨#[100,111]⟩
def fk:Nat→List ByteArray→Option (List Ref.Act×List ByteArray)
 | 0,l=>some ([],l)
 | _+1,[]=>some ([],[])
 | f+1,x::r =>
  if x.toList == bDo.toList then
   match aW r with
   | none=>none
   | some (a,r')=>match fk f r' with
    | none=>none
    | some (A,t)=>some (a::A,t)
  else some ([],x::r)
def aN (l:List ByteArray):Option (List Ref.Act×List ByteArray):=fk l.length l
theorem nZ {P:ByteArray→Bool} {l r:List ByteArray} {x:ByteArray} (h:pOf P l=some (x,r)):r.length+1=l.length:=by
 rw [(fO h).2];rfl
theorem kR {l r:List ByteArray} {d:Int} (h:fx l=some (d,r)):r.length+1=l.length:=by
 cases l with
 | nil=>cases h
 | cons y t =>
  rw [fx] at h
  split at h
  ·cases h;rfl
  ·cases h
theorem Al {l r:List ByteArray} {q:ByteArray×Int×Option ByteArray} (h:cy l=some (q,r)):r.length<l.length:=by
 unfold cy at h
 split at h
 ·cases h
 ·rename_i x l1 h1
  have e1:=nZ h1
  split at h
  ·cases h
  ·rename_i d h2
   have e2:=kR h2
   cases h;simp at e2 ⊢;omega
  ·rename_i d y t h2
   have e2:=kR h2
   simp only [List.length_cons] at e2
   split at h
   ·split at h
    ·cases h
    ·rename_i a l3 h3
     have e3:=nZ h3
     cases h;omega
   ·cases h;simp only [List.length_cons];omega
theorem im {l r:List ByteArray} {a:Ref.Act} (h:aW l=some (a,r)):r.length<l.length:=by
 cases l with
 | nil=>cases h
 | cons x t =>
  rw [aW] at h
  simp only [List.length_cons]
  split at h
  ·obtain ⟨⟨n,r'⟩,h1,h2⟩:=Option.map_eq_some_iff.1 h
   cases h2
   have:=nZ h1
   dsimp only at this ⊢;omega
  ·split at h
   ·obtain ⟨⟨n,r'⟩,h1,h2⟩:=Option.map_eq_some_iff.1 h
    cases h2
    have:=Al h1
    dsimp only at this ⊢;omega
   ·split at h
    ·obtain ⟨⟨n,r'⟩,h1,h2⟩:=Option.map_eq_some_iff.1 h
     cases h2
     have:=nZ h1
     dsimp only at this ⊢;omega
    ·cases h
theorem pf:∀ (f g:Nat) (l:List ByteArray),l.length≤f→l.length≤g→fk f l=fk g l
 | 0,0,l,_,_=>rfl
 | 0,g+1,[],_,_=>rfl
 | f+1,0,[],_,_=>rfl
 | f+1,g+1,[],_,_=>rfl
 | 0,_,x::r,h,_=>by simp at h
 | _+1,0,x::r,_,h=>by simp at h
 | f+1,g+1,x::r,hf,hg=>by
  simp only [fk]
  split
  ·cases h:aW r with
   | none=>rfl
   | some q =>
    obtain ⟨a,r'⟩:=q
    have:=im h
    simp only [List.length_cons] at hf hg
    simp only
    rw [pf f g r' (by omega) (by omega)]
  ·rfl
theorem iF {x:ByteArray} {r:List ByteArray} (h:(x.toList == bDo.toList)=false):aN (x::r)=some ([],x::r):=by
 show fk (r.length+1) (x::r)=_
 rw [fk,h];rfl
theorem iE {x:ByteArray} {r:List ByteArray} (h:(x.toList == bDo.toList)=true) (h2:aW r=none):aN (x::r)=none:=by
 show fk (r.length+1) (x::r)=_
 rw [fk,h,h2];rfl
theorem eA {x:ByteArray} {r r':List ByteArray} {a:Ref.Act} (h:(x.toList == bDo.toList)=true) (h2:aW r=some (a,r')):aN (x::r)=(aN r').map fun q=>(a::q.1,q.2):=by
 have:=im h2
 show fk (r.length+1) (x::r)=_
 rw [fk,h,if_pos rfl,h2]
 simp only
 rw [pf r.length r'.length r' (by omega) (Nat.le_refl _)]
 show _=(fk r'.length r').map _
 cases fk r'.length r' with
 | none=>rfl
 | some q=>rfl
end Pro
theorem o9 {p base size n:Nat} {e:TypeId} {v:Value} {xs:List Value} {w w':World} (h:w.ownsRow base e size v n xs) (ht:ai p w w') (hp:p<base):w'.ownsRow base e size v n xs:=by
 refine ⟨h.1,?_⟩
 rcases h.2 with h' | ⟨k,cap,cur,hv,hb,hk,r⟩
 ·exact .inl h'
 ·exact .inr ⟨k,cap,cur,hv,hb,by rw [ht.block k (Array.getElem?_eq_some_iff.1 hk).1 (by omega)];exact hk,r⟩
theorem ai.grown {p:Nat} {w w1 w2:World} {row:Option Nat} (h:ai p w w1) (hg:w1.grownBy w2 row) (hr:∀ k,row=some k→w.heap.size≤k):ai p w w2 :=
 ⟨hg.os.trans h.os,hg.tape.trans h.tape,hg.output.trans h.output,Nat.le_trans h.size hg.size,fun k hk hp=>(hg.block k (Nat.lt_of_lt_of_le hk h.size) (fun e=>by have:=hr k e.symm;omega)).trans (h.block k hk hp)⟩
theorem aa.grown {w w':World} {p:Nat} {num dep:Int} {l:List ByteArray} {row:Option Nat} (H:aa w p num dep l) (hg:w.grownBy w' row) (hr:∀ k,row=some k→p<k):aa w' p num dep l:=by
 obtain ⟨a,cap,hp,hc,hs⟩:=H.row
 refine ⟨⟨a,cap,?_,hc,fun h => ?_⟩,H.len,H.sizes⟩
 ·rw [hg.block p (Array.getElem?_eq_some_iff.1 hp).1 (fun e=>by have:=hr p e.symm;omega)];exact hp
 ·obtain ⟨b,off,h1,h2,h3,h4⟩:=hs h
  refine ⟨b,off,h1,h2,Nat.lt_of_lt_of_le h3 hg.size,fun i hi => ?_⟩
  rw [hg.cell_far ⟨b,off+i,none⟩ h3 (fun e=>by have:=hr b e.symm;omega)];exact h4 i hi
theorem Tryz.oQ:(Tryz.prog.info? 324).map (fun i=>(i.zero,i.size,i.bytes))=some (some .nilIface,1,16):=by kernel_rfl
def fD (p:Nat) (num dep:Int) (l:List ByteArray) (w:World) (e:Ending) (w':World):Prop:=match Pro.aN l with
 | none=>bT p 2 num w e w'
 | some (A,r)=>∃ a n c,e = .returned (.slice a n c)∧w'.ownsRow w.heap.size 324 1 (.slice a n c) A.length (A.map bp)∧ai p w w'∧aa w' p num dep r
theorem wv (a:Ref.Act):∃ t u,bp a = .iface t u:=by
 unfold bp vM
 repeat' split
 all_goals exact ⟨_,_,rfl⟩
theorem gW (p:Nat) (num dep:Int) (l:List ByteArray) (w:World) (H:aa w p num dep l) (hv:bh p w) :
  Calls Tryz.prog 246 #[.pointer (some ⟨p,0,none⟩)] w (fD p num dep l w):=by
 have hpl:=H.lt
 have hll:=H.len
 obtain ⟨i0,hi0,hz0,hz1,hz2⟩:=info_parts Tryz.oQ
 go_enter Tryz.func246,Tryz.ntmps246
 go_wp2_with fail
 go_loopg [3] l.length (fun q v wr=>∃ (va:Option Addr) (vn vc:Nat) (A:List Ref.Act) (l':List ByteArray),q=l'.length∧v = .slice va vn vc∧A.length+l'.length≤l.length∧Pro.aN l=(Pro.aN l').map (fun q=>(A++q.1,q.2))∧wr.ownsRow w.heap.size 324 1 (.slice va vn vc) A.length (A.map bp)∧ai p w wr∧aa wr p num dep l')
 case atStart=>exact ⟨none,0,0,[],l,rfl,rfl,by simp,by cases Pro.aN l <;> rfl,World.ownsRow_nil _ _ _ _,ai.refl _ _,H⟩
 case round =>
  obtain ⟨va,vn,vc,A,l',hq,rfl,hlen,hP,hown,ht,H'⟩:=hrel
  have HP:Hid _:=hP
  clear hP
  have hsz:=ht.size
  cases l' with
  | nil =>
   go_wp2_with (go_at_call 245;refine (skip_none p num dep Pro.bDo _ H').mono ?_;rintro e w9 ⟨rfl,hw9⟩;rw [hw9];clear hw9 w9)
   go_ret
   unfold fD
   rw [HP.out]
   exact ⟨va,vn,vc,rfl,by simpa using hown,ht,H'⟩
  | cons x r =>
   cases hx:(x.toList == Pro.bDo.toList)
   ·have HS:Hid _:=Pro.iF (r:=r) hx
    go_wp2_with (go_at_call 245;refine (n8 p num dep x r Pro.bDo _ H' hx).mono ?_;rintro e w9 ⟨rfl,hw9⟩;rw [hw9];clear hw9 w9)
    go_ret
    unfold fD
    rw [HP.out,HS.out]
    exact ⟨va,vn,vc,rfl,by simpa using hown,ht,H'⟩
   ·cases ha:Pro.aW r with
    | none =>
     have HS:Hid (Pro.aN l=none):=by unfold Hid;rw [HP.out,Pro.iE hx ha];rfl
     go_wp2_with fail
     refine (iT p num dep x r Pro.bDo _ H' hx).mono ?_
     rintro e w1 ⟨rfl,ho1,H1⟩
     have ht1:=ht.trans ho1.ah
     clear ho1
     dsimp only
     go_wp2_with fail
     refine (oh p num dep r _ H1 (hv.ah ht1)).mono ?_
     rintro e w2 hq2
     rw [ha] at hq2
     obtain ⟨ht2,b,h4,h5,rfl⟩:=hq2
     dsimp only
     refine ⟨rfl,?_⟩
     unfold fD
     rw [HS.out]
     exact ⟨ht1.trans ht2,b,Nat.le_trans ht1.size h4,h5,rfl⟩
    | some q =>
     obtain ⟨a,r'⟩:=q
     have hal:=Pro.im ha
     have HS:Hid (Pro.aN l=(Pro.aN r').map (fun q=>((A++[a])++q.1,q.2))):=by
      unfold Hid;rw [HP.out,Pro.eA hx ha]
      cases Pro.aN r' with
      | none=>rfl
      | some q=>simp
     go_wp2_with fail
     refine (iT p num dep x r Pro.bDo _ H' hx).mono ?_
     rintro e w1 ⟨rfl,ho1,H1⟩
     have ht1:=ht.trans ho1.ah
     have hown1:=o9 hown ho1.ah hpl
     clear ho1
     dsimp only
     go_wp2_with fail
     refine (oh p num dep r _ H1 (hv.ah ht1)).mono ?_
     rintro e w2 hq2
     rw [ha] at hq2
     obtain ⟨rfl,ht2,H2⟩:=hq2
     have hown2:=o9 hown1 ht2 hpl
     have ht3:=ht1.trans ht2
     have hs3:=ht3.size
     clear ha H1 ht1 ht2 hown1 hown
     simp only [List.length_cons] at hlen
     dsimp only
     obtain ⟨at1,au1,hav⟩:=wv a
     rw [hav]
     have HAV:Hid _:=hav
     clear hav
     go_wp2_with (at_builtin;refine wpList_append_lies _ (by rfl) (.tmp 6) (.tmp 9) _ (by rfl) w.heap.size 324 i0 _ 1 16 Tryz.underlying239 hi0 hz0 hz1 hz2 rfl (by decide) (.slice va vn vc) A.length (A.map bp) (by rfl) (World.ownsRow.alloc hown2 _) ⟨w2.heap.size,0,none⟩ 1 1 [.iface at1 au1] (by rfl) (by rfl) (World.news_of_block (cs:=#[.iface at1 au1]) (t:=324) (fr:=(0,0)) (heap_alloc_new w2 _)) (by intro u hu;rw [List.mem_singleton.1 hu];rfl) (by omega) (by unfold maxLen;omega) (by omega) (by simp;omega) (w2.heap.size+1) (by simp) ?_;intro g5 cap5 w5 hown5 hgrow hat hlt5)
     go_roundg r'.length
     case measure=>omega
     case rel =>
      refine ⟨some ⟨g5,0,none⟩,A.length+1,cap5,A++[a],r',rfl,rfl,by simp;omega,HS.out,?_,(ht3.alloc _).grown hgrow (fun k e=>(World.ownsRow.lt hown2 k e).1),(H2.alloc _).grown hgrow (fun k e=>Nat.lt_of_lt_of_le hpl (World.ownsRow.lt hown2 k e).1)⟩
      rw [List.length_append,List.map_append,List.map_cons,List.map_nil,HAV.out]
      exact hown5
theorem Tryz.Au:Tryz.f223.results=#[.cell 2 384]:=rfl
theorem Tryz.xU:(Tryz.prog.info? 384).map (·.size)=some 3:=by kernel_rfl
namespace Pro
def bR (l:List ByteArray):Option (List Ref.Act×List ByteArray):=match aN l with
 | none=>none
 | some ([],_)=>none
 | some (a::A,r)=>some (a::A,r)
end Pro
def dN (p:Nat) (num dep:Int) (l:List ByteArray) (w:World) (e:Ending) (w':World):Prop:=match Pro.bR l with
 | none=>bT p 2 num w e w'
 | some (A,r)=>∃ a n c,e = .returned (.agg #[.int .i64 num,.int .i64 dep,.slice a n c])∧w'.ownsRow w.heap.size 324 1 (.slice a n c) A.length (A.map bp)∧ai p w w'∧aa w' p num dep r
theorem fQ.trans {g:Nat} {a b c:World} (h:fQ g a b) (k:fQ g b c):fQ g a c:=⟨k.os.trans h.os,k.tape.trans h.tape,k.output.trans h.output,k.size.trans h.size,fun i hi=>(k.block i hi).trans (h.block i hi)⟩
theorem ai.ga {p N:Nat} {w w1 w2:World} (h:ai p w w1) (ho:fQ N w1 w2) (hN:w.heap.size≤N):ai p w w2 :=
 ⟨ho.os.trans h.os,ho.tape.trans h.tape,ho.output.trans h.output,by rw [ho.size];exact h.size,fun k hk hp=>(ho.block k (by omega)).trans (h.block k hk hp)⟩
theorem i1 (p:Nat) (num dep:Int) (l:List ByteArray) (w:World) (H:aa w p num dep l) (hv:bh p w) :
  Calls Tryz.prog 223 #[.pointer (some ⟨p,0,none⟩)] w (dN p num dep l w):=by
 have hpl:=H.lt
 cases ha:Pro.aN l with
 | none =>
  have HS:Hid (Pro.bR l=none):=by unfold Hid Pro.bR;rw [ha]
  go_enter Tryz.func223,Tryz.ntmps223
  go_wp2_with fail
  refine (gW p num dep l _ (H.alloc _) (hv.alloc _)).mono ?_
  rintro e w1 h1
  unfold fD at h1
  rw [ha] at h1
  obtain ⟨ht,b,h4,h5,rfl⟩:=h1
  dsimp only
  refine ⟨rfl,?_⟩
  unfold dN
  rw [HS.out]
  exact ⟨((ai.refl p w).alloc _).trans ht,b,by simp at h4;omega,h5,rfl⟩
 | some q =>
  obtain ⟨A,r⟩:=q
  cases A with
  | nil =>
   have HS:Hid (Pro.bR l=none):=by unfold Hid Pro.bR;rw [ha]
   go_enter Tryz.func223,Tryz.ntmps223
   go_wp2_with fail
   refine (gW p num dep l _ (H.alloc _) (hv.alloc _)).mono ?_
   rintro e w1 h1
   unfold fD at h1
   rw [ha] at h1
   obtain ⟨a,n,c,rfl,hown,ht1,H1⟩:=h1
   obtain rfl:n=0:=by
    rcases hown.2 with ⟨hv',_⟩ | ⟨g,cap,cur,hv',_⟩
    ·simp only [Value.slice.injEq] at hv';exact hv'.2.1
    ·simp only [Value.slice.injEq] at hv';exact hv'.2.1
   obtain ⟨c0,c1⟩:=H1.cells
   have ht:ai p w w1:=((ai.refl p w).alloc _).trans ht1
   clear ht1 hown ha
   dsimp only
   go_wp2_with fail
   refine (aL num dep 2 _).mono ?_
   rintro e w2 hq
   obtain ⟨ht',b,h4,h5,rfl⟩:=bK ht hq
   dsimp only
   refine ⟨rfl,?_⟩
   unfold dN
   rw [HS.out]
   exact ⟨ht',b,h4,h5,rfl⟩
  | cons a0 A =>
   have HS:Hid (Pro.bR l=some (a0::A,r)):=by unfold Hid Pro.bR;rw [ha]
   go_enter Tryz.func223,Tryz.ntmps223
   go_wp2_with fail
   refine (gW p num dep l _ (H.alloc _) (hv.alloc _)).mono ?_
   rintro e w1 h1
   unfold fD at h1
   rw [ha] at h1
   obtain ⟨a,n,c,rfl,hown,ht1,H1⟩:=h1
   obtain rfl:n=(a0::A).length:=by
    rcases hown.2 with ⟨hv',h0⟩ | ⟨g,cap,cur,hv',_⟩
    ·simp only [Value.slice.injEq] at hv';rw [h0];exact hv'.2.1
    ·simp only [Value.slice.injEq] at hv';exact hv'.2.1
   have hN:w1.heap[w.heap.size]?=some (.cells #[.int .i64 0,.int .i64 0,.slice none 0 0] 384 (0,0)):=by
    rw [ht1.block w.heap.size (by simp) (by omega)];exact heap_alloc_new w _
   have d0:w1.cell? ⟨w.heap.size,0,none⟩=some (.int .i64 0):=by rw [cell_of_row w1 _ 0 _ _ _ hN];rfl
   have d1:w1.cell? ⟨w.heap.size,1,none⟩=some (.int .i64 0):=by rw [cell_of_row w1 _ 1 _ _ _ hN];rfl
   have d2:w1.cell? ⟨w.heap.size,2,none⟩=some (.slice none 0 0):=by rw [cell_of_row w1 _ 2 _ _ _ hN];rfl
   have f0:w1.frozen? ⟨w.heap.size,0,none⟩=false:=by simp [World.frozen?,hN]
   have f1:w1.frozen? ⟨w.heap.size,1,none⟩=false:=by simp [World.frozen?,hN]
   have f2:w1.frozen? ⟨w.heap.size,2,none⟩=false:=by simp [World.frozen?,hN]
   obtain ⟨c0,c1⟩:=H1.cells
   have ht:ai p w w1:=((ai.refl p w).alloc _).trans ht1
   have hown':=aI hown (show w.heap.size≤(w.alloc (.cells #[.int .i64 0,.int .i64 0,.slice none 0 0] 384)).heap.size by simp)
   have hpos:(((a0::A).length:Int) == 0)=false:=by simp;omega
   clear ht1 ha hown
   generalize hm:(a0::A).length=m at *
   have HM:Hid _:=hm
   clear hm
   dsimp only
   go_wp2
   have o1:=ae w1 w.heap.size 0 (.int .i64 num)
   have o2:=ae (w1.setCell ⟨w.heap.size,0,none⟩ (.int .i64 num)) w.heap.size 1 (.int .i64 dep)
   have o3:=ae ((w1.setCell ⟨w.heap.size,0,none⟩ (.int .i64 num)).setCell ⟨w.heap.size,1,none⟩ (.int .i64 dep)) w.heap.size 2 (.slice a m c)
   have oo:=(o1.trans o2).trans o3
   have g1:=heap_setCell_same w1 w.heap.size 0 _ _ (.int .i64 num) hN
   have g2:=heap_setCell_same _ w.heap.size 1 _ _ (.int .i64 dep) g1
   have g3:=heap_setCell_same _ w.heap.size 2 _ _ (.slice a m c) g2
   refine dt Tryz.Au _ 384 _ (0,0) _ rfl g3 Tryz.underlying384 rfl Tryz.xU rfl ?_
   unfold dN
   rw [HS.out]
   exact ⟨a,m,c,rfl,by rw [HM.out];exact ka hown' oo hN (by decide),ht.ga oo (Nat.le_refl _),H1.only oo hpl⟩
theorem dC (p:Nat) (num dep:Int) (l:List ByteArray) (w:World) (H:aa w p num dep l) (hv:bh p w) :
  Calls Tryz.prog 219 #[.pointer (some ⟨p,0,none⟩),.func (.func 244) #[] #[]] w (dP p num dep ((Pro.pOf Ref.plain l).map fun q=>(.string q.1,q.2)) w):=by
 cases l with
 | nil=>exact ig p num dep _ w H
 | cons x r =>
  cases hx:Ref.plain x
  ·have:Pro.pOf Ref.plain (x::r)=none:=by rw [Pro.pOf,hx];rfl
   rw [this];exact o8 p num dep x r w H hv hx
  ·have:Pro.pOf Ref.plain (x::r)=some (x,r):=by rw [Pro.pOf,hx];rfl
   rw [this];exact nK p num dep x r w H hv hx
theorem eM (p:Nat) (num dep:Int) (l:List ByteArray) (w:World) (H:aa w p num dep l) (hv:bh p w) :
  Calls Tryz.prog 219 #[.pointer (some ⟨p,0,none⟩),.func (.func 220) #[] #[]] w (dP p num dep ((Pro.pOf Ref.bG l).map fun q=>(.string q.1,q.2)) w):=by
 cases l with
 | nil=>exact ig p num dep _ w H
 | cons x r =>
  cases hx:Ref.bG x
  ·have:Pro.pOf Ref.bG (x::r)=none:=by rw [Pro.pOf,hx];rfl
   rw [this];exact lN p num dep x r w H hv hx
  ·have:Pro.pOf Ref.bG (x::r)=some (x,r):=by rw [Pro.pOf,hx];rfl
   rw [this];exact kO p num dep x r w H hv hx
theorem Tryz.Ct:Tryz.f216.results=#[.cell 4 376]:=rfl
theorem Tryz.fC:(Tryz.prog.info? 376).map (·.size)=some 4:=by kernel_rfl
theorem mh (p:Nat) (num dep k:Int) (l:List ByteArray) (w:World) (H:aa w p num dep l) (hv:bh p w) (hn:Pro.pOf Ref.plain l=none) :
  Calls Tryz.prog 216 #[.pointer (some ⟨p,0,none⟩),.int .i64 k] w (bT p 2 num w):=by
 have hpl:=H.lt
 obtain ⟨c0,c1⟩:=H.cells
 go_enter Tryz.func216,Tryz.ntmps216
 go_wp2_with fail
 have H1:=(H.alloc (.cells #[.int .i64 0,.int .i64 0,.int .i64 0,.string ByteArray.empty] 376)).drew
 have hv1:bh p (w.alloc (.cells #[.int .i64 0,.int .i64 0,.int .i64 0,.string ByteArray.empty] 376)).drew:=(hv.alloc _).ah (ai.refl p _).drew
 refine wp_region_any (by kernel_rfl) ?_
 change wpAny _ _ _ _ _ _ _ (World.drew _)
 refine tA 0 (.pointer (some ⟨p,0,none⟩)) rfl ?_
 refine tA 1 (.pointer (some ⟨p,0,none⟩)) rfl ?_
 refine tA 2 (.pointer (some ⟨p,0,none⟩)) rfl ?_
 refine tA 4 (.int .i64 k) rfl ?_
 refine tA 5 (.pointer (some ⟨p,0,none⟩)) rfl ?_
 refine yA [3,6] ?_
 refine AllReady.cons rfl (fun K hK => ?_) (AllReady.cons rfl (fun K hK => ?_) AllReady.nil)
 ·go_simp
  refine hK _ _ ?_
  clear hK K
  refine zA 6 rfl fun K hK => ?_
  go_simp
  (refine (dC p num dep l _ H1 hv1).mono ?_;rintro e w4 h4;rw [hn] at h4;obtain ⟨ht,b,h5,h6,rfl⟩:=h4;dsimp only;exact ⟨rfl,((ai.refl p w).alloc _).drew.trans ht,b,by simp at h5;omega,h6,rfl⟩)
 ·go_simp
  (refine (dC p num dep l _ H1 hv1).mono ?_;rintro e w4 h4;rw [hn] at h4;obtain ⟨ht,b,h5,h6,rfl⟩:=h4;dsimp only;exact ⟨rfl,((ai.refl p w).alloc _).drew.trans ht,b,by simp at h5;omega,h6,rfl⟩)
theorem kg (p:Nat) (num dep k:Int) (l r:List ByteArray) (x:ByteArray) (w:World) (H:aa w p num dep l) (hv:bh p w) (hn:Pro.pOf Ref.plain l=some (x,r)) :
  Calls Tryz.prog 216 #[.pointer (some ⟨p,0,none⟩),.int .i64 k] w fun e w'=>e = .returned (.agg #[.int .i64 num,.int .i64 dep,.int .i64 k,.string x])∧ai p w w'∧aa w' p num dep r:=by
 have hpl:=H.lt
 obtain ⟨c0,c1⟩:=H.cells
 go_enter Tryz.func216,Tryz.ntmps216
 go_wp2_with fail
 have H1:=(H.alloc (.cells #[.int .i64 0,.int .i64 0,.int .i64 0,.string ByteArray.empty] 376)).drew
 have hv1:bh p (w.alloc (.cells #[.int .i64 0,.int .i64 0,.int .i64 0,.string ByteArray.empty] 376)).drew:=(hv.alloc _).ah (ai.refl p _).drew
 go_region_held3 (fun W=>W.cell? ⟨p,0,none⟩=some (.int .i64 num)∧W.cell? ⟨p,1,none⟩=some (.int .i64 dep)) (first | go_keep | exact ⟨k0,k1⟩ | exact ⟨k2,k3⟩)
  ((go_at_call 219;refine (dC p num dep l _ H1 hv1).mono ?_;rintro e w4 h4;rw [hn] at h4;obtain ⟨rfl,ht4,H4⟩:=h4;obtain ⟨k0,k1⟩:=H4.cells;have hN:w4.heap[w.heap.size]?=some (.cells #[.int .i64 0,.int .i64 0,.int .i64 0,.string ByteArray.empty] 376 (0,0)):=(ht4.block w.heap.size (by simp) (by omega)).trans (heap_alloc_new w _);have d0:w4.cell? ⟨w.heap.size,0,none⟩=some (.int .i64 0):=by rw [cell_of_row w4 _ 0 _ _ _ hN];rfl
    have d1:w4.cell? ⟨w.heap.size,1,none⟩=some (.int .i64 0):=by rw [cell_of_row w4 _ 1 _ _ _ hN];rfl
    have d2:w4.cell? ⟨w.heap.size,2,none⟩=some (.int .i64 0):=by rw [cell_of_row w4 _ 2 _ _ _ hN];rfl
    have d3:w4.cell? ⟨w.heap.size,3,none⟩=some (.string ByteArray.empty):=by rw [cell_of_row w4 _ 3 _ _ _ hN];rfl
    have f0:w4.frozen? ⟨w.heap.size,0,none⟩=false:=by simp [World.frozen?,hN]
    have f1:w4.frozen? ⟨w.heap.size,1,none⟩=false:=by simp [World.frozen?,hN]
    have f2:w4.frozen? ⟨w.heap.size,2,none⟩=false:=by simp [World.frozen?,hN]
    have f3:w4.frozen? ⟨w.heap.size,3,none⟩=false:=by simp [World.frozen?,hN]
    have hne:¬ p=w.heap.size:=by omega
    have hne2:¬ w.heap.size=p:=by omega
    dsimp only))
 go_wp2
 have o1:=ae w4 w.heap.size 0 (.int .i64 num)
 have o2:=ae (w4.setCell ⟨w.heap.size,0,none⟩ (.int .i64 num)) w.heap.size 1 (.int .i64 dep)
 have o3:=ae ((w4.setCell ⟨w.heap.size,0,none⟩ (.int .i64 num)).setCell ⟨w.heap.size,1,none⟩ (.int .i64 dep)) w.heap.size 2 (.int .i64 k)
 have o4:=ae (((w4.setCell ⟨w.heap.size,0,none⟩ (.int .i64 num)).setCell ⟨w.heap.size,1,none⟩ (.int .i64 dep)).setCell ⟨w.heap.size,2,none⟩ (.int .i64 k)) w.heap.size 3 (.string x)
 have oo:=((o1.trans o2).trans o3).trans o4
 have g1:=heap_setCell_same w4 w.heap.size 0 _ _ (.int .i64 num) hN
 have g2:=heap_setCell_same _ w.heap.size 1 _ _ (.int .i64 dep) g1
 have g3:=heap_setCell_same _ w.heap.size 2 _ _ (.int .i64 k) g2
 have g4:=heap_setCell_same _ w.heap.size 3 _ _ (.string x) g3
 have ht:ai p w w4:=((ai.refl p w).alloc _).drew.trans ht4
 exact dt Tryz.Ct _ 376 _ (0,0) _ rfl g4 Tryz.underlying376 rfl Tryz.fC rfl ⟨rfl,ht.ga oo (Nat.le_refl _),H4.only oo hpl⟩
end
end Go.Proofs.YtegmoddppafkfaaGreatDoor
