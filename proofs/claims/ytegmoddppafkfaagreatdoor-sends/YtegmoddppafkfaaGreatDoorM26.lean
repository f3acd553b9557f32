import Derived.Test.YtegmoddppafkfaaGreatDoorM00
import Derived.Test.YtegmoddppafkfaaGreatDoorM25
set_option maxRecDepth 100000
set_option maxHeartbeats 8000000
namespace Go.Proofs.YtegmoddppafkfaaGreatDoor
section
open Go.RowKit
variable {w0 w:World} {db mb nm:Nat} {sv pv ov:Ref.Sl} {tm:Bool} {X:List Pro.DS} {SP:List (Int×Int)} {O:List Nat} {PT:Nat→List Nat} {D:DataW Nat}
def cR (X:List Pro.DS) (p:List Nat):Bool:=p.any fun j=>match X[j]? with | some x => !Pro.cH (Pro.ao x.s) | none=>false
theorem kI (u:Nat) (G:al w0 w db sv pv ov mb tm X SP O PT nm D) (hu:u<X.length) (hX:X.length≤1000) (hPT:∀ j∈PT u,j<X.length) (hPl:(PT u).length≤1000) :
  Calls Tryz.prog 178 #[.pointer (some ⟨db,0,none⟩),.agg #[.int .i64 (Pro.ao X[u].s),.string X[u].s.name,.int .i64 X[u].s.depth,.int .i64 X[u].s.up,.slice X[u].vp.a (PT u).length X[u].vp.c,.slice X[u].ve.a X[u].ve.n X[u].ve.c,.slice X[u].vl.a X[u].vl.n X[u].vl.c,.slice X[u].vm.a X[u].vm.n X[u].vm.c]] w fun e w'=>e = .returned (.bool (cR X (PT u)))∧Below w.heap.size w w':=by
 obtain ⟨g,cap,rfl⟩:=G.Cz (by omega)
 obtain ⟨hcap,hgl,_⟩:=G.zn
 have hdl:=G.dlt
 obtain ⟨c0,_,_,_,_⟩:=G.cells
 have HR:Hid (∀ j (hj:j<X.length),w.cell? ⟨g,j*8,none⟩=some (.int .i64 (Pro.ao X[j].s))):=fun j hj=>by
  have:=G.Az hj 0 (.int .i64 (Pro.ao X[j].s)) rfl
  simpa using this
 have HV:Hid (∀ k (hk:k<(PT u).length),∃ gp,X[u].vp.a=some ⟨gp,0,none⟩∧gp<w.heap.size∧w.cell? ⟨gp,k,none⟩=some (.int .i64 ((PT u)[k]:Nat))∧(PT u).length≤X[u].vp.c):=fun k hk=>by
  have ho:=G.parts u hu
  obtain ⟨gp,cp,e⟩:=Ref.gI ho (by omega)
  have h:=ho
  rw [e] at h
  have hc:=Row.cell (α:=Nat) (n:=1) (j:=0) (f:=dK) (fun _=>rfl) (aI h (Nat.zero_le _)) (by decide) hk
  have hc':w.cell? ⟨gp,k,none⟩=some (.int .i64 ((PT u)[k]:Nat)):=by simpa [dK] using hc
  simp only [Ref.Sl.v,Value.slice.injEq] at e
  refine ⟨gp,e.1,World.block_lt_of_cell? _ _ hc',hc',?_⟩
  rcases h.2 with ⟨h,_⟩ | ⟨g',cap',cur,h,_,_,hle,_⟩
  ·cases h
  ·simp at h;rw [e.2.2,h.2];exact hle
 have HP:Hid _:=hPT
 generalize hkd:Pro.ao X[u].s=kd0
 generalize hva:X[u].vp.a=va at *
 generalize hvc:X[u].vp.c=vc at *
 clear hkd hva hvc hPT G
 go_enter Tryz.func178,Tryz.ntmps178
 go_wp2
 go_loop [10] (fun i=>∃ k:Nat,k≤(PT u).length∧i = .int .i64 k∧cR X ((PT u).take k)=false) (fun i=>(PT u).length-(intOf i).toNat)
 case atStart=>exact ⟨0,Nat.zero_le _,rfl,rfl⟩
 case round =>
  obtain ⟨k,hk,rfl,hno⟩:=hrel
  by_cases hkn:k<(PT u).length
  ·obtain ⟨gp,rfl,hgp,cp,hcp⟩:=HV.out k hkn
   have hj:=HP.out _ (List.getElem_mem hkn)
   obtain ⟨j,hje⟩:∃ j,j=(PT u)[k]:=⟨_,rfl⟩
   rw [← hje] at cp hj
   have cK:=HR.out j hj
   have HN:Hid (cR X ((PT u).take (k+1))=(cR X ((PT u).take k) || !Pro.cH (Pro.ao X[j].s))):=by
    unfold Hid cR
    rw [List.take_add_one,List.getElem?_eq_getElem hkn,List.any_append,← hje]
    simp [hj]
   generalize hq:Pro.ao X[j].s=kj at *
   clear hq
   have HNo:Hid _:=hno
   clear hno hje
   go_wp2_with fail
   refine (iC kj _).mono ?_
   rintro e w9 ⟨rfl,hw9⟩
   rw [hw9]
   clear hw9 w9
   obtain ⟨h,hh⟩:∃ h,h=Pro.cH kj:=⟨_,rfl⟩
   have hi:(decide (kj=3)||decide (kj=4))=h:=hh.symm
   rw [hi]
   rw [← hh] at HN
   clear hh hi
   cases h with
   | true =>
    dsimp only
    go_wp2
    go_round
    case rel=>exact ⟨k+1,by omega,by go_num,by rw [HN.out,HNo.out];rfl⟩
    case measure=>simp [intOf];omega
   | false =>
    have HT:Hid (cR X (PT u)=true):=by
     have h1:cR X ((PT u).take (k+1))=true:=by rw [HN.out,HNo.out];rfl
     unfold cR at h1
     rw [List.any_eq_true] at h1
     obtain ⟨y,hy,hy2⟩:=h1
     show List.any _ _=true
     rw [List.any_eq_true]
     exact ⟨y,List.mem_of_mem_take hy,hy2⟩
    dsimp only
    go_wp2
    go_ret
    exact ⟨by rw [HT.out];rfl,(Below.refl _ _).alloc (Nat.le_refl _) _⟩
  ·have hkl:k=(PT u).length:=by omega
   have HF:Hid (cR X (PT u)=false):=by
    have h:=hno
    rw [hkl,List.take_length] at h;exact h
   clear hno
   go_wp2
   go_ret
   exact ⟨by rw [HF.out];rfl,(Below.refl _ _).alloc (Nat.le_refl _) _⟩
namespace Pro
theorem qt {S:List Ref.State} {i:Nat} (hI:Inv S i) {X:List DS} (hX:X.map (·.s)=S) (k:Nat):(Ref.regions (S.map Ref.emb) k).isEmpty = !cR X (parts S k):=by
 have hmem:∀ (m:Nat) (x:Nat),x∈Ref.pt (S.map Ref.emb) k m↔x<m∧∃ h:x<S.length,S[x].up=k∧cH (ao S[x])=false:=by
  intro m
  induction m with
  | zero=>intro x;simp [Ref.pt]
  | succ m ih =>
   intro x
   rw [Ref.pt]
   by_cases hm:m<S.length
   ·have e:((S.map Ref.emb)[m]?.map (Ref.yJ k)).getD false=(decide (S[m].up=k) && !cH (ao S[m])):=by
     rw [List.getElem?_map,List.getElem?_eq_getElem hm]
     simp only [Option.map_some,Option.getD_some,Ref.yJ,Ref.emb]
     rw [gx (hI.words _ (List.getElem_mem hm))]
    rw [e]
    by_cases hc:(decide (S[m].up=(k:Int)) && !cH (ao S[m]))=true
    ·rw [if_pos hc,List.mem_append,ih,List.mem_singleton]
     rw [Bool.and_eq_true,decide_eq_true_eq,Bool.not_eq_true'] at hc
     constructor
     ·rintro (⟨h1,h2⟩ | rfl)
      ·exact ⟨by omega,h2⟩
      ·exact ⟨by omega,hm,hc.1,hc.2⟩
     ·rintro ⟨h1,h2⟩
      by_cases ex:x=m
      ·exact .inr ex
      ·exact .inl ⟨by omega,h2⟩
    ·rw [if_neg hc,ih]
     constructor
     ·rintro ⟨h1,h2⟩;exact ⟨by omega,h2⟩
     ·rintro ⟨h1,h2⟩
      refine ⟨?_,h2⟩
      have:x≠m:=by
       rintro rfl
       obtain ⟨_,h3,h4⟩:=h2
       apply hc
       rw [decide_eq_true h3,h4];rfl
      omega
   ·have e:((S.map Ref.emb)[m]?.map (Ref.yJ k)).getD false=false:=by
     rw [List.getElem?_eq_none (by rw [List.length_map];omega)];rfl
    rw [e]
    simp only [Bool.false_eq_true,if_false]
    rw [ih]
    constructor
    ·rintro ⟨h1,h2⟩;exact ⟨by omega,h2⟩
    ·rintro ⟨h1,h2,h3⟩;exact ⟨by omega,h2,h3⟩
 unfold Ref.regions
 rw [List.length_map]
 have hXl:X.length=S.length:=by rw [← hX,List.length_map]
 have hXs:∀ x (h:x<S.length),(X[x]'(by omega)).s=S[x]:=fun x h=>by
  subst hX;rw [List.getElem_map]
 cases hp:cR X (parts S k)
 ·show _=true
  rw [List.isEmpty_iff]
  unfold cR at hp
  rw [List.any_eq_false] at hp
  rw [List.eq_nil_iff_forall_not_mem]
  intro x hx
  obtain ⟨h1,h2,h3,h4⟩:=(hmem S.length x).1 hx
  have:=hp x ((gu S.length).2 ⟨h2,by rw [getD_eq h2];exact h3⟩)
  rw [List.getElem?_eq_getElem (by omega)] at this
  simp only [hXs x h2,h4] at this
  exact this rfl
 ·show _=false
  unfold cR at hp
  rw [List.any_eq_true] at hp
  obtain ⟨x,hx,hx2⟩:=hp
  obtain ⟨h1,h2⟩:=(gu S.length).1 hx
  rw [List.getElem?_eq_getElem (by omega)] at hx2
  simp only [hXs x h1,Bool.not_eq_true'] at hx2
  rw [getD_eq h1] at h2
  have hm:=(hmem S.length x).2 ⟨h1,h1,h2,hx2⟩
  cases hr:Ref.pt (S.map Ref.emb) k S.length with
  | nil=>rw [hr] at hm;cases hm
  | cons a b=>rfl
end Pro
namespace Pro
theorem xI {S:List Ref.State} {i:Nat} (hI:Inv S i) {X:List DS} (hX:X.map (·.s)=S) {k:Nat} (hk:k<S.length) (h:Ref.eB S k=none):Ref.eB S (k+1)=if ao (S.getD k Ref.st0)=1∧cR X (parts S k)=false then some (S.getD k Ref.st0).line else none:=by
 rw [Ref.eB,h]
 simp only
 rw [wi (hI.words _ (dB hk)),qt hI hX]
 by_cases h1:ao (S.getD k Ref.st0)=1
 ·rw [decide_eq_true h1]
  cases hp:cR X (parts S k)
  ·rw [if_pos (by rfl),if_pos ⟨h1,rfl⟩]
  ·rw [if_neg (by simp),if_neg (by simp)]
 ·rw [decide_eq_false h1,if_neg (by simp),if_neg (fun h=>h1 h.1)]
end Pro
def nO (S:List Ref.State) (w:World) (e:Ending) (w':World):Prop:=match Ref.eB S S.length with
 | some l=>aY 3 l w e w'
 | none=>e = .returned (.tuple #[])∧Below w.heap.size w w'
theorem kE (w0 w:World) (db:Nat) (S:List Ref.State) (i:Nat) (H:fU w0 w db S i) (hS:0<S.length) :
  Calls Tryz.prog 143 #[.pointer (some ⟨db,0,none⟩)] w (nO S w):=by
 obtain ⟨⟨sv,pv,ov,mb,X,nm,hX,hnm,G⟩,I⟩:=H
 have hXl:X.length=S.length:=by rw [← hX,List.length_map]
 have hlen:=I.len
 obtain ⟨g,cap,rfl⟩:=G.Cz (by omega)
 obtain ⟨hsvc,hgl,_⟩:=G.zn
 have hdl:=G.dlt
 obtain ⟨c0,c1,_,_,_⟩:=G.cells
 have hpn:=G.Gq
 rw [hpn] at c1
 have hspl:(Pro.de S).length=X.length:=by unfold Pro.de;rw [List.length_map,hXl]
 rw [hspl] at c1
 have HSp:Hid (∀ k (hk:k<X.length),∃ gs,pv.a=some ⟨gs,0,none⟩∧w.cell? ⟨gs,k*2,none⟩=some (.int .i64 (S.getD k Ref.st0).line)∧w.cell? ⟨gs,k*2+1,none⟩=some (.int .i64 (S.getD k Ref.st0).depth)∧X.length≤pv.c):=fun k hk=>by
  have ho:=G.ir
  obtain ⟨gs,cs,e⟩:=Ref.gI ho (by omega)
  have h:=ho
  rw [e] at h
  have hr:=Row.range (f:=Pro.gw) (n:=2) (fun _=>rfl) (aI h (Nat.zero_le _)) (show k<(Pro.de S).length by omega)
  have es:(Pro.de S)[k]'(by omega)=((S.getD k Ref.st0).line,(S.getD k Ref.st0).depth):=by unfold Pro.de;rw [List.getElem_map,Pro.getD_eq (show k<S.length by omega)]
  rw [es] at hr
  simp only [Ref.Sl.v,Value.slice.injEq] at e
  refine ⟨gs,e.1,by have:=hr 0 _ rfl;simpa using this,hr 1 _ rfl,?_⟩
  rcases h.2 with ⟨h,_⟩ | ⟨g',cap',cur,h,_,_,hle,_⟩
  ·cases h
  ·simp at h;rw [e.2.2,h.2,← hspl];exact hle
 have HRow:Hid (∀ k (hk:k<X.length),w.rangeAt g (k*8) [.int .i64 (Pro.ao X[k].s),.string X[k].s.name,.int .i64 X[k].s.depth,.int .i64 X[k].s.up,.slice X[k].vp.a (Pro.parts S k).length X[k].vp.c,.slice X[k].ve.a X[k].ve.n X[k].ve.c,.slice X[k].vl.a X[k].vl.n X[k].vl.c,.slice X[k].vm.a X[k].vm.n X[k].vm.c]):=fun k hk=>by
  have:=G.Az hk
  rw [Pro.aK,G.EV hk] at this
  exact this
 have HHas:Hid (∀ k (hk:k<X.length) w',Below w.heap.size w w'→Calls Tryz.prog 178 #[.pointer (some ⟨db,0,none⟩),.agg #[.int .i64 (Pro.ao X[k].s),.string X[k].s.name,.int .i64 X[k].s.depth,.int .i64 X[k].s.up,.slice X[k].vp.a (Pro.parts S k).length X[k].vp.c,.slice X[k].ve.a X[k].ve.n X[k].ve.c,.slice X[k].vl.a X[k].vl.n X[k].vl.c,.slice X[k].vm.a X[k].vm.n X[k].vm.c]] w' fun e w''=>e = .returned (.bool (cR X (Pro.parts S k)))∧Below w'.heap.size w' w''):=fun k hk w' hb =>
  kI k (G.ay hb) hk (by omega) (fun j hj=>by have:=((Pro.gu S.length).1 hj).1;omega) (Nat.le_trans (Pro.jT S k S.length) (by omega))
 have HXs:Hid (∀ k (hk:k<X.length),Pro.ao X[k].s=Pro.ao (S.getD k Ref.st0)):=fun k hk=>by
  rw [(yL hX (show k<S.length by omega)).2]
 have HI:Hid _:=I
 have HXm:Hid _:=hX
 have HXl:Hid _:=hXl
 have hXb:X.length≤24:=by omega
 clear hX hXl hlen hpn hspl I G hnm hS
 go_enter Tryz.func143,Tryz.ntmps143
 go_wp2
 go_loopg [9] X.length (fun q i wr=>∃ k:Nat,q=X.length-k∧k≤X.length∧i = .int .i64 k∧Ref.eB S k=none∧Below w.heap.size w wr)
 case atStart=>exact ⟨0,rfl,Nat.zero_le _,rfl,rfl,Below.refl _ _⟩
 case round =>
  obtain ⟨k,hq,hk,rfl,hpar,hbr⟩:=hrel
  have hbs:=hbr.size
  by_cases hkn:k<X.length
  ·have hrng:=HRow.out k hkn
   have hrng':wr.rangeAt g (k*8) [.int .i64 (Pro.ao X[k].s),.string X[k].s.name,.int .i64 X[k].s.depth,.int .i64 X[k].s.up,.slice X[k].vp.a (Pro.parts S k).length X[k].vp.c,.slice X[k].ve.a X[k].ve.n X[k].ve.c,.slice X[k].vl.a X[k].vl.n X[k].vl.c,.slice X[k].vm.a X[k].vm.n X[k].vm.c]:=fun j v hj=>(World.cell?_of_block (w:=w) (hbr.block g hgl)).trans (hrng j v hj)
   have HP1:Hid _:=Pro.xI HI.out HXm.out (k:=k) (by have:=HXl.out;omega) hpar
   have hkk:=HXs.out k hkn
   have HPar:Hid _:=hpar
   clear hrng hpar
   by_cases h1:Pro.ao X[k].s=1
   ·have HH:Hid _:=HHas.out k hkn
    have HS1:Hid (Pro.ao (S.getD k Ref.st0)=1):=by unfold Hid;rw [← hkk];exact h1
    rw [h1] at hrng' HH
    clear hkk h1
    go_wp2_with (first
     | (refine wpList_load_mid rfl 242 (.tmp 12) rfl g (k*8) rfl _ _ hrng' Tryz.underlying242 rfl Tryz.bS ?_)
     | (refine aG rfl 242 (.tmp 3) (.tmp 13) rfl 242 _ _ rfl rfl Tryz.bS rfl rfl ?_))
    have hbw1:Below w.heap.size w (wr.alloc (.cells #[.int .i64 1,.string X[k].s.name,.int .i64 X[k].s.depth,.int .i64 X[k].s.up,.slice X[k].vp.a (Pro.parts S k).length X[k].vp.c,.slice X[k].ve.a X[k].ve.n X[k].ve.c,.slice X[k].vl.a X[k].vl.n X[k].vl.c,.slice X[k].vm.a X[k].vm.n X[k].vm.c] 242)):=hbr.alloc hbs _
    refine Calls.mono (HH.out _ hbw1) ?_
    rintro e w2 ⟨rfl,hb2⟩
    have hbw2:=hbw1.trans (hb2.mono hbw1.size)
    clear hbw1 hb2 hrng'
    have d1:w2.cell? ⟨db,1,none⟩=some (.slice pv.a X.length pv.c):=(World.cell?_of_block (w:=w) (hbw2.block db hdl)).trans c1
    cases hp:cR X (Pro.parts S k) with
    | true =>
     have HN:Hid (Ref.eB S (k+1)=none):=by unfold Hid;rw [HP1.out,if_neg (by rw [hp];simp)]
     clear hp
     dsimp only
     go_wp2
     go_roundg (X.length-(k+1))
     case measure=>omega
     case rel=>exact ⟨k+1,rfl,by omega,by go_num,HN.out,hbw2⟩
    | false =>
     have HN:Hid (Ref.eB S S.length=some (S.getD k Ref.st0).line):=Ref.pg (i:=k+1) (by rw [HP1.out,if_pos ⟨HS1.out,hp⟩]) _ (by have:=HXl.out;omega)
     obtain ⟨gs,hpva,s0,s1,hpc⟩:=HSp.out k hkn
     have hgs:=World.block_lt_of_cell? _ _ s0
     have t0:=(World.cell?_of_block (w:=w) (w':=w2) (a:=⟨gs,k*2,none⟩) (hbw2.block gs hgs)).trans s0
     have t1:=(World.cell?_of_block (w:=w) (w':=w2) (a:=⟨gs,k*2+1,none⟩) (hbw2.block gs hgs)).trans s1
     rw [hpva] at d1
     clear hp s0 s1 hpva
     generalize hln:(S.getD k Ref.st0).line=ln at *
     generalize hdp:(S.getD k Ref.st0).depth=dp at *
     clear hln hdp
     dsimp only
     go_wp2_with fail
     refine (aL ln dp 3 _).mono ?_
     rintro e w3 ⟨hb,b,h5,h6,rfl⟩
     dsimp only
     refine ⟨rfl,?_⟩
     unfold nO
     rw [HN.out]
     exact ⟨hbw2.trans (hb.mono hbw2.size),b,Nat.le_trans hbw2.size h5,h6,rfl⟩
   ·have HN:Hid (Ref.eB S (k+1)=none):=by unfold Hid;rw [HP1.out,if_neg (fun h=>h1 (by rw [hkk];exact h.1))]
    have h1':(Pro.ao X[k].s == 1)=false:=by simpa using h1
    generalize hkd:Pro.ao X[k].s=kd at *
    clear hkd hkk h1
    go_wp2_with (first
     | (refine wpList_load_mid rfl 242 (.tmp 12) rfl g (k*8) rfl _ _ hrng' Tryz.underlying242 rfl Tryz.bS ?_)
     | (refine aG rfl 242 (.tmp 3) (.tmp 13) rfl 242 _ _ rfl rfl Tryz.bS rfl rfl ?_))
    go_roundg (X.length-(k+1))
    case measure=>omega
    case rel=>exact ⟨k+1,rfl,by omega,by go_num,HN.out,hbr.alloc hbs _⟩
  ·have hke:k=X.length:=by omega
   have HN:Hid (Ref.eB S S.length=none):=by
    have:=hpar
    rw [hke,HXl.out] at this;exact this
   clear hpar
   go_wp2
   go_end0
   unfold nO
   rw [HN.out]
   exact ⟨rfl,hbr⟩
namespace Pro
def Good:PL→Prop
 | .state k n=>0≤k∧k≤4∧n.size≤8
 | .move _ _ _ _ _=>True
 | .enter A=>A≠[]
 | .leave A=>A≠[]
def Flat:PL→Prop
 | .enter _=>False
 | .leave _=>False
 | _=>True
theorem gJ {s:ByteArray} (h:Ref.plain s=true):s.size≤8:=by
 rw [Ref.plain,Bool.and_eq_true,Bool.and_eq_true,decide_eq_true_eq,decide_eq_true_eq] at h;exact h.2.2
theorem qN {l r:List ByteArray} {A:List Ref.Act} (h:bR l=some (A,r)):A≠[]:=by
 unfold bR at h
 split at h
 ·cases h
 ·cases h
 ·cases h;simp
theorem zK {l r:List ByteArray} {n:ByteArray} {k:Int} (h:cn l=some ((n,k),r)):0≤k∧k≤4∧n.size≤8:=by
 unfold cn at h
 split at h
 ·cases h
 ·rename_i hq
  cases h
  exact ⟨by decide,by decide,gJ (fO hq).1⟩
 ·rename_i hq
  split at h
  ·cases h;exact ⟨by decide,by decide,gJ (fO hq).1⟩
  ·cases h;exact ⟨by decide,by decide,gJ (fO hq).1⟩
theorem Aa {num:Nat} {l r:List ByteArray} {L:PL} (h:aT num l=some (L,r)):Good L:=by
 cases l with
 | nil=>cases h
 | cons x t =>
  rw [aT] at h
  have st:∀ k:Int,0≤k→k≤4→((pOf Ref.plain t).map fun q=>(PL.state k q.1,q.2))=some (L,r)→Good L:=by
   intro k h0 h4 h
   obtain ⟨⟨n,r'⟩,h1,h2⟩:=Option.map_eq_some_iff.1 h
   cases h2
   exact ⟨h0,h4,gJ (fO h1).1⟩
  split at h
  ·exact st 0 (by decide) (by decide) h
  ·split at h
   ·exact st 1 (by decide) (by decide) h
   ·split at h
    ·exact st 2 (by decide) (by decide) h
    ·split at h
     ·obtain ⟨⟨⟨n,k⟩,r'⟩,h1,h2⟩:=Option.map_eq_some_iff.1 h
      cases h2
      exact zK h1
     ·split at h
      ·split at h
       ·cases h
       ·obtain ⟨q,h1,h2⟩:=Option.map_eq_some_iff.1 h
        cases h2;trivial
      ·split at h
       ·split at h
        ·cases h
        ·obtain ⟨q,h1,h2⟩:=Option.map_eq_some_iff.1 h
         cases h2;trivial
       ·split at h
        ·obtain ⟨⟨A,r'⟩,h1,h2⟩:=Option.map_eq_some_iff.1 h
         cases h2;exact qN h1
        ·split at h
         ·obtain ⟨⟨A,r'⟩,h1,h2⟩:=Option.map_eq_some_iff.1 h
          cases h2;exact qN h1
         ·cases h
theorem pR {num:Nat} {l:List ByteArray} {L:PL} (h:bg num l=some L):Good L:=by
 unfold bg at h
 split at h
 ·rename_i L' h1
  cases h
  exact Aa h1
 ·cases h
theorem step_pos {S S':List Ref.State} {i num d:Nat} {L:PL} (hI:Inv S i) (h:Ref.cZ S i (aA num L) (d:Int)=some S'):0<S'.length:=by
 cases L with
 | state k n =>
  rw [pJ] at h
  split at h
  ·cases h
  ·split at h
   ·cases h;simp
   ·cases h
 | move ev af dl t A =>
  rw [rH hI] at h
  split at h
  ·cases h
  ·split at h
   ·cases h
   ·rename_i u hu
    split at h
    ·cases h
    ·have:u<S.length:=fa S S.length u (List.mem_of_getElem? hu)
     cases h;unfold Ref.kZ;rw [List.length_set];omega
 | enter A =>
  rw [xZ hI] at h
  split at h
  ·cases h
  ·split at h
   ·cases h
   ·rename_i u hu
    have:u<S.length:=fa S S.length u (List.mem_of_getElem? hu)
    split at h
    ·cases h
    ·split at h
     ·cases h
     ·cases h;unfold Ref.kZ;rw [List.length_set];omega
 | leave A =>
  rw [x6 hI] at h
  split at h
  ·cases h
  ·split at h
   ·cases h
   ·rename_i u hu
    have:u<S.length:=fa S S.length u (List.mem_of_getElem? hu)
    split at h
    ·cases h
    ·split at h
     ·cases h
     ·cases h;unfold Ref.kZ;rw [List.length_set];omega
end Pro
theorem vi {P:List ByteArray} {n k:Nat} (hk:k<n) {L:Pro.PL} (h:Pro.bg (k+1) (Pro.wl P k)=some L):(Ref.bo P n)[k]?=some (Pro.aA (k+1) L,(Ref.a8 (Ref.pc P k):Int)):=by
 unfold Ref.bo
 rw [List.getElem?_map,List.getElem?_range hk,Option.map_some,Pro.jL h]
theorem vZ {P:List ByteArray} {n k:Nat} {S:List Ref.State} (hk:k<n) {L:Pro.PL} (h:Pro.bg (k+1) (Pro.wl P k)=some L) (hS:Ref.bP (Ref.bo P n) k=some S):Ref.bP (Ref.bo P n) (k+1)=Ref.cZ S k (Pro.aA (k+1) L) (Ref.a8 (Ref.pc P k):Int):=by
 rw [Ref.bP,hS]
 simp only
 rw [vi hk h]
def fm (P:List ByteArray) (n:Nat) (w:World) (e:Ending) (w':World):Prop:=match Ref.bP (Ref.bo P n) n with
 | none=>aY 3 (Ref.iw (Ref.bo P n) n:Int) w e w'
 | some S=>match Ref.eB S S.length with
  | some l=>aY 3 l w e w'
  | none=>∃ db,e = .returned (.pointer (some ⟨db,0,none⟩))∧Below w.heap.size w w'∧fU w w' db S n
theorem zz (w:World):fU w ((w.alloc (.map #[] 0)).alloc (.cells #[.slice none 0 0,.slice none 0 0,.slice none 0 0,.map (some w.heap.size),.bool false] 230)) (w.heap.size+1) [] 0:=by
 refine ⟨⟨Ref.Sl.nil,Ref.Sl.nil,Ref.Sl.nil,w.heap.size,[],0,rfl,Nat.le_refl _,?_⟩,Pro.Inv.nil⟩
 have hb:Below w.heap.size w ((w.alloc (.map #[] 0)).alloc (.cells #[.slice none 0 0,.slice none 0 0,.slice none 0 0,.map (some w.heap.size),.bool false] 230)):=((Below.refl _ _).alloc (Nat.le_refl _) _).alloc (by simp) _
 refine ⟨hb,by omega,Nat.le_refl _,b8 _ _ _,World.ownsRow_nil _ _ _ _,World.ownsRow_nil _ _ _ _,World.ownsRow_nil _ _ _ _,fun i h=>absurd h (by simp),fun i h=>absurd h (by simp),fun i j h=>absurd h (by simp),fun i h=>absurd h (by simp),fun i j h=>absurd h (by simp),?_⟩
 exact bn (e:=0) (World.ownsMap_made w _ _ _) (bO ((Below.refl _ _).alloc (Nat.le_refl _) _))
theorem Tryz.D7 (a b c d:Value) (w:World):(method 599 376 (.agg #[a,b,c, d]) "charts/reader.place").run Tryz.prog w = .ok (359,.agg #[a,b,c,d]) w:=by kernel_rfl
theorem Tryz.D6 (a b c d e f g:Value) (w:World):(method 599 380 (.agg #[a,b,c,d,e,f, g]) "charts/reader.place").run Tryz.prog w = .ok (364,.agg #[a,b,c,d,e,f,g]) w:=by kernel_rfl
theorem ph (P:List ByteArray) (n lb:Nat) (vs:List Value) (LS:List Pro.PL) (w:World) (hlb:w.heap[lb]?=some (.cells vs.toArray 224 (0,0))) (HL:iW w P n vs LS) (hn0:0<n) (hn:n≤1500) (hsz:∀ j,(Ref.pc P j).size≤1500) (hfl:∀ (k:Nat) (L:Pro.PL),Pro.bg (k+1) (Pro.wl P k)=some L→Pro.Flat L) :
  Calls Tryz.prog 107 #[.slice (some ⟨lb,0,none⟩) n n] w (fm P n w):=by
 have hlv:=HL.lv
 have hll:=HL.ll
 have hlbl:=(Array.getElem?_eq_some_iff.1 hlb).1
 have HSZ:Hid _:=hsz
 have HFL:Hid _:=hfl
 have HLN:Hid _:=HL
 have hmm:=@run_makeMap Tryz.prog
 have D0:=zz w
 have HLV:Hid (vs.length=n):=hlv
 have HLL:Hid (LS.length=n):=hll
 clear hsz HL hlv hll hfl
 go_enter Tryz.func107,Tryz.ntmps107
 go_wp2
 go_loopg [11] n (fun q i wr=>∃ (k:Nat) (S:List Ref.State),q=n-k∧k≤n∧i = .int .i64 k∧Ref.bP (Ref.bo P n) k=some S∧(0<k→0<S.length)∧Below w.heap.size w wr∧fU w wr (w.heap.size+1) S k)
 case atStart=>exact ⟨0,[],rfl,Nat.zero_le _,rfl,rfl,fun h=>by omega,((Below.refl _ _).alloc (Nat.le_refl _) _).alloc (by simp) _,D0⟩
 case round =>
  obtain ⟨k,S,hq,hk,rfl,hS,hS0,hbr,DA⟩:=hrel
  by_cases hkn:k<n
  ·obtain ⟨hp,hv⟩:=HLN.out.row k hkn
   have hgood:=Pro.pR hp
   have hbl:Ref.a8 (Ref.pc P k)≤1500:=Nat.le_trans (Ref.qF _) (HSZ.out k)
   have cv:wr.cell? ⟨lb,k,none⟩=some (vs[k]'(by have:=HLV.out;omega)):=by
    rw [World.cell?_of_block (w:=w) (hbr.block lb hlbl),cell_of_row w _ k _ _ _ hlb,List.getElem?_toArray,List.getElem?_eq_getElem]
   obtain ⟨L,hL⟩:∃ L,L=LS[k]'(by have:=HLL.out;omega):=⟨_,rfl⟩
   obtain ⟨v,hve⟩:∃ v,v=vs[k]'(by have:=HLV.out;omega):=⟨_,rfl⟩
   obtain ⟨dp,hdp⟩:∃ dp,dp=Ref.a8 (Ref.pc P k):=⟨_,rfl⟩
   rw [← hL,← hve,← hdp] at hv
   rw [← hL] at hp hgood
   have hflk:=HFL.out k L hp
   rw [← hve] at cv
   have hstep:=vZ hkn hp hS
   rw [← hdp] at hstep hbl
   have HSt:Hid _:=hstep
   have HPos:Hid _:=fun S'=>Pro.step_pos (S':=S') (num:=k+1) (d:=dp) (L:=L) DA.inv
   have HS:Hid _:=hS
   have HS0:Hid _:=hS0
   clear hL hve hdp hp hS hstep hS0
   cases L with
   | state kd nme =>
    have hv:v=_:=hv
    subst hv
    have hmS:=Tryz.D7
    go_wp2_with fail
    refine Calls.mono (xK w wr (w.heap.size+1) S k dp kd nme DA hgood.1 hgood.2.1 (Nat.le_trans hgood.2.2 (by decide)) (by omega) (by omega)) ?_
    rintro e w2 h2
    unfold gj at h2
    cases hts:Ref.cZ S k (Pro.aA (k+1) (.state kd nme)) (dp:Int) with
    | none =>
     rw [hts] at h2
     have HN:Hid (Ref.bP (Ref.bo P n) n=none∧Ref.iw (Ref.bo P n) n=k+1):=by
      have h1:Ref.bP (Ref.bo P n) (k+1)=none:=by rw [HSt.out];exact hts
      exact ⟨iu h1 n (by omega),Ref.mL (by rw [HS.out];rfl) h1 n hkn⟩
     obtain ⟨hb,b,h5,h6,rfl⟩:=h2
     dsimp only
     refine ⟨rfl,?_⟩
     unfold fm
     rw [HN.out.1,HN.out.2]
     exact ⟨hbr.trans (hb.mono hbr.size),b,Nat.le_trans hbr.size h5,h6,rfl⟩
    | some S' =>
     rw [hts] at h2
     obtain ⟨rfl,DA2⟩:=h2
     have HN:Hid (Ref.bP (Ref.bo P n) (k+1)=some S'):=by unfold Hid;rw [HSt.out];exact hts
     have HP':Hid (0<S'.length):=HPos.out S' hts
     have HD2:Hid _:=DA2
     clear hts DA2
     dsimp only
     go_wp2
     go_roundg (n-(k+1))
     case measure=>omega
     case rel=>exact ⟨k+1,S',rfl,by omega,by go_num,HN.out,fun _=>HP'.out,(let ⟨_,_,_,_,_,_,_,_,G⟩:=HD2.out.mem;G.bel),HD2.out⟩
   | move ev af dl t A =>
    obtain ⟨va,vn,vc,hv,hown⟩:=hv
    subst hv
    have hmS:=Tryz.D6
    go_wp2_with fail
    refine Calls.mono (An w wr (w.heap.size+1) S k dp ev t af dl A ⟨va,vn,vc⟩ DA (by omega) (by omega) hown) ?_
    rintro e w2 h2
    unfold gj at h2
    cases hts:Ref.cZ S k (Pro.aA (k+1) (.move ev af dl t A)) (dp:Int) with
    | none =>
     rw [hts] at h2
     have HN:Hid (Ref.bP (Ref.bo P n) n=none∧Ref.iw (Ref.bo P n) n=k+1):=by
      have h1:Ref.bP (Ref.bo P n) (k+1)=none:=by rw [HSt.out];exact hts
      exact ⟨iu h1 n (by omega),Ref.mL (by rw [HS.out];rfl) h1 n hkn⟩
     obtain ⟨hb,b,h5,h6,rfl⟩:=h2
     dsimp only
     refine ⟨rfl,?_⟩
     unfold fm
     rw [HN.out.1,HN.out.2]
     exact ⟨hbr.trans (hb.mono hbr.size),b,Nat.le_trans hbr.size h5,h6,rfl⟩
    | some S' =>
     rw [hts] at h2
     obtain ⟨rfl,DA2⟩:=h2
     have HN:Hid (Ref.bP (Ref.bo P n) (k+1)=some S'):=by unfold Hid;rw [HSt.out];exact hts
     have HP':Hid (0<S'.length):=HPos.out S' hts
     have HD2:Hid _:=DA2
     clear hts DA2
     dsimp only
     go_wp2
     go_roundg (n-(k+1))
     case measure=>omega
     case rel=>exact ⟨k+1,S',rfl,by omega,by go_num,HN.out,fun _=>HP'.out,(let ⟨_,_,_,_,_,_,_,_,G⟩:=HD2.out.mem;G.bel),HD2.out⟩
   | enter A=>exact False.elim hflk
   | leave A=>exact False.elim hflk
  ·obtain rfl:k=n:=by omega
   have HN:Hid _:=hS
   have hSp:=hS0 hn0
   clear hS hS0
   go_wp2_with fail
   refine (kE w wr (w.heap.size+1) S k DA hSp).mono ?_
   rintro e w2 h2
   unfold nO at h2
   cases hpt:Ref.eB S S.length with
   | some l =>
    rw [hpt] at h2
    have HPt:Hid _:=hpt
    obtain ⟨hb,b,h5,h6,rfl⟩:=h2
    dsimp only
    refine ⟨rfl,?_⟩
    unfold fm
    rw [HN.out]
    simp only
    rw [HPt.out]
    exact ⟨hbr.trans (hb.mono hbr.size),b,Nat.le_trans hbr.size h5,h6,rfl⟩
   | none =>
    rw [hpt] at h2
    obtain ⟨rfl,hb2⟩:=h2
    have HPt:Hid _:=hpt
    have HD2:Hid (fU w w2 (w.heap.size+1) S k):=⟨let ⟨sv,pv,ov,mb,X,nm,h1,h2,G⟩:=DA.mem;⟨sv,pv,ov,mb,X,nm,h1,h2,G.ay hb2⟩,DA.inv⟩
    have hb3:=hbr.trans (hb2.mono hbr.size)
    clear hpt DA
    dsimp only
    go_wp2
    go_ret
    unfold fm
    rw [HN.out]
    simp only
    rw [HPt.out]
    exact ⟨w.heap.size+1,rfl,hb3,HD2.out⟩
namespace Pro
def ie (a:Ref.Act):List ByteArray :=
 if a.how.toList == Ref.eh then [a.event]
 else if a.how.toList == Ref.eG then [a.id]
 else if a.id.size=0 then [a.event] else [a.event,a.id]
def fh (l:List ByteArray):Bool:=l.any fun s=>Ref.bJ s Ref.bB
def Shape (a:Ref.Act):Prop:=(a.how=mA∧a.id=ByteArray.empty)∨(a.how=fZ∧a.event=ByteArray.empty)∨a.how=ko
theorem iY:Ref.bJ ByteArray.empty Ref.bB=false:=by decide
theorem xP {a:Ref.Act} (h:Shape a):fh (ie a)=Ref.sV a:=by
 unfold Ref.sV ie
 rcases h with ⟨h1,h2⟩ | ⟨h1,h2⟩ | h1
 ·rw [h1,h2,kU,if_pos (by decide),iY];simp [fh]
 ·rw [h1,h2,gZ,if_neg (by decide),if_pos (by decide),iY];simp [fh]
 ·rw [h1,mW,if_neg (by decide),if_neg (by decide)]
  by_cases hi:a.id.size=0
  ·have he:a.id=ByteArray.empty:=by
    have:=Lib.size_eq a.id
    have h0:a.id.data.toList=[]:=List.length_eq_zero_iff.1 (by omega)
    rw [← Lib.mk_data a.id,h0];rfl
   rw [if_pos hi,he,iY];simp [fh]
  ·rw [if_neg hi];simp [fh]
theorem r9 {l r:List ByteArray} {a:Ref.Act} (h:aW l=some (a,r)):Shape a:=by
 cases l with
 | nil=>cases h
 | cons x t =>
  rw [aW] at h
  split at h
  ·obtain ⟨q,h1,h2⟩:=Option.map_eq_some_iff.1 h
   cases h2;exact .inl ⟨rfl,rfl⟩
  ·split at h
   ·obtain ⟨q,h1,h2⟩:=Option.map_eq_some_iff.1 h
    cases h2;exact .inr (.inr rfl)
   ·split at h
    ·obtain ⟨q,h1,h2⟩:=Option.map_eq_some_iff.1 h
     cases h2;exact .inr (.inl ⟨rfl,rfl⟩)
    ·cases h
theorem oq:∀ (f:Nat) (l r:List ByteArray) (A:List Ref.Act),fk f l=some (A,r)→∀ a∈A,Shape a
 | 0,l,r,A,h=>by cases h;simp
 | f+1,[],r,A,h=>by cases h;simp
 | f+1,x::t,r,A,h=>by
  rw [fk] at h
  split at h
  ·split at h
   ·cases h
   ·rename_i a r' h1
    split at h
    ·cases h
    ·rename_i A' t' h2
     cases h
     intro b hb
     rcases List.mem_cons.1 hb with rfl | hb
     ·exact r9 h1
     ·exact oq f r' r A' h2 b hb
  ·cases h;simp
end Pro
def qB (l:List ByteArray) (w:World) (e:Ending) (w':World):Prop:=∃ nb c,e = .returned (.slice (some ⟨nb,0,none⟩) l.length c)∧w'.ownsRow w.heap.size 9 1 (.slice (some ⟨nb,0,none⟩) l.length c) l.length (l.map Value.string)∧Below w.heap.size w w'
theorem eQ (s:ByteArray) (w:World):Calls Tryz.prog 348 #[.agg #[.string s]] w (qB [s] w):=by
 go_enter Tryz.func348,Tryz.ntmps348
 go_wp2
 go_ret
 refine ⟨w.heap.size+1,1,rfl,?_,((Below.refl _ _).alloc (Nat.le_refl _) _).alloc (by simp) _⟩
 refine ⟨rfl,.inr ⟨w.heap.size+1,1,#[.string s],rfl,by omega,b8 w _ _,Nat.le_refl _,by unfold maxLen;omega,rfl,rfl⟩⟩
theorem fK {w:World} {base nb c:Nat} {l:List ByteArray} (h:w.ownsRow base 9 1 (.slice (some ⟨nb,0,none⟩) l.length c) l.length (l.map Value.string)):oe w nb 0 l∧nb<w.heap.size∧l.length≤c:=by
 rcases h.2 with ⟨h',_⟩ | ⟨g,cap,cur,hv,hb,hg,h1,h2,h3,h4⟩
 ·cases h'
 ·simp only [Value.slice.injEq,Option.some.injEq,Addr.mk.injEq,and_true,true_and] at hv
  obtain ⟨rfl,rfl⟩:=hv
  refine ⟨fun i hi => ?_,(Array.getElem?_eq_some_iff.1 hg).1,h1⟩
  rw [Nat.zero_add,cell_of_row w nb i _ _ _ hg]
  have h5:(cur.toList.take (l.length*1))[i]?=(l.map Value.string)[i]?:=by rw [h4]
  rw [List.getElem?_take,if_pos (by omega)] at h5
  rw [← Array.getElem?_toList,h5]
  simp [Ref.at',List.getD_eq_getElem?_getD,List.getElem?_eq_getElem hi]
theorem Tryz.BG:(Tryz.prog.info? 9).map (fun i=>(i.zero,i.size,i.bytes))=some (some (.string ByteArray.empty),1,16):=by kernel_rfl
theorem qW (s a:ByteArray) (d:Int) (w:World):Calls Tryz.prog 354 #[.agg #[.string s,.int .u64 d,.string a]] w (qB [s,a] w):=by
 obtain ⟨i0,hi,hz0,hz1,hz2⟩:=info_parts Tryz.BG
 have hb1:Below w.heap.size w (w.alloc (.cells #[.string s,.int .u64 d,.string a] 331)):=(Below.refl _ _).alloc (Nat.le_refl _) _
 obtain ⟨W1,hW1⟩:∃ y,y=w.alloc (.cells #[.string s,.int .u64 d,.string a] 331):=⟨_,rfl⟩
 have b0:W1.cell? ⟨w.heap.size,0,none⟩=some (.string s):=by rw [hW1];simp
 have b2:W1.cell? ⟨w.heap.size,2,none⟩=some (.string a):=by rw [hW1];simp
 have hlw:w.heap.size<W1.heap.size:=by rw [hW1];simp
 go_enter Tryz.func354,Tryz.ntmps354
 go_upto_region 1 with fail
 change Code.wp _ _ _ _ (w.alloc (.cells #[.string s,.int .u64 d,.string a] 331))
 rw [← hW1] at hb1 ⊢
 clear hW1
 have hbs:=hb1.size
 refine wp_region_held_drew (S:=(fun W=>W.cell? ⟨w.heap.size,0,none⟩=some (.string s)∧W.cell? ⟨w.heap.size,2,none⟩=some (.string a))) (by kernel_rfl) ⟨b0,b2⟩ (fun hHeld => ?_)
 refine tH 0 (.pointer (some ⟨w.heap.size,0,none⟩)) rfl hHeld ?_
 refine tH 1 (.pointer (some ⟨w.heap.size,0,none⟩)) rfl hHeld ?_
 refine tH 2 (.agg #[.string s]) rfl hHeld ?_
 refine tH 4 (.pointer (some ⟨w.heap.size,2,none⟩)) rfl hHeld ?_
 refine tH 5 (.string a) rfl hHeld ?_
 refine yH [3,6] ?_
 refine AllReadyH.cons rfl (fun K hK => ?_) (AllReadyH.cons rfl (fun K hK => ?_) AllReadyH.nil)
 ·go_simp
  refine (eQ s _).mono ?_
  rintro e w2 ⟨nb,c2,rfl,hown,hb2⟩
  have hb2':Below W1.heap.size W1 w2:=((Below.refl _ _).drew).trans hb2
  have k0:=(World.cell?_of_block (w:=W1) (w':=w2) (a:=⟨w.heap.size,0,none⟩) (hb2'.block _ hlw)).trans b0
  have k2:=(World.cell?_of_block (w:=W1) (w':=w2) (a:=⟨w.heap.size,2,none⟩) (hb2'.block _ hlw)).trans b2
  have hlw2:w.heap.size<w2.heap.size:=Nat.lt_of_lt_of_le hlw hb2'.size
  dsimp only
  refine hK.out _ _ ⟨k0,k2⟩ (fun hHeld => ?_)
  clear hK K
  refine zH 6 rfl fun K hK => ?_
  go_simp
  refine hK.out _ _ (by (try dsimp only);go_keep) (fun hHeld => ?_)
  clear hK K
  refine zH 7 rfl fun K hK => ?_
  have hown':=aI hown (show w.heap.size≤W1.heap.size from hbs)
  refine step_append_lies _ (by rfl) _ _ _ (by rfl) w.heap.size 9 i0 _ 1 16 Tryz.underlying31 hi hz0 hz1 hz2 rfl (by decide) (.slice (some ⟨nb,0,none⟩) 1 c2) 1 [.string s] (by rfl) (World.ownsRow.alloc hown' _) ⟨w2.heap.size,0,none⟩ 1 1 [.string a] (by rfl) (by rfl) (World.news_of_block (cs:=#[.string a]) (t:=9) (fr:=(0,0)) (heap_alloc_new w2 _)) (by simp [Value.oneCell']) (by omega) (by unfold maxLen;omega) (by omega) (by simp;omega) (w2.heap.size+1) (by simp) ?_
  intro g5 cap5 w5 hown5 hgrow hat hlt5
  have HNB:Hid (some w.heap.size≠Value.ownBlock (.slice (some ⟨nb,0,none⟩) 1 c2)):=fun e=>by
   have h1:=(World.ownsRow.lt hown _ e.symm).1
   have h2:W1.drew.heap.size=W1.heap.size:=rfl
   omega
  have k0:=((hgrow.cell_far ⟨w.heap.size,0,none⟩ (by simp;omega) HNB.out).trans (((Below.refl w2.heap.size w2).alloc (Nat.le_refl _) _).cell (p:=⟨w.heap.size,0,none⟩) hlw2)).trans k0
  have k2:=((hgrow.cell_far ⟨w.heap.size,2,none⟩ (by simp;omega) HNB.out).trans (((Below.refl w2.heap.size w2).alloc (Nat.le_refl _) _).cell (p:=⟨w.heap.size,2,none⟩) hlw2)).trans k2
  have HB5:Hid (Below w.heap.size w w5):=((hb1.trans (hb2'.mono hbs)).alloc (by omega) _).grown hgrow (by simp;omega) (fun k h=>by have:=(World.ownsRow.lt hown' k h).1;exact this)
  refine hK.out _ _ ⟨k0,k2⟩ (fun hHeld => ?_)
  clear hK K
  refine tH 8 (.slice (some ⟨g5,0,none⟩) 2 cap5) rfl hHeld ?_
  refine wpAnyH_done (by kernel_rfl) ?_ _
  go_wp2
  go_ret
  exact ⟨g5,cap5,rfl,hown5,HB5.out⟩
 ·go_simp
  refine hK.out _ _ (by (try dsimp only);go_keep) (fun hHeld => ?_)
  clear hK K
  refine zH 3 rfl fun K hK => ?_
  go_simp
  refine (eQ s _).mono ?_
  rintro e w2 ⟨nb,c2,rfl,hown,hb2⟩
  have hbW:Below W1.heap.size W1 ((W1.drew).alloc (.cells #[.string a] 9)):=((Below.refl _ _).drew).alloc (Nat.le_refl _) _
  have hbl:W1.heap.size<((W1.drew).alloc (.cells #[.string a] 9)).heap.size:=by simp
  have hb2':Below W1.heap.size W1 w2:=hbW.trans (hb2.mono hbW.size)
  have hel:w2.heap[W1.heap.size]?=some (.cells #[.string a] 9 (0,0)):=(hb2.block _ hbl).trans (heap_alloc_new _ _)
  have k0:=(World.cell?_of_block (w:=W1) (w':=w2) (a:=⟨w.heap.size,0,none⟩) (hb2'.block _ hlw)).trans b0
  have k2:=(World.cell?_of_block (w:=W1) (w':=w2) (a:=⟨w.heap.size,2,none⟩) (hb2'.block _ hlw)).trans b2
  have hlw2:w.heap.size<w2.heap.size:=Nat.lt_of_lt_of_le hlw hb2'.size
  have hszl:W1.heap.size≤((W1.drew).alloc (.cells #[.string a] 9)).heap.size:=Nat.le_of_lt hbl
  dsimp only
  refine hK.out _ _ ⟨k0,k2⟩ (fun hHeld => ?_)
  clear hK K
  refine zH 7 rfl fun K hK => ?_
  have hown':=aI hown (show w.heap.size≤((W1.drew).alloc (.cells #[.string a] 9)).heap.size by omega)
  refine step_append_lies _ (by rfl) _ _ _ (by rfl) w.heap.size 9 i0 _ 1 16 Tryz.underlying31 hi hz0 hz1 hz2 rfl (by decide) (.slice (some ⟨nb,0,none⟩) 1 c2) 1 [.string s] (by rfl) hown' ⟨W1.heap.size,0,none⟩ 1 1 [.string a] (by rfl) (by rfl) (World.news_of_block (cs:=#[.string a]) (t:=9) (fr:=(0,0)) hel) (by simp [Value.oneCell']) (by omega) (by unfold maxLen;omega) (by omega) (by omega) w2.heap.size rfl ?_
  intro g5 cap5 w5 hown5 hgrow hat hlt5
  have HNB:Hid (some w.heap.size≠Value.ownBlock (.slice (some ⟨nb,0,none⟩) 1 c2)):=fun e=>by
   have h1:W1.heap.size+1≤w.heap.size:=by simpa using (World.ownsRow.lt hown _ e.symm).1
   omega
  have k0:=(hgrow.cell_far ⟨w.heap.size,0,none⟩ hlw2 HNB.out).trans k0
  have k2:=(hgrow.cell_far ⟨w.heap.size,2,none⟩ hlw2 HNB.out).trans k2
  have HB5:Hid (Below w.heap.size w w5):=(hb1.trans (hb2'.mono hbs)).grown hgrow (by omega) (fun k h=>by have:=(World.ownsRow.lt hown' k h).1;exact this)
  refine hK.out _ _ ⟨k0,k2⟩ (fun hHeld => ?_)
  clear hK K
  refine tH 8 (.slice (some ⟨g5,0,none⟩) 2 cap5) rfl hHeld ?_
  refine wpAnyH_done (by kernel_rfl) ?_ _
  go_wp2
  go_ret
  exact ⟨g5,cap5,rfl,hown5,HB5.out⟩
def dJ (tm:Bool) (num:Int) (l:List ByteArray) (w:World) (e:Ending) (w':World):Prop:=if tm&&Pro.fh l then aY 4 num w e w' else e = .returned (.tuple #[])∧Below w.heap.size w w'
theorem aU (db:Nat) (num dep:Int) (tm:Bool) (l:List ByteArray) (nb c:Nat) (w:World) (hd:w.cell? ⟨db,4,none⟩=some (.bool tm)) (hs:oe w nb 0 l) (hnb:nb<w.heap.size) (hl:l.length≤10) :
  Calls Tryz.prog 365 #[.pointer (some ⟨db,0,none⟩),.agg #[.int .i64 num,.int .i64 dep],.slice (some ⟨nb,0,none⟩) l.length c] w (dJ tm num l w):=by
 have hdl:=World.block_lt_of_cell? _ _ hd
 have HS:Hid _:=hs
 clear hs
 go_enter Tryz.func365,Tryz.ntmps365
 go_wp2
 go_loop [10] (fun i=>∃ k:Nat,k≤l.length∧i = .int .i64 k∧(tm&&Pro.fh (l.take k))=false) (fun i=>l.length-(intOf i).toNat)
 case atStart=>exact ⟨0,Nat.zero_le _,rfl,by cases tm <;> rfl⟩
 case round =>
  obtain ⟨k,hk,rfl,hno⟩:=hrel
  by_cases hkn:k<l.length
  ·have ck:w.cell? ⟨nb,k,none⟩=some (.string l[k]):=by
    have:=HS.out k hkn
    simpa [Ref.at',List.getD_eq_getElem?_getD,List.getElem?_eq_getElem hkn] using this
   obtain ⟨x,hx⟩:∃ x,x=l[k]:=⟨_,rfl⟩
   rw [← hx] at ck
   have HN:Hid (Pro.fh (l.take (k+1))=(Pro.fh (l.take k)||Ref.bJ x Ref.bB)):=by
    unfold Hid Pro.fh
    rw [List.take_add_one,List.getElem?_eq_getElem hkn,List.any_append,← hx]
    simp
   have HNo:Hid _:=hno
   clear hno hx
   cases tm with
   | false =>
    go_wp2
    go_round
    case rel=>exact ⟨k+1,by omega,by go_num,rfl⟩
    case measure=>simp [intOf];omega
   | true =>
    go_wp2_with fail
    refine (Tryz.strings_HasPrefix x Ref.bB _).mono ?_
    rintro e w9 ⟨rfl,hw9⟩
    rw [hw9,fp]
    clear hw9 w9
    cases hb:Ref.bJ x Ref.bB with
    | false =>
     have HN2:Hid (Pro.fh (l.take (k+1))=false):=by
      have:=HNo.out
      unfold Hid;rw [HN.out,hb];simpa using this
     clear hb
     dsimp only
     go_wp2
     go_round
     case rel=>exact ⟨k+1,by omega,by go_num,by rw [HN2.out];rfl⟩
     case measure=>simp [intOf];omega
    | true =>
     have HT:Hid (Pro.fh l=true):=by
      have h1:Pro.fh (l.take (k+1))=true:=by rw [HN.out,hb];simp
      unfold Pro.fh at h1
      rw [List.any_eq_true] at h1
      obtain ⟨y,hy,hy2⟩:=h1
      show List.any _ _=true
      rw [List.any_eq_true]
      exact ⟨y,List.mem_of_mem_take hy,hy2⟩
     clear hb
     dsimp only
     go_wp2_with fail
     refine (aL num dep 4 _).mono ?_
     rintro e w2 ⟨hb,b,h5,h6,rfl⟩
     dsimp only
     refine ⟨rfl,?_⟩
     unfold dJ
     rw [HT.out,if_pos (by rfl)]
     exact ⟨((Below.refl w.heap.size w).alloc (Nat.le_refl _) _).trans (hb.mono (by simp)),b,by simp at h5;omega,h6,rfl⟩
  ·have hkl:k=l.length:=by omega
   have HF:Hid ((tm&&Pro.fh l)=false):=by
    have h:=hno
    rw [hkl,List.take_length] at h;exact h
   clear hno
   go_wp2
   go_end0
   unfold dJ
   rw [HF.out]
   exact ⟨rfl,(Below.refl _ _).alloc (Nat.le_refl _) _⟩
end
end Go.Proofs.YtegmoddppafkfaaGreatDoor
