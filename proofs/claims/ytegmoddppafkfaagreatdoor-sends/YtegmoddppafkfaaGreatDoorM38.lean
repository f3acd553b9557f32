import Derived.Test.YtegmoddppafkfaaGreatDoorM00
import Derived.Test.YtegmoddppafkfaaGreatDoorM08
import Derived.Test.YtegmoddppafkfaaGreatDoorM28
import Derived.Test.YtegmoddppafkfaaGreatDoorM35
import Derived.Test.YtegmoddppafkfaaGreatDoorM36
import Derived.Test.YtegmoddppafkfaaGreatDoorM37
set_option maxRecDepth 100000
set_option maxHeartbeats 8000000
namespace Go.Proofs.YtegmoddppafkfaaGreatDoor
section
open Go.RowKit Go.Proofs Go.Shelf
namespace Pg
abbrev EG (w:World) (xb mb:Nat):Prop:=w.heap[xb]?=some (.cells #[.pointer (some ⟨mb,0,none⟩)] 94 (0,0))
end Pg
section
variable (w:World) (xb mb:Nat) (R:Value→World→Prop) (hx:Pg.EG w xb mb)
theorem fw (hx:Pg.EG w xb mb):Calls Tryz.prog 44 #[.pointer (some ⟨xb,0,none⟩)] w fun e w'=>e = .returned (.bool false)∧w'=w:=by
 have c0:w.cell? ⟨xb,0,none⟩=some (.pointer (some ⟨mb,0,none⟩)):=(cell_of_row w _ _ _ _ _ hx).trans rfl
 clear hx
 go_enter Tryz.func44,Tryz.ntmps44
 go_wp2
 go_ret
 exact ⟨rfl,rfl⟩
theorem xR (hx:Pg.EG w xb mb) {lo pb:Nat} {qv:Value} {s:Pg.MSt} (h:Pg.ak w lo mb pb qv s):Calls Tryz.prog 20 #[.pointer (some ⟨xb,0,none⟩)] w fun e w'=>e = .returned (.int .u64 s.now)∧w'=w:=by
 have c0:w.cell? ⟨xb,0,none⟩=some (.pointer (some ⟨mb,0,none⟩)):=(cell_of_row w _ _ _ _ _ hx).trans rfl
 have HN:Hid _:=fw w xb mb hx
 have HE:Hid _:=yP w lo mb pb qv s h
 clear hx h
 go_enter Tryz.func20,Tryz.ntmps20
 go_wp2_with (first
  | (go_at_call 44;refine Calls.mono HN.out ?_;rintro e w1 ⟨rfl,hw1⟩;rw [hw1];clear hw1 w1)
  | (go_at_call 45;refine Calls.mono HE.out ?_;rintro e w2 ⟨rfl,hw2⟩;rw [hw2];clear hw2 w2))
 go_ret
 exact ⟨rfl,rfl⟩
theorem vF (hx:Pg.EG w xb mb) (ev:ByteArray) (h:Calls Tryz.prog 68 #[.pointer (some ⟨mb,0,none⟩),.string ev] w fun e w'=>∃ l,e = .returned (.tuple #[l,.nilIface])∧R l w') :
  Calls Tryz.prog 25 #[.pointer (some ⟨xb,0,none⟩),.string ev] w fun e w'=>∃ l V,e = .returned (.tuple #[l,.int .i64 0])∧R l V∧Below V.heap.size V w':=by
 have HS:Hid (Calls Tryz.prog 48 #[.pointer (some ⟨xb,0,none⟩),.string ev] w fun e w'=>∃ l,e = .returned (.tuple #[l,.nilIface])∧R l w'):=by
  have c0:w.cell? ⟨xb,0,none⟩=some (.pointer (some ⟨mb,0,none⟩)):=(cell_of_row w _ _ _ _ _ hx).trans rfl
  have HN:Hid _:=fw w xb mb hx
  have HE:Hid _:=h
  clear hx h
  unfold Hid
  go_enter Tryz.func48,Tryz.ntmps48
  go_wp2_with (first
   | (go_at_call 44;refine Calls.mono HN.out ?_;rintro e w1 ⟨rfl,hw1⟩;rw [hw1];clear hw1 w1)
   | (go_at_call 68;refine Calls.mono HE.out ?_;rintro e w2 ⟨l,rfl,h2⟩))
  go_ret2
  exact ⟨l,rfl,h2⟩
 clear hx h
 go_enter Tryz.func25,Tryz.ntmps25
 go_wp2_with (first
  | (go_at_call 48;refine Calls.mono HS.out ?_;rintro e w1 ⟨l,rfl,h1⟩)
  | (go_at_call 49;refine Calls.mono (pN _) ?_;rintro e w2 ⟨rfl,hb2⟩))
 go_ret2
 exact ⟨_,_,rfl,h1,hb2⟩
theorem vE (hx:Pg.EG w xb mb) (t:Nat) (h:Calls Tryz.prog 70 #[.pointer (some ⟨mb,0,none⟩),.int .u64 t] w fun e w'=>∃ l,e = .returned (.tuple #[l,.nilIface])∧R l w') :
  Calls Tryz.prog 26 #[.pointer (some ⟨xb,0,none⟩),.int .u64 t] w fun e w'=>∃ l V,e = .returned (.tuple #[l,.int .i64 0])∧R l V∧Below V.heap.size V w':=by
 have HS:Hid (Calls Tryz.prog 50 #[.pointer (some ⟨xb,0,none⟩),.int .u64 t] w fun e w'=>∃ l,e = .returned (.tuple #[l,.nilIface])∧R l w'):=by
  have c0:w.cell? ⟨xb,0,none⟩=some (.pointer (some ⟨mb,0,none⟩)):=(cell_of_row w _ _ _ _ _ hx).trans rfl
  have HN:Hid _:=fw w xb mb hx
  have HE:Hid _:=h
  clear hx h
  unfold Hid
  go_enter Tryz.func50,Tryz.ntmps50
  go_wp2_with (first
   | (go_at_call 44;refine Calls.mono HN.out ?_;rintro e w1 ⟨rfl,hw1⟩;rw [hw1];clear hw1 w1)
   | (go_at_call 70;refine Calls.mono HE.out ?_;rintro e w2 ⟨l,rfl,h2⟩))
  go_ret2
  exact ⟨l,rfl,h2⟩
 clear hx h
 go_enter Tryz.func26,Tryz.ntmps26
 go_wp2_with (first
  | (go_at_call 50;refine Calls.mono HS.out ?_;rintro e w1 ⟨l,rfl,h1⟩)
  | (go_at_call 49;refine Calls.mono (pN _) ?_;rintro e w2 ⟨rfl,hb2⟩))
 go_ret2
 exact ⟨_,_,rfl,h1,hb2⟩
end
namespace Sd
open Pg
def Ses (d:Nat) (w W:World) (xb:Nat) (r:RSt):Prop:=∃ (lo mb pb b cap:Nat) (ps:List PS) (fin:Nat) (EN LV:Nat→List PA) (hvs:Ref.Sl) (D:Nat→Bool) (mbm m:Nat) (T:ByteArray→Option (List (Option PM))) (M:ByteArray→Option Nat) (Lr:Nat→List (Option Nat)) (pmF:Nat→PM) (acF:Nat→List PA),
 EG W xb mb∧xb<W.heap.size∧lo≤xb∧w.heap.size≤lo∧Live W lo mb pb b cap ps fin EN LV hvs [] D mbm m T M Lr pmF acF r∧(∀ r,Ok r→∀ ev,aP ps fin EN LV [] D M Lr pmF acF r ev=cst d r ev)∧cE ps 0=ba∧cE ps 1=bb∧cE ps 2=bd
def E8 (d:Nat) (w:World) (e:Ending) (w':World):Prop:=Below w.heap.size w w'∧∃ xb l c,e = .returned (.tuple #[px xb,.slice l 1 c,.nilIface])∧Ses d w w' xb (rs 1 [] 0 0)
theorem pE (d:Nat):[acX d,acY d].map qo=acE d:=by kernel_rfl
theorem pC:[acC].map qo=[.cancel bi]:=by kernel_rfl
theorem kA (d:Nat):Pro.ao (Pro.mQ (stA d))=0:=by kernel_rfl
theorem kB:Pro.ao (Pro.mQ stB)=0:=by kernel_rfl
theorem kD:Pro.ao (Pro.mQ stD)=2:=by kernel_rfl
theorem three {α:Type} {L:List α} (h:L.length=3):∃ a b c,L=[a,b,c]:=by
 match L,h with
 | [a,b,c],_=>exact ⟨a,b,c,rfl⟩
theorem D9 {M:List Pro.PV} {a b c d:Ref.Move} (h:M.map (·.m)=[a,b,c,d]):∃ y0 y1 y2 y3:Pro.PV,M=[y0,y1,y2,y3]∧y0.m=a∧y1.m=b∧y2.m=c∧y3.m=d:=by
 match M,h with
 | [y0,y1,y2,y3],h=>simp at h;exact ⟨y0,y1,y2,y3,rfl,h⟩
theorem D8 {M:List Pro.PV} {a:Ref.Move} (h:M.map (·.m)=[a]):∃ y0:Pro.PV,M=[y0]∧y0.m=a:=by
 match M,h with
 | [y0],h=>simp at h;exact ⟨y0,rfl,h⟩
theorem i6 {s:Nat→Ref.Sl} {i:Nat} {x:MS} (hx:(fX s)[i]?=some x):isH x.kind=false∧x.owner = -1∧x.name.size≤1000000∧∃ j,j<3∧x.ve=s (4*j+1)∧x.vl=s (4*j+2):=by
 match i,hx with
 | 0,hx=>cases hx;exact ⟨rfl,rfl,by show (1:Nat)≤1000000;decide,0,by decide,rfl,rfl⟩
 | 1,hx=>cases hx;exact ⟨rfl,rfl,by show (1:Nat)≤1000000;decide,1,by decide,rfl,rfl⟩
 | 2,hx=>cases hx;exact ⟨rfl,rfl,by show (1:Nat)≤1000000;decide,2,by decide,rfl,rfl⟩
 | i+3,hx=>cases hx
theorem DF {t:Nat→Ref.Sl} {i:Nat} {m:MV} (hm:m∈fV t i):∃ j,j<5∧m.aj=t j:=by
 match i,hm with
 | 0,hm =>
  simp only [fV,List.mem_cons,List.not_mem_nil,or_false] at hm
  rcases hm with rfl | rfl | rfl | rfl
  ·exact ⟨0,by decide,rfl⟩
  ·exact ⟨1,by decide,rfl⟩
  ·exact ⟨2,by decide,rfl⟩
  ·exact ⟨3,by decide,rfl⟩
 | 1,hm =>
  simp only [fV,List.mem_cons,List.not_mem_nil,or_false] at hm
  subst hm
  exact ⟨4,by decide,rfl⟩
 | i+2,hm=>cases hm
theorem Eh {s:Nat→Ref.Sl} {i:Nat} {p:PS} (hp:(psF (fX s))[i]?=some p):p.done.size≤1000000:=by
 have h:((psF (fX s)).map (fun p=>decide (p.done.size≤1000000))).all id=true:=by kernel_rfl
 have:=List.all_eq_true.1 h _ (List.mem_map_of_mem (List.mem_of_getElem? hp))
 exact of_decide_eq_true this
theorem yR (s:Nat→Ref.Sl):∃ p,(psF (fX s))[0]?=some p∧p.wth=1∧(p.kind == 2)=false:=by
 have h:((psF (fX s))[0]?).map (fun p=>(p.wth,p.kind == 2))=some (1,false):=by kernel_rfl
 cases hp:(psF (fX s))[0]? with
 | none=>rw [hp] at h;cases h
 | some p =>
  rw [hp] at h
  have h:=Option.some.inj h
  exact ⟨p,rfl,congrArg Prod.fst h,congrArg Prod.snd h⟩
theorem CN {d:Nat} {s t:Nat→Ref.Sl} {AV:Ref.Sl→List PA} (hC:Acs d s t AV) (H:List HV) (D:Nat→Bool) (M:ByteArray→Option Nat) (Lr:Nat→List (Option Nat)) (pmF:Nat→PM) (acF:Nat→List PA):fR (psF (fX s)) (bQ (fX s) (fX s).length) (enF (fX s) AV) (lvF (fX s) AV) H D M Lr pmF acF 1=rs 1 [] 0 0:=by
 obtain ⟨p,hp,_,hk⟩:=yR s
 have h1:bX (psF (fX s)) (bQ (fX s) (fX s).length) (enF (fX s) AV) r0 (els 1)=rs 1 [] 0 0:=by
  rw [show els 1=[0] from rfl]
  show iM (psF (fX s)) (bQ (fX s) (fX s).length) (enF (fX s) AV) r0 0=_
  unfold iM
  rw [show enF (fX s) AV 0=AV (s 1) from rfl,hC.n 1 (by decide) (.inl rfl),hp]
  simp only [hk,doL,List.foldl_nil]
  rfl
 unfold fR dZ
 rw [h1,kc rfl]
 rfl
structure Chf (d:Nat) (W:World) (Z:List Pro.DS) (MM:Nat→List Pro.PV) (s t:Nat→Ref.Sl):Prop where
 x:Z.map vY=fX s
 v:vOf MM=fV t
 acs:∀ AV:Ref.Sl→List PA,(∀ v L,du W W.heap.size v L→AV v=L)→Acs d s t AV
 at':∀ i,i<5→∃ L,du W W.heap.size (t i) L∧∀ a∈L,a.sz
 ez:∀ i,i<12→(i % 4=1∨i % 4=2)→du W W.heap.size (s i) []
theorem Bi {d:Nat} (hd:d<18446744073709551616) {W:World} {z0 z1 z2:Pro.DS} {MM:Nat→List Pro.PV} (e0:z0.s=Pro.mQ (stA d)) (e1:z1.s=Pro.mQ stB) (e2:z2.s=Pro.mQ stD) (hM:∀ i,(∀ z,[z0,z1,z2][i]?=some z→fo W z (MM i))∧([z0,z1,z2][i]?=none→MM i=[])):∃ s t,Chf d W [z0,z1,z2] MM s t:=by
 have w0:=(hM 0).1 z0 rfl
 have w1:=(hM 1).1 z1 rfl
 have w2:=(hM 2).1 z2 rfl
 have hm0:(MM 0).map (·.m)=(stA d).moves:=by rw [w0.mv,e0];rfl
 have hm1:(MM 1).map (·.m)=stB.moves:=by rw [w1.mv,e1];rfl
 have hm2:MM 2=[]:=List.map_eq_nil_iff.1 (show (MM 2).map (·.m)=[] by rw [w2.mv,e2];rfl)
 obtain ⟨y0,y1,y2,y3,hy,a0,a1,a2,a3⟩:=D9 hm0
 obtain ⟨y4,hy4,a4⟩:=D8 hm1
 refine ⟨fun i=>match i with | 0=>z0.vp | 1=>z0.ve | 2=>z0.vl | 3=>z0.vm | 4=>z1.vp | 5=>z1.ve | 6=>z1.vl | 7=>z1.vm | 8=>z2.vp | 9=>z2.ve | 10=>z2.vl | _=>z2.vm,fun i=>match i with | 0=>y0.v | 1=>y1.v | 2=>y2.v | 3=>y3.v | _=>y4.v,?_⟩
 have ac:∀ {M:List Pro.PV} {z:Pro.DS} (w:fo W z M) (y:Pro.PV) (A:List Ref.Act),y∈M→y.m.aj=A→(∀ a∈A.map qo,a.ok∧a.sz)→du W W.heap.size y.v (A.map qo)∧∀ a∈A.map qo,a.sz:=fun w y A hy e hk=>by
  have h1:=w.aj y hy
  have h2:=(w.actsG y hy).2
  rw [e] at h1 h2
  exact ⟨yq h1 h2 (fun a ha=>(hk _ (List.mem_map_of_mem ha)).1),fun a ha=>(hk a ha).2⟩
 have n1:(1:Nat)≤1000000:=by decide
 have b0:=ac w0 y0 [acX d,acY d] (by rw [hy];simp) (by rw [a0]) (fun a ha=>by
  rw [pE] at ha
  simp only [acE,List.mem_cons,List.not_mem_nil,or_false] at ha
  rcases ha with rfl | rfl
  ·exact ⟨hd,n1⟩
  ·exact ⟨hd,n1⟩)
 have b1:=ac w0 y1 [acC] (by rw [hy];simp) (by rw [a1]) (fun a ha=>by
  rw [pC] at ha
  rw [List.mem_singleton.1 ha]
  exact ⟨trivial,trivial⟩)
 rw [pE] at b0
 rw [pC] at b1
 have b2:=ac w0 y2 [] (by rw [hy];simp) (by rw [a2]) (fun a ha=>by cases ha)
 have b3:=ac w0 y3 [] (by rw [hy];simp) (by rw [a3]) (fun a ha=>by cases ha)
 have b4:=ac w1 y4 [] (by rw [hy4];simp) (by rw [a4]) (fun a ha=>by cases ha)
 have nil:∀ {v:Ref.Sl} {A:List Ref.Act},A=[]→W.ownsRow 0 324 1 v.v A.length (A.map bp)→du W W.heap.size v []:=fun e h=>by
  rw [e] at h
  exact yq h Pro.dA.nil (fun a ha=>by cases ha)
 have c1:=nil (show z0.s.enter=[] by rw [e0];rfl) w0.enter
 have c2:=nil (show z0.s.leave=[] by rw [e0];rfl) w0.leave
 have c5:=nil (show z1.s.enter=[] by rw [e1];rfl) w1.enter
 have c6:=nil (show z1.s.leave=[] by rw [e1];rfl) w1.leave
 have c9:=nil (show z2.s.enter=[] by rw [e2];rfl) w2.enter
 have c10:=nil (show z2.s.leave=[] by rw [e2];rfl) w2.leave
 have hez:∀ i,i<12→(i % 4=1∨i % 4=2)→du W W.heap.size ((fun i=>match i with | 0=>z0.vp | 1=>z0.ve | 2=>z0.vl | 3=>z0.vm | 4=>z1.vp | 5=>z1.ve | 6=>z1.vl | 7=>z1.vm | 8=>z2.vp | 9=>z2.ve | 10=>z2.vl | _=>z2.vm:Nat→Ref.Sl) i) []:=fun i hi h=>by
  obtain rfl | rfl | rfl | rfl | rfl | rfl:i=1∨i=2∨i=5∨i=6∨i=9∨i=10:=by omega
  ·exact c1
  ·exact c2
  ·exact c5
  ·exact c6
  ·exact c9
  ·exact c10
 refine ⟨?_,?_,fun AV hAV=>⟨fun i hi h=>hAV _ _ (hez i hi h),hAV _ _ b0.1,hAV _ _ b1.1,fun i hi => ?_⟩,fun i hi => ?_,hez⟩
 ·show [vY z0,vY z1,vY z2]=_
  unfold vY fX
  rw [e0,e1,e2,kA,kB,kD]
  rfl
 ·funext i
  match i with
  | 0 =>
   show (MM 0).map nh=_
   rw [hy]
   show [nh y0,nh y1,nh y2,nh y3]=_
   unfold nh
   rw [a0,a1,a2,a3]
   rfl
  | 1 =>
   show (MM 1).map nh=_
   rw [hy4]
   show [nh y4]=_
   unfold nh
   rw [a4]
   rfl
  | 2 =>
   show (MM 2).map nh=_
   rw [hm2]
   rfl
  | i+3 =>
   show (MM (i+3)).map nh=_
   rw [(hM (i+3)).2 rfl]
   rfl
 ·rcases hi with rfl | rfl | rfl
  ·exact hAV _ _ b2.1
  ·exact hAV _ _ b3.1
  ·exact hAV _ _ b4.1
 ·match i,hi with
  | 0,_=>exact ⟨_,b0⟩
  | 1,_=>exact ⟨_,b1⟩
  | 2,_=>exact ⟨_,b2⟩
  | 3,_=>exact ⟨_,b3⟩
  | 4,_=>exact ⟨_,b4⟩
end Sd
theorem xY (d:Nat) (hd:d<18446744073709551616) (txt:ByteArray) (w:World) (hv:wt w) (hs:txt.size≤1073741824) (hok:Pro.read txt = .jE [Sd.stA d,Sd.stB,Sd.stD]) (hfl:∀ (k:Nat) (L:Pro.PL),Pro.bg (k+1) (Pro.wl (Ref.cut txt 10) k)=some L→Pro.Flat L) :
  Calls Tryz.prog 53 #[.string txt] w (Sd.E8 d w):=by
 have HR:Hid _:=Cr txt w hv.lib hs _ hok hfl
 have HV:Hid _:=hv
 have HOK:Hid _:=hok
 clear hv hok hfl
 go_enter Tryz.func53,Tryz.ntmps53
 go_wp2_with fail
 refine Calls.mono HR.out ?_
 rintro e w1 ⟨hb1,hp⟩
 rw [HOK.out] at hp
 obtain ⟨cb,sv,X,rfl,hcb,hXS,hC,hSl⟩:=hp
 have hXl:X.length=3:=by rw [← List.length_map (f:=fun x:Pro.DS=>x.s),hXS];rfl
 have HT:Hid _:=wN cb sv X w1 hcb hC (by omega) (fun x hx=>Sd.Fx hd x.s (by rw [← hXS];exact List.mem_map_of_mem hx)) (fun x hx=>Sd.Cd d x.s (by rw [← hXS];exact List.mem_map_of_mem hx))
 have HXS:Hid _:=hXS
 clear hXS hSl hC hcb
 dsimp only
 go_wp2_with fail
 refine Calls.mono HT.out ?_
 rintro e w2 ⟨hb2,cb2,sv2,Z,rfl,hcb2,hD⟩
 obtain ⟨x0,x1,x2,rfl⟩:=Sd.three hXl
 obtain ⟨z0,z1,z2,rfl⟩:=Sd.three (hD.len.trans hXl)
 have hX0:x0.s=Sd.stA d∧x1.s=Sd.stB∧x2.s=Sd.stD:=by have:=HXS.out;simpa using this
 have e0:z0.s=Pro.mQ (Sd.stA d):=by have:=(hD.done 0 (by show 0<3;decide) (by show 0<3;decide) (by show 0<3;decide)).1;rw [← hX0.1];exact this
 have e1:z1.s=Pro.mQ Sd.stB:=by have:=(hD.done 1 (by show 1<3;decide) (by show 1<3;decide) (by show 1<3;decide)).1;rw [← hX0.2.1];exact this
 have e2:z2.s=Pro.mQ Sd.stD:=by have:=(hD.done 2 (by show 2<3;decide) (by show 2<3;decide) (by show 2<3;decide)).1;rw [← hX0.2.2];exact this
 obtain ⟨MM,hMM⟩:=Pg.FB hD
 obtain ⟨cg,cc,hch⟩:=Pg.Ff hD hcb2 (Nat.zero_lt_succ _) hMM
 obtain ⟨s,t,hF⟩:=Sd.Bi hd e0 e1 e2 hMM
 rw [hF.x,hF.v] at hch
 have hv2:=(HV.out.ay hb1).ay hb2
 have hnh:∀ (i:Nat) (x:Pg.MS),(Sd.fX s)[i]?=some x→Pg.isH x.kind=false:=fun i x hx=>(Sd.i6 hx).1
 have hVl:∀ i,(Sd.fV t i).length≤30000:=fun i=>by
  match i with
  | 0=>show (4:Nat)≤30000;decide
  | 1=>show (1:Nat)≤30000;decide
  | i+2=>show (0:Nat)≤30000;decide
 have hVm:∀ i,∀ m∈Sd.fV t i,m.event.size≤1000000∧m.dest.size≤1000000∧(m.dest.toList.isEmpty=false→∃ d,Pg.dr (Sd.fX s) (Sd.fX s).length m.dest=some d∧d<(Sd.fX s).length):=fun i m hm=>by
  have hz:(⟨#[]⟩:ByteArray).toList.isEmpty=false→∃ d,Pg.dr (Sd.fX s) (Sd.fX s).length ⟨#[]⟩=some d∧d<(Sd.fX s).length:=fun h=>by
   rw [show (⟨#[]⟩:ByteArray).toList.isEmpty=true by kernel_rfl] at h
   cases h
  have n1:(1:Nat)≤1000000:=by decide
  match i,hm with
  | 0,hm =>
   simp only [Sd.fV,List.mem_cons,List.not_mem_nil,or_false] at hm
   rcases hm with rfl | rfl | rfl | rfl
   ·exact ⟨n1,Nat.zero_le _,hz⟩
   ·exact ⟨n1,Nat.zero_le _,hz⟩
   ·exact ⟨n1,n1,fun _=>⟨1,by kernel_rfl,by show (1:Nat)<3;decide⟩⟩
   ·exact ⟨n1,Nat.zero_le _,hz⟩
  | 1,hm =>
   simp only [Sd.fV,List.mem_cons,List.not_mem_nil,or_false] at hm
   subst hm
   exact ⟨n1,n1,fun _=>⟨2,by kernel_rfl,by show (2:Nat)<3;decide⟩⟩
  | i+2,hm=>cases hm
 have HN:Hid _:=Ee w2 cb2 cg cc (Sd.fX s) (Sd.fV t) hch (by show (3:Nat)≤24;decide) (fun i x hx=>(Sd.i6 hx).2.2.1) (fun i x hx=>(Sd.i6 hx).2.1) hnh hv2.lw.g5 hv2.t5 hv2.k5 hVl hVm
 have HB2:Hid (Below w.heap.size w w2):=hb1.trans (hb2.mono hb1.size)
 have HV2:Hid _:=hv2
 have HMM:Hid _:=hMM
 clear hv2 hb1 hb2 hD hcb2 hch hVl hVm hnh hMM hXl
 dsimp only
 go_wp2_with fail
 refine Calls.mono HN.out ?_
 rintro e w3 ⟨pb,rfl,hNP⟩
 have hb3:Below w2.heap.size w2 w3:=by
  obtain ⟨_,_,_,_,_,_,_,hb,_⟩:=hNP
  exact hb
 have hv3:=HV2.out.ay hb3
 obtain ⟨s',t',hF3⟩:=Sd.Bi hd e0 e1 e2 (fun i=>⟨fun z hz=>((HMM.out i).1 z hz).ay hb3,(HMM.out i).2⟩)
 rw [← hF.x,hF3.x,← hF.v,hF3.v] at hNP
 clear hF HMM e0 e1 e2
 classical
 obtain ⟨AV,hAV⟩:∃ AV:Ref.Sl→List Pg.PA,∀ v L,Pg.du w3 w3.heap.size v L→AV v=L:=⟨fun v=>if h:∃ L,Pg.du w3 w3.heap.size v L then h.choose else [],fun v L h=>by
  have he:∃ L,Pg.du w3 w3.heap.size v L:=⟨L,h⟩
  dsimp only
  rw [dif_pos he]
  exact he.choose_spec.uniq h⟩
 have hac:=hF3.acs AV hAV
 have hez:=fun i hi h=>let y:=hF3.ez i hi h;(⟨y,hAV _ _ y⟩:Pg.du w3 w3.heap.size (s' i) []∧AV (s' i)=[])
 have hea:∀ (i:Nat) (x:Pg.MS),(Sd.fX s')[i]?=some x→(Pg.du w3 w3.heap.size x.ve (AV x.ve)∧AV x.ve=[])∧Pg.du w3 w3.heap.size x.vl (AV x.vl)∧AV x.vl=[]:=fun i x hx=>by
  obtain ⟨j,hj,a,b⟩:=(Sd.i6 hx).2.2.2
  have p1:=hez (4*j+1) (by omega) (by omega)
  have p2:=hez (4*j+2) (by omega) (by omega)
  rw [a,b,p1.2,p2.2]
  exact ⟨⟨p1.1,rfl⟩,p2.1,rfl⟩
 obtain ⟨b,hvs,H,D,mbm,m,M,Lr,pmF,acF,hRP,r1,r2,r3,r4,r5,_⟩:=Pg.CD AV (fun i x hx=>(Sd.i6 hx).2.1) hNP (by show (3:Nat)≤24;decide) (by show 0<3;decide) (fun i x hx => .inl (Sd.i6 hx).2.1) (fun i x hx=>(Sd.i6 hx).1) hv3.lw (fun i x hx=>⟨(hea i x hx).1.1,(hea i x hx).2.1⟩) (fun i _ mv hm=>by
  obtain ⟨j,hj,e⟩:=Sd.DF hm
  obtain ⟨L,hL,hz⟩:=hF3.at' j hj
  rw [e,hAV _ _ hL]
  exact ⟨hL,hz⟩)
 have hH:H=[]:=by
  have:Pg.oK (Sd.fX s') (Sd.fX s').length=[]:=by kernel_rfl
  rw [this] at r1
  exact List.map_eq_nil_iff.1 r1
 subst hH
 have hSz:Pg.SzP (Pg.psF (Sd.fX s')) (Pg.enF (Sd.fX s') AV) (Pg.lvF (Sd.fX s') AV):=⟨fun i a ha=>by
  unfold Pg.enF at ha
  split at ha
  ·rename_i x hx
   rw [(hea i x hx).1.2] at ha
   cases ha
  ·(cases ha),fun i a ha=>by
  unfold Pg.lvF at ha
  split at ha
  ·rename_i x hx
   rw [(hea i x hx).2.2] at ha
   cases ha
  ·(cases ha),fun i p hp=>Sd.Eh hp⟩
 obtain ⟨p0,hp0,hw0,_⟩:=Sd.yR s'
 have HS:Hid _:=xQ w3 w3.heap.size pb b _ _ _ _ _ hvs [] D mbm m _ M Lr pmF acF p0 hRP hSz r5 hp0 (by rw [hw0,Pg.n5];show 1<2 ^ 3;decide) (Nat.le_refl _) hv3.t6 hv3.t5 (fun V=>j0 _ V (by decide))
 rw [hw0,Sd.CN hac] at HS
 have hAns:=fun (r:Pg.RSt) (hr:Sd.Ok r) (ev:ByteArray)=>Sd.yw (D:=D) r3 r4 hac hr ev
 have hnm:Pg.cE (Pg.psF (Sd.fX s')) 0=Sd.ba∧Pg.cE (Pg.psF (Sd.fX s')) 1=Sd.bb∧Pg.cE (Pg.psF (Sd.fX s')) 2=Sd.bd:=⟨by kernel_rfl,by kernel_rfl,by kernel_rfl⟩
 have HB3:Hid (Below w.heap.size w w3):=HB2.out.trans (hb3.mono HB2.out.size)
 have HFIN:Hid (∀ (w4:World) (mb:Nat),Pg.MT w4 w3.heap.size mb pb (Sd.rs 1 [] 0 0)→Pg.Rf w3.heap.size w3 w4→Below w.heap.size w (w4.alloc (.cells #[.pointer (some ⟨mb,0,none⟩)] 94))∧Sd.Ses d w (w4.alloc (.cells #[.pointer (some ⟨mb,0,none⟩)] 94)) w4.heap.size (Sd.rs 1 [] 0 0)):=fun w4 mb hMT hRf=>by
  have hb4:Below w4.heap.size w4 (w4.alloc (.cells #[.pointer (some ⟨mb,0,none⟩)] 94)):=(Below.refl _ _).alloc (Nat.le_refl _) _
  have hs34:=hRf.bel.size
  refine ⟨HB3.out.trans ((hRf.bel.mono HB3.out.size).trans (hb4.mono (Nat.le_trans HB3.out.size hs34))),w3.heap.size,mb,pb,b,_,_,_,_,_,hvs,D,mbm,m,_,M,Lr,pmF,acF,heap_alloc_new _ _,by simp,hs34,HB3.out.size,⟨(hRP.rf hRf).rf (Pg.RfE.of hb4 hs34),hSz,r5,hMT.below hv3.lw hb4,⟨?_,fun i => ?_⟩,⟨fun e he=>(by cases he),.inl rfl,by decide,fun x hx=>(by cases hx)⟩,rfl⟩,hAns,hnm⟩
  ·rw [Pg.n5];show 1<2 ^ 3;decide
  ·exact Nat.two_pow_pos _
 clear hb3 hv3 hNP hRP hSz hAns hnm hac hez hea r1 r2 r3 r4 r5 hw0 hp0 hF3 hAV
 dsimp only
 go_wp2_with fail
 refine Calls.mono HS.out ?_
 rintro e w4 ⟨mb,sb,sv4,rfl,hst,hnm,hMT,hRf,hsb⟩
 have HE:Hid _:=HFIN.out w4 mb hMT hRf
 clear hst hnm hMT hRf hsb
 rw [show Pg.fuelV (Sd.rs 1 [] 0 0).fin = .nilIface from rfl]
 dsimp only
 go_wp2
 go_ret3
 exact ⟨HE.out.1,_,_,_,rfl,HE.out.2⟩
end
section
open Go.RowKit Go.Proofs
namespace Sd
def mk (l:List UInt8):ByteArray:=⟨⟨l⟩⟩
def sp (c:UInt8):List UInt8→List UInt8→List (List UInt8)
 | [],acc=>[acc]
 | x::l,acc=>if x=c then acc::sp c l [] else sp c l (acc++[x])
theorem CL (c:UInt8):∀ (l acc:List UInt8),sp c l acc≠[]
 | [],_=>by simp [sp]
 | x::l,acc=>by
  unfold sp
  split
  ·simp
  ·exact CL c l _
theorem yV (c x:UInt8):∀ (l acc:List UInt8),sp c (l++[x]) acc=if x=c then sp c l acc++[[]] else (sp c l acc).set ((sp c l acc).length-1) ((sp c l acc)[(sp c l acc).length-1]?.getD []++[x])
 | [],acc=>by
  by_cases h:x=c
  ·simp [sp,h]
  ·simp [sp,h]
 | y::l,acc=>by
  have ih:=yV c x l
  have hp:=CL c l []
  rw [List.cons_append]
  by_cases hy:y=c
  ·simp only [sp,if_pos hy,ih]
   by_cases h:x=c
   ·simp only [if_pos h,List.cons_append]
   ·simp only [if_neg h]
    obtain ⟨a,L,hL⟩:∃ a L,sp c l []=a::L:=by
     cases hq:sp c l [] with
     | nil=>exact absurd hq hp
     | cons a L=>exact ⟨a,L,rfl⟩
    rw [hL]
    simp
  ·simp only [sp,if_neg hy,ih]
theorem Bn (s:ByteArray) (c:UInt8):Ref.cut s (c.toNat:Int)=(sp c s.data.toList []).map mk:=by
 have key:∀ k,k≤s.data.toList.length→Ref.cD s (c.toNat:Int) k=(sp c (s.data.toList.take k) []).map mk:=by
  intro k
  induction k with
  | zero=>intro _;rfl
  | succ k ih =>
   intro hk
   have ih:=ih (by omega)
   have hk':k<s.data.toList.length:=by omega
   obtain ⟨x,hx⟩:∃ x,s.data.toList[k]?=some x:=⟨_,List.getElem?_eq_getElem hk'⟩
   have hb:Go.PlainAid.bt s k=(x.toNat:Int):=by
    obtain ⟨h1,rfl⟩:=List.getElem?_eq_some_iff.1 hx
    have h2:k<s.size:=h1
    unfold Go.PlainAid.bt
    rw [dif_pos h2]
    rfl
   have he:s.extract k (k+1)=mk [x]:=by
    have h1:(s.extract k (k+1)).data.toList=[x]:=by
     rw [ByteArray.data_extract,Array.toList_extract,List.extract_eq_take_drop,show k+1-k=1 by omega,List.take_one,List.head?_drop,hx]
     rfl
    generalize s.extract k (k+1)=z at h1
    obtain ⟨⟨z⟩⟩:=z
    have h1:z=[x]:=h1
    rw [h1]
    rfl
   rw [List.take_add_one,hx,Option.toList_some,yV,Ref.cD,ih,hb,he]
   by_cases h:x=c
   ·rw [if_pos (by rw [h]),if_pos h,List.map_append]
    rfl
   ·have hne:¬ ((x.toNat:Int)=(c.toNat:Int)):=fun e=>h (UInt8.toNat_inj.1 (by omega))
    rw [if_neg hne,if_neg h,List.map_set,List.length_map,List.getElem?_map]
    congr 1
    cases (sp c (s.data.toList.take k) [])[(sp c (s.data.toList.take k) []).length-1]? with
    | none=>rfl
    | some l=>simp [mk];rfl
 have:=key s.data.toList.length (Nat.le_refl _)
 rw [List.take_length] at this
 exact this
theorem mZ (c:UInt8):∀ (x l acc:List UInt8),(∀ y∈x,y≠c)→sp c (x++l) acc=sp c l (acc++x)
 | [],l,acc,_=>by rw [List.nil_append,List.append_nil]
 | y::x,l,acc,h=>by
  rw [List.cons_append,sp,if_neg (h y (List.mem_cons_self ..)),mZ c x l _ (fun z hz=>h z (List.mem_cons_of_mem _ hz)),List.append_assoc]
  rfl
theorem dd:∀ n:Nat,(Lib.decDigits n).all Num.isD=true∧Num.num 0 (Lib.decDigits n)=n∧(n≠0→∀ c,(Lib.decDigits n).head?=some c→c.toNat≠48)∧Lib.decDigits n≠[]:=by
 have hc:∀ k,k<10→(UInt8.ofNat (48+k)).toNat=48+k:=fun k hk=>by rw [UInt8.toNat_ofNat'];omega
 have h1:∀ k,k<10→Num.isD (UInt8.ofNat (48+k))=true:=fun k hk=>by
  unfold Num.isD
  rw [hc k hk]
  simp
  omega
 intro n
 induction n using Nat.strongRecOn with
 | _ n ih =>
  by_cases h:n<10
  ·rw [Lib.decDigits_one h]
   refine ⟨by rw [List.all_cons,h1 n h];rfl,?_,fun h0 c hc' => ?_,by simp⟩
   ·show 0*10+((UInt8.ofNat (48+n)).toNat-48)=n
    rw [hc n h]
    omega
   ·cases hc'
    rw [hc n h]
    omega
  ·obtain ⟨a,b,c,e⟩:=ih (n / 10) (by omega)
   have hk:n % 10<10:=Nat.mod_lt _ (by decide)
   have hd:Lib.decDigits n=Lib.decDigits (n / 10)++[UInt8.ofNat (48+n % 10)]:=by
    conv=>lhs;rw [Lib.decDigits,dif_neg h]
   rw [hd]
   refine ⟨by rw [List.all_append,a,List.all_cons,h1 _ hk];rfl,?_,fun _ x hx => ?_,by simp⟩
   ·unfold Num.num at b ⊢
    rw [List.foldl_append,b]
    show n / 10*10+((UInt8.ofNat (48+n % 10)).toNat-48)=n
    rw [hc _ hk]
    omega
   ·rcases hq:Lib.decDigits (n / 10) with _ | ⟨y,l⟩
    ·exact absurd hq e
    ·rw [hq] at hx
     cases hx
     exact c (by omega) x (by rw [hq];rfl)
theorem Fi {d:Nat} (h:d<18446744073709551616):Ref.bF (Ref.dec d)=true∧Ref.dG (Ref.dec d)=d:=by
 obtain ⟨a,b,c,e⟩:=dd d
 refine (Num.vA (Ref.dec d) ?_).1 d ?_
 ·rintro ⟨h1,h2⟩
  have h1:1<(Lib.decDigits d).length:=h1
  have h0:d≠0:=fun e0=>by rw [e0,Lib.decDigits_one (by decide)] at h1;simp at h1
  obtain ⟨x,l,hx⟩:∃ x l,Lib.decDigits d=x::l:=by
   cases hq:Lib.decDigits d with
   | nil=>exact absurd hq e
   | cons x l=>exact ⟨x,l,rfl⟩
  refine c h0 x (by rw [hx];rfl) ?_
  unfold Ref.dec at h2
  rw [hx] at h2
  have h2:((x.toNat:Nat):Int)=48:=h2
  omega
 ·show Lib.parseUintB 64 (Lib.decDigits d)=_
  rw [Lib.parseUintB,if_neg e]
  show Lib.parseUintM 18446744073709551615 0 _=_
  rw [Num.jk _ _ a (by decide),b,if_pos (by omega)]
def D (d:Nat):List UInt8:=Lib.decDigits d
theorem Dd (d:Nat) (c:UInt8) (hc:c.toNat<48):∀ y∈D d,y≠c:=fun y hy e=>by
 have:=List.all_eq_true.1 (dd d).1 y hy
 subst e
 simp [Num.isD] at this
 omega
def e0:List UInt8:=[32,111,110,32,101,32,100,111,32,115,101,110,100,32,120,32]
def e1:List UInt8:=[32,97,115,32,105,32,100,111,32,115,101,110,100,32,121,32]
def e2:List UInt8:=[10,32,111,110,32,99,32,100,111,32,99,97,110,99,101,108,32,105,10,32,111,110,32,120,32,116,111,32,98,10,32,111,110,32,121,10,115,116,97,116,101,32,98,10,32,111,110,32,121,32,116,111,32,100,10,102,105,110,97,108,32,100,10]
theorem Ez (d:Nat):(tx d).data.toList=[115,116,97,116,101,32,97,10]++e0++(D d++(e1++(D d++e2))):=by
 unfold tx
 simp only [ByteArray.data_append,Array.toList_append,List.append_assoc]
 rfl
def lE (d:Nat):ByteArray:=mk (e0++D d++e1++D d)
def Pn (d:Nat):List ByteArray:=[⟨#[115,116,97,116,101,32,97]⟩,lE d,⟨#[32,111,110,32,99,32,100,111,32,99,97,110,99,101,108,32,105]⟩,⟨#[32,111,110,32,120,32,116,111,32,98]⟩,⟨#[32,111,110,32,121]⟩,⟨#[115,116,97,116,101,32,98]⟩,⟨#[32,111,110,32,121,32,116,111,32,100]⟩,⟨#[102,105,110,97,108,32,100]⟩,⟨#[]⟩]
set_option maxRecDepth 100000
theorem uu (d:Nat):Ref.cut (tx d) 10=Pn d:=by
 have h:=Bn (tx d) 10
 have s0:∀ R,sp 10 ([115,116,97,116,101,32,97,10]++e0++R) []=[115,116,97,116,101,32,97]::sp 10 R e0:=fun R=>by kernel_rfl
 have s2:∀ acc,sp 10 e2 acc=acc::[[32,111,110,32,99,32,100,111,32,99,97,110,99,101,108,32,105],[32,111,110,32,120,32,116,111,32,98],[32,111,110,32,121],[115,116,97,116,101,32,98],[32,111,110,32,121,32,116,111,32,100],[102,105,110,97,108,32,100],[]]:=fun acc=>by kernel_rfl
 rw [Ez,s0,mZ 10 _ _ _ (Dd d 10 (by decide)),mZ 10 e1 _ _ (by decide),mZ 10 _ _ _ (Dd d 10 (by decide)),s2] at h
 exact h
def wds (W:ByteArray):List ByteArray:=[⟨#[111,110]⟩,⟨#[101]⟩,⟨#[100,111]⟩,⟨#[115,101,110,100]⟩,⟨#[120]⟩,W,⟨#[97,115]⟩,⟨#[105]⟩,⟨#[100,111]⟩,⟨#[115,101,110,100]⟩,⟨#[121]⟩,W]
theorem yy (d:Nat):Ref.a8 (lE d)=1:=by
 unfold Ref.a8
 have hs:(lE d).size=((D d++e1++D d).length+14)+1+1:=by
  show (e0++D d++e1++D d).length=_
  simp [e0]
 rw [hs]
 rfl
theorem wl1 (d:Nat):Pro.wl (Pn d) 1=wds (Ref.dec d):=by
 have h1:Ref.rest (lE d)=mk ([111,110,32,101,32,100,111,32,115,101,110,100,32,120,32]++(D d++(e1++(D d++[])))):=by
  have hb:=yy d
  unfold Ref.rest
  rw [hb]
  have h2:((lE d).extract 1 (lE d).size).data.toList=[111,110,32,101,32,100,111,32,115,101,110,100,32,120,32]++(D d++(e1++(D d++[]))):=by
   rw [ByteArray.data_extract,Array.toList_extract,List.extract_eq_take_drop]
   show List.take ((e0++D d++e1++D d).length-1) ([111,110,32,101,32,100,111,32,115,101,110,100,32,120,32]++D d++e1++D d)=_
   rw [List.take_of_length_le (by simp [e0]),List.append_nil,List.append_assoc,List.append_assoc]
  generalize (lE d).extract 1 (lE d).size=z at h2
  obtain ⟨⟨z⟩⟩:=z
  have h2:z=_:=h2
  rw [h2]
  rfl
 show Ref.cut (Ref.rest (lE d)) 32=_
 rw [h1]
 have h:=Bn (mk ([111,110,32,101,32,100,111,32,115,101,110,100,32,120,32]++(D d++(e1++(D d++[]))))) 32
 have s0:∀ R,sp 32 ([111,110,32,101,32,100,111,32,115,101,110,100,32,120,32]++R) []=[111,110]::[101]::[100,111]::[115,101,110,100]::[120]::sp 32 R []:=fun R=>by kernel_rfl
 have s1:∀ R acc,sp 32 (e1++R) acc=acc::[97,115]::[105]::[100,111]::[115,101,110,100]::[121]::sp 32 R []:=fun R acc=>by kernel_rfl
 rw [show (mk ([111,110,32,101,32,100,111,32,115,101,110,100,32,120,32]++(D d++(e1++(D d++[]))))).data.toList=[111,110,32,101,32,100,111,32,115,101,110,100,32,120,32]++(D d++(e1++(D d++[]))) from rfl,s0,mZ 32 _ _ _ (Dd d 32 (by decide)),s1,mZ 32 _ _ _ (Dd d 32 (by decide))] at h
 exact h
theorem FV {d:Nat} (h:d<18446744073709551616):Pro.bg 2 (wds (Ref.dec d))=some (.move ⟨#[101]⟩ false 0 ⟨#[]⟩ [acX d,acY d]):=by
 obtain ⟨h1,h2⟩:=Fi h
 generalize Ref.dec d=W at h1 h2
 have q0:∀ r,Pro.aW (⟨#[115,101,110,100]⟩::r)=(Pro.cy r).map fun q=>(⟨Pro.ko,q.1.1,q.1.2.2.getD ByteArray.empty,q.1.2.1⟩,q.2):=fun r=>by kernel_rfl
 have q1:∀ r,Pro.eS (⟨#[100,111]⟩::r)=(Pro.aN (⟨#[100,111]⟩::r)).map fun q=>((ByteArray.empty,q.1),q.2):=fun r=>by kernel_rfl
 have q2:∀ r,Pro.aT 2 (⟨#[111,110]⟩::⟨#[101]⟩::r)=(Pro.eS r).map fun q=>(.move ⟨#[101]⟩ false 0 q.1.1 q.1.2,q.2):=fun r=>by kernel_rfl
 have c0:Ref.called ⟨#[120]⟩=true∧Ref.called ⟨#[105]⟩=true∧Ref.called ⟨#[121]⟩=true:=⟨by kernel_rfl,by kernel_rfl,by kernel_rfl⟩
 have k4:Pro.aT 2 (wds W)=some (.move ⟨#[101]⟩ false 0 ⟨#[]⟩ [acX d,acY d],[]):=by
  unfold wds
  rw [q2,q1,Pro.eA (r':=[⟨#[100,111]⟩,⟨#[115,101,110,100]⟩,⟨#[121]⟩,W]) (a:=acX d) (by kernel_rfl) (by rw [q0,Pro.rj (by kernel_rfl),h1,h2,c0.1,c0.2.1];rfl),Pro.eA (r':=[]) (a:=acY d) (by kernel_rfl) (by rw [q0,Pro.rm,h1,h2,c0.2.2];rfl)]
  rfl
 unfold Pro.bg
 rw [k4]
def LS (d:Nat):Nat→Pro.PL
 | 0 => .state 0 ⟨#[97]⟩
 | 1 => .move ⟨#[101]⟩ false 0 ⟨#[]⟩ [acX d,acY d]
 | 2 => .move ⟨#[99]⟩ false 0 ⟨#[]⟩ [acC]
 | 3 => .move ⟨#[120]⟩ false 0 ⟨#[98]⟩ []
 | 4 => .move ⟨#[121]⟩ false 0 ⟨#[]⟩ []
 | 5 => .state 0 ⟨#[98]⟩
 | 6 => .move ⟨#[121]⟩ false 0 ⟨#[100]⟩ []
 | _ => .state 2 ⟨#[100]⟩
theorem Ex (d:Nat):Ref.bP [(Pro.aA 1 (LS d 0),0),(Pro.aA 2 (LS d 1),1),(Pro.aA 3 (LS d 2),1),(Pro.aA 4 (LS d 3),1),(Pro.aA 5 (LS d 4),1),(Pro.aA 6 (LS d 5),0),(Pro.aA 7 (LS d 6),1),(Pro.aA 8 (LS d 7),0)] 8=some [stA d,stB,stD]:=by kernel_rfl
theorem Bf (d:Nat):∀ k,k<8→Pro.gX (Pro.aZ [stA d,stB,stD] 3) (Pro.dI [stA d,stB,stD]) (k+1) (LS d k)=false
 | 0,_=>by kernel_rfl
 | 1,_=>by kernel_rfl
 | 2,_=>by kernel_rfl
 | 3,_=>by kernel_rfl
 | 4,_=>by kernel_rfl
 | 5,_=>by kernel_rfl
 | 6,_=>by kernel_rfl
 | 7,_=>by kernel_rfl
 | k+8,h=>absurd h (by omega)
section
variable {d:Nat} (hd:d<18446744073709551616)
theorem whole (hd:d<18446744073709551616):∀ k,k<8→Pro.bg (k+1) (Pro.wl (Pn d) k)=some (LS d k)
 | 0,_=>by kernel_rfl
 | 1,_=>by rw [wl1];exact FV hd
 | 2,_=>by kernel_rfl
 | 3,_=>by kernel_rfl
 | 4,_=>by kernel_rfl
 | 5,_=>by kernel_rfl
 | 6,_=>by kernel_rfl
 | 7,_=>by kernel_rfl
 | k+8,h=>absurd h (by omega)
theorem zJ (hd:d<18446744073709551616) (k:Nat) (L:Pro.PL) (hL:Pro.bg (k+1) (Pro.wl (Ref.cut (tx d) 10) k)=some L):Pro.Flat L:=by
 rw [uu] at hL
 by_cases hk:k<8
 ·rw [whole hd k hk] at hL
  cases hL
  match k,hk with
  | 0,_=>trivial
  | 1,_=>trivial
  | 2,_=>trivial
  | 3,_=>trivial
  | 4,_=>trivial
  | 5,_=>trivial
  | 6,_=>trivial
  | 7,_=>trivial
 ·have e:Pro.wl (Pn d) k=Pro.wl [] 0:=by
   unfold Pro.wl Ref.pc
   by_cases h7:k=8
   ·rw [h7];rfl
   ·rw [List.getD_eq_getElem?_getD,List.getElem?_eq_none (by show 9≤k;omega)]
    rfl
  rw [e] at hL
  have:∀ m:Nat,Pro.bg m (Pro.wl [] 0)=none:=fun m=>by kernel_rfl
  rw [this] at hL
  cases hL
theorem dY (hd:d<18446744073709551616) {k:Nat} (hk:k<8):Ref.el (Ref.pc (Pn d) k) k=Pro.aA (k+1) (LS d k):=Pro.jL (whole hd k hk)
theorem CS (hd:d<18446744073709551616):Ref.syn (Pn d)=none:=by
 have h:∀ k,k≤8→Ref.jW (Pn d) k=none:=fun k=>by
  induction k with
  | zero=>intro _;rfl
  | succ k ih =>
   intro hk
   rw [Ref.jW,ih (by omega),dY hd (by omega)]
   have:(Pro.aA (k+1) (LS d k)).kind≠0:=by
    match k,hk with
    | 0,_=>show (115:Int)≠0;decide
    | 1,_=>show (109:Int)≠0;decide
    | 2,_=>show (109:Int)≠0;decide
    | 3,_=>show (109:Int)≠0;decide
    | 4,_=>show (109:Int)≠0;decide
    | 5,_=>show (115:Int)≠0;decide
    | 6,_=>show (109:Int)≠0;decide
    | 7,_=>show (115:Int)≠0;decide
   simp only [if_neg this]
 unfold Ref.syn
 rw [show (Pn d).length-1=8 from rfl,h 8 (Nat.le_refl _)]
 have he:(decide (0<8)&&(Ref.pc (Pn d) 8).toList.isEmpty)=true:=by kernel_rfl
 simp only [if_pos he]
theorem AK (hd:d<18446744073709551616):Ref.bP (Ref.bo (Pn d) 8) 8=some [stA d,stB,stD]:=by
 have:Ref.bo (Pn d) 8=[(Pro.aA 1 (LS d 0),0),(Pro.aA 2 (LS d 1),1),(Pro.aA 3 (LS d 2),1),(Pro.aA 4 (LS d 3),1),(Pro.aA 5 (LS d 4),1),(Pro.aA 6 (LS d 5),0),(Pro.aA 7 (LS d 6),1),(Pro.aA 8 (LS d 7),0)]:=by
  show [(Ref.el (Ref.pc (Pn d) 0) 0,(Ref.a8 (Ref.pc (Pn d) 0):Int)),(Ref.el (Ref.pc (Pn d) 1) 1,(Ref.a8 (Ref.pc (Pn d) 1):Int)),(Ref.el (Ref.pc (Pn d) 2) 2,(Ref.a8 (Ref.pc (Pn d) 2):Int)),(Ref.el (Ref.pc (Pn d) 3) 3,(Ref.a8 (Ref.pc (Pn d) 3):Int)),(Ref.el (Ref.pc (Pn d) 4) 4,(Ref.a8 (Ref.pc (Pn d) 4):Int)),(Ref.el (Ref.pc (Pn d) 5) 5,(Ref.a8 (Ref.pc (Pn d) 5):Int)),(Ref.el (Ref.pc (Pn d) 6) 6,(Ref.a8 (Ref.pc (Pn d) 6):Int)),(Ref.el (Ref.pc (Pn d) 7) 7,(Ref.a8 (Ref.pc (Pn d) 7):Int))]=_
  rw [dY hd (k:=0) (by decide),dY hd (k:=1) (by decide),dY hd (k:=2) (by decide),dY hd (k:=3) (by decide),dY hd (k:=4) (by decide),dY hd (k:=5) (by decide),dY hd (k:=6) (by decide),dY hd (k:=7) (by decide)]
  have b:∀ k x,Ref.a8 (Ref.pc (Pn d) k)=x→((Ref.a8 (Ref.pc (Pn d) k):Nat):Int)=(x:Int):=fun k x h=>by rw [h]
  rw [b 0 0 (by kernel_rfl),b 1 1 (yy d),b 2 1 (by kernel_rfl),b 3 1 (by kernel_rfl),b 4 1 (by kernel_rfl),b 5 0 (by kernel_rfl),b 6 1 (by kernel_rfl),b 7 0 (by kernel_rfl)]
  rfl
 rw [this]
 exact Ex d
theorem y8 (hd:d<18446744073709551616):(tx d).size≤143:=by
 have:=Ref.iZ (show d≤18446744073709551615 by omega)
 unfold tx
 rw [ByteArray.size_append,ByteArray.size_append,ByteArray.size_append,ByteArray.size_append,show p0.size=24 from rfl,show p1.size=16 from rfl,show p2.size=63 from rfl]
 omega
theorem Ej (hd:d<18446744073709551616):Pro.read (tx d) = .jE [stA d,stB,stD]:=by
 have hsz:¬ 1500<(tx d).size:=by have:=y8 hd;omega
 have hnm:∀ k,k≤8→Pro.cV [stA d,stB,stD] (Pn d) k=none:=fun k=>by
  induction k with
  | zero=>intro _;rfl
  | succ k ih =>
   intro hk
   have hb:Pro.vx [stA d,stB,stD] (Pn d) k=false:=by
    unfold Pro.vx
    rw [whole hd k (by omega)]
    exact Bf d k (by omega)
   rw [Pro.cV,ih (by omega)]
   simp only [hb]
   rfl
 unfold Pro.read
 rw [if_neg hsz,uu,CS hd,show (Pn d).length-1=8 from rfl]
 simp only [AK hd]
 rw [show Ref.eB [stA d,stB,stD] [stA d,stB,stD].length=none by kernel_rfl,hnm 8 (Nat.le_refl _)]
end
end Sd
end
end Go.Proofs.YtegmoddppafkfaaGreatDoor
