import Derived.Test.YtegmoddppafkfaaGreatDoorM00
import Derived.Test.YtegmoddppafkfaaGreatDoorM27
import Derived.Test.YtegmoddppafkfaaGreatDoorM34
import Derived.Test.YtegmoddppafkfaaGreatDoorM35
import Derived.Test.YtegmoddppafkfaaGreatDoorM36
set_option maxRecDepth 100000
set_option maxHeartbeats 8000000
namespace Go.Proofs.YtegmoddppafkfaaGreatDoor
section
open Go.RowKit Go.Proofs Go.Shelf
namespace Pg
abbrev FQ (w:World):Prop:=w.cell? ⟨0,0,none⟩=some (.iface 269 (.agg #[.pointer (some ⟨9,101,none⟩)]))
def kH (n:Nat):Value:=if n=0 then .nilIface else .iface 47 (.int .i64 n)
theorem vF (n:Nat) (w:World) (hg:FQ w):Calls Tryz.prog 49 #[kH n] w fun ev w'=>ev = .returned (.tuple #[.int .i64 n,.int .i64 0])∧Below w.heap.size w w':=by
 unfold kH
 by_cases h:n=0
 ·rw [if_pos h,h]
  exact vG w
 ·rw [if_neg h]
  exact xE n w hg
abbrev AF (w:World) (xb mb:Nat):Prop:=w.heap[xb]?=some (.cells #[.pointer (some ⟨mb,0,none⟩)] 94 (0,0))
end Pg
section
variable (w:World) (xb mb:Nat) (R:Value→Nat→World→Prop) (hx:Pg.AF w xb mb) (hR:∀ l n V,R l n V→Pg.FQ V)
theorem iP (hx:Pg.AF w xb mb):Calls Tryz.prog 44 #[.pointer (some ⟨xb,0,none⟩)] w fun e w'=>e = .returned (.bool false)∧w'=w:=by
 have c0:w.cell? ⟨xb,0,none⟩=some (.pointer (some ⟨mb,0,none⟩)):=(cell_of_row w _ _ _ _ _ hx).trans rfl
 clear hx
 go_enter Tryz.func44,Tryz.ntmps44
 go_wp2
 go_ret
 exact ⟨rfl,rfl⟩
theorem ti (hx:Pg.AF w xb mb) (ev:ByteArray) (h:Calls Tryz.prog 68 #[.pointer (some ⟨mb,0,none⟩),.string ev] w fun e w'=>∃ l n,e = .returned (.tuple #[l,Pg.kH n])∧R l n w') :
  Calls Tryz.prog 48 #[.pointer (some ⟨xb,0,none⟩),.string ev] w fun e w'=>∃ l n,e = .returned (.tuple #[l,Pg.kH n])∧R l n w':=by
 have c0:w.cell? ⟨xb,0,none⟩=some (.pointer (some ⟨mb,0,none⟩)):=(cell_of_row w _ _ _ _ _ hx).trans rfl
 have HN:Hid _:=iP w xb mb hx
 have HE:Hid _:=h
 clear hx h
 go_enter Tryz.func48,Tryz.ntmps48
 go_wp2_with (first
  | (go_at_call 44;refine Calls.mono HN.out ?_;rintro e w1 ⟨rfl,hw1⟩;rw [hw1];clear hw1 w1)
  | (go_at_call 68;refine Calls.mono HE.out ?_;rintro e w2 ⟨l,n,rfl,h2⟩;obtain ⟨vn,hvn⟩:∃ vn,vn=Pg.kH n:=⟨_,rfl⟩;rw [← hvn];have HVN:Hid _:=hvn;clear hvn))
 go_ret2
 exact ⟨l,n,by rw [← HVN.out];rfl,h2⟩
theorem th (hx:Pg.AF w xb mb) (t:Nat) (h:Calls Tryz.prog 70 #[.pointer (some ⟨mb,0,none⟩),.int .u64 t] w fun e w'=>∃ l n,e = .returned (.tuple #[l,Pg.kH n])∧R l n w') :
  Calls Tryz.prog 50 #[.pointer (some ⟨xb,0,none⟩),.int .u64 t] w fun e w'=>∃ l n,e = .returned (.tuple #[l,Pg.kH n])∧R l n w':=by
 have c0:w.cell? ⟨xb,0,none⟩=some (.pointer (some ⟨mb,0,none⟩)):=(cell_of_row w _ _ _ _ _ hx).trans rfl
 have HN:Hid _:=iP w xb mb hx
 have HE:Hid _:=h
 clear hx h
 go_enter Tryz.func50,Tryz.ntmps50
 go_wp2_with (first
  | (go_at_call 44;refine Calls.mono HN.out ?_;rintro e w1 ⟨rfl,hw1⟩;rw [hw1];clear hw1 w1)
  | (go_at_call 70;refine Calls.mono HE.out ?_;rintro e w2 ⟨l,n,rfl,h2⟩;obtain ⟨vn,hvn⟩:∃ vn,vn=Pg.kH n:=⟨_,rfl⟩;rw [← hvn];have HVN:Hid _:=hvn;clear hvn))
 go_ret2
 exact ⟨l,n,by rw [← HVN.out];rfl,h2⟩
theorem jT (hx:Pg.AF w xb mb) (hR:∀ l n V,R l n V→Pg.FQ V) (ev:ByteArray) (h:Calls Tryz.prog 68 #[.pointer (some ⟨mb,0,none⟩),.string ev] w fun e w'=>∃ l n,e = .returned (.tuple #[l,Pg.kH n])∧R l n w') :
  Calls Tryz.prog 25 #[.pointer (some ⟨xb,0,none⟩),.string ev] w fun e w'=>∃ (l:Value) (n:Nat) (V:World),e = .returned (.tuple #[l,.int .i64 n])∧R l n V∧Below V.heap.size V w':=by
 have HS:Hid _:=ti w xb mb R hx ev h
 have HT:Hid (∀ l n V,R l n V→Calls Tryz.prog 49 #[Pg.kH n] V fun ev w'=>ev = .returned (.tuple #[.int .i64 n,.int .i64 0])∧Below V.heap.size V w'):=fun l n V h=>Pg.vF n V (hR l n V h)
 clear hx h hR
 go_enter Tryz.func25,Tryz.ntmps25
 go_wp2_with (first
  | (go_at_call 48;refine Calls.mono HS.out ?_;rintro e w1 ⟨l,n,rfl,h1⟩;have HT1:Hid _:=HT.out l n w1 h1;generalize Pg.kH n=vn at *)
  | (go_at_call 49;refine Calls.mono HT1.out ?_;rintro e w2 ⟨rfl,hb2⟩))
 go_ret2
 exact ⟨_,_,_,rfl,h1,hb2⟩
theorem jS (hx:Pg.AF w xb mb) (hR:∀ l n V,R l n V→Pg.FQ V) (t:Nat) (h:Calls Tryz.prog 70 #[.pointer (some ⟨mb,0,none⟩),.int .u64 t] w fun e w'=>∃ l n,e = .returned (.tuple #[l,Pg.kH n])∧R l n w') :
  Calls Tryz.prog 26 #[.pointer (some ⟨xb,0,none⟩),.int .u64 t] w fun e w'=>∃ (l:Value) (n:Nat) (V:World),e = .returned (.tuple #[l,.int .i64 n])∧R l n V∧Below V.heap.size V w':=by
 have HS:Hid _:=th w xb mb R hx t h
 have HT:Hid (∀ l n V,R l n V→Calls Tryz.prog 49 #[Pg.kH n] V fun ev w'=>ev = .returned (.tuple #[.int .i64 n,.int .i64 0])∧Below V.heap.size V w'):=fun l n V h=>Pg.vF n V (hR l n V h)
 clear hx h hR
 go_enter Tryz.func26,Tryz.ntmps26
 go_wp2_with (first
  | (go_at_call 50;refine Calls.mono HS.out ?_;rintro e w1 ⟨l,n,rfl,h1⟩;have HT1:Hid _:=HT.out l n w1 h1;generalize Pg.kH n=vn at *)
  | (go_at_call 49;refine Calls.mono HT1.out ?_;rintro e w2 ⟨rfl,hb2⟩))
 go_ret2
 exact ⟨_,_,_,rfl,h1,hb2⟩
end
namespace Fu
open Pg
def Ses (n:Nat) (w W:World) (xb:Nat) (r:RSt):Prop:=∃ (lo mb pb b cap:Nat) (ps:List PS) (fin:Nat) (EN LV:Nat→List PA) (hvs:Ref.Sl) (D:Nat→Bool) (mbm m:Nat) (T:ByteArray→Option (List (Option PM))) (M:ByteArray→Option Nat) (Lr:Nat→List (Option Nat)) (pmF:Nat→PM) (acF:Nat→List PA),
 AF W xb mb∧xb<W.heap.size∧lo≤xb∧w.heap.size≤lo∧Live W lo mb pb b cap ps fin EN LV hvs [] D mbm m T M Lr pmF acF r∧(∀ r,Ok r→∀ ev,aQ ps fin EN LV [] D M Lr pmF acF r ev=cst n r ev)∧dP ps 0=ba∧dP ps 1=bb
def EZ (n:Nat) (w:World) (e:Ending) (w':World):Prop:=Below w.heap.size w w'∧∃ xb l,e = .returned (.tuple #[px xb,l,.nilIface])∧Ses n w w' xb (rs 1 [])
theorem pX:jf acX = .raise bx:=by kernel_rfl
theorem pT:jf acT = .send bt 0:=by kernel_rfl
theorem pZ:jf acZ = .send bz 1:=by kernel_rfl
theorem kA (n:Nat):Pro.ao (Pro.p5 (stA n))=0:=by kernel_rfl
theorem kB:Pro.ao (Pro.p5 stB)=0:=by kernel_rfl
theorem two {α:Type} {L:List α} (h:L.length=2):∃ a b,L=[a,b]:=by
 match L,h with
 | [a,b],_=>exact ⟨a,b,rfl⟩
theorem D6 {M:List Pro.PV} {a b c d:Ref.Move} (h:M.map (·.m)=[a,b,c,d]):∃ y0 y1 y2 y3:Pro.PV,M=[y0,y1,y2,y3]∧y0.m=a∧y1.m=b∧y2.m=c∧y3.m=d:=by
 match M,h with
 | [y0,y1,y2,y3],h=>simp at h;exact ⟨y0,y1,y2,y3,rfl,h⟩
theorem D5 {M:List Pro.PV} {a:Ref.Move} (h:M.map (·.m)=[a]):∃ y0:Pro.PV,M=[y0]∧y0.m=a:=by
 match M,h with
 | [y0],h=>simp at h;exact ⟨y0,rfl,h⟩
theorem iY {s:Nat→Ref.Sl} {i:Nat} {x:MS} (hx:(fX s)[i]?=some x):x.kind=0∧x.owner = -1∧x.name.size≤1000000∧((x.ve=s 1∧x.vl=s 2)∨(x.ve=s 5∧x.vl=s 6)):=by
 match i,hx with
 | 0,hx=>cases hx;exact ⟨rfl,rfl,by show (1:Nat)≤1000000;decide,.inl ⟨rfl,rfl⟩⟩
 | 1,hx=>cases hx;exact ⟨rfl,rfl,by show (1:Nat)≤1000000;decide,.inr ⟨rfl,rfl⟩⟩
 | i+2,hx=>cases hx
theorem DC {t:Nat→Ref.Sl} {i:Nat} {m:MV} (hm:m∈fV t i):∃ j,j<5∧m.ak=t j:=by
 match i,hm with
 | 0,hm =>
  simp only [fV,List.mem_cons,List.not_mem_nil,or_false] at hm
  rcases hm with rfl | rfl | rfl | rfl
  ·exact ⟨0,by decide,rfl⟩
  ·exact ⟨1,by decide,rfl⟩
  ·exact ⟨2,by decide,rfl⟩
  ·exact ⟨3,by decide,rfl⟩
 | 1,hm =>
  simp only [fV,List.mem_cons,List.not_mem_nil,or_false] at hm
  subst hm
  exact ⟨4,by decide,rfl⟩
 | i+2,hm=>cases hm
theorem Ee {s:Nat→Ref.Sl} {i:Nat} {p:PS} (hp:(psF (fX s))[i]?=some p):p.done.size≤1000000:=by
 have h:((psF (fX s)).map (fun p=>decide (p.done.size≤1000000))).all id=true:=by kernel_rfl
 have:=List.all_eq_true.1 h _ (List.mem_map_of_mem (List.mem_of_getElem? hp))
 exact of_decide_eq_true this
theorem yv (s:Nat→Ref.Sl):∃ p,(psF (fX s))[0]?=some p∧p.wth=1∧(p.kind == 2)=false:=by
 have h:((psF (fX s))[0]?).map (fun p=>(p.wth,p.kind == 2))=some (1,false):=by kernel_rfl
 cases hp:(psF (fX s))[0]? with
 | none=>rw [hp] at h;cases h
 | some p =>
  rw [hp] at h
  have h:=Option.some.inj h
  exact ⟨p,rfl,congrArg Prod.fst h,congrArg Prod.snd h⟩
theorem CB {n:Nat} {s t:Nat→Ref.Sl} {AV:Ref.Sl→List PA} (hC:Acs n s t AV) (H:List HV) (D:Nat→Bool) (M:ByteArray→Option Nat) (Lr:Nat→List (Option Nat)) (pmF:Nat→PM) (acF:Nat→List PA):fM (psF (fX s)) (cB (fX s) (fX s).length) (enF (fX s) AV) (lvF (fX s) AV) H D M Lr pmF acF 1=rs 1 []:=by
 obtain ⟨p,hp,_,hk⟩:=yv s
 have h1:bY (psF (fX s)) (cB (fX s) (fX s).length) (enF (fX s) AV) r0 (els 1)=rs 1 []:=by
  rw [show els 1=[0] from rfl]
  show iX (psF (fX s)) (cB (fX s) (fX s).length) (enF (fX s) AV) r0 0=_
  unfold iX
  rw [show enF (fX s) AV 0=AV (s 1) from rfl,hC.e0,hp]
  simp only [hk,doL,List.foldl_nil]
  rfl
 unfold fM dV
 rw [h1,j8 rfl]
 rfl
structure Chf (n:Nat) (W:World) (Z:List Pro.DS) (MM:Nat→List Pro.PV) (s t:Nat→Ref.Sl):Prop where
 x:Z.map xF=fX s
 v:vOf MM=fV t
 acs:∀ AV:Ref.Sl→List PA,(∀ v L,dx W W.heap.size v L→AV v=L)→Acs n s t AV
 at':∀ i,i<5→∃ L,dx W W.heap.size (t i) L∧∀ a∈L,a.sz
 ez:∀ i,i<8→(i=1∨i=2∨i=5∨i=6)→dx W W.heap.size (s i) []
theorem Ba {n:Nat} (hn:n<20) {W:World} {z0 z1:Pro.DS} {MM:Nat→List Pro.PV} (e0:z0.s=Pro.p5 (stA n)) (e1:z1.s=Pro.p5 stB) (hM:∀ i,(∀ z,[z0,z1][i]?=some z→fe W z (MM i))∧([z0,z1][i]?=none→MM i=[])):∃ s t,Chf n W [z0,z1] MM s t:=by
 have w0:=(hM 0).1 z0 rfl
 have w1:=(hM 1).1 z1 rfl
 obtain ⟨g1,g2,g3⟩:=tL n hn
 have hm0:(MM 0).map (·.m)=(stA n).moves:=by rw [w0.mv,e0];rfl
 have hm1:(MM 1).map (·.m)=stB.moves:=by rw [w1.mv,e1];rfl
 obtain ⟨y0,y1,y2,y3,hy,a0,a1,a2,a3⟩:=D6 hm0
 obtain ⟨y4,hy4,a4⟩:=D5 hm1
 refine ⟨fun i=>match i with | 0=>z0.vp | 1=>z0.ve | 2=>z0.vl | 3=>z0.vm | 4=>z1.vp | 5=>z1.ve | 6=>z1.vl | _=>z1.vm,fun i=>match i with | 0=>y0.v | 1=>y1.v | 2=>y2.v | 3=>y3.v | _=>y4.v,?_⟩
 have ac:∀ {M:List Pro.PV} {z:Pro.DS} (w:fe W z M) (y:Pro.PV) (A:List Ref.Act),y∈M→y.m.ak=A→(∀ a∈A,(jf a).ok∧(jf a).sz)→dx W W.heap.size y.v (A.map jf)∧∀ a∈A.map jf,a.sz:=fun w y A hy e hk=>by
  have h1:=w.ak y hy
  have h2:=(w.actsG y hy).2
  rw [e] at h1 h2
  exact ⟨xR h1 h2 (fun a ha=>(hk a ha).1),fun a ha=>by
   obtain ⟨x,hx,rfl⟩:=List.mem_map.1 ha
   exact (hk x hx).2⟩
 have k0:∀ a∈[acX],(jf a).ok∧(jf a).sz:=fun a ha=>by rw [List.mem_singleton.1 ha,pX];exact ⟨trivial,by show (1:Nat)≤1000000;decide⟩
 have k1:∀ a∈[acT],(jf a).ok∧(jf a).sz:=fun a ha=>by rw [List.mem_singleton.1 ha,pT];exact ⟨by show (0:Nat)<18446744073709551616;decide,by show (1:Nat)≤1000000;decide⟩
 have k3:∀ a∈List.replicate n acZ,(jf a).ok∧(jf a).sz:=fun a ha=>by rw [List.eq_of_mem_replicate ha,pZ];exact ⟨by show (1:Nat)<18446744073709551616;decide,by show (1:Nat)≤1000000;decide⟩
 have b0:=ac w0 y0 [acX] (by rw [hy];simp) (by rw [a0]) k0
 have b1:=ac w0 y1 [acT] (by rw [hy];simp) (by rw [a1]) k1
 have b2:=ac w0 y2 [] (by rw [hy];simp) (by rw [a2]) (fun a ha=>by cases ha)
 have b3:=ac w0 y3 (List.replicate n acZ) (by rw [hy];simp) (by rw [a3]) k3
 have b4:=ac w1 y4 [acX] (by rw [hy4];simp) (by rw [a4]) k0
 have nil:∀ {v:Ref.Sl} {A:List Ref.Act},A=[]→W.ownsRow 0 324 1 v.v A.length (A.map aZ)→dx W W.heap.size v []:=fun e h=>by
  rw [e] at h
  exact xR h Pro.dI.nil (fun a ha=>by cases ha)
 have c1:=nil (show z0.s.enter=[] by rw [e0];rfl) w0.enter
 have c2:=nil (show z0.s.leave=[] by rw [e0];rfl) w0.leave
 have c5:=nil (show z1.s.enter=[] by rw [e1];rfl) w1.enter
 have c6:=nil (show z1.s.leave=[] by rw [e1];rfl) w1.leave
 have p3:(List.replicate n acZ).map jf=List.replicate n (.send bz 1):=by rw [List.map_replicate,pZ]
 refine ⟨?_,?_,fun AV hAV=>⟨hAV _ _ c1,hAV _ _ c2,hAV _ _ c5,hAV _ _ c6,(hAV _ _ b0.1).trans (by rw [List.map_cons,pX];rfl),(hAV _ _ b1.1).trans (by rw [List.map_cons,pT];rfl),hAV _ _ b2.1,(hAV _ _ b3.1).trans p3,(hAV _ _ b4.1).trans (by rw [List.map_cons,pX];rfl)⟩,fun i hi => ?_,fun i hi h => ?_⟩
 ·show [xF z0,xF z1]=_
  unfold xF fX
  rw [e0,e1,kA,kB]
  rfl
 ·funext i
  match i with
  | 0 =>
   show (MM 0).map nD=_
   rw [hy]
   show [nD y0,nD y1,nD y2,nD y3]=_
   unfold nD
   rw [a0,a1,a2,a3]
   rfl
  | 1 =>
   show (MM 1).map nD=_
   rw [hy4]
   show [nD y4]=_
   unfold nD
   rw [a4]
   rfl
  | i+2 =>
   show (MM (i+2)).map nD=_
   rw [(hM (i+2)).2 rfl]
   rfl
 ·match i,hi with
  | 0,_=>exact ⟨_,b0⟩
  | 1,_=>exact ⟨_,b1⟩
  | 2,_=>exact ⟨_,b2⟩
  | 3,_=>exact ⟨_,b3⟩
  | 4,_=>exact ⟨_,b4⟩
 ·rcases h with rfl | rfl | rfl | rfl
  ·exact c1
  ·exact c2
  ·exact c5
  ·exact c6
end Fu
theorem xA (n:Nat) (hn:n<20) (txt:ByteArray) (w:World) (hv:tI w) (hs:txt.size≤1073741824) (hok:Pro.read txt = .jq [Fu.stA n,Fu.stB]) (hfl:∀ (k:Nat) (L:Pro.PL),Pro.bj (k+1) (Pro.wl (Ref.cut txt 10) k)=some L→Pro.Flat L) :
  Calls Tryz.prog 53 #[.string txt] w (Fu.EZ n w):=by
 have HR:Hid _:=Ce txt w hv.lib hs _ hok hfl
 have HV:Hid _:=hv
 have HOK:Hid _:=hok
 clear hv hok hfl
 go_enter Tryz.func53,Tryz.ntmps53
 go_wp2_with fail
 refine Calls.mono HR.out ?_
 rintro e w1 ⟨hb1,hp⟩
 rw [HOK.out] at hp
 obtain ⟨cb,sv,X,rfl,hcb,hXS,hC,hSl⟩:=hp
 have hXl:X.length=2:=by rw [← List.length_map (f:=fun x:Pro.DS=>x.s),hXS];rfl
 have HT:Hid _:=wk cb sv X w1 hcb hC (by omega) (fun x hx=>Fu.Fp n hn x.s (by rw [← hXS];exact List.mem_map_of_mem hx))
 have HXS:Hid _:=hXS
 clear hXS hSl hC hcb
 dsimp only
 go_wp2_with fail
 refine Calls.mono HT.out ?_
 rintro e w2 ⟨hb2,cb2,sv2,Z,rfl,hcb2,hD⟩
 obtain ⟨x0,x1,rfl⟩:=Fu.two hXl
 obtain ⟨z0,z1,rfl⟩:=Fu.two (hD.len.trans hXl)
 have hX0:x0.s=Fu.stA n∧x1.s=Fu.stB:=by have:=HXS.out;simpa using this
 have e0:z0.s=Pro.p5 (Fu.stA n):=by have:=(hD.done 0 (Nat.zero_lt_succ _) (Nat.zero_lt_succ _) (Nat.zero_lt_succ _)).1;rw [← hX0.1];exact this
 have e1:z1.s=Pro.p5 Fu.stB:=by have:=(hD.done 1 (Nat.lt_succ_self _) (Nat.lt_succ_self _) (Nat.lt_succ_self _)).1;rw [← hX0.2];exact this
 obtain ⟨MM,hMM⟩:=Pg.Fv hD
 obtain ⟨cg,cc,hch⟩:=Pg.Fa hD hcb2 (Nat.zero_lt_succ _) hMM
 obtain ⟨s,t,hF⟩:=Fu.Ba hn e0 e1 hMM
 rw [hF.x,hF.v] at hch
 have hv2:=(HV.out.ax hb1).ax hb2
 have hnh:∀ (i:Nat) (x:Pg.MS),(Fu.fX s)[i]?=some x→Pg.isH x.kind=false:=fun i x hx=>by rw [(Fu.iY hx).1];decide
 have hVl:∀ i,(Fu.fV t i).length≤30000:=fun i=>by
  match i with
  | 0=>show (4:Nat)≤30000;decide
  | 1=>show (1:Nat)≤30000;decide
  | i+2=>show (0:Nat)≤30000;decide
 have hVm:∀ i,∀ m∈Fu.fV t i,m.event.size≤1000000∧m.dest.size≤1000000∧(m.dest.toList.isEmpty=false→∃ d,Pg.dh (Fu.fX s) (Fu.fX s).length m.dest=some d∧d<(Fu.fX s).length):=fun i m hm=>by
  have hz:(⟨#[]⟩:ByteArray).toList.isEmpty=false→∃ d,Pg.dh (Fu.fX s) (Fu.fX s).length ⟨#[]⟩=some d∧d<(Fu.fX s).length:=fun h=>by
   rw [show (⟨#[]⟩:ByteArray).toList.isEmpty=true by kernel_rfl] at h
   cases h
  have n1:(1:Nat)≤1000000:=by decide
  have n4:(4:Nat)≤1000000:=by decide
  match i,hm with
  | 0,hm =>
   simp only [Fu.fV,List.mem_cons,List.not_mem_nil,or_false] at hm
   rcases hm with rfl | rfl | rfl | rfl
   ·exact ⟨n1,Nat.zero_le _,hz⟩
   ·exact ⟨n1,Nat.zero_le _,hz⟩
   ·exact ⟨n4,n1,fun _=>⟨1,by kernel_rfl,by show (1:Nat)<2;decide⟩⟩
   ·exact ⟨n1,Nat.zero_le _,hz⟩
  | 1,hm =>
   simp only [Fu.fV,List.mem_cons,List.not_mem_nil,or_false] at hm
   subst hm
   exact ⟨n1,Nat.zero_le _,hz⟩
  | i+2,hm=>cases hm
 have HN:Hid _:=D9 w2 cb2 cg cc (Fu.fX s) (Fu.fV t) hch (by show (2:Nat)≤24;decide) (fun i x hx=>(Fu.iY hx).2.2.1) (fun i x hx => .inl (Fu.iY hx).2.1) hnh hv2.lw.g5 hv2.t5 hv2.k5 hVl hVm
 have HB2:Hid (Below w.heap.size w w2):=hb1.trans (hb2.mono hb1.size)
 have HV2:Hid _:=hv2
 have HMM:Hid _:=hMM
 clear hv2 hb1 hb2 hD hcb2 hch hVl hVm hnh hMM hXl
 dsimp only
 go_wp2_with fail
 refine Calls.mono HN.out ?_
 rintro e w3 ⟨pb,rfl,hNP⟩
 have hb3:Below w2.heap.size w2 w3:=by
  obtain ⟨_,_,_,_,_,_,_,hb,_⟩:=hNP
  exact hb
 have hv3:=HV2.out.ax hb3
 obtain ⟨s',t',hF3⟩:=Fu.Ba hn e0 e1 (fun i=>⟨fun z hz=>((HMM.out i).1 z hz).ax hb3,(HMM.out i).2⟩)
 rw [← hF.x,hF3.x,← hF.v,hF3.v] at hNP
 clear hF HMM e0 e1
 classical
 obtain ⟨AV,hAV⟩:∃ AV:Ref.Sl→List Pg.PA,∀ v L,Pg.dx w3 w3.heap.size v L→AV v=L:=⟨fun v=>if h:∃ L,Pg.dx w3 w3.heap.size v L then h.choose else [],fun v L h=>by
  have he:∃ L,Pg.dx w3 w3.heap.size v L:=⟨L,h⟩
  dsimp only
  rw [dif_pos he]
  exact he.choose_spec.uniq h⟩
 have hac:=hF3.acs AV hAV
 have hez:=fun i hi h=>let y:=hF3.ez i hi h;(⟨y,hAV _ _ y⟩:Pg.dx w3 w3.heap.size (s' i) []∧AV (s' i)=[])
 have hea:∀ (i:Nat) (x:Pg.MS),(Fu.fX s')[i]?=some x→(Pg.dx w3 w3.heap.size x.ve (AV x.ve)∧AV x.ve=[])∧Pg.dx w3 w3.heap.size x.vl (AV x.vl)∧AV x.vl=[]:=fun i x hx=>by
  rcases (Fu.iY hx).2.2.2 with ⟨a,b⟩ | ⟨a,b⟩
  ·rw [a,b,(hez 1 (by decide) (.inl rfl)).2,(hez 2 (by decide) (.inr (.inl rfl))).2]
   exact ⟨⟨(hez 1 (by decide) (.inl rfl)).1,rfl⟩,(hez 2 (by decide) (.inr (.inl rfl))).1,rfl⟩
  ·rw [a,b,(hez 5 (by decide) (.inr (.inr (.inl rfl)))).2,(hez 6 (by decide) (.inr (.inr (.inr rfl)))).2]
   exact ⟨⟨(hez 5 (by decide) (.inr (.inr (.inl rfl)))).1,rfl⟩,(hez 6 (by decide) (.inr (.inr (.inr rfl)))).1,rfl⟩
 obtain ⟨b,hvs,H,D,mbm,m,M,Lr,pmF,acF,hRP,r1,r2,r3,r4,r5,_⟩:=Pg.Cq AV (fun i x hx=>by rw [(Fu.iY hx).1];decide) hNP (by show (2:Nat)≤24;decide) (by show 0<2;decide) (fun i x hx => .inl (Fu.iY hx).2.1) (fun i x hx=>by rw [(Fu.iY hx).1];decide) hv3.lw (fun i x hx=>⟨(hea i x hx).1.1,(hea i x hx).2.1⟩) (fun i _ mv hm=>by
  obtain ⟨j,hj,e⟩:=Fu.DC hm
  obtain ⟨L,hL,hz⟩:=hF3.at' j hj
  rw [e,hAV _ _ hL]
  exact ⟨hL,hz⟩)
 have hH:H=[]:=by
  have:Pg.oC (Fu.fX s') (Fu.fX s').length=[]:=by kernel_rfl
  rw [this] at r1
  exact List.map_eq_nil_iff.1 r1
 subst hH
 have hSz:Pg.SzP (Pg.psF (Fu.fX s')) (Pg.enF (Fu.fX s') AV) (Pg.lvF (Fu.fX s') AV):=⟨fun i a ha=>by
  unfold Pg.enF at ha
  split at ha
  ·rename_i x hx
   rw [(hea i x hx).1.2] at ha
   cases ha
  ·(cases ha),fun i a ha=>by
  unfold Pg.lvF at ha
  split at ha
  ·rename_i x hx
   rw [(hea i x hx).2.2] at ha
   cases ha
  ·(cases ha),fun i p hp=>Fu.Ee hp⟩
 obtain ⟨p0,hp0,hw0,_⟩:=Fu.yv s'
 have HS:Hid _:=xt w3 w3.heap.size pb b _ _ _ _ _ hvs [] D mbm m _ M Lr pmF acF p0 hRP hSz r5 hp0 (by rw [hw0,Pg.nQ];show 1<2 ^ 2;decide) (Nat.le_refl _) hv3.t6 hv3.t5 (fun V=>gh _ V (by decide))
 rw [hw0,Fu.CB hac] at HS
 have hAns:=fun (r:Pg.RSt) (hr:Fu.Ok r) (ev:ByteArray)=>Fu.Da (D:=D) r3 r4 hac hr ev
 have hnm:Pg.dP (Pg.psF (Fu.fX s')) 0=Fu.ba∧Pg.dP (Pg.psF (Fu.fX s')) 1=Fu.bb:=⟨by kernel_rfl,by kernel_rfl⟩
 have HB3:Hid (Below w.heap.size w w3):=HB2.out.trans (hb3.mono HB2.out.size)
 have HFIN:Hid (∀ (w4:World) (mb:Nat),Pg.MT w4 w3.heap.size mb pb (Fu.rs 1 [])→Pg.Rf w3.heap.size w3 w4→Below w.heap.size w (w4.alloc (.cells #[.pointer (some ⟨mb,0,none⟩)] 94))∧Fu.Ses n w (w4.alloc (.cells #[.pointer (some ⟨mb,0,none⟩)] 94)) w4.heap.size (Fu.rs 1 [])):=fun w4 mb hMT hRf=>by
  have hb4:Below w4.heap.size w4 (w4.alloc (.cells #[.pointer (some ⟨mb,0,none⟩)] 94)):=(Below.refl _ _).alloc (Nat.le_refl _) _
  have hs34:=hRf.bel.size
  refine ⟨HB3.out.trans ((hRf.bel.mono HB3.out.size).trans (hb4.mono (Nat.le_trans HB3.out.size hs34))),w3.heap.size,mb,pb,b,_,_,_,_,_,hvs,D,mbm,m,_,M,Lr,pmF,acF,heap_alloc_new _ _,by simp,hs34,HB3.out.size,⟨(hRP.rf hRf).rf (Pg.RfE.of hb4 hs34),hSz,r5,hMT.below hv3.lw hb4,⟨?_,fun i => ?_⟩,⟨fun e he=>(by cases he),.inl rfl,by decide,fun x hx=>(by cases hx)⟩,rfl⟩,hAns,hnm⟩
  ·rw [Pg.nQ];show 1<2 ^ 2;decide
  ·exact Nat.two_pow_pos _
 clear hb3 hv3 hNP hRP hSz hAns hnm hac hez hea r1 r2 r3 r4 r5 hw0 hp0 hF3 hAV
 dsimp only
 go_wp2_with fail
 refine Calls.mono HS.out ?_
 rintro e w4 ⟨mb,sb,sv4,rfl,hst,hnm,hMT,hRf,hsb⟩
 have HE:Hid _:=HFIN.out w4 mb hMT hRf
 clear hst hnm hMT hRf hsb
 rw [show Pg.fuelV (Fu.rs 1 []).fin = .nilIface from rfl]
 dsimp only
 go_wp2
 go_ret3
 exact ⟨HE.out.1,_,_,rfl,HE.out.2⟩
end
end Go.Proofs.YtegmoddppafkfaaGreatDoor
