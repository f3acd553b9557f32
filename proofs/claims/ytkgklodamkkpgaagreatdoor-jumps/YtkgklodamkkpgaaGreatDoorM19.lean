import Derived.Test.YtkgklodamkkpgaaGreatDoorM08
import Derived.Test.YtkgklodamkkpgaaGreatDoorM18
set_option maxRecDepth 100000
set_option maxHeartbeats 8000000
namespace Go.Proofs.YtkgklodamkkpgaaGreatDoor
variable {zp:Prop}
theorem zeC (h:zp:=by
 go_quiet (fail)
 go_wp2;go_ret;exact ⟨by rw [HD.out];rfl,Pa hB _⟩):zp:=h
theorem zeF (h:zp:=by
 obtain ⟨i,hi⟩:=Nu.1 hx;exact (MQ.1 (hW.rgs.nds r hr i x hi)).1):zp:=h
theorem zfh (h:zp:=by
 have:¬ place t x.t=q:=zaa;simp [this]):zp:=h
theorem zaI (h:zp:=by first | exact hG2 | exact hG2.alloc hG2.size _):zp:=h
theorem zbv (h:zp:=by first | exact HS.out _ (hBd1 _) | exact HS.out _ (hG2.alloc hG2.size _) | exact (HS3.out _ w3 hG2 hE.out).2.1 _):zp:=h
theorem zb8 (h:zp:=by first | exact hBd.trans hB2 | exact (hBd1 _).trans (hB2.mono (RZ (hsd _)))):zp:=h
theorem zch (h:zp:=by rcases h with h | h | h <;> exact absurd h (by decide)):zp:=h
open Tryz
variable {R:Nat->List Pg.Nd} {t q Bs now:Nat} {xs:List Pg.Nd} {y:Pg.Nd} {W w0 a:World} {wh:Nat->Value} {qv:Value} {s:Pg.MSt} {rp:Option Addr} {hv:Nat->Nat} {E:TypeId->Prop}
section
open Go.RowKit Go.Proofs Go.Shelf
namespace Pg
def eU (R:Nat->List Nd) (r t:Nat) (xs:List Nd) (q:Nat):List Nd:=upd R r [] q++xs.filter (fun x=>place t x.2.t == q)
theorem Az (R:Nat->List Nd) (r t:Nat) (xs:List Nd) (x:Nd) (q:Nat):eU R r t (xs++[x]) q=upd (eU R r t xs) (place t x.2.t) (eU R r t xs (place t x.2.t)++[(x.1,x.2)]) q:=by
 by_cases e:q=place t x.2.t
 ·subst e;rw [aC];unfold eU;rw [ON,OT zad,OV];rfl
 ·rw [aG _ _ e];unfold eU;rw [ON,OS (by simp;exact fun h=>e h.symm)];simp
theorem CB {r:Nat} (h:y∈eU R r t xs q):(q≠r/\y∈R q)\/y∈xs:=by
 rcases Nr.1 h with h | h
 ·by_cases e:q=r
  ·subst e;rw [aC] at h;cases h
  ·rw [aG _ _ e] at h;exact .inl ⟨e,h⟩
 ·exact .inr (OE.1 h).1
structure RgD (lo:Pg.Lo) (R:Nat->List Nd):Prop where
 low:∀ r,isR r->∀ x∈R r,lo.ok x.1
 dis:∀ r q,isR r->isR q->r≠q->∀ x∈R r,∀ y∈R q,x.1≠y.1
 nod:∀ r,isR r->((R r).map (·.1)).Nodup
theorem cX.rgD {lo:Pg.Lo} (h:cX W lo wh R):RgD lo R:=⟨h.low,h.dis,h.nod⟩
structure TuI (w0:World) (lo:Pg.Lo) (mb pb:Nat) (qv:Value) (s:MSt) (R:Nat->List Nd) (r:Nat) (xs:List Nd) (V:World):Prop where
 pre:xs=(R r).take xs.length
 ex:∃ wh',au V lo mb pb qv { s with wh:=wh' }/\WhM V lo { s with wh:=wh' } (eU R r s.now xs)
 rest:∀ i x,xs.length<=i->(R r)[i]?=some x->V.heap[x.1]?=some (.cells (et x.2 (nxt (R r) i)) 278 (0,0))
 rf:Rw lo w0 V
theorem TuI.gr {V V':World} {row:Option Nat} {lo:Pg.Lo} {mb pb:Nat} {r:Nat} (h:TuI w0 lo mb pb qv s R r xs V) (hl:lo<=w0.heap.size) (hg:V.grownBy V' row) (hr:∀ j,row=some j->w0.heap.size<=j/\∃ o:Obj,V.heap[j]?=some o/\o.isCells=false):TuI w0 lo mb pb qv s R r xs V':=by
 obtain ⟨wh',a,b⟩:=h.ex;have hr':∀ j,row=some j->∃ o:Obj,V.heap[j]?=some o/\o.isCells=false:=fun j e=>(hr j e).2;refine ⟨h.pre,⟨wh',a.gr hg hr',b.kd (E:=fun _=>False) (gR hg hr') (fun h=>h)⟩,fun i x hi hx => ?_,h.rf.gr hl hg hr⟩;have hx':=h.rest i x hi hx;exact (gR (E:=fun _=>False) hg hr').ao _ _ _ _ hx' (fun h=>h) |>.trans hx'
theorem TuI.far {V:World} {lo:Pg.Lo} {mb pb:Nat} {r:Nat} (h:TuI w0 lo mb pb qv s R r xs V) (hD:RgD lo R) (hr:isR r) {i:Nat} (hi:xs.length<=i) (hy:(R r)[i]?=some y):∀ q,isR q->∀ z∈eU R r s.now xs q,z.1≠y.1:=fun q hq z hz=>by
 rcases CB hz with ⟨e,hz⟩ | hz
 ·exact hD.dis q r hq hr e z hz y (Nc hy)
 ·rw [h.pre] at hz;exact lH (hD.nod r hr) hi hy z hz
theorem TuI.step {V V':World} {lo:Pg.Lo} {mb pb:Nat} {r:Nat} {x:Nd} (h:TuI w0 lo mb pb qv s R r xs V) (hD:RgD lo R) (hr:isR r) (hx:(R r)[xs.length]?=some x)
  (h1:∃ wh',au V' lo mb pb qv { s with wh:=wh' }/\WhM V' lo { s with wh:=wh' } (upd (eU R r s.now xs) (place s.now x.2.t) (eU R r s.now xs (place s.now x.2.t)++[(x.1,x.2)]))) (h2:Rw lo V V') (h3:Mo (fun k=>k=mb\/k=x.1\/∃ q,isR q/\∃ y∈eU R r s.now xs q,k=y.1) V V'):TuI w0 lo mb pb qv s R r (xs++[x]) V':=by
 obtain ⟨wh',a,b⟩:=h1;obtain ⟨wh0,a0,_⟩:=h.ex;refine ⟨?_,⟨wh',a,b.congr (fun q _=>Az R r s.now xs x q)⟩,fun i y hi hy => ?_,h.rf.trans h2⟩
 ·rw [Nj,OZ,<- dC hx]
  conv=>lhs;rw [h.pre]
 ·have hi':xs.length+1<=i:=by rw [Nj,OZ] at hi;exact hi
  have hy0:=h.rest i y zaa hy;refine (h3.block y.1 (MQ.1 hy0).1 ?_).trans hy0;rintro (e | e | ⟨q,hq,z,hz,e⟩)
  ·exact a0.typ hy0 e.symm
  ·have hxm:x∈(R r).take (xs.length+1):=by rw [<- dC hx];simp
   exact lH (hD.nod r hr) hi' hy x hxm e.symm
  ·exact h.far hD hr zaa hy q hq z hz e.symm
theorem TuI.rd {V:World} {lo:Pg.Lo} {mb pb:Nat} {r:Nat} (h:TuI w0 lo mb pb qv s R r xs V) (ht:∀ x∈R r,isR (place s.now x.2.t)) (hb:V.cell? Bs=some (aK (R r))):RdN Bs (R r) xs.length V:=by
 obtain ⟨wh',a,b⟩:=h.ex;refine ⟨hb,fun x hx => ?_,fun x hx => ?_,fun h0 z hz => ?_⟩
 ·obtain ⟨i,hi⟩:=Nu.1 hx
  rcases O6 i xs.length with hil | hil
  ·have hxx:x∈xs:=by
    rw [h.pre];exact Nc (by rw [Oc hil];exact hi)
   have hm:x∈eU R r s.now xs (place s.now x.2.t):=Nr.2 (.inr (OE.2 ⟨hxx,zad⟩));obtain ⟨j,hj⟩:=Nu.1 hm;exact ⟨_,b.rgs.nds _ (ht x hx) j x hj⟩
  ·exact ⟨_,h.rest i x hil hi⟩
 ·rw [M0 V _ _ _ _ _ (h.rest _ x (MR _) hx)];rfl
 ·have hlz:(R r)[(R r).length-1]?=some z:=zaA;rw [M0 V _ _ _ _ _ (h.rest _ z zaa hlz)];rfl
theorem Ay {T:List Tn} (hnow:now<18446744073709551616) (ht:t<18446744073709551616) (hle:now<=t) (hT:∀ x∈T,t<=x.t/\x.t<18446744073709551616) (hR:∀ r,isR r->(R r).map (·.2)=T.filter (fun x=>place now x.t == r)) (hq:isR q) :
  (eU R (place now t) t (R (place now t)) q).map (·.2)=T.filter (fun x=>place t x.t == q):=by
 have hr:=fJ now t;have hup:∀ x∈T,place now t<=place now x.t:=fun x hx=>sJ hnow ht (hT x hx).2 hle (hT x hx).1;have hst:∀ x∈T,place now x.t≠place now t->place t x.t=place now x.t:=fun x hx h=>Cg hnow ht (hT x hx).2 hle (hT x hx).1 h;have hdn:∀ x∈T,place now x.t=place now t->place now t≠390->place t x.t<=place now t:=fun x hx h h'=>Cf hnow ht (hT x hx).2 hle (hT x hx).1 h h';unfold eU;rw [NW];have e2:((R (place now t)).filter (fun x=>place t x.2.t == q)).map (·.2)=(T.filter (fun x=>place now x.t == place now t)).filter (fun x=>place t x.t == q):=by
  rw [<- hR _ hr,QP];rfl
 rw [e2,Qn];generalize place now t=r at *
 rcases Qy q r with h | h | h
 ·have e1:(upd R r [] q).map (·.2)=[]:=by
   rw [aG _ _ zaa,hR q hq];refine Pl.2 fun x hx => ?_;have:=hup x hx;simp;omega
  rw [e1,R4];refine Pm fun x hx => ?_;by_cases e:place now x.t=r
  ·simp [e]
  ·have h1:=hst x hx e;have h2:=hup x hx;exact zfh
 ·subst h;rw [aC,List.map_nil,R4];refine Pm fun x hx => ?_;by_cases e:place now x.t=q
  ·simp [e]
  ·have h1:=hst x hx e;exact zfh
 ·have hne:r≠390:=by have:=hq.lt;omega
  have e1:T.filter (fun x=>(place t x.t == q)&&(place now x.t == r))=[]:=by
   refine Pl.2 fun x hx => ?_;by_cases e:place now x.t=r
   ·have:=hdn x hx e hne;exact zfh
   ·simp [e]
  rw [e1,OP,aG _ _ zaa,hR q hq];refine Pm fun x hx => ?_;by_cases e:place now x.t=r
  ·have:=hdn x hx e hne;have h1:¬ place t x.t=q:=zaa;have h2:¬ r=q:=zaa;rw [e,OY.2 h2,OY.2 h1]
  ·rw [hst x hx e]
end Pg
attribute [local go_sem] NR
theorem D9 (w:World) (lo:Pg.Lo) (mb pb:Nat) (qv:Value) (s:Pg.MSt) (R:Nat->List Pg.Nd) (t:Nat) (hM:Pg.au w lo mb pb qv s) (hW:Pg.WhM w lo s R) (hls:lo<=w.heap.size) :
  () 159 #[.pointer (some ⟨mb,27,none⟩),.int .i64 (Pg.aL s.now t:Nat),.int .i64 (Pg.fK s.now t:Nat)] w fun e w'=>e = .returned (.agg #[Pg.aK (R (Pg.place s.now t))])/\Hid (Pg.Emp w w w' lo mb pb qv s R (Pg.place s.now t)):=by
 have h6:=Pg.eJ s.now t;have hs:=Pg.fg s.now t;unfold Pg.place;by_cases h:Pg.aL s.now t=6
 ·rw [M6 h,h];exact Bj w lo mb pb qv s R _ hM hW hls
 ·rw [M4 h];exact Bk w lo mb pb qv s R _ _ hM hW hls zaa hs
namespace Pg
structure TuJ (w:World) (lo:Pg.Lo) (mb pb:Nat) (qv:Value) (s:MSt) (R:Nat->List Nd) (r:Nat) (rp:Option Addr) (Bs:Nat) (V:World):Prop where
 ex:∃ wh',au V lo mb pb qv { s with wh:=wh' }/\WhM V lo { s with wh:=wh' } (upd R r [])
 rf:Rw lo w V
 nds:cA V (R r)
 bx:Boxed V w 121 (.pointer (some ⟨mb,27,none⟩))
 rg:Boxed V Bs 80 (.pointer rp)
 lt:w.heap.size<Bs
theorem TuJ.of {w w2 w3:World} {lo:Pg.Lo} {mb pb:Nat} {r:Nat} (hM:au w lo mb pb qv s) (hn:cA w (R r)) (hls:lo<=w.heap.size) (hb:Below w w w2) (bx:Boxed w2 w 121 (.pointer (some ⟨mb,27,none⟩))) (hE:Emp w2 w2 w3 lo mb pb qv s R r):Rw lo w w3/\cA w3 (R r)/\Boxed w3 w 121 (.pointer (some ⟨mb,27,none⟩)):=by
 have hml:=hM.lt;refine ⟨(RfE.of hb hls).trans hE.rf,fun i x hx => ?_,?_⟩
 ·have h0:=hn i x hx;have hl:=(MQ.1 h0).1;exact (hE.mo.block x.1 (Nq hl hb.size) (fun e=>hM.typ h0 e.symm)).trans ((hb.block x.1 hl).trans h0)
 ·exact (hE.mo.block _ bx.lt zaa).trans bx
theorem TuJ.new {w w2 w3:World} {lo:Pg.Lo} {mb pb:Nat} {r:Nat} (hM:au w lo mb pb qv s) (hn:cA w (R r)) (hls:lo<=w.heap.size) (hb:Below w w w2) (bx:Boxed w2 w 121 (.pointer (some ⟨mb,27,none⟩))) (hE:Emp w2 w2 w3 lo mb pb qv s R r):TuJ w lo mb pb qv s R r rp w3 (w3.alloc (.cells #[.pointer rp] 80)):=by
 obtain ⟨a,b,c⟩:=TuJ.of hM hn hls hb bx hE;obtain ⟨wh',a1,a2⟩:=hE.ex;have hB:Below w3 w3 (w3.alloc (.cells #[.pointer rp] 80)):=(MY _ w3).alloc (MR _) _;refine ⟨⟨wh',a1.below hB,a2.rgs.below hB,a2.held⟩,a.trans (RfE.of hB (MX hls a.bel.size)),fun i x hx => ?_,aB c hB c.lt,NA _ _ _,c.lt⟩;have h0:=b i x hx;exact (hB.block x.1 (MQ.1 h0).1).trans h0
theorem TuJ.old {w w2 w3:World} {lo:Pg.Lo} {mb pb:Nat} {r:Nat} (hM:au w lo mb pb qv s) (hn:cA w (R r)) (hls:lo<=w.heap.size) (hb:Below w w w2) (bx:Boxed w2 w 121 (.pointer (some ⟨mb,27,none⟩))) (hE:Emp w2 w2 w3 lo mb pb qv s R r) (hBs:w.heap.size<Bs) (hq:w3.heap[Bs]?=some (.cells #[.pointer none] 80 (0,0))):TuJ w lo mb pb qv s R r rp Bs (w3.setCell Bs (.pointer rp)):=by
 obtain ⟨a,b,c⟩:=TuJ.of hM hn hls hb bx hE;have hE2:Emp w w2 w3 lo mb pb qv s R r:=⟨hE.ex,a,hE.mo⟩;have h3:=hE2.box (u := .pointer rp) hls hq zaa (.inr trivial) hb;refine ⟨h3.ex,h3.rf,fun i x hx => ?_,bm c (p:=⟨Bs,0,none⟩) (by show w.heap.size≠Bs;omega) _,Nn w3 Bs 0 _ _ _ hq,hBs⟩;have h0:=hn i x hx;exact (h3.mo.block x.1 (MQ.1 h0).1 (fun e=>hM.typ h0 e.symm)).trans h0
theorem au.LK {lo:Pg.Lo} {mb pb:Nat} (h:au W lo mb pb qv s) (t:Nat):au (W.setCell ⟨mb,27,none⟩ (.int .u64 t)) lo mb pb qv { s with now:=t } :=
 h.set 27 _ _ zaa rfl fun j hj=>by
  by_cases e:j=27
  ·subst e;rw [M6 rfl];rfl
  ·rw [M4 e];unfold eR;dsimp only;by_cases e0:j=0
   ·rw [M6 e0,M6 e0]
   ·rw [M4 e0,M4 e0,M4 e,M4 e]
theorem TuJ.start {w V:World} {lo:Pg.Lo} {mb pb:Nat} {r:Nat} (h:TuJ w lo mb pb qv s R r rp Bs V) (hls:lo<=w.heap.size) (hml:mb<w.heap.size) (t:Nat) (o:Obj):TuI w lo mb pb qv { s with now:=t } R r [] ((V.setCell ⟨mb,27,none⟩ (.int .u64 t)).alloc o)/\Boxed ((V.setCell ⟨mb,27,none⟩ (.int .u64 t)).alloc o) w.heap.size 121 (.pointer (some ⟨mb,27,none⟩)):=by
 obtain ⟨wh',a,b⟩:=h.ex;have hm:Mo (· = mb) V (V.setCell ⟨mb,27,none⟩ (.int .u64 t)):=(Mo.refl _ _).set _ _ rfl;have hlV:=MX hls h.rf.bel.size;have hR:Rm lo V (V.setCell ⟨mb,27,none⟩ (.int .u64 t)):=RfE.mo hm (fun j hj=>by
  obtain ⟨arr,a1,_⟩:=a.blk;subst hj;exact ⟨a.lo',arr,_,_,a1,rfl⟩) hlV
 have hB:Below (V.setCell ⟨mb,27,none⟩ (.int .u64 t)).heap.size (V.setCell ⟨mb,27,none⟩ (.int .u64 t)) ((V.setCell ⟨mb,27,none⟩ (.int .u64 t)).alloc o):=(MY _ _).alloc (MR _) _;have b2:WhM (V.setCell ⟨mb,27,none⟩ (.int .u64 t)) lo { s with now:=t,wh:=wh' } (upd R r []):=⟨b.rgs.kd hR.kd (by unfold J0;decide),b.held⟩;refine ⟨⟨zad,⟨wh',(a.LK t).below hB,(WhM.congr ⟨b2.rgs.below hB,b2.held⟩ (fun q _=>by unfold eU;simp))⟩,fun i x _ hx => ?_,h.rf.trans ((H7 hR).trans (RfE.of hB (by simp;exact hlV)))⟩,(bm h.bx (p:=⟨mb,27,none⟩) (by show w.heap.size≠mb;omega) _).alloc _⟩;have h0:=h.nds i x hx;have hl:=(MQ.1 h0).1;exact (hB.block x.1 (by simp;exact hl)).trans ((hm.block x.1 hl (fun e=>a.typ h0 e.symm)).trans h0)
end Pg
theorem Fm (w:World) (lo:Pg.Lo) (mb pb:Nat) (qv:Value) (s:Pg.MSt) (R:Nat->List Pg.Nd) (t:Nat) (hM:Pg.au w lo mb pb qv s) (hW:Pg.WhM w lo s R) (hls:lo<=w.heap.size) (hnow:s.now<18446744073709551616) (ht:t<18446744073709551616) (hRt:∀ r,Pg.isR r->∀ x∈R r,x.2.t<18446744073709551616) :
  () 114 #[.pointer (some ⟨mb,27,none⟩),.int .u64 t] w fun e w'=>e = .returned (.tuple #[])/\Hid (∃ wh',Pg.au w' lo mb pb qv { s with now:=t,wh:=wh' }/\Pg.WhM w' lo { s with now:=t,wh:=wh' } (Pg.eU R (Pg.place s.now t) t (R (Pg.place s.now t)))/\Pg.Rw lo w w'):=by
 have hr:=Pg.fJ s.now t;have hn:=hW.rgs.nds _ hr;have hD:=hW.rgs.rgD;have hml:=hM.lt;obtain ⟨rp,hrv⟩:∃ rp,Pg.aK (R (Pg.place s.now t)) = .pointer rp:=by
  unfold Pg.aK;cases (R (Pg.place s.now t)).getLast? with
  | none=>exact ⟨_,rfl⟩
  | some z=>exact ⟨_,rfl⟩
 have hno:=fun V=>mg (Pg.aK (R (Pg.place s.now t))) V (Pg.oE _);rw [hrv] at hno;refine (Nz (n:=7)).1 ?_;refine NX func114 rfl trivial ?_ rfl;simp only [ntmps114,List.size_toArray,List.length_cons,List.length_nil,Nat.reduceAdd,Nat.reduceSub,Array.replicate_succ,Array.replicate_zero,List.push_toArray,List.append_toArray,List.nil_append,List.cons_append];gi_wp2;have bx1:=NA w 121 (.pointer (some ⟨mb,27,none⟩));have hB1:Below w w (w.alloc (.cells #[.pointer (some ⟨mb,27,none⟩)] 121)):=(MY _ w).alloc (MR _) _;have hs1:(w.alloc (.cells #[.pointer (some ⟨mb,27,none⟩)] 121)).heap.size=w.heap.size+1:=zad;generalize w.alloc (.cells #[.pointer (some ⟨mb,27,none⟩)] 121)=W1 at *;have hw1:∀ V,Below W1 W1 V->Below w w V/\Boxed V w 121 (.pointer (some ⟨mb,27,none⟩)):=fun V hV=>⟨hB1.trans (hV.mono hB1.size),aB bx1 hV bx1.lt⟩;obtain ⟨r,hre⟩:∃ r,Pg.place s.now t=r:=⟨_,rfl⟩;have HSP:Hid (∀ V,Below W1 W1 V->() 157 #[.pointer (some ⟨mb,27,none⟩),.int .u64 t] V fun e w'=>e = .returned (.tuple #[.int .i64 ((Pg.aL s.now t:Nat):Int),.int .i64 ((Pg.fK s.now t:Nat):Int)])/\Below V.heap.size V w'):=fun V hV=>oO V mb 27 s.now t hnow ht ((hM.below (hw1 V hV).1).cell 27 zac);have HEM:Hid (∀ V,Below W1 W1 V->() 159 #[.pointer (some ⟨mb,27,none⟩),.int .i64 ((Pg.aL s.now t:Nat):Int),.int .i64 ((Pg.fK s.now t:Nat):Int)] V fun e w'=>e = .returned (.agg #[.pointer rp])/\Hid (Pg.Emp V V w' lo mb pb qv s R r)):=fun V hV=>by
  have h:=D9 V lo mb pb qv s R t (hM.below (hw1 V hV).1) ⟨hW.rgs.below (hw1 V hV).1,hW.held⟩ (MX hls (hw1 V hV).1.size);rw [hrv,hre] at h;exact h
 rw [hre] at hrv hn hr;have HS:Hid (∀ V,Below W1 W1 V->V.cell? w=some (.pointer (some ⟨mb,27,none⟩))):=fun V hV=>(hw1 V hV).2.cell;have HS3:Hid (∀ V w',Below W1 W1 V->Pg.Emp V V w' lo mb pb qv s R r->w'.cell? w=some (.pointer (some ⟨mb,27,none⟩))/\(∀ o,(w'.alloc o).cell? w=some (.pointer (some ⟨mb,27,none⟩)))/\∀ Bs u,w.heap.size<Bs->(w'.setCell ⟨Bs,0,none⟩ u).cell? w=some (.pointer (some ⟨mb,27,none⟩))):=fun V w' hV hE=>by
  have c:=(Pg.TuJ.of hM hn hls (hw1 V hV).1 (hw1 V hV).2 hE).2.2;exact ⟨c.cell,fun o=>(c.alloc o).cell,fun Bs u h=>(bm c (p:=⟨Bs,0,none⟩) (by show w.heap.size≠Bs;omega) u).cell⟩
 have HQ:Hid (∀ V w' Bs,Pg.Emp V V w' lo mb pb qv s R r->V.heap[Bs]?=some (.cells #[.pointer none] 80 (0,0))->w.heap.size<Bs->w'.heap[Bs]?=some (.cells #[.pointer none] 80 (0,0))):=fun V w' Bs hE hq h=>(hE.mo.block Bs (MQ.1 hq).1 zaa).trans hq;have HF1:Hid (∀ V w',Below W1 W1 V->Pg.Emp V V w' lo mb pb qv s R r->Pg.TuJ w lo mb pb qv s R r rp w'.heap.size (w'.alloc (.cells #[.pointer rp] 80))):=fun V w' hV hE=>Pg.TuJ.new hM hn hls (hw1 V hV).1 (hw1 V hV).2 hE;have HF2:Hid (∀ V w' Bs,Below W1 W1 V->Pg.Emp V V w' lo mb pb qv s R r->w.heap.size<Bs->w'.heap[Bs]?=some (.cells #[.pointer none] 80 (0,0))->Pg.TuJ w lo mb pb qv s R r rp Bs (w'.setCell ⟨Bs,0,none⟩ (.pointer rp))):=fun V w' Bs hV hE hB hq=>Pg.TuJ.old hM hn hls (hw1 V hV).1 (hw1 V hV).2 hE hB hq;have hBd:Below W1 W1 W1.drew:=(MY _ W1).drew;have hBd1:∀ o:Obj,Below W1 W1 (W1.alloc o).drew:=fun o=>((MY _ W1).alloc (MR _) _).drew;have hg1:∀ o:Obj,(W1.alloc o).drew.heap[W1.heap.size]?=some o:=fun o=>Na W1 o;have hsd:∀ o:Obj,W1.heap.size<(W1.alloc o).drew.heap.size:=fun o=>by show W1.heap.size<(W1.alloc o).heap.size;simp
 generalize hkk:Pg.aL s.now t=kk at HSP HEM;generalize hss:Pg.fK s.now t=ss at HSP HEM;have HKS:Hid (Pg.aL s.now t=kk/\Pg.fK s.now t=ss):=⟨hkk,hss⟩;have HRE:Hid _:=hre;have HRV:Hid _:=hrv;have HM:Hid _:=hM;have HW:Hid _:=hW;have HN:Hid _:=hn;have HD:Hid _:=hD;clear hkk hss hM hW hn hD hw1 hrv hre;have hc1:=bx1.cell;refine wpIn_mono (Q:=oq (fun _ a' V=>∃ Bs,a'={ tmps:=#[.pointer (some ⟨mb,27,none⟩),.int .u64 t,.pointer (some ⟨w.heap.size,0,none⟩),undef,.pointer (some ⟨Bs,0,none⟩),undef,.pointer (some ⟨mb,27,none⟩),.pointer (some ⟨mb,27,none⟩),.int .u64 t,.tuple #[.int .i64 kk,.int .i64 ss],.int .i64 kk,.int .i64 ss,.agg #[.pointer rp],undef,undef,undef,undef,undef,undef,undef,undef,undef,undef],defers:=[] }/\Pg.TuJ w lo mb pb qv s R r rp Bs V)) (RU.2 ?reg) ?rest
 case reg =>
  refine No (S:=(fun V=>V.cell? w=some (.pointer (some ⟨mb,27,none⟩)))) zab hc1 (fun u0 => ?_);refine tD (some 6) 0 (.pointer (some ⟨mb,27,none⟩)) rfl u0 ?_;refine tD (some 7) 1 (.pointer (some ⟨mb,27,none⟩)) rfl u0 ?_;refine tD (some 8) 2 (.int .u64 t) rfl u0 ?_;refine yH [3,7] ?_;refine NJ rfl (fun K hK => ?rg1) (NJ rfl (fun K hK => ?rg2) Ou)
  case' rg1 =>
   go_simp;refine (HSP.out _ zba).mono ?_;rintro e w2 ⟨rfl,hB2⟩;have hG2:Below W1 W1 w2:=zb8;refine hK.out _ _ (HS.out w2 hG2) (fun u0 => ?_);clear hK K;refine tD (some 10) 4 (.int .i64 kk) rfl u0 ?_;refine tD (some 11) 5 (.int .i64 ss) rfl u0 ?_;refine yH [6,7] ?_;refine NJ rfl (fun K hK => ?rg3) (NJ rfl (fun K hK => ?rg4) Ou)
   case' rg3 =>
    go_simp;refine (HEM.out _ zaI).mono ?_;rintro e w3 ⟨rfl,hE⟩;refine hK.out _ _ (HS3.out _ w3 zaI hE.out).1 (fun u0 => ?_);clear hK K;refine zH 7 rfl fun K hK => ?_;go_simp;refine hK.out _ _ zbv (fun u0 => ?_);clear hK K;refine zH 8 rfl fun K hK => ?_;go_simp;refine hK.out _ _ ((HS3.out _ w3 hG2 hE.out).2.1 _) (fun u0 => ?_);clear hK K u0;refine Nt zab ?_ _;exact ⟨_,rfl,HF1.out _ _ hG2 hE.out⟩
   case' rg4 =>
    go_simp;refine hK.out _ _ zbv (fun u0 => ?_);clear hK K;refine zH 6 rfl fun K hK => ?_;go_simp;refine (HEM.out _ zaI).mono ?_;rintro e w3 ⟨rfl,hE⟩;refine hK.out _ _ (HS3.out _ w3 zaI hE.out).1 (fun u0 => ?_);clear hK K;refine zH 8 rfl fun K hK => ?_;have q0:=HQ.out _ _ _ hE.out (Na w2 _) (by have:=hG2.size;omega);have k0:=M0 w3 _ 0 _ _ _ q0;have z0:w3.frozen? ⟨w2,0,none⟩=false:=zbh;have hlB:w.heap.size<w2.heap.size:=by have:=hG2.size;omega
    go_simp;refine hK.out _ _ ((HS3.out _ w3 (hG2.alloc hG2.size _) hE.out).2.2 _ _ hlB) (fun u0 => ?_);clear hK K u0;refine Nt zab ?_ _;exact ⟨_,rfl,HF2.out _ _ _ (hG2.alloc hG2.size _) hE.out hlB q0⟩
  case' rg2 =>
   go_simp;refine hK.out _ _ zbv (fun u0 => ?_);clear hK K;refine zH 3 rfl fun K hK => ?_;go_simp;refine (HSP.out _ zba).mono ?_;rintro e w2 ⟨rfl,hB2⟩;have hG2:Below W1 W1 w2:=zb8;refine hK.out _ _ (HS.out w2 hG2) (fun u0 => ?_);clear hK K;refine tD (some 10) 4 (.int .i64 kk) rfl u0 ?_;refine tD (some 11) 5 (.int .i64 ss) rfl u0 ?_;refine zH 6 rfl fun K hK => ?_;go_simp;refine (HEM.out _ zaI).mono ?_;rintro e w3 ⟨rfl,hE⟩;refine hK.out _ _ (HS3.out _ w3 zaI hE.out).1 (fun u0 => ?_);clear hK K;refine zH 8 rfl fun K hK => ?_;have hlB:w.heap.size<w.heap.size+1:=RW _;have q0:w3.heap[w.heap.size+1]?=some (.cells #[.pointer none] 80 (0,0)):=by
    rw [<- hs1];exact HQ.out _ _ W1 hE.out ((hB2.block _ (hsd _)).trans (hg1 _)) zaa
   have k0:=M0 w3 _ 0 _ _ _ q0;have z0:w3.frozen? ⟨w.heap.size+1,0,none⟩=false:=zbh;go_simp;refine hK.out _ _ ((HS3.out _ w3 hG2 hE.out).2.2 _ _ hlB) (fun u0 => ?_);clear hK K u0;refine Nt zab ?_ _;exact ⟨_,rfl,HF2.out _ _ _ hG2 hE.out hlB q0⟩
 case rest =>
  rintro e a' V h;cases e with
  | normal =>
   obtain ⟨Bs,rfl,hJ⟩:=h;have HR:Hid _:=hJ.ex;obtain ⟨wh',a,b⟩:=HR.out;have c0:=hJ.bx.cell;have c27:V.cell? ⟨mb,27,none⟩=some (.int .u64 s.now):=a.cell 27 zac;have f27:V.frozen? ⟨mb,27,none⟩=false:=a.frozen 27;have hBm:Bs≠mb:=by have:=hJ.lt;omega
   have hrg:=bm hJ.rg (p:=⟨mb,27,none⟩) hBm (.int .u64 t);have hrc:=hrg.cell;obtain ⟨hT0,y0⟩:=hJ.start hls hml t (.cells #[.pointer rp] 80);have y1:=NA (V.setCell ⟨mb,27,none⟩ (.int .u64 t)) 80 (.pointer rp);have hsV:(V.setCell ⟨mb,27,none⟩ (.int .u64 t)).heap.size=V.heap.size:=zad;rw [hsV] at y1;have hlV:w.heap.size<V.heap.size:=hJ.bx.lt;have hs0:((V.setCell ⟨mb,27,none⟩ (.int .u64 t)).alloc (.cells #[.pointer rp] 80)).heap.size=V.heap.size+1:=zad;clear a b HR hJ hrg;gi_wp2_with (refine ⟨trivial,?_⟩;gi_at_call 160;refine (Nz.2 (hno _)).mono ?_;rintro e w9 ⟨rfl,hw9⟩;rw [hw9];clear hw9 w9);generalize (V.setCell ⟨mb,27,none⟩ (.int .u64 t)).alloc (.cells #[.pointer rp] 80)=W0 at *;have hnd:=HD.out.nod r hr;refine sM rfl zaa (gf:=200) rfl trivial (Pe func200 zab rfl)
    (zP 6 zaa V.heap.size (R r) hnd W0) (fun _ _=>trivial) (fun _ _ _ _ _=>trivial) (fun _=>rfl)
    (fun xs U=>Pg.TuI w lo mb pb qv { s with now:=t } R r xs U/\(Boxed U w 121 (.pointer (some ⟨mb,27,none⟩))/\Boxed U V 80 (.pointer rp)))
    (NH (fun xs A C row h hg hrw=>h.gr hls hg (fun j e=>⟨by have:=(hrw j e).1;omega,(hrw j e).2⟩)) (NH (Oo (Og _ _ _) _) (Oo (Og _ _ _) _)))
    (fun xs U hI=>hI.1.rd (fun _ _=>Pg.fJ _ _) (by rw [HRV.out];exact hI.2.2.cell)) ⟨hT0,y0,y1⟩
    (fun x a' _=>a'={ tmps:=#[.pointer (some ⟨mb,27,none⟩),.int .u64 t,w,undef,Bs,.pointer (some ⟨x.1,0,none⟩),.pointer (some ⟨mb,27,none⟩),.pointer (some ⟨mb,27,none⟩),.int .u64 t,.tuple #[(kk:Int),(ss:Int)],(kk:Int),(ss:Int),.agg #[.pointer rp],.pointer (some ⟨mb,27,none⟩),.int .u64 t,.pointer (some ⟨mb,27,none⟩),.pointer (some ⟨mb,27,none⟩),.agg #[.pointer rp],.func (.func 200) #[] #[V],.pointer (some ⟨x.1,0,none⟩),undef,undef,undef],defers:=[] }) (fun _ _ _ _ _ _ hs _ _=>hs) ?assign ?body ?done
   case assign =>
    intro l xs x U K hI hK;exact zfe
   case body =>
    rintro l xs x a' U hl _ ⟨hx,hxs⟩ ⟨hT,z0,z1⟩ rfl;obtain ⟨wh2,a2,b2⟩:=hT.ex;have hput:=Hq U lo mb pb qv _ _ x.1 x.2 _ a2 b2 (MX hls hT.rf.bel.size) ht (hRt r hr x (Nc hx)) (hT.rest _ x (MR _) hx) (hT.far HD.out hr (MR _) hx) (HD.out.low r hr x (Nc hx));have hput2:=M7 hput (R':=fun e w'=>e = .returned (.tuple #[])/\Hid (KeepsFrom W0 U w'/\True/\Pg.TuI w lo mb pb qv { s with now:=t } R r (xs++[x]) w'/\(Boxed w' w 121 (.pointer (some ⟨mb,27,none⟩))/\Boxed w' V 80 (.pointer rp)))) (by
     rintro e w' ⟨rfl,wh3,a3,b3,c3,d3⟩;exact ⟨rfl,c3.oth.from _,trivial,hT.step HD.out hr hx ⟨wh3,a3,b3⟩ c3 d3,c3.kd.boxed z0 zau,c3.kd.boxed z1 zau⟩)
    have q0:=z0.cell;clear hput a2 b2;gi_wp2_with (refine ⟨trivial,?_⟩;gi_at_call 161;refine (aH hput2).mono ?_;intro e w8 h8;obtain ⟨rfl,h8⟩:=h8);exact h8.out
   case done =>
    rintro D xs U hD hS ⟨hT,_⟩ hdef;subst hS;gi_wp2;refine ⟨zad,.inl ⟨_,_,rfl,NP hdef,?_⟩⟩;have hT2:=hT.gr hls (OG U D (.deferred none)) (fun j e=>zaJ);obtain ⟨wh4,a4,b4⟩:=hT2.ex;refine ⟨_,N5 rfl _ _ _,rfl,wh4,a4,?_,hT2.rf⟩;rw [HRE.out];exact b4
  | _=>exact h.elim
namespace Pg
theorem fm.bound {T:List Tn} (hF:∀ r,isR r->(R r).map (·.2)=T.filter (fun t=>place s.now t.t == r)) (hb:∀ t∈T,t.t<18446744073709551616):∀ r,isR r->∀ x∈R r,x.2.t<18446744073709551616:=fun r hr x hx=>by
 have:x.2∈(R r).map (·.2):=NI.2 ⟨x,hx,rfl⟩;rw [hF r hr] at this;exact hb _ (OE.1 this).1
theorem rK {α:Type} (p:α->Bool):∀ T:List α,(T.eraseP p).filter p=(T.filter p).tail
 | []=>rfl
 | x::T=>by
  by_cases h:p x
  ·rw [List.eraseP_cons_of_pos h,OT h];rfl
  ·rw [List.eraseP_cons_of_neg h,OS h,OS h];exact rK p T
theorem pX {α:Type} (p q:α->Bool) (h:∀ x,p x=true->q x=false):∀ T:List α,(T.eraseP p).filter q=T.filter q
 | []=>rfl
 | x::T=>by
  by_cases hx:p x
  ·rw [List.eraseP_cons_of_pos hx,OS (by rw [h x hx];simp)]
  ·rw [List.eraseP_cons_of_neg hx,QH,QH,pX p q h T]
theorem nu (ht:t<18446744073709551616):aL t t=0/\fK t t=t % 64/\place t t=t % 64:=by
 have h0:aL t t=0:=by
  have:=(aW ht ht (k:=0) zac).2 rfl;omega
 have h1:fK t t=t % 64:=by rw [ff,h0];simp
 refine ⟨h0,h1,?_⟩;unfold place;rw [M4 zaa,h0,h1];omega
theorem uf {x:Nat} (ht:t<18446744073709551616) (hx:x<18446744073709551616):place t x=place t t↔x=t:=by
 refine ⟨fun h => ?_,fun h=>by rw [h]⟩;obtain ⟨h0,h1,h2⟩:=nu ht;rw [h2] at h;have s1:=fg t x;have h6:=eJ t x;unfold place at h;by_cases hk:aL t x=6
 ·rw [M6 hk] at h;omega
 ·rw [M4 hk] at h;have hk0:aL t x=0:=zaa;have hd:=(aW ht hx (k:=0) zac).1 zaa;rw [hk0,ff,hk0] at h;simp at h hd;omega
end Pg
theorem vY (w:World) (lo:Pg.Lo) (mb pb:Nat) (qv:Value) (s:Pg.MSt) (T:List Pg.Tn) (t:Nat) (hM:Pg.au w lo mb pb qv s) (hT:Pg.fm w lo s T) (hls:lo<=w.heap.size) (hnow:s.now<18446744073709551616) (ht:t<18446744073709551616) (hle:s.now<=t) (hTt:∀ x∈T,t<=x.t) :
  () 114 #[.pointer (some ⟨mb,27,none⟩),.int .u64 t] w fun e w'=>e = .returned (.tuple #[])/\Hid (∃ wh',Pg.au w' lo mb pb qv { s with now:=t,wh:=wh' }/\Pg.fm w' lo { s with now:=t,wh:=wh' } T/\Pg.Rw lo w w'):=by
 obtain ⟨R,hW,hF,hb⟩:=hT;refine M7 (Fm w lo mb pb qv s R t hM hW hls hnow ht (Pg.fm.bound hF hb)) ?_;rintro e w' ⟨rfl,h⟩;obtain ⟨wh',a,b,c⟩:=h.out;exact ⟨rfl,wh',a,⟨_,b,fun r hr=>Pg.Ay hnow ht hle (fun x hx=>⟨hTt x hx,hb x hx⟩) hF hr,hb⟩,c⟩
theorem Iz (w:World) (lo:Pg.Lo) (mb pb:Nat) (qv:Value) (s:Pg.MSt) (T:List Pg.Tn) (f:Pg.Tn) (m:List Pg.Tn) (hM:Pg.au w lo mb pb qv s) (hT:Pg.fm w lo s T) (hls:lo<=w.heap.size) (hnow:s.now<18446744073709551616) (hf:T.filter (fun x=>x.t == s.now)=f::m) :
  () 158 #[.pointer (some ⟨mb,28,none⟩),.int .i64 ((s.now % 64:Nat):Int)] w fun e w'=>∃ b,e = .returned (Pg.ndP b)/\Hid (∃ wh',Pg.au w' lo mb pb qv { s with wh:=wh' }/\Pg.fm w' lo { s with wh:=wh' } (T.eraseP (fun x=>x.t == s.now))/\Pg.Rw lo w w'/\∃ v,w'.heap[b]?=some (.cells (Pg.et f v) 278 (0,0))):=by
 obtain ⟨R,hW,hF,hb⟩:=hT;obtain ⟨h0,h1,h2⟩:=Pg.nu hnow;have hr:Pg.isR (s.now % 64) := .inl zaa;have hq:∀ x∈T,(Pg.place s.now x.t == s.now % 64)=(x.t == s.now):=fun x hx=>by
  have:=Pg.uf hnow (hb x hx);rw [h2] at this;by_cases e:x.t=s.now
  ·rw [RG.2 (this.2 e),RG.2 e]
  ·rw [OY.2 (fun h=>e (this.1 h)),OY.2 e]
 have hRr:(R (s.now % 64)).map (·.2)=f::m:=by
  rw [hF _ hr,Pm hq];exact hf
 obtain ⟨nf,nm,hn,e1,e2⟩:∃ nf nm,R (s.now % 64)=nf::nm/\nf.2=f/\nm.map (·.2)=m:=by
  cases hh:R (s.now % 64) with
  | nil=>rw [hh] at hRr;cases hRr
  | cons a l =>
   rw [hh,Pj] at hRr;injection hRr with p1 p2;exact ⟨a,l,rfl,p1,p2⟩
 have hp:=IH w lo mb pb qv s R 0 (s.now % 64) nf nm hM hW hls zac zaa (by rw [QU,Pd];exact hn);rw [QU,Pd,Rz] at hp;refine M7 hp ?_;rintro e w' ⟨rfl,h⟩;obtain ⟨wh',a,b,c,v,hv⟩:=h.out;rw [e1] at hv;refine ⟨nf.1,rfl,wh',a,⟨_,b,fun r hr' => ?_,fun x hx=>hb x (Qq hx)⟩,c,v,hv⟩;by_cases er:r=s.now % 64
 ·subst er;rw [Pg.aC,e2];have:m=(T.filter (fun x=>x.t == s.now)).tail:=by rw [hf];rfl
  rw [this,<- Pg.rK];exact (Pm fun x hx=>hq x (Qq hx)).symm
 ·rw [Pg.aG _ _ er,hF r hr'];refine (Pg.pX _ _ (fun x hx => ?_) T).symm;have ex:x.t=s.now:=zbt;show (Pg.place s.now x.t == r)=false;rw [ex,h2];exact OY.2 (fun h=>er h.symm)
namespace Pg
theorem za {α β:Type} {f g:α->List β} (h:∀ x,(f x).Sublist (g x)):∀ l:List α,(l.flatMap f).Sublist (l.flatMap g)
 | []=>List.Sublist.slnil
 | x::l=>by
  rw [Ol,Ol];exact (h x).append (za h l)
theorem IU:wC.Pairwise (· < ·):=zaS
theorem E0 (hv:Nat->Nat):(ga hv).Sublist wC:=by
 unfold ga wC jU kK;refine List.Sublist.append (za (fun k => ?_) _) (List.Sublist.refl _);unfold kE eE;exact List.filter_sublist.map _
theorem zZ (hv:Nat->Nat):(ga hv).Pairwise (· < ·):=IU.sublist (E0 hv)
theorem vG {r:Nat} (h:r∈ga hv):isR r:=by
 rcases Nr.1 h with h | h
 ·obtain ⟨k,hk,hr⟩:=Pv.1 h;obtain ⟨j,hj,rfl⟩:=NI.1 hr;have h1:=Od.1 hk;have h2:=(fG.1 hj).1;exact .inl zaa
 ·exact .inr zaC
theorem EB (hh:∀ k,k<6->∀ s,s<64->(hv k).testBit s = !(R (k*65+s)).isEmpty) {r:Nat} (hr:isR r) (hne:R r≠[]):r∈ga hv:=by
 rcases hr with ⟨h1,h2⟩ | rfl
 ·refine Nr.2 (.inl (Pv.2 ⟨r / 65,Od.2 zaa,NI.2 ⟨r % 65,fG.2 ⟨zaa,?_⟩,zaa⟩⟩));rw [hh _ zaa _ zaa,show r / 65*65+r % 65=r by omega];cases e:R r with
  | nil=>exact absurd e hne
  | cons a l=>rfl
 ·exact Nr.2 (.inr zad)
theorem yX {β:Type} (p:Nat) (X:List β):∀ l:List Nat,l.Pairwise (· < ·)->(l.flatMap fun r=>if r=p then X else [])=if p∈l then X else []
 | [],_=>by simp
 | x::l,h=>by
  have h1:=O4.1 h;rw [Ol,yX p X l h1.2];by_cases e:x=p
  ·subst e;have:x ∉ l:=fun hx=>by have:=h1.1 x hx;omega
   simp [this]
  ·have e':¬ p=x:=fun h=>e h.symm;simp [e,e']
theorem FH {T:List Tn} (hnow:now<18446744073709551616) (hT:∀ x∈T,now<=x.t/\x.t<18446744073709551616) (hF:∀ r,isR r->(R r).map (·.2)=T.filter (fun x=>place now x.t == r)) (hh:∀ k,k<6->∀ s,s<64->(hv k).testBit s = !(R (k*65+s)).isEmpty):(yr R hv).map (·.2)=srt (fun x:Tn=>x.t) T:=by
 have e1:(yr R hv).map (·.2)=(ga hv).flatMap (fun r=>srt (fun x:Tn=>x.t) (T.filter (fun x=>place now x.t == r))):=by
  unfold yr;rw [List.map_flatMap];have:∀ l:List Nat,(∀ r∈l,isR r)->(l.flatMap fun r=>(byT R r).map (·.2))=l.flatMap (fun r=>srt (fun x:Tn=>x.t) (T.filter (fun x=>place now x.t == r))):=fun l hl=>by
   induction l with
   | nil=>rfl
   | cons r l ih =>
    rw [Ol,Ol,ih (fun q hq=>hl q (NL _ hq))]
    congr 1
    unfold byT;rw [Dq (fun y:Nd=>y.2) (fun x:Tn=>x.t),hF r (hl r (NK ..))]
  exact this _ (fun r hr=>vG hr)
 rw [e1];refine Cq ?_ fun k => ?_
 ·refine List.pairwise_flatMap.2 ⟨fun r _=>oP _ _,(zZ hv).imp fun {a b} hab x hx y hy => ?_⟩;have hx':=OE.1 (kx.1 hx);have hy':=OE.1 (kx.1 hy);have px:place now x.t=a:=by simpa using hx'.2
  have py:place now y.t=b:=by simpa using hy'.2
  rcases Nat.le_total x.t y.t with h | h
  ·exact h
  ·have:=sJ hnow (hT y hy'.1).2 (hT x hx'.1).2 (hT y hy'.1).1 h;omega
 ·rw [List.filter_flatMap];have e2:((ga hv).flatMap fun r=>(srt (fun x:Tn=>x.t) (T.filter (fun x=>place now x.t == r))).filter (fun x=>x.t == k))=(ga hv).flatMap (fun r=>if r=place now k then T.filter (fun x=>x.t == k) else []):=by
   congr 1
   funext r;rw [kF (fun x:Tn=>x.t) _ k,Qn];by_cases e:r=place now k
   ·rw [M6 e];refine Pm fun x _ => ?_;by_cases ex:x.t=k
    ·subst ex;simp [e]
    ·simp [ex]
   ·rw [M4 e];refine Pl.2 fun x _ => ?_;by_cases ex:x.t=k
    ·subst ex;have:¬ place now x.t=r:=fun h=>e h.symm;simp [this]
    ·simp [ex]
  rw [e2,yX _ _ _ (zZ hv)];by_cases hm:place now k∈ga hv
  ·rw [M6 hm]
  ·rw [M4 hm]
   symm
   refine Pl.2 fun x hx hxk => ?_;have ex:x.t=k:=by simpa using hxk
   refine hm (EB hh (fJ now k) (fun h => ?_));have:=hF _ (fJ now k);rw [h] at this;have hmem:x∈T.filter (fun x=>place now x.t == place now k):=OE.2 ⟨hx,by rw [ex];simp⟩;rw [<- this] at hmem;cases hmem
end Pg
theorem mx:(Tryz.prog.info? 90).map (·.size)=some 2:=zab
theorem xJ:Tryz.f113.results=#[.cell 2 90]:=rfl
namespace Pg
def gi:Obj := .cells #[.string ⟨#[]⟩,.string ⟨#[]⟩] 90
theorem xx:¬ cJ 90:=fun h=>zch
theorem KH:¬ dW 90:=fun h=>xx (h.elim .inl (fun h => .inr (.inr h)))
theorem nj (W:World) (s:Nat) (cs:Array Value):Mo (· = s) W (W.setRow s cs):=⟨rfl,rfl,rfl,Nat.le_of_eq (Q8 W s cs).symm,fun k _ hk=>PN W s k cs hk⟩
def KP (mb:Nat) (x:Tn) (V:World):Prop:=() 115 #[.pointer (some ⟨mb,27,none⟩)] V fun e w'=>∃ b,e = .returned (ndP b)/\w'.cell? ⟨b,0,none⟩=some (.int .u64 x.t)/\Below V V w'
def Fs (w:World) (lo:Pg.Lo) (mb pb:Nat) (qv:Value) (s:MSt) (T:List Tn) (V:World):Prop:=∃ wh',au V lo mb pb qv { s with wh:=wh' }/\fm V lo { s with wh:=wh' } T/\Rw lo w V
end Pg
theorem uk (w:World) (lo:Pg.Lo) (mb pb:Nat) (qv:Value) (s:Pg.MSt) (T:List Pg.Tn) (f:Pg.Tn) (m:List Pg.Tn) (hM:Pg.au w lo mb pb qv s) (hT:Pg.fm w lo s T) (hls:lo<=w.heap.size) (hnow:s.now<18446744073709551616) (hle:s.now<=f.t) (hft:f.t<18446744073709551616) (hTt:∀ x∈T,f.t<=x.t) (hf:T.filter (fun x=>x.t == f.t)=f::m) (hF:Pg.KP mb f (w.alloc Pg.gi)) :
  () 113 #[.pointer (some ⟨mb,27,none⟩)] w fun e w'=>e = .returned (.agg #[f.ev,f.nm])/\Hid (Pg.Fs w lo mb pb qv { s with now:=f.t } (T.eraseP (fun x=>x.t == f.t)) w'):=by
 have hB1:Below w w (w.alloc Pg.gi):=(MY _ w).alloc (MR _) _;have hz1:(w.alloc Pg.gi).heap[w.heap.size]?=some Pg.gi:=Na _ _;have hs1:(w.alloc Pg.gi).heap.size=w.heap.size+1:=zad;obtain ⟨k0,k1,_⟩:=Pg.nu hft;generalize hW1:w.alloc Pg.gi=W1 at *;have HFI:Hid _:=hF;have HTU:Hid (∀ V,Below W1 W1 V->() 114 #[.pointer (some ⟨mb,27,none⟩),.int .u64 f.t] V fun e w'=>e = .returned (.tuple #[])/\w'.cell? ⟨mb,27,none⟩=some (.int .u64 f.t)/\Hid (Pg.Fs w lo mb pb qv { s with now:=f.t } T w'/\w'.heap[w.heap.size]?=some Pg.gi)):=fun V hV=>by
  have hV':Below w w V:=hB1.trans (hV.mono hB1.size);refine M7 (vY V lo mb pb qv s T f.t (hM.below hV') (hT.below hV') (MX hls hV'.size) hnow hft hle hTt) ?_;rintro e w' ⟨rfl,h⟩;obtain ⟨wh',a,b,c⟩:=h.out;have hzV:V.heap[w.heap.size]?=some Pg.gi:=(hV.block _ zaa).trans hz1;exact ⟨rfl,a.cell 27 zac,⟨wh',a,b,(Pg.RfE.of hV' hls).trans c⟩,(c.kd.ao _ _ _ _ hzV Pg.KH).trans hzV⟩
 have HSP:Hid (∀ V,V.cell? ⟨mb,27,none⟩=some (.int .u64 f.t)->() 157 #[.pointer (some ⟨mb,27,none⟩),.int .u64 f.t] V fun e w'=>e = .returned (.tuple #[(0:Int),.int .i64 ((f.t % 64:Nat):Int)])/\Below V.heap.size V w'):=fun V hV=>by
  have h:=oO V mb 27 f.t f.t hft hft hV;rw [k0,k1] at h;exact h
 have HPO:Hid (∀ V U,Hid (Pg.Fs w lo mb pb qv { s with now:=f.t } T V/\V.heap[w.heap.size]?=some Pg.gi)->Below V.heap.size V U->() 158 #[.pointer (some ⟨mb,28,none⟩),.int .i64 ((f.t % 64:Nat):Int)] U fun e w'=>∃ b,e = .returned (Pg.ndP b)/\w'.rangeAt b 1 [f.ev,f.nm]/\w'.heap[w.heap.size]?=some Pg.gi/\Hid (∀ cs,Pg.Fs w lo mb pb qv { s with now:=f.t } (T.eraseP (fun x=>x.t == f.t)) (w'.setRow w cs))):=fun V U hV hU=>by
  obtain ⟨⟨wh',a,b,c⟩,hz⟩:=hV.out;have hlU:=MX hls (MX c.bel.size hU.size);refine M7 (Iz U lo mb pb qv { s with now:=f.t,wh:=wh' } T f m (a.below hU) (b.below hU) hlU hft hf) ?_;rintro e w' ⟨nb,rfl,h⟩;obtain ⟨wh2,a2,b2,c2,v,hv⟩:=h.out;have hzU:U.heap[w.heap.size]?=some Pg.gi:=(hU.block _ (MQ.1 hz).1).trans hz;have hz2:w'.heap[w.heap.size]?=some Pg.gi:=(c2.kd.ao _ _ _ _ hzU Pg.KH).trans hzU;refine ⟨nb,rfl,fun j u hj => ?_,hz2,fun cs => ?_⟩
  ·rw [M0 w' _ _ _ _ _ hv]
   match j,hj with
   | 0,hj=>exact hj
   | 1,hj=>exact hj
   | (n+2),hj=>simp at hj
  ·have hk:Kd (fun t=>¬ Pg.cJ t) w' (w'.setRow w cs):=fX (Pg.nj w' w cs) (fun k c t fz hp hc=>by subst hp;rw [hz2] at hc;cases hc;exact Pg.xx);refine ⟨wh2,a2.mo (Pg.nj w' w cs) (fun e => ?_) (fun g hg e => ?_),b2.kd hk (fun h=>h (.inr (.inr rfl))) rfl rfl,Pg.RfE.GY (c.trans ((Pg.RfE.of hU (MX hls c.bel.size)).trans c2)) hls ((Pg.nj w' w cs).mono (fun k _ hk=>zaa))⟩
   ·have:=hM.lt;omega
   ·obtain ⟨c',hc'⟩:=a2.que.kind g hg;rw [e,hz2] at hc';cases hc'
 have HMB:Hid (Pg.au w lo mb pb qv s):=hM;clear hM hT hF hf hTt hz1 hs1 k0 k1 hB1;have HW1:Hid _:=hW1;clear hW1;unfold Pg.gi at HW1;go_enter func113,ntmps113;go_wp2_with (first
  | (go_at_call 115;rw [HW1.out];refine M7 HFI.out ?_;rintro e w2 ⟨b,rfl,hc2,hb2⟩;unfold Pg.ndP)
  | (go_at_call 114;refine M7 (HTU.out _ hb2) ?_;rintro e w3 ⟨rfl,hc3,h3⟩)
  | (go_at_call 157;refine M7 (HSP.out _ hc3) ?_;rintro e w4 ⟨rfl,hb4⟩)
  | (go_at_call 158;refine M7 (HPO.out _ _ h3 hb4) ?_;rintro e w5 ⟨nb,rfl,hrng,hz5,h5⟩;unfold Pg.ndP)
  | (show wpList _ _ _ (Oper.mk (some 29) _ _ _ _ _::_) _ _;refine Om rfl 90 (.tmp 28) rfl nb 1 rfl _ _ hrng underlying90 rfl mx ?_)
  | (show wpList _ _ _ (Oper.mk none _ _ _ _ _::_) _ _;refine eP rfl 90 (.tmp 2) (.tmp 29) rfl w.heap.size 90 _ _ rfl rfl hz5 mx rfl rfl ?_))
 refine dP xJ w _ _ _ _ rfl (RO w5 w _ _ _ _ hz5) underlying90 rfl mx rfl ?_;exact ⟨rfl,h5.out _⟩
namespace Pg
theorem jX.get (h:jX wh R):∃ hv:Nat->Nat,(∀ k,k<6->hv k<18446744073709551616)/\(∀ k,k<6->wh (28+(k*65+64)) = .int .u64 (hv k))/\∀ k,k<6->∀ s,s<64->(hv k).testBit s = !(R (k*65+s)).isEmpty:=by
 refine ⟨fun k=>if hk:k<6 then Classical.choose (h k hk) else 0,fun k hk => ?_,fun k hk => ?_,fun k hk => ?_⟩
 all_goals
  have hs:=Classical.choose_spec (h k hk);simp only [dif_pos hk]
 ·exact hs.1
 ·exact hs.2.1
 ·exact hs.2.2
def KQ (w:World) (T:List Tn) (e:Ending) (w':World):Prop:=Below w w w'/\match (srt (fun x:Tn=>x.t) T).head? with
 | none=>e = .returned (.pointer none)
 | some x=>∃ b,e = .returned (ndP b)/\w'.cell? ⟨b,0,none⟩=some (.int .u64 x.t)
theorem J3 {w W0:World} {lo:Pg.Lo} {mb pb:Nat} {T:List Tn} {B:Nat->TypeId->Prop} (hM:au w lo mb pb qv s) (hW:WhM w lo s R) (hv2:∀ k,k<6->s.wh (28+(k*65+64)) = .int .u64 (hv k)) (hF:∀ r,isR r->(R r).map (·.2)=T.filter (fun t=>place s.now t.t == r)) (hl:T.length<=19) (hg:5<w.heap.size) (hG:TabAt 5 Lib.deBruijn64tab w) (hB:Below w w W0) (hb:∀ k t,k<w.heap.size->¬ B k t) (hlt:∀ k t,B k t->k<W0.heap.size\/t=138):Ft W0 mb R hv B:=by
 have hml:=hM.lt;have hnl:∀ r,isR r->∀ x∈R r,x.1<w.heap.size:=fun r hr x hx=>by
  exact zeF
 have hM0:=hM.below hB;have hR0:=hW.rgs.below hB;have hG0:TabAt 5 Lib.deBruijn64tab W0:=fun j hj=>(hB.cell (p:=⟨5,j,none⟩) hg).trans (hG j hj);refine ⟨fun Bs V hk hc=>⟨hc,fun k hk6 => ?_,fun k j hk6 hj => ?_,?_,KpM.tab hk (fun t=>hb _ t hg) hG0⟩,hR0.nds,hR0.nod,fun r hr => ?_,fun r hr x hx t=>hb _ t (hnl r hr x hx),fun t=>hb _ t hml,fun t=>hb _ t hg,hlt⟩
 ·rw [show 28+k*65+64=28+(k*65+64) by omega];exact hk.cell ((hM0.whc (28+(k*65+64)) zaa zaa).trans (congrArg some (hv2 k hk6))) (fun t=>hb _ t hml)
 ·rw [On];exact hk.cell ((hM0.whc (28+(k*65+j)) zaa zaa).trans (congrArg some (hR0.ring _ (.inl zaa)))) (fun t=>hb _ t hml)
 ·exact hk.cell ((hM0.whc 418 zaa zaa).trans (congrArg some (hR0.ring 390 (.inr rfl)))) (fun t=>hb _ t hml)
 ·have:((R r).map (·.2)).length<=T.length:=by rw [hF r hr];exact Ob _ _
  rw [Ng] at this;omega
end Pg
theorem ts (w:World) (lo:Pg.Lo) (mb pb:Nat) (qv:Value) (s:Pg.MSt) (T:List Pg.Tn) (hM:Pg.au w lo mb pb qv s) (hT:Pg.fm w lo s T) (hl:T.length<=19) (hnow:s.now<18446744073709551616) (hge:∀ x∈T,s.now<=x.t) (hg:5<w.heap.size) (hG:TabAt 5 Lib.deBruijn64tab w) :
  () 115 #[.pointer (some ⟨mb,27,none⟩)] w (Pg.KQ w T):=by
 obtain ⟨R,hW,hF,hb⟩:=hT;obtain ⟨hv,hv1,hv2,hv3⟩:=hW.held.get;have hnl:∀ r,Pg.isR r->∀ x∈R r,x.1<w.heap.size:=fun r hr x hx=>by
  exact zeF
 refine M7 (Eb w mb R hv hv1 (fun W0 hB hs=>Pg.J3 hM hW hv2 hF hl hg hG hB (fun k _ hk=>zaa) (fun k _ e => .inl zaa))) ?_
 ·rintro e w' ⟨rfl,hB⟩;refine ⟨hB,?_⟩;have hs:=Pg.FH hnow (fun x hx=>⟨hge x hx,hb x hx⟩) hF hv3;rw [<- hs];have hmem:∀ x∈Pg.yr R hv,∃ r,Pg.isR r/\x∈R r:=fun x hx=>by
   obtain ⟨r,hr,hx⟩:=Pv.1 hx;exact ⟨r,Pg.vG hr,Pg.kx.1 hx⟩
  unfold Pg.Bm;cases hA:Pg.yr R hv with
  | nil=>rfl
  | cons x l =>
   obtain ⟨r,hr,hx⟩:=hmem x (by rw [hA];exact NK ..);obtain ⟨i,hi⟩:=Nu.1 hx;have h0:=hW.rgs.nds r hr i x hi;refine ⟨x.1,rfl,?_⟩;rw [hB.cell (p:=⟨x.1,0,none⟩) (hnl r hr x hx),M0 w _ _ _ _ _ h0];rfl
namespace Pg
def bW (now t:Nat) (T:List Tn):Bool:=match (srt (fun x:Tn=>x.t) T).head? with | none=>false | some x=>decide (x.t<=max t now)
end Pg
theorem Bo (w:World) (lo:Pg.Lo) (mb pb:Nat) (qv:Value) (s:Pg.MSt) (T:List Pg.Tn) (t:Nat) (hM:Pg.au w lo mb pb qv s) (hT:Pg.fm w lo s T) (hl:T.length<=19) (hnow:s.now<18446744073709551616) (hge:∀ x∈T,s.now<=x.t) (hg:5<w.heap.size) (hG:TabAt 5 Lib.deBruijn64tab w) :
  () 73 #[.pointer (some ⟨mb,27,none⟩),.int .u64 t] w fun e w'=>e = .returned (.bool (Pg.bW s.now t T))/\Below w w w':=by
 have hf:=ts w lo mb pb qv s T hM hT hl hnow hge hg hG;have HN:Hid (∀ V,Below w w V->V.cell? ⟨mb,27,none⟩=some (.int .u64 s.now)):=fun V hV=>(hM.below hV).cell 27 zac;clear hM hT hge hG;cases hh:(Pg.srt (fun x:Pg.Tn=>x.t) T).head? with
 | none =>
  have HF:Hid (() 115 #[.pointer (some ⟨mb,27,none⟩)] w fun e w'=>e = .returned (.pointer none)/\Below w w w'):=M7 hf (by
   rintro e w' ⟨h1,h2⟩;rw [hh] at h2;exact ⟨h2,h1⟩)
  have HD:Hid (Pg.bW s.now t T=false):=by unfold Hid Pg.bW;rw [hh]
  clear hf hh;go_enter func73,ntmps73;go_wp2_with (go_at_call 115;refine M7 HF.out ?_;rintro e w1 ⟨rfl,hB⟩);exact zeC
 | some x =>
  have HF:Hid (() 115 #[.pointer (some ⟨mb,27,none⟩)] w fun e w'=>∃ b,e = .returned (.pointer (some ⟨b,0,none⟩))/\w'.cell? ⟨b,0,none⟩=some (.int .u64 x.t)/\Below w w w'):=M7 hf (by
   rintro e w' ⟨h1,h2⟩;rw [hh] at h2;obtain ⟨b,e1,e2⟩:=h2;exact ⟨b,e1,e2,h1⟩)
  have HD:Hid (Pg.bW s.now t T=decide ((x.t:Int)<=max (t:Int) (s.now:Int))):=by
   unfold Hid Pg.bW;rw [hh];exact decide_eq_decide.2 zaa
  clear hf hh;go_enter func73,ntmps73;go_wp2_with (go_at_call 115;refine M7 HF.out ?_;rintro e w1 ⟨b,rfl,hc,hB⟩;have h27:=HN.out w1 hB);exact zeC
namespace Pg
theorem ld {T:List Tn} {f:Tn} (h:(srt (fun x:Tn=>x.t) T).head?=some f):f∈T/\(∀ x∈T,f.t<=x.t)/\∃ m,T.filter (fun x=>x.t == f.t)=f::m:=by
 cases hs:srt (fun x:Tn=>x.t) T with
 | nil=>rw [hs] at h;cases h
 | cons a l =>
  rw [hs] at h;obtain rfl:a=f:=zaC;have h1:=oP (fun x:Tn=>x.t) T;rw [hs] at h1;have h2:=O4.1 h1;refine ⟨kx.1 (by rw [hs];exact NK ..),fun x hx => ?_,l.filter (fun x=>x.t == a.t),?_⟩
  ·have:=kx (f:=fun x:Tn=>x.t).2 hx;rw [hs] at this
   rcases O5.1 this with e | e
   ·rw [e];exact MR _
   ·exact h2.1 x e
  ·rw [<- kF (fun x:Tn=>x.t) T a.t,hs,OT zad]
end Pg
theorem Ff (w:World) (lo:Pg.Lo) (mb pb:Nat) (qv:Value) (s:Pg.MSt) (T:List Pg.Tn) (f:Pg.Tn) (hM:Pg.au w lo mb pb qv s) (hT:Pg.fm w lo s T) (hls:lo<=w.heap.size) (hl:T.length<=19) (hnow:s.now<18446744073709551616) (hge:∀ x∈T,s.now<=x.t) (hg:5<w.heap.size) (hG:TabAt 5 Lib.deBruijn64tab w) (hf:(Pg.srt (fun x:Pg.Tn=>x.t) T).head?=some f) :
  () 113 #[.pointer (some ⟨mb,27,none⟩)] w fun e w'=>e = .returned (.agg #[f.ev,f.nm])/\Hid (Pg.Fs w lo mb pb qv { s with now:=f.t } (T.eraseP (fun x=>x.t == f.t)) w'):=by
 obtain ⟨h1,h2,m,h3⟩:=Pg.ld hf;have hft:f.t<18446744073709551616:=by
  obtain ⟨_,_,_,hb⟩:=hT;exact hb f h1
 have hB:Below w w (w.alloc Pg.gi):=(MY _ w).alloc (MR _) _;have hs:=hB.size;refine uk w lo mb pb qv s T f m hM hT hls hnow (hge f h1) hft h2 h3 ?_;refine M7 (ts _ lo mb pb qv s T (hM.below hB) (hT.below hB) hl hnow hge (Nq hg hs) (fun j hj=>(hB.cell (p:=⟨5,j,none⟩) hg).trans (hG j hj))) ?_;rintro e w' ⟨a,b⟩;rw [hf] at b;obtain ⟨nb,e1,e2⟩:=b;exact ⟨nb,e1,e2,a⟩
namespace Pg
structure Live (w:World) (lo:Pg.Lo) (mb pb b cap:Nat) (ps:List PS) (fin:Nat) (EN LV:Nat->List PA) (hvs:Ref.Sl) (H:List HV) (D:Nat->Bool) (mbm n:Nat) (T:ByteArray->Option (List (Option PM))) (M:ByteArray->Option Nat) (Lr:Nat->List (Option Nat)) (pmF:Nat->PM) (acF:Nat->List PA) (r:RSt):Prop where
 run:jh w lo pb b cap ps fin EN LV hvs H D mbm n T M Lr pmF acF
 sz:SzP ps EN LV
 sza:∀ m,∀ a∈acF m,a.sz
 mt:MT w lo mb pb r
 ok:ROK ps r
 qk:QOK r
 q0:r.q=[]
 idl:Idl w mb
section
variable {w w':World} {lo:Pg.Lo} {mb pb b cap:Nat} {ps:List PS} {fin:Nat} {EN LV:Nat->List PA} {hvs:Ref.Sl} {H:List HV} {D:Nat->Bool} {mbm n:Nat} {T:ByteArray->Option (List (Option PM))} {M:ByteArray->Option Nat} {Lr:Nat->List (Option Nat)} {pmF:Nat->PM} {acF:Nat->List PA} {r:RSt}
theorem Live.ao (h:Live w lo mb pb b cap ps fin EN LV hvs H D mbm n T M Lr pmF acF r) (hb:Below w w w'):Live w' lo mb pb b cap ps fin EN LV hvs H D mbm n T M Lr pmF acF r:=⟨h.run.rf (RfE.of hb h.mt.lo'),h.sz,h.sza,h.mt.below h.run.bC.lw hb,h.ok,h.qk,h.q0,h.idl.bel h.mt.lt hb⟩
end
def gZ (w w':World):Prop:=∀ (k:Nat) (c:Array Value) (f:Nat×Nat),w.heap[k]?=some (.cells c 9 f)->w'.heap[k]?=some (.cells c 9 f)
theorem gZ.trans {b c:World} (h:gZ a b) (k:gZ b c):gZ a c:=fun i x f hi=>k i x f (h i x f hi)
theorem gZ.kd {b:World} (h:Kd E a b) (hE:¬ E 9):gZ a b:=fun i x f hi=>(h.ao i x _ f hi hE).trans hi
theorem gZ.bel {b:World} (h:Below a a b):gZ a b:=gZ.kd (bD (E:=fun _=>False) h) (fun h=>h)
theorem Nms.str {w w':World} {base:Nat} {sv:Value} {L:List ByteArray} (h:Nms w base sv L) (hs:gZ w w'):Nms w' base sv L:=⟨h.1,h.2.imp id (fun ⟨g,cp,cu,a,b,c,d⟩=>⟨g,cp,cu,a,b,hs _ _ _ c,d⟩)⟩
def Lo.nos (lo:Lo) (V:World):Lo:=⟨lo.n,max lo.s V.heap.size,fun k=>lo.ok k/\∀ c f,V.heap[k]?≠some (.cells c 9 f),fun k h=>lo.le k h.1,fun k h=>⟨lo.new k zaa,fun c f e=>by have:=(MQ.1 e).1;omega⟩⟩
theorem RfE.nos {lo:Pg.Lo} {V b:World} (h:RfE E (lo.nos V) a b):RfE E lo a b:=⟨h.bel,h.kd,h.oth,fun k hk hn=>h.own k hk (fun e=>hn e.1)⟩
theorem RfE.str {lo:Pg.Lo} {b:World} (h:RfE E (lo.nos a) a b):gZ a b:=fun k c f hk=>(h.own k (MQ.1 hk).1 (fun e=>e.2 c f hk)).trans hk
theorem MT.nos {lo:Pg.Lo} {mb pb:Nat} {r:RSt} (h:MT W lo mb pb r) (hi:Idl W mb):MT W (lo.nos W) mb pb r:=by
 obtain ⟨qv,wh,a,R,b,c⟩:=h.ex;obtain ⟨arr,a1,_⟩:=id a.blk;have hq:qv = .slice none 0 0:=NO ((a.cell 26 zac:W.cell? ⟨mb,26,none⟩=some qv).symm.trans hi);refine ⟨⟨qv,wh,⟨a.blk,a.que,⟨a.lo',fun c f e => ?_⟩,fun g hg => ?_,?_⟩,R,⟨⟨b.rgs.ring,b.rgs.nds,fun q hq x hx=>⟨b.rgs.low q hq x hx,fun c f e => ?_⟩,b.rgs.dis,b.rgs.nod⟩,b.held⟩,c⟩,h.lo',h.act,h.now,h.tml,h.tab,h.tab5⟩
 ·rw [a1] at e;simp at e
 ·rw [hq] at hg;cases hg
 ·have:=a.sz;show max lo.s W.heap.size<=_;omega
 ·obtain ⟨i,hi⟩:=Nu.1 hx;rw [b.rgs.nds q hq i x hi] at e;simp at e
theorem MT.B1 {V:World} {lo:Pg.Lo} {mb pb:Nat} {r:RSt} (h:MT W (lo.nos V) mb pb r):MT W lo mb pb r:=by
 obtain ⟨qv,wh,a,R,b,c⟩:=h.ex;exact ⟨⟨qv,wh,⟨a.blk,a.que,a.lo'.1,fun g hg=>(a.qok g hg).1,MX (Nat.le_max_left ..) a.sz⟩,R,⟨⟨b.rgs.ring,b.rgs.nds,fun q hq x hx=>(b.rgs.low q hq x hx).1,b.rgs.dis,b.rgs.nod⟩,b.held⟩,c⟩,h.lo',h.act,h.now,h.tml,h.tab,h.tab5⟩
section
variable {V w w':World} {lo:Pg.Lo} {mb pb b cap:Nat} {ps:List PS} {fin:Nat} {EN LV:Nat->List PA} {hvs:Ref.Sl} {H:List HV} {D:Nat->Bool} {mbm n:Nat} {T:ByteArray->Option (List (Option PM))} {M:ByteArray->Option Nat} {Lr:Nat->List (Option Nat)} {pmF:Nat->PM} {acF:Nat->List PA} {r:RSt}
theorem Live.nos (h:Live w lo mb pb b cap ps fin EN LV hvs H D mbm n T M Lr pmF acF r):Live w (lo.nos w) mb pb b cap ps fin EN LV hvs H D mbm n T M Lr pmF acF r:=⟨h.run,h.sz,h.sza,h.mt.nos h.idl,h.ok,h.qk,h.q0,h.idl⟩
theorem Live.B1 (h:Live w (lo.nos V) mb pb b cap ps fin EN LV hvs H D mbm n T M Lr pmF acF r):Live w lo mb pb b cap ps fin EN LV hvs H D mbm n T M Lr pmF acF r:=⟨h.run,h.sz,h.sza,h.mt.B1,h.ok,h.qk,h.q0,h.idl⟩
end
def bG (step:RSt->ByteArray->RSt) (r:RSt) (ev:ByteArray):RSt:=eO step { r with q:=r.q++[ev] }
theorem MT.moU {P:Nat->Prop} {W':World} {lo:Pg.Lo} {mb pb:Nat} {r:RSt} (h:MT W lo mb pb r) (hl:Lw lo) (hm:Mo P W W') (hP:∀ k,P k->lo<=k/\∃ c t,W.heap[k]?=some (.cells c t (0,0))/\¬ cJ t):MT W' lo mb pb r:=by
 obtain ⟨qv,wh,a,b⟩:=h.ex;have hb:Below lo W W':=⟨hm.os,hm.tape,hm.output,hm.size,fun k hk=>hm.block k (by have:=h.lo';omega) (fun hp=>zbT)⟩;have hk:Kd (fun t=>¬ cJ t) W W':=fX hm (fun k c t f hp hc=>by
  obtain ⟨_,c',t',hc',ht'⟩:=hP k hp;rw [hc] at hc';cases hc'
  exact ht')
 refine ⟨⟨qv,wh,a.mo hm (fun e => ?_) (fun g hg e => ?_),b.kd hk (fun h=>h (.inr (.inr rfl))) rfl rfl⟩,MX h.lo' hm.size,h.act,h.now,h.tml,fk hl hb h.tab,bU hl hb h.tab5⟩
 ·obtain ⟨_,c,t,hc,ht⟩:=hP _ e;obtain ⟨arr,a1,_⟩:=a.blk;rw [hc] at a1;cases a1
  exact ht (.inl rfl)
 ·obtain ⟨_,c,t,hc,ht⟩:=hP _ e;obtain ⟨c',hc'⟩:=a.que.kind g hg;rw [hc] at hc';cases hc'
  exact ht (.inr (.inl rfl))
theorem RfE.Cn {lo:Pg.Lo} {s:Nat} {w:World} {cs:Array Value} (h:RfE E lo w W) (hlo:lo<=w.heap.size) (hs:w.heap.size<=s):RfE E lo w (W.setRow s cs):=by
 have o:=gS W s cs;exact ⟨⟨h.bel.os,h.bel.tape,h.bel.output,by rw [Q8];exact h.bel.size,fun k hk=>(PN W s k cs zaa).trans (h.bel.block k hk)⟩,
  ⟨by rw [Q8];exact h.kd.size,fun k c t f hk hn=>(PN W s k cs (by have:=(MQ.1 hk).1;omega)).trans (h.kd.ao k c t f hk hn)⟩,
  ⟨by rw [Q8];exact h.oth.size,fun k o hk ho=>(PN W s k cs (by have:=(MQ.1 hk).1;omega)).trans (h.oth.same k o hk ho)⟩,
  fun k hk hn=>(PN W s k cs zaa).trans (h.own k hk hn)⟩
theorem vg (W:World) (s:Nat) (cs:Array Value):Mo (· = s) W (W.setRow s cs):=⟨rfl,rfl,rfl,Nat.le_of_eq (Q8 W s cs).symm,fun k _ hk=>PN W s k cs hk⟩
theorem pE:¬ cJ 46:=fun h=>zch
def qj:Obj := .cells #[.string ⟨#[]⟩,.int .u64 0,.slice none 0 0] 46
end Pg
theorem qe:(Tryz.prog.info? 46).map (·.size)=some 3:=zab
theorem Kb:Tryz.f71.results=#[.cell 4 46]:=rfl
section
variable (w:World) (lo:Pg.Lo) (mb pb b cap:Nat) (ps:List Pg.PS) (fin:Nat) (EN LV:Nat->List Pg.PA) (hvs:Ref.Sl) (H:List Pg.HV) (D:Nat->Bool) (mbm n:Nat) (T:ByteArray->Option (List (Option Pg.PM))) (M:ByteArray->Option Nat) (Lr:Nat->List (Option Nat)) (pmF:Nat->Pg.PM) (acF:Nat->List Pg.PA) (r:Pg.RSt) (ev:ByteArray)
abbrev qQ (ev:ByteArray):Prop:=∀ V:World,() 89 #[ev] V fun e w'=>e = .returned ev/\Below V V w'
theorem Fg (hQ:Pg.Live w lo mb pb b cap ps fin EN LV hvs H D mbm n T M Lr pmF acF r) (hev:ev.size<=1000000) (hcl:qQ ev) :
  () 71 #[mb,ev] w fun e w'=>∃ a k c,e = .returned (.agg #[ev,.int .u64 (Pg.bG (Pg.aS ps fin EN LV H D M Lr pmF acF) r ev).now,.slice a k c])/\Hid (Pg.Live w' lo mb pb b cap ps fin EN LV hvs H D mbm n T M Lr pmF acF (Pg.bG (Pg.aS ps fin EN LV H D M Lr pmF acF) r ev)/\Pg.Rf lo w w'/\Pg.Nms w' lo (.slice a k c) ((Pg.els (Pg.bG (Pg.aS ps fin EN LV H D M Lr pmF acF) r ev).act).map (Pg.bP ps))):=by
 have hlw:=hQ.run.bC.lw;have hlo:=hQ.mt.lo';have hmbl:=hQ.mt.lt;have hB0:Below w w (w.alloc Pg.qj):=(MY _ w).alloc (MR _) _;have hP:=hQ.ao hB0;have hR0:Pg.Rf lo w (w.alloc Pg.qj):=Pg.RfE.of hB0 hlo;have hz0:(w.alloc Pg.qj).heap[w.heap.size]?=some Pg.qj:=Na _ _;have hq0:=hP.q0;generalize hW0:w.alloc Pg.qj=W0 at *;have HRA:Hid (() 111 #[mb,ev] W0 fun e w'=>e = .returned (.tuple #[])/\Hid (Pg.MT w' lo mb pb { r with q:=r.q++[ev] }/\Pg.Rf lo W0 w')):=(nw W0 lo mb pb r ev hlw hP.mt (by rw [hq0];decide)).mono (fun e w' x=>⟨x.1,x.2.1,x.2.2⟩);have hr1:Pg.ROK ps { r with q:=r.q++[ev] }:=⟨hP.ok.act,hP.ok.kept⟩;have hq1:Pg.QOK { r with q:=r.q++[ev] }:=hP.qk.snoc hev;obtain ⟨hr2,hq2⟩:=Pg.ny (fun r x h k=>Pg.mQ hP.run hP.sz hP.sza h k x) hr1 hq1;have HAR:Hid (∀ V,Hid (Pg.MT V lo mb pb { r with q:=r.q++[ev] }/\Pg.Rf lo W0 V)->() 58 #[mb] V fun e w'=>e = .returned (.tuple #[])/\Hid ((Pg.MT w' lo mb pb (Pg.bG (Pg.aS ps fin EN LV H D M Lr pmF acF) r ev)/\Pg.Idl w' mb)/\Pg.Rf lo W0 w')):=fun V hV =>
  (jB V lo mb pb b cap _ ps fin EN LV hvs H D mbm n T M Lr pmF acF (hP.run.rf hV.out.2) hP.sz hP.sza hV.out.1 hr1 hq1 (by show (r.q++[ev]).length<=_;rw [hq0];simp)).mono (fun e w' x=>⟨x.1,⟨x.2.1,x.2.2.2⟩,hV.out.2.trans x.2.2.1⟩)
 have hra:Pg.ROK ps (Pg.bG (Pg.aS ps fin EN LV H D M Lr pmF acF) r ev):=hr2;have hqa:Pg.QOK (Pg.bG (Pg.aS ps fin EN LV H D M Lr pmF acF) r ev):=hq2;have hqz:(Pg.bG (Pg.aS ps fin EN LV H D M Lr pmF acF) r ev).q=[]:=rfl;clear hr2 hq2 hr1 hq1;generalize Pg.bG (Pg.aS ps fin EN LV H D M Lr pmF acF) r ev=r2 at *;have HST:Hid (∀ V,Hid ((Pg.MT V lo mb pb r2/\Pg.Idl V mb)/\Pg.Rf lo W0 V)->() 59 #[mb,ev] V fun e w'=>∃ a k c,e = .returned (.agg #[ev,.int .u64 r2.now,.slice a k c])/\Hid (w'.heap[w.heap.size]?=some Pg.qj/\∀ cs,Pg.Live (w'.setRow w cs) lo mb pb b cap ps fin EN LV hvs H D mbm n T M Lr pmF acF r2/\Pg.Rf lo w (w'.setRow w cs)/\Pg.Nms (w'.setRow w cs) lo (.slice a k c) ((Pg.els r2.act).map (Pg.bP ps)))):=fun V hV =>
  (Ai V lo mb pb b cap r2 ps fin EN LV ev (hP.run.rf hV.out.2).bC hV.out.1.1 (Pg.gQ hra.act) hcl).mono (fun e w' x=>by
   obtain ⟨sv,x1,x2,x3⟩:=x;obtain ⟨a,c,rfl⟩:=x2.n;have hRv:Pg.Rf lo W0 w':=hV.out.2.trans (Pg.RfE.of x3 hV.out.1.1.lo');have hz:w'.heap[w.heap.size]?=some Pg.qj:=(hRv.kd.ao _ _ _ _ hz0 Pg.pE).trans hz0;have hmt:=hV.out.1.1.below hlw x3;have hid:=hV.out.1.2.bel hV.out.1.1.lt x3;have hn0:Pg.Nms w' lo (.slice a ((Pg.els r2.act).map (Pg.bP ps)).length c) ((Pg.els r2.act).map (Pg.bP ps)):=⟨x2.1,x2.2.imp id (fun ⟨g,cp,cu,y1,y2,y3⟩=>⟨g,cp,cu,y1,MX hV.out.1.1.lo' y2,y3⟩)⟩;refine ⟨a,_,c,x1,hz,fun cs => ?_⟩;have hR':Pg.Rf lo w (w'.setRow w cs):=Pg.RfE.Cn (hR0.trans hRv) hlo (MR _);exact ⟨⟨hQ.run.rf hR',hP.sz,hP.sza,Pg.MT.moU hmt hlw (Pg.vg _ _ _) (fun k hk=>by subst hk;exact ⟨hlo,_,_,hz,Pg.pE⟩),hra,hqa,hqz,((gS w' w cs).cell (p:=⟨mb,26,none⟩) (RY hmbl)).trans hid⟩,hR',Kd.row (E:=fun t=>¬ Pg.cJ t) (fX (Pg.vg _ _ _) (fun k c t f hp hc=>by subst hp;rw [hz] at hc;cases hc;exact Pg.pE)) hn0 (fun h=>h (.inr (.inl rfl)))⟩)
 clear hP hQ hcl hra hqa hqz hq0 hR0 hz0 hB0;have HW0:Hid _:=hW0;clear hW0;unfold Pg.qj at HW0;go_enter func71,ntmps71;go_wp2_with (first
  | (go_at_call 111;rw [HW0.out];refine HRA.out.mono ?_;rintro e w1 ⟨rfl,h1⟩)
  | (go_at_call 58;refine (HAR.out _ h1).mono ?_;rintro e w2 ⟨rfl,h2⟩)
  | (go_at_call 59;refine (HST.out _ h2).mono ?_;rintro e w3 ⟨sa,sk,sc,rfl,h3⟩)
  | (show wpList _ _ _ (Oper.mk none _ _ _ _ _::_) _ _;refine eP rfl 46 (.tmp 4) (.tmp 12) rfl w.heap.size 46 _ _ rfl rfl h3.out.1 qe rfl rfl ?_))
 refine dP Kb w _ _ _ _ rfl (RO w3 w _ _ _ _ h3.out.1) underlying46 rfl qe rfl ?_;exact ⟨_,_,_,rfl,h3.out.2 _⟩
theorem AA (hQ:Pg.Live w lo mb pb b cap ps fin EN LV hvs H D mbm n T M Lr pmF acF r) (hev:ev.size<=1000000) (hcl:qQ ev) :
  () 71 #[mb,ev] w fun e w'=>∃ a k c,e = .returned (.agg #[ev,.int .u64 (Pg.bG (Pg.aS ps fin EN LV H D M Lr pmF acF) r ev).now,.slice a k c])/\Hid (Pg.Live w' lo mb pb b cap ps fin EN LV hvs H D mbm n T M Lr pmF acF (Pg.bG (Pg.aS ps fin EN LV H D M Lr pmF acF) r ev)/\Pg.Rf lo w w'/\Pg.Nms w' lo (.slice a k c) ((Pg.els (Pg.bG (Pg.aS ps fin EN LV H D M Lr pmF acF) r ev).act).map (Pg.bP ps))/\Pg.gZ w w') :=
 M7 (Fg w (lo.nos w) mb pb b cap ps fin EN LV hvs H D mbm n T M Lr pmF acF r ev hQ.nos hev hcl) (fun _ _ ⟨a,k,c,x,h⟩=>⟨a,k,c,x,h.out.1.B1,h.out.2.1.nos,h.out.2.2,h.out.2.1.str⟩)
namespace Pg
def wk (w:World) (lo:Pg.Lo) (mb pb b cap:Nat) (ps:List PS) (fin:Nat) (EN LV:Nat->List PA) (hvs:Ref.Sl) (H:List HV) (D:Nat->Bool) (mbm n:Nat) (T:ByteArray->Option (List (Option PM))) (M:ByteArray->Option Nat) (Lr:Nat->List (Option Nat)) (pmF:Nat->PM) (acF:Nat->List PA) (r:RSt) (ev:ByteArray) (e:Ending) (w':World):Prop :=
 if r.fin=0 then ∃ sb sv,e = .returned (.tuple #[.slice (some ⟨sb,0,none⟩) 1 1,fuelV (bG (aS ps fin EN LV H D M Lr pmF acF) r ev).fin])/\w'.heap[sb]?=some (.cells #[ev,.int .u64 (bG (aS ps fin EN LV H D M Lr pmF acF) r ev).now,sv] 46 (0,0))/\Nms w' lo sv ((els (bG (aS ps fin EN LV H D M Lr pmF acF) r ev).act).map (bP ps))/\Live w' lo mb pb b cap ps fin EN LV hvs H D mbm n T M Lr pmF acF (bG (aS ps fin EN LV H D M Lr pmF acF) r ev)/\Rf lo w w'/\lo<=sb/\gZ w w'
 else e = .returned (.tuple #[.slice none 0 0,eM r.fin])/\Below w w w'
end Pg
theorem Ea (hP:Pg.Live w lo mb pb b cap ps fin EN LV hvs H D mbm n T M Lr pmF acF r) (hev:ev.size<=1000000) (hcl:qQ ev) :
  () 42 #[mb,ev] w (Pg.wk w lo mb pb b cap ps fin EN LV hvs H D mbm n T M Lr pmF acF r ev):=by
 obtain ⟨qv,wh,hM,_⟩:=hP.mt.ex;have h5:w.cell? ⟨mb,419,none⟩=some (Pg.eM r.fin):=hM.cell 419 zac;clear hM;by_cases hf:r.fin=0
 ·have he:Pg.eM r.fin = .nilIface:=by rw [hf];rfl
  rw [he] at h5;have HT:Hid _:=AA w lo mb pb b cap ps fin EN LV hvs H D mbm n T M Lr pmF acF r ev hP hev hcl;have hlw:=hP.run.bC.lw;have HF:Hid (r.fin=0):=hf;generalize hr2:Pg.bG (Pg.aS ps fin EN LV H D M Lr pmF acF) r ev=r2 at *;have HR2:Hid _:=hr2;have HOF:Hid (∀ V,Hid (Pg.Live V lo mb pb b cap ps fin EN LV hvs H D mbm n T M Lr pmF acF r2)->() 60 #[mb] V fun e w'=>e = .returned (Pg.fuelV r2.fin)/\w'=V):=fun V hV=>by
   obtain ⟨qv,wh,a,_⟩:=hV.out.mt.ex;exact jq V lo mb pb qv (r2.m wh) r2.fin a rfl hV.out.qk.fin
  have HB:Hid (∀ (V:World) (o:Obj),Below V.heap.size V (V.alloc o)):=fun V o=>(MY _ V).alloc (MR _) _;clear hP hcl hr2 hf;go_enter func42,ntmps42;go_wp2_with (first
   | (go_at_call 71;refine M7 HT.out ?_;rintro e w1 ⟨sa,sk,sc,rfl,h1⟩)
   | (go_at_call 60;refine (HOF.out _ (h1.out.1.ao (HB.out _ _))).mono ?_;rintro e w4 ⟨rfl,hw4⟩;rw [hw4];clear hw4 w4))
  go_ret2;unfold Pg.wk;rw [M6 HF.out,HR2.out];have hbl:=HB.out w1 (.cells #[ev,.int .u64 r2.now,.slice sa sk sc] 46);exact ⟨_,_,rfl,Na _ _,Kd.row (bD (E:=fun _=>False) hbl) h1.out.2.2.1 (fun h=>h),h1.out.1.ao hbl,h1.out.2.1.trans (Pg.RfE.of hbl h1.out.1.mt.lo'),h1.out.1.mt.lo',h1.out.2.2.2.trans (Pg.gZ.bel hbl)⟩
 ·have he:Pg.eM r.fin = .iface 29 (.int .i64 r.fin):=by unfold Pg.eM;rw [M4 hf]
  have HF:Hid (¬ r.fin=0):=hf;have HE:Hid _:=he;rw [he] at h5;clear hP hcl hf he;go_enter func42,ntmps42;go_wp2
  go_quiet (fail)
  go_wp2;go_ret2;unfold Pg.wk;rw [M4 HF.out,HE.out];exact ⟨rfl,⟨rfl,rfl,rfl,MR _,fun _ _=>rfl⟩⟩
end
end
section
open Go.RowKit
def KA {σ α:Type} (F:Fence) (n:Nat) (P:Program) (g:Nat) (lb:Array Value) (encs:α->Array Value) (Rd:σ->World->Prop) (Tk:σ->α->World->World->Prop) (En:σ->World->World->Prop) (Nx:σ->σ->Prop) (w:World):Prop :=
 ∀ (l:Nat) (J:σ->World->Prop) (Jt:σ->α->World->Prop) (Jx Je:World->Prop) (W:World),Below w w W->w.heap.size+2<=W.heap.size ->
  (∀ s V,J s V->Rd s V)->(∀ s x V V',J s V->Tk s x V V'->Jt s x V')->(∀ s V V',J s V->En s V V'->Je V') ->
  (∀ s x V,Jt s x V->YieldAt F (n-1) P l (encs x) V fun e V'=>(e = .returned true/\∃ s',Nx s s'/\J s' V')\/(e = .returned false/\Jx V')) ->
  ∀ s,J s W->CallsIn F n P g (#[.func (.yield l) #[] #[]]++lb) W fun e V=>(∃ v,e = .returned v)/\(Je V\/Jx V)
def LM {σ:Type} (B:Nat) (Nx:σ->σ->Prop) (I:σ->World->Prop) (Ix:World->Prop) (id:Nat) (s:σ) (W:World):Exit->Act->World->Prop
 | .normal,_,V=>KeepsFrom B W V/\∃ s',Nx s s'/\I s' V
 | .exit i,_,V=>i=id/\KeepsFrom B W V/\Ix V
 | _,_,_=>False
theorem Hr {σ α:Type} {F:Fence} {n:Nat} {P:Program} {g:Operand} {ps:Array Tmp} {assign body:Code} {Q:Exit->Act->World->Prop} {a:Act} {w:World} (hro:F.round=none) (h1:1<=n) {gf:Nat} {lb:Array Value}
  (hg:a.eval g = .func (.func gf) #[] lb) (hF:F.fn gf) (eg:∀ args w,(callFunc gf args).run P w = .ok (.enter gf args) w) {encs:α->Array Value} {Rd:σ->World->Prop} {Tk:σ->α->World->World->Prop} {En:σ->World->World->Prop} {Nx:σ->σ->Prop}
  (hseq:KA F (n-1) P gf lb encs Rd Tk En Nx w) (hps:∀ x,(encs x).size=ps.size) (I:σ->World->Prop) (It:σ->α->World->Prop) (Ix Ie:World->Prop) (Bx:σ->α->Act->World->Prop) (id:Nat)
  (hI:OwnFrom w.heap.size I) (hIx:OwnFrom w.heap.size (fun (_:Unit)=>Ix)) (hIe:OwnFrom w.heap.size (fun (_:Unit)=>Ie)) (hBx:∀ s x a',OwnFrom w (fun (_:Unit)=>Bx s x a'))
  (hRd:∀ s V,I s V->Rd s V) (hTk:∀ s x V V',I s V->Tk s x V V'->It s x V') (hEn:∀ s V V',I s V->En s V V'->Ie V') (hTko:∀ s x V V',Tk s x V V'->KeepsFrom w.heap.size V V') (hEno:∀ s V V',En s V V'->KeepsFrom w.heap.size V V') (s0:σ) (h0:I s0 w)
  (hassign:∀ (l:Nat) (s:σ) (x:α) (W:World) (K:Act->World->Prop),It s x W->(∀ a' W',KeepsFrom w W W'->Bx s x a' W'->K a' W')->assign.wpIn (F.inRound l) (n-1-1) P (Exit.then K (fun _ _ _=>False)) { tmps:=(ps.zip (encs x)).foldl (fun t (p,v)=>t.setIfInBounds p v) a.tmps,defers:=[] } W)
  (hbody:∀ (l:Nat) (s:σ) (x:α) (a':Act) (W:World),w.heap.size<=l->Bx s x a' W->body.wpIn (F.inRound l) (n-1-1) P (LM w Nx I Ix id s W) a' W)
  (hdone:∀ (D:Nat) (W:World),w.heap.size<=D->Ie W->W.heap[D]?=some (.deferred (some []))->Q .normal { a with defers:={ target := .collected D,args:=#[] }::a.defers } W)
  (hstop:∀ (D:Nat) (W:World),w.heap.size<=D->Ix W->W.heap[D]?=some (.deferred (some []))->(Code.exit id).wpIn F n P Q { a with defers:={ target := .collected D,args:=#[] }::a.defers } W) :
  (Code.rangeFunc g ps assign body).wpIn F n P Q a w:=by
 refine wpIn_rangeFunc fun fn hfn => ?_;rw [hro];obtain ⟨lp,hlp⟩:∃ lp:LoopState->Option Code->Loop,lp=fun st pe=>{ state:=st,pending:=pe,fn,tmps:=a.tmps,params:=ps,assign,body,defers:=w.heap.size }:=⟨_,rfl⟩;have hent:=Rr (P:=P) (w:=w) fn a.tmps ps assign body;obtain ⟨V,hV⟩:∃ V,(w.alloc (.deferred (some []))).alloc (.loop (lp .ready none))=V:=⟨_,rfl⟩;have hb:Below w w V:=hV ▸ (((MY _ w).alloc (MR _) _).alloc zad _);have hj:I s0 V/\V.heap[w.heap.size+1]?=some (.loop (lp .ready none))/\V.heap[w.heap.size]?=some (.deferred (some [])):=by
  exact zel
 refine ⟨w.heap.size+1,[{ target := .collected w.heap.size,args:=#[] }],V,{ target := .fn (.func gf) lb,args:=#[.func (.yield (w.heap.size+1)) #[] #[]] },V,gf,#[.func (.yield (w.heap.size+1)) #[] #[]]++lb,V,
  zbQ,zbE,fun f' hf'=>zbA,zbS,fun _=>h1,?_⟩
 have hvs:V.heap.size=w.heap.size+2:=by rw [<- hV];simp
 refine (hseq (w.heap.size+1) (fun s W=>I s W/\W.heap[w.heap.size+1]?=some (.loop (lp .ready none))/\W.heap[w.heap.size]?=some (.deferred (some []))) (fun s x W=>It s x W/\W.heap[w.heap.size+1]?=some (.loop (lp .ready none))/\W.heap[w.heap.size]?=some (.deferred (some [])))
  (fun W=>Ix W/\W.heap[w.heap.size+1]?=some (.loop (lp .done (some (.exit id))))/\W.heap[w.heap.size]?=some (.deferred (some []))) (fun W=>Ie W/\W.heap[w.heap.size+1]?=some (.loop (lp .ready none))/\W.heap[w.heap.size]?=some (.deferred (some []))) V hb zaa (fun s W h=>hRd s W h.1) (fun s x A B h k => ?_) (fun s A B h k => ?_) ?_ s0 hj).mono ?_
 ·have hk:=hTko s x A B k;exact ⟨hTk s x A B h.1 k,hk.same _ _ zaa h.2.1 rfl,hk.same _ _ (MR _) h.2.2 rfl⟩
 ·have hk:=hEno s A B k;exact ⟨hEn s A B h.1 k,hk.same _ _ zaa h.2.1 rfl,hk.same _ _ (MR _) h.2.2 rfl⟩
 ·intro s x W ⟨hi,hl,hd⟩;have hy:=run_yield (P:=P) (args:=encs x) hl (by rw [hlp];exact hps x);rw [hlp] at hy;refine ⟨fn,_,assign,body,hy,roundIn_of_wpIn hfn (hassign _ s x W _ hi fun a' Wa hka hia=>⟨_,run_beginRound (hka.same _ _ zaa hl rfl) (by rw [hlp]),?_⟩)⟩;have hl:=hka.same _ _ zaa hl rfl;have hd:=hka.same _ _ (MR _) hd rfl;have hlt:=(MQ.1 hl).1;refine wpIn_mono (hbody _ s x a' _ zaa ((hBx s x a').putObj (s:=()) _ hia zaa hl rfl)) ?_;intro e a' W' hp;have hfin:∀ (jump:Option Code),KeepsFrom w (Wa.putObj (w.heap.size+1) (.loop { lp .ready none with state:=LoopState.busy })) W' ->
    (Instr.endRound (w.heap.size+1) jump).run P W' = .ok (.bool jump.isNone) (W'.putObj (w.heap.size+1) (.loop (lp (if jump.isNone then .ready else .done) jump))) /\
    W'.heap[w.heap.size+1]?=some (.loop { lp .ready none with state:=LoopState.busy }) /\
    (W'.putObj (w.heap.size+1) (.loop (lp (if jump.isNone then .ready else .done) jump))).heap[w.heap.size+1]?=some (.loop (lp (if jump.isNone then .ready else .done) jump)) /\
    (W'.putObj (w.heap.size+1) (.loop (lp (if jump.isNone then .ready else .done) jump))).heap[w.heap.size]?=some (.deferred (some [])):=fun jump hk=>by
   have hl':=hk.same _ _ zaa (OW hlt) rfl;have hd':=hk.same _ _ (MR _) ((NU zaa).trans hd) rfl;have hr:=run_endRound (P:=P) jump hl';rw [hlp] at hr ⊢;exact ⟨hr,by rw [hlp] at hl';exact hl',OW (MQ.1 hl').1,(NU zaa).trans hd'⟩
  cases e with
  | normal =>
   obtain ⟨hk,s',hn,hi'⟩:=hp;obtain ⟨hr,hl3,hl4,hd4⟩:=hfin none hk;exact ⟨_,_,hr,.inl ⟨rfl,s',hn,hI.putObj _ hi' zaa hl3 rfl,hl4,hd4⟩⟩
  | exit i =>
   obtain ⟨rfl,hk,hi'⟩:=hp;obtain ⟨hr,hl3,hl4,hd4⟩:=hfin (some (.exit i)) hk;exact ⟨_,_,hr,.inr ⟨rfl,hIx.putObj (s:=()) _ hi' zaa hl3 rfl,hl4,hd4⟩⟩
  | _=>exact hp.elim
 ·rintro e W ⟨⟨v,hv⟩,⟨hi,hl,hd⟩ | ⟨hi,hl,hd⟩⟩
  ·subst hv;exact ⟨none,_,zaV,hdone _ _ (MR _) (hIe.putObj (s:=()) _ hi zaa hl rfl) ((NU zaa).trans hd)⟩
  ·subst hv;exact ⟨some (.exit id),_,zaV,hstop _ _ (MR _) (hIx.putObj (s:=()) _ hi zaa hl rfl) ((NU zaa).trans hd)⟩
end
section
open Go.RowKit Go.Proofs Go.Shelf
attribute [local go_sem] NR
theorem least {σ:Type} (J:σ->World->Prop) (m:σ->Nat):∃ μ:World->Nat,∀ W s,J s W->μ W<=m s/\∃ s',J s' W/\m s'=μ W:=by
 have h:∀ W:World,∃ k,∀ s,J s W->k<=m s/\∃ s',J s' W/\m s'=k:=fun W=>by
  by_cases h:∃ s,J s W
  ·obtain ⟨s,hs⟩:=h;have:∀ n s,J s W->m s=n->∃ k,∀ s,J s W->k<=m s/\∃ s',J s' W/\m s'=k:=by
    intro n
    induction n using Nat.strongRecOn with
    | _ n ih =>
     intro s hs hn;by_cases hl:∃ s',J s' W/\m s'<n
     ·obtain ⟨s',h1,h2⟩:=hl;exact ih _ h2 s' h1 rfl
     ·exact ⟨n,fun x hx=>⟨Nat.le_of_not_lt (fun e=>hl ⟨x,hx,e⟩),s,hs,hn⟩⟩
   exact this _ s hs rfl
  ·exact ⟨0,fun s hs=>(h ⟨s,hs⟩).elim⟩
 exact ⟨fun W=>Classical.choose (h W),fun W=>Classical.choose_spec (h W)⟩
namespace Pg
def gE (r:RSt) (f:Tn):RSt:={ r with now:=f.t,tm:=r.tm.eraseP (fun x=>x.t == f.t) }
end Pg
section
variable (w:World) (lo:Pg.Lo) (mb pb:Nat) (r:Pg.RSt) (hl:Pg.Lw lo) (h:Pg.MT w lo mb pb r) (hk:Pg.TOK r.now r.tm)
theorem CA (hl:Pg.Lw lo) (h:Pg.MT w lo mb pb r) (u:Nat) (hu:u<18446744073709551616) (h1:r.now<=u) (h2:∀ x∈r.tm,u<=x.t):() 114 #[.pointer (some ⟨mb,27,none⟩),.int .u64 u] w fun e w'=>e = .returned (.tuple #[])/\Hid (Pg.MT w' lo mb pb { r with now:=u }/\Pg.Rw lo w w'/\(Pg.Idl w mb->Pg.Idl w' mb)):=by
 obtain ⟨qv,wh,a,b⟩:=h.ex;refine M7 (vY w lo mb pb qv (r.m wh) r.tm u a b h.lo' h.now hu h1 h2) ?_;rintro e w' ⟨rfl,h3⟩;obtain ⟨wh',a2,b2,c2⟩:=h3.out;exact ⟨rfl,⟨⟨qv,wh',a2,b2⟩,MX h.lo' c2.bel.size,h.act,hu,h.tml,Pg.fk hl c2.bel h.tab,Pg.bU hl c2.bel h.tab5⟩,c2,a.idl a2⟩
theorem pZ (hl:Pg.Lw lo) (h:Pg.MT w lo mb pb r) (hk:Pg.TOK r.now r.tm) (t:Nat):() 73 #[.pointer (some ⟨mb,27,none⟩),.int .u64 t] w fun e w'=>e = .returned (.bool (Pg.bW r.now t r.tm))/\Below w w w':=by
 obtain ⟨qv,wh,a,b⟩:=h.ex;exact Bo w lo mb pb qv (r.m wh) r.tm t a b (MX h.tml zac) h.now (fun x hx=>(hk.2 x hx).1) (Nq hl.g h.lo') h.tab
theorem Cz (hl:Pg.Lw lo) (h:Pg.MT w lo mb pb r) (hk:Pg.TOK r.now r.tm) (f:Pg.Tn) (hf:(Pg.srt (fun x:Pg.Tn=>x.t) r.tm).head?=some f):() 113 #[.pointer (some ⟨mb,27,none⟩)] w fun e w'=>e = .returned (.agg #[f.ev,f.nm])/\Hid (Pg.MT w' lo mb pb (Pg.gE r f)/\Pg.Rw lo w w'/\(Pg.Idl w mb->Pg.Idl w' mb)):=by
 obtain ⟨qv,wh,a,b⟩:=h.ex;have hft:f.t<18446744073709551616:=by
  obtain ⟨_,_,_,hb⟩:=b;exact hb f (Pg.ld hf).1
 refine M7 (Ff w lo mb pb qv (r.m wh) r.tm f a b h.lo' (MX h.tml zac) h.now (fun x hx=>(hk.2 x hx).1) (Nq hl.g h.lo') h.tab hf) ?_;rintro e w' ⟨rfl,h2⟩;obtain ⟨wh',a2,b2,c2⟩:=h2.out;exact ⟨rfl,⟨⟨qv,wh',a2,b2⟩,MX h.lo' c2.bel.size,h.act,hft,MX (List.length_eraseP_le ..) h.tml,Pg.fk hl c2.bel h.tab,Pg.bU hl c2.bel h.tab5⟩,c2,a.idl a2⟩
end
namespace Pg
theorem zi {now t:Nat} {T:List Tn} (h:bW now t T=true):∃ f,(srt (fun x:Tn=>x.t) T).head?=some f/\f.t<=max t now:=by
 unfold bW at h;cases hh:(srt (fun x:Tn=>x.t) T).head? with
 | none=>rw [hh] at h;cases h
 | some f=>rw [hh] at h;exact ⟨f,rfl,PI h⟩
theorem p5 {now t:Nat} {T:List Tn} (h:bW now t T=false):∀ x∈T,max t now<=x.t:=fun x hx=>by
 unfold bW at h;cases hh:(srt (fun x:Tn=>x.t) T).head? with
 | none =>
  have:x∈srt (fun x:Tn=>x.t) T:=kx.2 hx;rw [List.head?_eq_none_iff.1 hh] at this;cases this
 | some f =>
  rw [hh] at h;have h1:=of_decide_eq_false h;have h2:=(ld hh).2.1 x hx;omega
def Mu (lo:Pg.Lo) (mb pb Bw Bt t:Nat) (s:Nat×RSt) (V:World):Prop:=s.1<=200/\MT V lo mb pb s.2/\TOK s.2.now s.2.tm/\V.cell? Bw=some (.pointer (some ⟨mb,27,none⟩))/\V.cell? Bt=some (.int .u64 t)
def LU (lo:Pg.Lo) (mb pb t:Nat) (s:Nat×RSt) (f:Tn) (V V':World):Prop:=bW s.2.now t s.2.tm=true/\(srt (fun x:Tn=>x.t) s.2.tm).head?=some f/\MT V' lo mb pb (gE s.2 f)/\Rw lo V V'/\(Idl V mb->Idl V' mb)
def LR (lo:Pg.Lo) (mb pb t:Nat) (s:Nat×RSt) (V V':World):Prop:=bW s.2.now t s.2.tm=false/\MT V' lo mb pb { s.2 with now:=max t s.2.now }/\Rw lo V V'/\(Idl V mb->Idl V' mb)
def tnV (x:Tn):Array Value:=#[.agg #[x.ev,x.nm]]
end Pg
theorem Lb (n:Nat) (hn:1<=n) (w:World) (lo:Pg.Lo) (mb pb Bw Bt t:Nat) (ht:t<18446744073709551616) (hl:Pg.Lw lo) :
  KA Fence.wide n prog 112 #[Bw,Bt] Pg.tnV (fun s V=>Pg.Mu lo mb pb Bw Bt t s V/\∀ V':World,Below V.heap.size V V'->V'.cell? Bw=some (.pointer (some ⟨mb,27,none⟩))/\V'.cell? Bt=some (.int .u64 t)) (Pg.LU lo mb pb t) (Pg.LR lo mb pb t) (fun s s'=>s'.1=s.1+1) w:=by
 intro l J Jt Jx Je W _ _ hRd hTk hEn hY s hs;obtain ⟨μ,hμ⟩:=least J (fun s=>201-s.1);have HRd:Hid _:=hRd;have HTk:Hid _:=hTk;have HEn:Hid _:=hEn;have HY:Hid _:=hY;have HM:Hid _:=hμ;clear hRd hTk hEn hY hμ;refine Q6 func112 rfl trivial ?_ rfl;simp only [ntmps112,List.size_toArray,List.length_cons,List.length_nil,Nat.reduceAdd,Nat.reduceSub,Array.replicate_succ,Array.replicate_zero,List.push_toArray,List.append_toArray,List.nil_append,List.cons_append];gi_wp2
 gi_loopw [] (fun wr=>Hid (∃ s,J s wr)) (fun wr=>μ wr)
 case atStart=>exact ⟨s,hs⟩
 case round =>
  obtain ⟨s1,hs1⟩:=hrel.out;obtain ⟨_,⟨k,r⟩,hJ,hm⟩:=HM.out wr s1 hs1;obtain ⟨⟨hk,hMT,hTO,cw,ct⟩,hbc⟩:=HRd.out _ _ hJ;have HJ:Hid _:=hJ;have HMm:Hid _:=hm;dsimp only at hk hMT hTO;have HH:Hid _:=pZ wr lo mb pb r hl hMT hTO t;clear hs1 hrel hJ hm;cases hd:Pg.bW r.now t r.tm with
  | false =>
   rw [hd] at HH;have hle:=hMT.now;have HT:Hid (∀ V,Below wr wr V->() 114 #[.pointer (some ⟨mb,27,none⟩),.int .u64 (max (t:Int) (r.now:Int))] V fun e w'=>e = .returned (.tuple #[])/\Hid (Je w')):=fun V hV=>by
    rw [show max (t:Int) (r.now:Int)=((max t r.now:Nat):Int) by omega];refine M7 (CA V lo mb pb r hl (hMT.below hl hV) (max t r.now) zaa zaa (Pg.p5 hd)) ?_;rintro e w' ⟨rfl,h⟩;exact ⟨rfl,HEn.out (k,r) wr w' HJ.out ⟨hd,h.out.1,(Pg.RfE.of hV hMT.lo').trans h.out.2.1,fun hi=>h.out.2.2 (hi.bel hMT.lt hV)⟩⟩
   have HB:Hid (∀ V,Below wr wr V->V.cell? ⟨mb,27,none⟩=some (.int .u64 r.now)/\V.cell? Bw=some (.pointer (some ⟨mb,27,none⟩))/\V.cell? Bt=some (.int .u64 t)):=fun V hV=>by
    obtain ⟨qv,wh,a,b⟩:=(hMT.below hl hV).ex;exact ⟨a.cell 27 zac,hbc V hV⟩
   clear hMT hTO hd hbc;gi_wp2_with (refine ⟨trivial,?_⟩;gi_at_call 73;refine (Nz.2 HH.out).mono ?_;rintro e w1 ⟨rfl,hb1⟩;have hb1d:=hb1.drew;obtain ⟨c0,c1,c2⟩:=HB.out _ hb1d);refine aV mB 7 zab zab zab ?_;simp only [List.take_succ_cons,List.take_zero,List.drop_succ_cons,List.drop_zero]
   repeat still_step
   refine Ov ?_;gi_wp2_with (refine ⟨trivial,?_⟩;gi_at_call 114;refine (Nz.2 (HT.out _ hb1d)).mono ?_;rintro e w2 ⟨rfl,h2⟩);go_end0;exact ⟨⟨_,rfl⟩,.inl h2.out⟩
  | true =>
   rw [hd] at HH;obtain ⟨f,hf,_⟩:=Pg.zi hd;have HT:Hid (∀ V,Below wr wr V->() 113 #[.pointer (some ⟨mb,27,none⟩)] V fun e w'=>e = .returned (.agg #[f.ev,f.nm])/\YieldAt Fence.wide (n-1) prog l #[.agg #[f.ev,f.nm]] w' fun e V'=>(e = .returned true/\∃ s',s'.1=k+1/\J s' V')\/(e = .returned false/\Jx V')):=fun V hV=>by
    refine M7 (Cz V lo mb pb r hl (hMT.below hl hV) hTO f hf) ?_;rintro e w' ⟨rfl,h⟩;exact ⟨rfl,HY.out (k,r) f w' (HTk.out (k,r) f wr w' HJ.out ⟨hd,hf,h.out.1,(Pg.RfE.of hV hMT.lo').trans h.out.2.1,fun hi=>h.out.2.2 (hi.bel hMT.lt hV)⟩)⟩
   have HB:Hid (∀ V,Below wr wr V->V.cell? Bw=some (.pointer (some ⟨mb,27,none⟩))):=fun V hV=>(hbc V hV).1;clear hMT hTO hd hbc hf;gi_wp2_with (refine ⟨trivial,?_⟩;gi_at_call 73;refine (Nz.2 HH.out).mono ?_;rintro e w1 ⟨rfl,hb1⟩;have c1:=HB.out _ hb1);refine ⟨trivial,?_⟩
   gi_at_call 113
   refine (Nz.2 (HT.out _ hb1)).mono ?_;rintro e w2 ⟨rfl,hy0⟩;obtain ⟨fn,tmps,assign,body,hy,hR⟩:=hy0;gi_wp2;refine hR.mono ?_;rintro e W3 (⟨rfl,s',hs',hJ'⟩ | ⟨rfl,hJx⟩)
   ·gi_wp2
    go_roundw
    case rel=>exact ⟨s',hJ'⟩
    case measure =>
     have h1:=(HM.out W3 s' hJ').1;have h2:=HMm.out;omega
   ·gi_wp2;refine OI (N5 rfl _ _ _) rfl ?_;exact ⟨⟨_,rfl⟩,.inr hJx⟩
