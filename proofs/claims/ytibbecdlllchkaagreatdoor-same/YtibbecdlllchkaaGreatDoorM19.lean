import Derived.Test.YtibbecdlllchkaaGreatDoorM08
import Derived.Test.YtibbecdlllchkaaGreatDoorM18
set_option maxRecDepth 100000
set_option maxHeartbeats 8000000
namespace Go.Proofs.YtibbecdlllchkaaGreatDoor
variable {zp:Prop}
theorem zex(h:zp:=by
 go_quiet(fail)
 go_wp2;go_ret;exact⟨by rw[HD.out];rfl,RM hB _⟩):zp:=h
theorem zeC(h:zp:=by
 obtain⟨i,hi⟩:=P5.1 hx;exact(Pn.1 (hW.rgs.nds r hr i x hi)).1):zp:=h
theorem zfj(h:zp:=by
 have:¬place t x.t=q:=zaa;simp[this]):zp:=h
theorem zaJ(h:zp:=by first|exact XM|exact XM.alloc XM.size _):zp:=h
theorem zbz(h:zp:=by first|exact HS.out _ (hBd1 _)|exact HS.out _ (XM.alloc XM.size _)|exact(HS3.out _ w3 XM hE.out).2.1 _):zp:=h
theorem zcd(h:zp:=by first|exact VL.trans V6|exact(hBd1 _).trans (V6.mono (UO (hsd _)))):zp:=h
theorem zcn(h:zp:=by rcases h with h|h|h<;>exact absurd h (by decide)):zp:=h
open Tryz
variable {R:Nat->List Y.Nd}{t q Bs now:Nat}{xs:List Y.Nd}{y:Y.Nd}{W w0 a:World}{wh:Nat->Value}{qv:Value}{s:Y.MSt}{rp:Option Addr}{hv:Nat->Nat}{E:TypeId->Prop}
section
open Go.RowKit Go.Proofs Go.Shelf
namespace Y
def fJ(R:Nat->List Nd)(r t:Nat)(xs:List Nd)(q:Nat):List Nd:=upd R r [] q++xs.filter (fun x=>place t x.2.t == q)
theorem Cc(R:Nat->List Nd)(r t:Nat)(xs:List Nd)(x:Nd)(q:Nat):fJ R r t (xs++[x]) q=upd (fJ R r t xs) (place t x.2.t) (fJ R r t xs (place t x.2.t)++[(x.1,x.2)]) q:=by
 by_cases e:q=place t x.2.t
 ·subst e;rw[aE];unfold fJ;rw[Re,Rn zad,Qd];rfl
 ·rw[aH _ _ e];unfold fJ;rw[Re,Rl (by simp;exact fun h=>e h.symm)];simp
theorem Ec{r:Nat}(h:y∈fJ R r t xs q):(q≠r/\y∈R q)\/y∈xs:=by
 rcases PQ.1 h with h|h
 ·by_cases e:q=r
  ·subst e;rw[aE]at h;cases h
  ·rw[aH _ _ e]at h;exact .inl ⟨e,h⟩
 ·exact .inr (Q2.1 h).1
structure RgD(lo:Y.Lo)(R:Nat->List Nd):Prop where
 low:∀r,isR r->∀x∈R r,lo.ok x.1
 dis:∀r q,isR r->isR q->r≠q->∀x∈R r,∀y∈R q,x.1≠y.1
 nod:∀r,isR r->((R r).map (·.1)).Nodup
theorem du.rgD{lo:Y.Lo}(h:du W lo wh R):RgD lo R:=⟨h.low,h.dis,h.nod⟩
structure TuI(w0:World)(lo:Y.Lo)(mb pb:Nat)(qv:Value)(s:MSt)(R:Nat->List Nd)(r:Nat)(xs:List Nd)(V:World):Prop where
 pre:xs=(R r).take xs.length
 ex:∃wh',aw V lo mb pb qv { s with wh:=wh' }/\WhM V lo { s with wh:=wh' } (fJ R r s.now xs)
 rest:∀i x,xs.length<=i->(R r)[i]?=some x->V.heap[x.1]?=some (.cells (eU x.2 (nxt (R r) i)) 302 (0,0))
 rf:Rw lo w0 V
theorem TuI.gr{V V':World}{row:Option Nat}{lo:Y.Lo}{mb pb:Nat}{r:Nat}(h:TuI w0 lo mb pb qv s R r xs V)(hl:lo<=w0.heap.size)(hg:V.grownBy V' row)(hr:∀j,row=some j->w0.heap.size<=j/\∃o:Obj,V.heap[j]?=some o/\o.isCells=false):TuI w0 lo mb pb qv s R r xs V':=by
 obtain⟨wh',a,b⟩:=h.ex;have hr':∀j,row=some j->∃o:Obj,V.heap[j]?=some o/\o.isCells=false:=fun j e=>(hr j e).2;refine⟨h.pre,⟨wh',a.gr hg hr',b.kd (E:=fun _=>False) (iJ hg hr') (fun h=>h)⟩,fun i x hi hx=>?_,h.rf.gr hl hg hr⟩;have hx':=h.rest i x hi hx;exact(iJ (E:=fun _=>False) hg hr').aq _ _ _ _ hx' (fun h=>h) |>.trans hx'
theorem TuI.far{V:World}{lo:Y.Lo}{mb pb:Nat}{r:Nat}(h:TuI w0 lo mb pb qv s R r xs V)(hD:RgD lo R)(hr:isR r){i:Nat}(hi:xs.length<=i)(hy:(R r)[i]?=some y):∀q,isR q->∀z∈fJ R r s.now xs q,z.1≠y.1:=fun q hq z hz=>by
 rcases Ec hz with⟨e,hz⟩|hz
 ·exact hD.dis q r hq hr e z hz y (PD hy)
 ·rw[h.pre]at hz;exact mS (hD.nod r hr) hi hy z hz
theorem TuI.step{V V':World}{lo:Y.Lo}{mb pb:Nat}{r:Nat}{x:Nd}(h:TuI w0 lo mb pb qv s R r xs V)(hD:RgD lo R)(hr:isR r)(hx:(R r)[xs.length]?=some x)
  (h1:∃wh',aw V' lo mb pb qv { s with wh:=wh' }/\WhM V' lo { s with wh:=wh' } (upd (fJ R r s.now xs) (place s.now x.2.t) (fJ R r s.now xs (place s.now x.2.t)++[(x.1,x.2)]))) (h2:Rw lo V V') (h3:Mo (fun k=>k=mb\/k=x.1\/∃q,isR q/\∃y∈fJ R r s.now xs q,k=y.1) V V'):TuI w0 lo mb pb qv s R r (xs++[x]) V':=by
 obtain⟨wh',a,b⟩:=h1;obtain⟨wh0,a0,_⟩:=h.ex;refine⟨?_,⟨wh',a,b.congr (fun q _=>Cc R r s.now xs x q)⟩,fun i y hi hy=>?_,h.rf.trans h2⟩
 ·rw[PI,Q6,<- dM hx]
  conv=>lhs;rw[h.pre]
 ·have XJ:xs.length+1<=i:=by rw[PI,Q6]at hi;exact hi
  have hy0:=h.rest i y zaa hy;refine(h3.block y.1 (Pn.1 hy0).1 ?_).trans hy0;rintro(e|e|⟨q,hq,z,hz,e⟩)
  ·exact a0.typ hy0 e.symm
  ·have hxm:x∈(R r).take (xs.length+1):=by rw[<- dM hx];simp
   exact mS (hD.nod r hr) XJ hy x hxm e.symm
  ·exact h.far hD hr zaa hy q hq z hz e.symm
theorem TuI.rd{V:World}{lo:Y.Lo}{mb pb:Nat}{r:Nat}(h:TuI w0 lo mb pb qv s R r xs V)(ht:∀x∈R r,isR (place s.now x.2.t))(hb:V.cell? Bs=some (aN (R r))):RdN Bs (R r) xs.length V:=by
 obtain⟨wh',a,b⟩:=h.ex;refine⟨hb,fun x hx=>?_,fun x hx=>?_,fun h0 z hz=>?_⟩
 ·obtain⟨i,hi⟩:=P5.1 hx
  rcases Rr i xs.length with WU|WU
  ·have hxx:x∈xs:=by
    rw[h.pre];exact PD (by rw[QK WU];exact hi)
   have hm:x∈fJ R r s.now xs (place s.now x.2.t):=PQ.2 (.inr (Q2.2 ⟨hxx,zad⟩));obtain⟨j,hj⟩:=P5.1 hm;exact⟨_,b.rgs.nds _ (ht x hx) j x hj⟩
  ·exact⟨_,h.rest i x WU hi⟩
 ·rw[Pt V _ _ _ _ _ (h.rest _ x (Po _) hx)];rfl
 ·have Xa:(R r)[(R r).length-1]?=some z:=zaA;rw[Pt V _ _ _ _ _ (h.rest _ z zaa Xa)];rfl
theorem Cb{T:List Tn}(Vr:now<18446744073709551616)(ht:t<18446744073709551616)(hle:now<=t)(hT:∀x∈T,t<=x.t/\x.t<18446744073709551616)(hR:∀r,isR r->(R r).map (·.2)=T.filter (fun x=>place now x.t == r))(hq:isR q):
  (fJ R (place now t) t (R (place now t)) q).map (·.2)=T.filter (fun x=>place t x.t == q):=by
 have hr:=gD now t;have hup:∀x∈T,place now t<=place now x.t:=fun x hx=>ue Vr ht (hT x hx).2 hle (hT x hx).1;have hst:∀x∈T,place now x.t≠place now t->place t x.t=place now x.t:=fun x hx h=>DO Vr ht (hT x hx).2 hle (hT x hx).1 h;have hdn:∀x∈T,place now x.t=place now t->place now t≠390->place t x.t<=place now t:=fun x hx h h'=>DN Vr ht (hT x hx).2 hle (hT x hx).1 h h';unfold fJ;rw[Qj];have e2:((R (place now t)).filter (fun x=>place t x.2.t == q)).map (·.2)=(T.filter (fun x=>place now x.t == place now t)).filter (fun x=>place t x.t == q):=by
  rw[<- hR _ hr,Tz];rfl
 rw[e2,S3];generalize place now t=r at *
 rcases Th q r with h|h|h
 ·have e1:(upd R r [] q).map (·.2)=[]:=by
   rw[aH _ _ zaa,hR q hq];refine RX.2 fun x hx=>?_;have:=hup x hx;simp;omega
  rw[e1,R6];refine RY fun x hx=>?_;by_cases e:place now x.t=r
  ·simp[e]
  ·have h1:=hst x hx e;have h2:=hup x hx;exact zfj
 ·subst h;rw[aE,List.map_nil,R6];refine RY fun x hx=>?_;by_cases e:place now x.t=q
  ·simp[e]
  ·have h1:=hst x hx e;exact zfj
 ·have U9:r≠390:=by have:=hq.lt;omega
  have e1:T.filter (fun x=>(place t x.t == q)&&(place now x.t == r))=[]:=by
   refine RX.2 fun x hx=>?_;by_cases e:place now x.t=r
   ·have:=hdn x hx e U9;exact zfj
   ·simp[e]
  rw[e1,Rb,aH _ _ zaa,hR q hq];refine RY fun x hx=>?_;by_cases e:place now x.t=r
  ·have:=hdn x hx e U9;have h1:¬place t x.t=q:=zaa;have h2:¬r=q:=zaa;rw[e,Rx.2 h2,Rx.2 h1]
  ·rw[hst x hx e]
end Y
attribute [local go_sem] Qu
theorem FV(w:World)(lo:Y.Lo)(mb pb:Nat)(qv:Value)(s:Y.MSt)(R:Nat->List Y.Nd)(t:Nat)(hM:Y.aw w lo mb pb qv s)(hW:Y.WhM w lo s R)(Vb:lo<=w.heap.size):
  () 187 #[(mb,27),.int .i64 (Y.aP s.now t:Nat),.int .i64 (Y.gF s.now t:Nat)] w fun e w'=>e=.returned (.agg #[Y.aN (R (Y.place s.now t))])/\Hid (Y.Emp w w w' lo mb pb qv s R (Y.place s.now t)):=by
 have h6:=Y.fs s.now t;have hs:=Y.fR s.now t;unfold Y.place;by_cases h:Y.aP s.now t=6
 ·rw[PC h,h];exact CQ w lo mb pb qv s R _ hM hW Vb
 ·rw[Pu h];exact CR w lo mb pb qv s R _ _ hM hW Vb zaa hs
namespace Y
structure TuJ(w:World)(lo:Y.Lo)(mb pb:Nat)(qv:Value)(s:MSt)(R:Nat->List Nd)(r:Nat)(rp:Option Addr)(Bs:Nat)(V:World):Prop where
 ex:∃wh',aw V lo mb pb qv { s with wh:=wh' }/\WhM V lo { s with wh:=wh' } (upd R r [])
 rf:Rw lo w V
 nds:cV V (R r)
 bx:Boxed V w 296 (mb,27)
 rg:Boxed V Bs 172 (.pointer rp)
 lt:w.heap.size<Bs
theorem TuJ.of{w w2 w3:World}{lo:Y.Lo}{mb pb:Nat}{r:Nat}(hM:aw w lo mb pb qv s)(hn:cV w (R r))(Vb:lo<=w.heap.size)(hb:Below w w w2)(bx:Boxed w2 w 296 (mb,27))(hE:Emp w2 w2 w3 lo mb pb qv s R r):Rw lo w w3/\cV w3 (R r)/\Boxed w3 w 296 (mb,27):=by
 have Wk:=hM.lt;refine⟨(RfE.of hb Vb).trans hE.rf,fun i x hx=>?_,?_⟩
 ·have h0:=hn i x hx;have hl:=(Pn.1 h0).1;exact(hE.mo.block x.1 (PY hl hb.size) (fun e=>hM.typ h0 e.symm)).trans ((hb.block x.1 hl).trans h0)
 ·exact(hE.mo.block _ bx.lt zaa).trans bx
theorem TuJ.new{w w2 w3:World}{lo:Y.Lo}{mb pb:Nat}{r:Nat}(hM:aw w lo mb pb qv s)(hn:cV w (R r))(Vb:lo<=w.heap.size)(hb:Below w w w2)(bx:Boxed w2 w 296 (mb,27))(hE:Emp w2 w2 w3 lo mb pb qv s R r):TuJ w lo mb pb qv s R r rp w3 (w3.alloc (.cells #[.pointer rp] 172)):=by
 obtain⟨a,b,c⟩:=TuJ.of hM hn Vb hb bx hE;obtain⟨wh',a1,a2⟩:=hE.ex;have hB:Below w3 w3 (w3.alloc (.cells #[.pointer rp] 172)):=(Pq _ w3).alloc (Po _) _;refine⟨⟨wh',a1.below hB,a2.rgs.below hB,a2.held⟩,a.trans (RfE.of hB (Pr Vb a.bel.size)),fun i x hx=>?_,aD c hB c.lt,P9 _ _ _,c.lt⟩;have h0:=b i x hx;exact(hB.block x.1 (Pn.1 h0).1).trans h0
theorem TuJ.old{w w2 w3:World}{lo:Y.Lo}{mb pb:Nat}{r:Nat}(hM:aw w lo mb pb qv s)(hn:cV w (R r))(Vb:lo<=w.heap.size)(hb:Below w w w2)(bx:Boxed w2 w 296 (mb,27))(hE:Emp w2 w2 w3 lo mb pb qv s R r)(Xy:w.heap.size<Bs)(hq:w3.heap[Bs]?=some (.cells #[.pointer none] 172 (0,0))):TuJ w lo mb pb qv s R r rp Bs (w3.setCell Bs (.pointer rp)):=by
 obtain⟨a,b,c⟩:=TuJ.of hM hn Vb hb bx hE;have hE2:Emp w w2 w3 lo mb pb qv s R r:=⟨hE.ex,a,hE.mo⟩;have h3:=hE2.box (u:=.pointer rp) Vb hq zaa (.inr trivial) hb;refine⟨h3.ex,h3.rf,fun i x hx=>?_,bD c (p:=Bs) (by show w.heap.size≠Bs;omega) _,PR w3 Bs 0 _ _ _ hq,Xy⟩;have h0:=hn i x hx;exact(h3.mo.block x.1 (Pn.1 h0).1 (fun e=>hM.typ h0 e.symm)).trans h0
theorem aw.Og{lo:Y.Lo}{mb pb:Nat}(h:aw W lo mb pb qv s)(t:Nat):aw (W.setCell (mb,27) (.int .u64 t)) lo mb pb qv { s with now:=t }:=
 h.set 27 _ _ zaa rfl fun j hj=>by
  by_cases e:j=27
  ·subst e;rw[PC rfl];rfl
  ·rw[Pu e];unfold fF;dsimp only;by_cases e0:j=0
   ·rw[PC e0,PC e0]
   ·rw[Pu e0,Pu e0,Pu e,Pu e]
theorem TuJ.start{w V:World}{lo:Y.Lo}{mb pb:Nat}{r:Nat}(h:TuJ w lo mb pb qv s R r rp Bs V)(Vb:lo<=w.heap.size)(Wk:mb<w.heap.size)(t:Nat)(o:Obj):TuI w lo mb pb qv { s with now:=t } R r [] ((V.setCell (mb,27) (.int .u64 t)).alloc o)/\Boxed ((V.setCell (mb,27) (.int .u64 t)).alloc o) w.heap.size 296 (mb,27):=by
 obtain⟨wh',a,b⟩:=h.ex;have hm:Mo (·=mb) V (V.setCell (mb,27) (.int .u64 t)):=(Mo.refl _ _).set _ _ rfl;have hlV:=Pr Vb h.rf.bel.size;have hR:Rm lo V (V.setCell (mb,27) (.int .u64 t)):=RfE.mo hm (fun j hj=>by
  obtain⟨arr,a1,_⟩:=a.blk;subst hj;exact⟨a.lo',arr,_,_,a1,rfl⟩) hlV
 have hB:Below (V.setCell (mb,27) (.int .u64 t)).heap.size (V.setCell (mb,27) (.int .u64 t)) ((V.setCell (mb,27) (.int .u64 t)).alloc o):=(Pq _ _).alloc (Po _) _;have b2:WhM (V.setCell (mb,27) (.int .u64 t)) lo { s with now:=t,wh:=wh' } (upd R r []):=⟨b.rgs.kd hR.kd (by unfold Md;decide),b.held⟩;refine⟨⟨zad,⟨wh',(a.Og t).below hB,(WhM.congr ⟨b2.rgs.below hB,b2.held⟩ (fun q _=>by unfold fJ;simp))⟩,fun i x _ hx=>?_,h.rf.trans ((Kg hR).trans (RfE.of hB (by simp;exact hlV)))⟩,(bD h.bx (p:=⟨mb,27,none⟩) (by show w.heap.size≠mb;omega) _).alloc _⟩;have h0:=h.nds i x hx;have hl:=(Pn.1 h0).1;exact(hB.block x.1 (by simp;exact hl)).trans ((hm.block x.1 hl (fun e=>a.typ h0 e.symm)).trans h0)
end Y
theorem Hr(w:World)(lo:Y.Lo)(mb pb:Nat)(qv:Value)(s:Y.MSt)(R:Nat->List Y.Nd)(t:Nat)(hM:Y.aw w lo mb pb qv s)(hW:Y.WhM w lo s R)(Vb:lo<=w.heap.size)(Vr:s.now<18446744073709551616)(ht:t<18446744073709551616)(hRt:∀r,Y.isR r->∀x∈R r,x.2.t<18446744073709551616):
  () 128 #[(mb,27),.int .u64 t] w fun e w'=>e=.returned (.tuple #[])/\Hid (∃wh',Y.aw w' lo mb pb qv { s with now:=t,wh:=wh' }/\Y.WhM w' lo { s with now:=t,wh:=wh' } (Y.fJ R (Y.place s.now t) t (R (Y.place s.now t)))/\Y.Rw lo w w'):=by
 have hr:=Y.gD s.now t;have hn:=hW.rgs.nds _ hr;have hD:=hW.rgs.rgD;have Wk:=hM.lt;obtain⟨rp,VY⟩:∃rp,Y.aN (R (Y.place s.now t))=.pointer rp:=by
  unfold Y.aN;cases(R (Y.place s.now t)).getLast? with
  |none=>exact⟨_,rfl⟩
  |some z=>exact⟨_,rfl⟩
 have WS:=fun V=>nH (Y.aN (R (Y.place s.now t))) V (Y.pW _);rw[VY]at WS;refine(P8 (n:=7)).1 ?_;refine Qv func128 rfl trivial ?_ rfl;simp only[ntmps128,List.size_toArray,List.length_cons,List.length_nil,Nat.reduceAdd,Nat.reduceSub,Array.replicate_succ,Array.replicate_zero,List.push_toArray,List.append_toArray,List.nil_append,List.cons_append];gi_wp2;have bx1:=P9 w 296 (mb,27);have Vh:Below w w (w.alloc (.cells #[(mb,27)] 296)):=(Pq _ w).alloc (Po _) _;have WR:(w.alloc (.cells #[(mb,27)] 296)).heap.size=w.heap.size+1:=zad;generalize w.alloc (.cells #[(mb,27)] 296)=W1 at *;have Vg:∀V,Below W1 W1 V->Below w w V/\Boxed V w 296 (mb,27):=fun V hV=>⟨Vh.trans (hV.mono Vh.size),aD bx1 hV bx1.lt⟩;obtain⟨r,hre⟩:∃r,Y.place s.now t=r:=⟨_,rfl⟩;have HSP:Hid (∀V,Below W1 W1 V->() 185 #[(mb,27),.int .u64 t] V fun e w'=>e=.returned (.tuple #[.int .i64 ((Y.aP s.now t:Nat):Int),.int .i64 ((Y.gF s.now t:Nat):Int)])/\Below V.heap.size V w'):=fun V hV=>qb V mb 27 s.now t Vr ht ((hM.below (Vg V hV).1).cell 27 zac);have HEM:Hid (∀V,Below W1 W1 V->() 187 #[(mb,27),.int .i64 ((Y.aP s.now t:Nat):Int),.int .i64 ((Y.gF s.now t:Nat):Int)] V fun e w'=>e=.returned (.agg #[.pointer rp])/\Hid (Y.Emp V V w' lo mb pb qv s R r)):=fun V hV=>by
  have h:=FV V lo mb pb qv s R t (hM.below (Vg V hV).1) ⟨hW.rgs.below (Vg V hV).1,hW.held⟩ (Pr Vb (Vg V hV).1.size);rw[VY,hre]at h;exact h
 rw[hre]at VY hn hr;have HS:Hid (∀V,Below W1 W1 V->V.cell? w=some ↑(mb,27)):=fun V hV=>(Vg V hV).2.cell;have HS3:Hid (∀V w',Below W1 W1 V->Y.Emp V V w' lo mb pb qv s R r->w'.cell? w=some ↑(mb,27)/\(∀o,(w'.alloc o).cell? w=some ↑(mb,27))/\∀Bs u,w.heap.size<Bs->(w'.setCell ⟨Bs,0,none⟩ u).cell? w=some ↑(mb,27)):=fun V w' hV hE=>by
  have c:=(Y.TuJ.of hM hn Vb (Vg V hV).1 (Vg V hV).2 hE).2.2;exact⟨c.cell,fun o=>(c.alloc o).cell,fun Bs u h=>(bD c (p:=⟨Bs,0,none⟩) (by show w.heap.size≠Bs;omega) u).cell⟩
 have HQ:Hid (∀V w' Bs,Y.Emp V V w' lo mb pb qv s R r->V.heap[Bs]?=some (.cells #[.pointer none] 172 (0,0))->w.heap.size<Bs->w'.heap[Bs]?=some (.cells #[.pointer none] 172 (0,0))):=fun V w' Bs hE hq h=>(hE.mo.block Bs (Pn.1 hq).1 zaa).trans hq;have HF1:Hid (∀V w',Below W1 W1 V->Y.Emp V V w' lo mb pb qv s R r->Y.TuJ w lo mb pb qv s R r rp w'.heap.size (w'.alloc (.cells #[.pointer rp] 172))):=fun V w' hV hE=>Y.TuJ.new hM hn Vb (Vg V hV).1 (Vg V hV).2 hE;have HF2:Hid (∀V w' Bs,Below W1 W1 V->Y.Emp V V w' lo mb pb qv s R r->w.heap.size<Bs->w'.heap[Bs]?=some (.cells #[.pointer none] 172 (0,0))->Y.TuJ w lo mb pb qv s R r rp Bs (w'.setCell ⟨Bs,0,none⟩ (.pointer rp))):=fun V w' Bs hV hE hB hq=>Y.TuJ.old hM hn Vb (Vg V hV).1 (Vg V hV).2 hE hB hq;have VL:Below W1 W1 W1.drew:=(Pq _ W1).drew;have hBd1:∀o:Obj,Below W1 W1 (W1.alloc o).drew:=fun o=>((Pq _ W1).alloc (Po _) _).drew;have hg1:∀o:Obj,(W1.alloc o).drew.heap[W1.heap.size]?=some o:=fun o=>PG W1 o;have hsd:∀o:Obj,W1.heap.size<(W1.alloc o).drew.heap.size:=fun o=>by show W1.heap.size<(W1.alloc o).heap.size;simp
 generalize hkk:Y.aP s.now t=kk at HSP HEM;generalize hss:Y.gF s.now t=ss at HSP HEM;have HKS:Hid (Y.aP s.now t=kk/\Y.gF s.now t=ss):=⟨hkk,hss⟩;have HRE:Hid _:=hre;have HRV:Hid _:=VY;have HM:Hid _:=hM;have HW:Hid _:=hW;have HN:Hid _:=hn;have HD:Hid _:=hD;clear hkk hss hM hW hn hD Vg VY hre;have Yy:=bx1.cell;refine wpIn_mono (Q:=pQ (fun _ a' V=>∃Bs,a'={ tmps:=#[.pointer (some ⟨mb,27,none⟩),.int .u64 t,.pointer (some ⟨w.heap.size,0,none⟩),undef,.pointer (some ⟨Bs,0,none⟩),undef,.pointer (some ⟨mb,27,none⟩),.pointer (some ⟨mb,27,none⟩),.int .u64 t,.tuple #[.int .i64 kk,.int .i64 ss],.int .i64 kk,.int .i64 ss,.agg #[.pointer rp],undef,undef,undef,undef,undef,undef,undef,undef,undef,undef],defers:=[] }/\Y.TuJ w lo mb pb qv s R r rp Bs V)) (UG.2 ?reg) ?rest
 case reg=>
  refine PJ (S:=(fun V=>V.cell? w=some (.pointer (some ⟨mb,27,none⟩)))) zab Yy (fun Pm=>?_);refine tD (some 6) 0 (mb,27) rfl Pm ?_;refine tD (some 7) 1 (mb,27) rfl Pm ?_;refine tD (some 8) 2 (.int .u64 t) rfl Pm ?_;refine yH [3,7] ?_;refine Qk rfl (fun K hK=>?rg1) (Qk rfl (fun K hK=>?rg2) QX)
  case' rg1=>
   go_simp;refine(HSP.out _ zbd).mono ?_;rintro e w2 ⟨rfl,V6⟩;have XM:Below W1 W1 w2:=zcd;refine hK.out _ _ (HS.out w2 XM) (fun Pm=>?_);clear hK K;refine tD (some 10) 4 (.int .i64 kk) rfl Pm ?_;refine tD (some 11) 5 (.int .i64 ss) rfl Pm ?_;refine yH [6,7] ?_;refine Qk rfl (fun K hK=>?rg3) (Qk rfl (fun K hK=>?rg4) QX)
   case' rg3=>
    go_simp;refine(HEM.out _ zaJ).mono ?_;rintro e w3 ⟨rfl,hE⟩;refine hK.out _ _ (HS3.out _ w3 zaJ hE.out).1 (fun Pm=>?_);clear hK K;refine zH 7 rfl fun K hK=>?_;go_simp;refine hK.out _ _ zbz (fun Pm=>?_);clear hK K;refine zH 8 rfl fun K hK=>?_;go_simp;refine hK.out _ _ ((HS3.out _ w3 XM hE.out).2.1 _) (fun Pm=>?_);clear hK K Pm;refine PX zab ?_ _;exact⟨_,rfl,HF1.out _ _ XM hE.out⟩
   case' rg4=>
    go_simp;refine hK.out _ _ zbz (fun Pm=>?_);clear hK K;refine zH 6 rfl fun K hK=>?_;go_simp;refine(HEM.out _ zaJ).mono ?_;rintro e w3 ⟨rfl,hE⟩;refine hK.out _ _ (HS3.out _ w3 zaJ hE.out).1 (fun Pm=>?_);clear hK K;refine zH 8 rfl fun K hK=>?_;have q0:=HQ.out _ _ _ hE.out (PG w2 _) (by have:=XM.size;omega);have k0:=Pt w3 _ 0 _ _ _ q0;have z0:w3.frozen? w2=false:=zbj;have hlB:w.heap.size<w2.heap.size:=by have:=XM.size;omega
    go_simp;refine hK.out _ _ ((HS3.out _ w3 (XM.alloc XM.size _) hE.out).2.2 _ _ hlB) (fun Pm=>?_);clear hK K Pm;refine PX zab ?_ _;exact⟨_,rfl,HF2.out _ _ _ (XM.alloc XM.size _) hE.out hlB q0⟩
  case' rg2=>
   go_simp;refine hK.out _ _ zbz (fun Pm=>?_);clear hK K;refine zH 3 rfl fun K hK=>?_;go_simp;refine(HSP.out _ zbd).mono ?_;rintro e w2 ⟨rfl,V6⟩;have XM:Below W1 W1 w2:=zcd;refine hK.out _ _ (HS.out w2 XM) (fun Pm=>?_);clear hK K;refine tD (some 10) 4 (.int .i64 kk) rfl Pm ?_;refine tD (some 11) 5 (.int .i64 ss) rfl Pm ?_;refine zH 6 rfl fun K hK=>?_;go_simp;refine(HEM.out _ zaJ).mono ?_;rintro e w3 ⟨rfl,hE⟩;refine hK.out _ _ (HS3.out _ w3 zaJ hE.out).1 (fun Pm=>?_);clear hK K;refine zH 8 rfl fun K hK=>?_;have hlB:w.heap.size<w.heap.size+1:=UI _;have q0:w3.heap[w.heap.size+1]?=some (.cells #[.pointer none] 172 (0,0)):=by
    rw[<- WR];exact HQ.out _ _ W1 hE.out ((V6.block _ (hsd _)).trans (hg1 _)) zaa
   have k0:=Pt w3 _ 0 _ _ _ q0;have z0:w3.frozen? ↑(w.heap.size+1)=false:=zbj;go_simp;refine hK.out _ _ ((HS3.out _ w3 XM hE.out).2.2 _ _ hlB) (fun Pm=>?_);clear hK K Pm;refine PX zab ?_ _;exact⟨_,rfl,HF2.out _ _ _ XM hE.out hlB q0⟩
 case rest=>
  rintro e a' V h;cases e with
  |normal=>
   obtain⟨Bs,rfl,hJ⟩:=h;have HR:Hid _:=hJ.ex;obtain⟨wh',a,b⟩:=HR.out;have c0:=hJ.bx.cell;have c27:V.cell? (mb,27)=some (.int .u64 s.now):=a.cell 27 zac;have f27:V.frozen? (mb,27)=false:=a.frozen 27;have hBm:Bs≠mb:=by have:=hJ.lt;omega
   have YE:=bD hJ.rg (p:=⟨mb,27,none⟩) hBm (.int .u64 t);have hrc:=YE.cell;obtain⟨hT0,y0⟩:=hJ.start Vb Wk t (.cells #[.pointer rp] 172);have y1:=P9 (V.setCell (mb,27) (.int .u64 t)) 172 (.pointer rp);have hsV:(V.setCell (mb,27) (.int .u64 t)).heap.size=V.heap.size:=zad;rw[hsV]at y1;have hlV:w.heap.size<V.heap.size:=hJ.bx.lt;have Y2:((V.setCell (mb,27) (.int .u64 t)).alloc (.cells #[.pointer rp] 172)).heap.size=V.heap.size+1:=zad;clear a b HR hJ YE;gi_wp2_with(refine⟨trivial,?_⟩;gi_at_call 188;refine(P8.2 (WS _)).mono ?_;rintro e w9 ⟨rfl,U1⟩;rw[U1];clear U1 w9);generalize(V.setCell (mb,27) (.int .u64 t)).alloc (.cells #[.pointer rp] 172)=W0 at *;have Vi:=HD.out.nod r hr;refine uj rfl zaa (gf:=228) rfl trivial (RT func228 zab rfl)
    (Bg 6 zaa V.heap.size (R r) Vi W0) (fun _ _=>trivial) (fun _ _ _ _ _=>trivial) (fun _=>rfl)
    (fun xs U=>Y.TuI w lo mb pb qv { s with now:=t } R r xs U/\(Boxed U w 296 (mb,27)/\Boxed U V 172 (.pointer rp)))
    (Qi (fun xs A C row h hg hrw=>h.gr Vb hg (fun j e=>⟨by have:=(hrw j e).1;omega,(hrw j e).2⟩)) (Qi (QU (QM _ _ _) _) (QU (QM _ _ _) _)))
    (fun xs U hI=>hI.1.rd (fun _ _=>Y.gD _ _) (by rw[HRV.out];exact hI.2.2.cell)) ⟨hT0,y0,y1⟩
    (fun x a' _=>a'={ tmps:=#[(mb,27),.int .u64 t,w,undef,Bs,.pointer (some ⟨x.1,0,none⟩),(mb,27),(mb,27),.int .u64 t,.tuple #[(kk:Int),(ss:Int)],(kk:Int),(ss:Int),.agg #[.pointer rp],(mb,27),.int .u64 t,(mb,27),(mb,27),.agg #[.pointer rp],.func (.func 228) #[] #[V],.pointer (some ⟨x.1,0,none⟩),undef,undef,undef],defers:=[] }) (fun _ _ _ _ _ _ hs _ _=>hs) ?assign ?body ?done
   case assign=>
    intro l xs x U K hI hK;exact zfg
   case body=>
    rintro l xs x a' U hl _ ⟨hx,WE⟩ ⟨hT,z0,z1⟩ rfl;obtain⟨wh2,a2,b2⟩:=hT.ex;have hput:=J5 U lo mb pb qv _ _ x.1 x.2 _ a2 b2 (Pr Vb hT.rf.bel.size) ht (hRt r hr x (PD hx)) (hT.rest _ x (Po _) hx) (hT.far HD.out hr (Po _) hx) (HD.out.low r hr x (PD hx));have hput2:=Pw hput (R':=fun e w'=>e=.returned (.tuple #[])/\Hid (KeepsFrom W0 U w'/\True/\Y.TuI w lo mb pb qv { s with now:=t } R r (xs++[x]) w'/\(Boxed w' w 296 (mb,27)/\Boxed w' V 172 (.pointer rp)))) (by
     rintro e w' ⟨rfl,wh3,a3,b3,c3,d3⟩;exact⟨rfl,c3.oth.from _,trivial,hT.step HD.out hr hx ⟨wh3,a3,b3⟩ c3 d3,c3.kd.boxed z0 zaw,c3.kd.boxed z1 zaw⟩)
    have q0:=z0.cell;clear hput a2 b2;gi_wp2_with(refine⟨trivial,?_⟩;gi_at_call 189;refine(aI hput2).mono ?_;intro e w8 h8;obtain⟨rfl,h8⟩:=h8);exact h8.out
   case done=>
    rintro D xs U hD hS ⟨hT,_⟩ Vm;subst hS;gi_wp2;refine⟨zad,.inl ⟨_,_,rfl,Qn Vm,?_⟩⟩;have hT2:=hT.gr Vb (Q4 U D (.deferred none)) (fun j e=>zaK);obtain⟨wh4,a4,b4⟩:=hT2.ex;refine⟨_,QD rfl _ _ _,rfl,wh4,a4,?_,hT2.rf⟩;rw[HRE.out];exact b4
  |_=>exact h.elim
namespace Y
theorem ga.bound{T:List Tn}(hF:∀r,isR r->(R r).map (·.2)=T.filter (fun t=>place s.now t.t == r))(hb:∀t∈T,t.t<18446744073709551616):∀r,isR r->∀x∈R r,x.2.t<18446744073709551616:=fun r hr x hx=>by
 have:x.2∈(R r).map (·.2):=P0.2 ⟨x,hx,rfl⟩;rw[hF r hr]at this;exact hb _ (Q2.1 this).1
theorem sY{α:Type}(p:α->Bool):∀T:List α,(T.eraseP p).filter p=(T.filter p).tail
 |[]=>rfl
 |x::T=>by
  by_cases h:p x
  ·rw[List.eraseP_cons_of_pos h,Rn h];rfl
  ·rw[List.eraseP_cons_of_neg h,Rl h,Rl h];exact sY p T
theorem qU{α:Type}(p q:α->Bool)(h:∀x,p x=true->q x=false):∀T:List α,(T.eraseP p).filter q=T.filter q
 |[]=>rfl
 |x::T=>by
  by_cases hx:p x
  ·rw[List.eraseP_cons_of_pos hx,Rl (by rw[h x hx];simp)]
  ·rw[List.eraseP_cons_of_neg hx,Ts,Ts,qU p q h T]
theorem oO(ht:t<18446744073709551616):aP t t=0/\gF t t=t % 64/\place t t=t % 64:=by
 have h0:aP t t=0:=by
  have:=(bk ht ht (k:=0) zac).2 rfl;omega
 have h1:gF t t=t % 64:=by rw[fQ,h0];simp
 refine⟨h0,h1,?_⟩;unfold place;rw[Pu zaa,h0,h1];omega
theorem vF{x:Nat}(ht:t<18446744073709551616)(hx:x<18446744073709551616):place t x=place t t↔x=t:=by
 refine⟨fun h=>?_,fun h=>by rw[h]⟩;obtain⟨h0,h1,h2⟩:=oO ht;rw[h2]at h;have s1:=fR t x;have h6:=fs t x;unfold place at h;by_cases hk:aP t x=6
 ·rw[PC hk]at h;omega
 ·rw[Pu hk]at h;have hk0:aP t x=0:=zaa;have hd:=(bk ht hx (k:=0) zac).1 zaa;rw[hk0,fQ,hk0]at h;simp at h hd;omega
end Y
theorem xA(w:World)(lo:Y.Lo)(mb pb:Nat)(qv:Value)(s:Y.MSt)(T:List Y.Tn)(t:Nat)(hM:Y.aw w lo mb pb qv s)(hT:Y.ga w lo s T)(Vb:lo<=w.heap.size)(Vr:s.now<18446744073709551616)(ht:t<18446744073709551616)(hle:s.now<=t)(hTt:∀x∈T,t<=x.t):
  () 128 #[(mb,27),.int .u64 t] w fun e w'=>e=.returned (.tuple #[])/\Hid (∃wh',Y.aw w' lo mb pb qv { s with now:=t,wh:=wh' }/\Y.ga w' lo { s with now:=t,wh:=wh' } T/\Y.Rw lo w w'):=by
 obtain⟨R,hW,hF,hb⟩:=hT;refine Pw (Hr w lo mb pb qv s R t hM hW Vb Vr ht (Y.ga.bound hF hb)) ?_;rintro e w' ⟨rfl,h⟩;obtain⟨wh',a,b,c⟩:=h.out;exact⟨rfl,wh',a,⟨_,b,fun r hr=>Y.Cb Vr ht hle (fun x hx=>⟨hTt x hx,hb x hx⟩) hF hr,hb⟩,c⟩
theorem KA(w:World)(lo:Y.Lo)(mb pb:Nat)(qv:Value)(s:Y.MSt)(T:List Y.Tn)(f:Y.Tn)(m:List Y.Tn)(hM:Y.aw w lo mb pb qv s)(hT:Y.ga w lo s T)(Vb:lo<=w.heap.size)(Vr:s.now<18446744073709551616)(hf:T.filter (fun x=>x.t == s.now)=f::m):
  () 186 #[(mb,28),.int .i64 ((s.now % 64:Nat):Int)] w fun e w'=>∃b,e=.returned (Y.ndP b)/\Hid (∃wh',Y.aw w' lo mb pb qv { s with wh:=wh' }/\Y.ga w' lo { s with wh:=wh' } (T.eraseP (fun x=>x.t == s.now))/\Y.Rw lo w w'/\∃v,w'.heap[b]?=some (.cells (Y.eU f v) 302 (0,0))):=by
 obtain⟨R,hW,hF,hb⟩:=hT;obtain⟨h0,h1,h2⟩:=Y.oO Vr;have hr:Y.isR (s.now % 64):=.inl zaa;have hq:∀x∈T,(Y.place s.now x.t == s.now % 64)=(x.t == s.now):=fun x hx=>by
  have:=Y.vF Vr (hb x hx);rw[h2]at this;by_cases e:x.t=s.now
  ·rw[Us.2 (this.2 e),Us.2 e]
  ·rw[Rx.2 (fun h=>e (this.1 h)),Rx.2 e]
 have hRr:(R (s.now % 64)).map (·.2)=f::m:=by
  rw[hF _ hr,RY hq];exact hf
 obtain⟨nf,nm,hn,e1,e2⟩:∃nf nm,R (s.now % 64)=nf::nm/\nf.2=f/\nm.map (·.2)=m:=by
  cases hh:R (s.now % 64) with
  |nil=>rw[hh]at hRr;cases hRr
  |cons a l=>
   rw[hh,Q7]at hRr;injection hRr with p1 p2;exact⟨a,l,rfl,p1,p2⟩
 have hp:=KL w lo mb pb qv s R 0 (s.now % 64) nf nm hM hW Vb zac zaa (by rw[TF,Rz];exact hn);rw[TF,Rz,UM]at hp;refine Pw hp ?_;rintro e w' ⟨rfl,h⟩;obtain⟨wh',a,b,c,v,hv⟩:=h.out;rw[e1]at hv;refine⟨nf.1,rfl,wh',a,⟨_,b,fun r hr'=>?_,fun x hx=>hb x (S6 hx)⟩,c,v,hv⟩;by_cases er:r=s.now % 64
 ·subst er;rw[Y.aE,e2];have:m=(T.filter (fun x=>x.t == s.now)).tail:=by rw[hf];rfl
  rw[this,<- Y.sY];exact(RY fun x hx=>hq x (S6 hx)).symm
 ·rw[Y.aH _ _ er,hF r hr'];refine(Y.qU _ _ (fun x hx=>?_) T).symm;have ex:x.t=s.now:=by simpa using hx
  show(Y.place s.now x.t == r)=false;rw[ex,h2];exact Rx.2 (fun h=>er h.symm)
namespace Y
theorem AD{α β:Type}{f g:α->List β}(h:∀x,(f x).Sublist (g x)):∀l:List α,(l.flatMap f).Sublist (l.flatMap g)
 |[]=>List.Sublist.slnil
 |x::l=>by
  rw[QB,QB];exact(h x).append (AD h l)
theorem KY:xV.Pairwise (·<·):=zbx
theorem GV(hv:Nat->Nat):(gY hv).Sublist xV:=by
 unfold gY xV kW cn;refine List.Sublist.append (AD (fun k=>?_) _) (List.Sublist.refl _);unfold lS fh;exact List.filter_sublist.map _
theorem BC(hv:Nat->Nat):(gY hv).Pairwise (·<·):=KY.sublist (GV hv)
theorem xd{r:Nat}(h:r∈gY hv):isR r:=by
 rcases PQ.1 h with h|h
 ·obtain⟨k,hk,hr⟩:=Rv.1 h;obtain⟨j,hj,rfl⟩:=P0.1 hr;have h1:=QF.1 hk;have h2:=(gB.1 hj).1;exact .inl zaa
 ·exact .inr zaD
theorem Gs(hh:∀k,k<6->∀s,s<64->(hv k).testBit s=!(R (k*65+s)).isEmpty){r:Nat}(hr:isR r)(U9:R r≠[]):r∈gY hv:=by
 rcases hr with⟨h1,h2⟩|rfl
 ·refine PQ.2 (.inl (Rv.2 ⟨r / 65,QF.2 zaa,P0.2 ⟨r % 65,gB.2 ⟨zaa,?_⟩,zaa⟩⟩));rw[hh _ zaa _ zaa,show r / 65*65+r % 65=r by omega];cases e:R r with
  |nil=>exact absurd e U9
  |cons a l=>rfl
 ·exact PQ.2 (.inr zad)
theorem Az{β:Type}(p:Nat)(X:List β):∀l:List Nat,l.Pairwise (·<·)->(l.flatMap fun r=>if r=p then X else[])=if p∈l then X else[]
 |[],_=>by simp
 |x::l,h=>by
  have h1:=RF.1 h;rw[QB,Az p X l h1.2];by_cases e:x=p
  ·subst e;have:x ∉ l:=fun hx=>by have:=h1.1 x hx;omega
   simp[this]
  ·have e':¬p=x:=fun h=>e h.symm;simp[e,e']
theorem Iq{T:List Tn}(Vr:now<18446744073709551616)(hT:∀x∈T,now<=x.t/\x.t<18446744073709551616)(hF:∀r,isR r->(R r).map (·.2)=T.filter (fun x=>place now x.t == r))(hh:∀k,k<6->∀s,s<64->(hv k).testBit s=!(R (k*65+s)).isEmpty):(zV R hv).map (·.2)=srt (fun x:Tn=>x.t) T:=by
 have e1:(zV R hv).map (·.2)=(gY hv).flatMap (fun r=>srt (fun x:Tn=>x.t) (T.filter (fun x=>place now x.t == r))):=by
  unfold zV;rw[List.map_flatMap];have:∀l:List Nat,(∀r∈l,isR r)->(l.flatMap fun r=>(byT R r).map (·.2))=l.flatMap (fun r=>srt (fun x:Tn=>x.t) (T.filter (fun x=>place now x.t == r))):=fun l hl=>by
   induction l with
   |nil=>rfl
   |cons r l ih=>
    rw[QB,QB,ih (fun q hq=>hl q (P3 _ hq))]
    congr 1
    unfold byT;rw[Fa (fun y:Nd=>y.2) (fun x:Tn=>x.t),hF r (hl r (PZ ..))]
  exact this _ (fun r hr=>xd hr)
 rw[e1];refine D2 ?_ fun k=>?_
 ·refine List.pairwise_flatMap.2 ⟨fun r _=>qd _ _,(BC hv).imp fun{a b} hab x hx y hy=>?_⟩;have hx':=Q2.1 (lI.1 hx);have hy':=Q2.1 (lI.1 hy);have px:place now x.t=a:=by simpa using hx'.2
  have py:place now y.t=b:=by simpa using hy'.2
  rcases Nat.le_total x.t y.t with h|h
  ·exact h
  ·have:=ue Vr (hT y hy'.1).2 (hT x hx'.1).2 (hT y hy'.1).1 h;omega
 ·rw[List.filter_flatMap];have e2:((gY hv).flatMap fun r=>(srt (fun x:Tn=>x.t) (T.filter (fun x=>place now x.t == r))).filter (fun x=>x.t == k))=(gY hv).flatMap (fun r=>if r=place now k then T.filter (fun x=>x.t == k) else[]):=by
   congr 1
   funext r;rw[lT (fun x:Tn=>x.t) _ k,S3];by_cases e:r=place now k
   ·rw[PC e];refine RY fun x _=>?_;by_cases ex:x.t=k
    ·subst ex;simp[e]
    ·simp[ex]
   ·rw[Pu e];refine RX.2 fun x _=>?_;by_cases ex:x.t=k
    ·subst ex;have:¬place now x.t=r:=fun h=>e h.symm;simp[this]
    ·simp[ex]
  rw[e2,Az _ _ _ (BC hv)];by_cases hm:place now k∈gY hv
  ·rw[PC hm]
  ·rw[Pu hm]
   symm
   refine RX.2 fun x hx hxk=>?_;have ex:x.t=k:=by simpa using hxk
   refine hm (Gs hh (gD now k) (fun h=>?_));have:=hF _ (gD now k);rw[h]at this;have Vs:x∈T.filter (fun x=>place now x.t == place now k):=Q2.2 ⟨hx,by rw[ex];simp⟩;rw[<- this]at Vs;cases Vs
end Y
theorem nP:(Tryz.prog.info? 227).map (·.size)=some 2:=zab
theorem zm:Tryz.f127.results=#[.cell 2 227]:=rfl
namespace Y
def ic:Obj:=.cells #[.string ⟨#[]⟩,.string ⟨#[]⟩] 227
theorem yX:¬dc 227:=fun h=>zcn
theorem M4:¬eM 227:=fun h=>yX (h.elim .inl (fun h=>.inr (.inr h)))
theorem oI(W:World)(s:Nat)(cs:Array Value):Mo (·=s) W (W.setRow s cs):=⟨rfl,rfl,rfl,Nat.le_of_eq (TU W s cs).symm,fun k _ hk=>Sj W s k cs hk⟩
def Ng(mb:Nat)(x:Tn)(V:World):Prop:=() 129 #[(mb,27)] V fun e w'=>∃b,e=.returned (ndP b)/\w'.cell? ⟨b,0,none⟩=some (.int .u64 x.t)/\Below V V w'
def Hw(w:World)(lo:Y.Lo)(mb pb:Nat)(qv:Value)(s:MSt)(T:List Tn)(V:World):Prop:=∃wh',aw V lo mb pb qv { s with wh:=wh' }/\ga V lo { s with wh:=wh' } T/\Rw lo w V
end Y
theorem vL(w:World)(lo:Y.Lo)(mb pb:Nat)(qv:Value)(s:Y.MSt)(T:List Y.Tn)(f:Y.Tn)(m:List Y.Tn)(hM:Y.aw w lo mb pb qv s)(hT:Y.ga w lo s T)(Vb:lo<=w.heap.size)(Vr:s.now<18446744073709551616)(hle:s.now<=f.t)(XV:f.t<18446744073709551616)(hTt:∀x∈T,f.t<=x.t)(hf:T.filter (fun x=>x.t == f.t)=f::m)(hF:Y.Ng mb f (w.alloc Y.ic)):
  () 127 #[(mb,27)] w fun e w'=>e=.returned (.agg #[f.ev,f.nm])/\Hid (Y.Hw w lo mb pb qv { s with now:=f.t } (T.eraseP (fun x=>x.t == f.t)) w'):=by
 have Vh:Below w w (w.alloc Y.ic):=(Pq _ w).alloc (Po _) _;have Vk:(w.alloc Y.ic).heap[w.heap.size]?=some Y.ic:=PG _ _;have WR:(w.alloc Y.ic).heap.size=w.heap.size+1:=zad;obtain⟨k0,k1,_⟩:=Y.oO XV;generalize Vj:w.alloc Y.ic=W1 at *;have HFI:Hid _:=hF;have HTU:Hid (∀V,Below W1 W1 V->() 128 #[(mb,27),.int .u64 f.t] V fun e w'=>e=.returned (.tuple #[])/\w'.cell? ⟨mb,27,none⟩=some (.int .u64 f.t)/\Hid (Y.Hw w lo mb pb qv { s with now:=f.t } T w'/\w'.heap[w.heap.size]?=some Y.ic)):=fun V hV=>by
  have hV':Below w w V:=Vh.trans (hV.mono Vh.size);refine Pw (xA V lo mb pb qv s T f.t (hM.below hV') (hT.below hV') (Pr Vb hV'.size) Vr XV hle hTt) ?_;rintro e w' ⟨rfl,h⟩;obtain⟨wh',a,b,c⟩:=h.out;have hzV:V.heap[w.heap.size]?=some Y.ic:=(hV.block _ zaa).trans Vk;exact⟨rfl,a.cell 27 zac,⟨wh',a,b,(Y.RfE.of hV' Vb).trans c⟩,(c.kd.aq _ _ _ _ hzV Y.M4).trans hzV⟩
 have HSP:Hid (∀V,V.cell? ⟨mb,27,none⟩=some (.int .u64 f.t)->() 185 #[(mb,27),.int .u64 f.t] V fun e w'=>e=.returned (.tuple #[(0:Int),.int .i64 ((f.t % 64:Nat):Int)])/\Below V.heap.size V w'):=fun V hV=>by
  have h:=qb V mb 27 f.t f.t XV XV hV;rw[k0,k1]at h;exact h
 have HPO:Hid (∀V U,Hid (Y.Hw w lo mb pb qv { s with now:=f.t } T V/\V.heap[w.heap.size]?=some Y.ic)->Below V.heap.size V U->() 186 #[(mb,28),.int .i64 ((f.t % 64:Nat):Int)] U fun e w'=>∃b,e=.returned (Y.ndP b)/\w'.rangeAt b 1 [f.ev,f.nm]/\w'.heap[w.heap.size]?=some Y.ic/\Hid (∀cs,Y.Hw w lo mb pb qv { s with now:=f.t } (T.eraseP (fun x=>x.t == f.t)) (w'.setRow w cs))):=fun V U hV hU=>by
  obtain⟨⟨wh',a,b,c⟩,hz⟩:=hV.out;have hlU:=Pr Vb (Pr c.bel.size hU.size);refine Pw (KA U lo mb pb qv { s with now:=f.t,wh:=wh' } T f m (a.below hU) (b.below hU) hlU XV hf) ?_;rintro e w' ⟨nb,rfl,h⟩;obtain⟨wh2,a2,b2,c2,v,hv⟩:=h.out;have hzU:U.heap[w.heap.size]?=some Y.ic:=(hU.block _ (Pn.1 hz).1).trans hz;have Vl:w'.heap[w.heap.size]?=some Y.ic:=(c2.kd.aq _ _ _ _ hzU Y.M4).trans hzU;refine⟨nb,rfl,fun j u hj=>?_,Vl,fun cs=>?_⟩
  ·rw[Pt w' _ _ _ _ _ hv]
   match j,hj with
   |0,hj=>exact hj
   |1,hj=>exact hj
   |(n+2),hj=>simp at hj
  ·have hk:Kd (fun t=>¬Y.dc t) w' (w'.setRow w cs):=gS (Y.oI w' w cs) (fun k c t fz hp hc=>by subst hp;rw[Vl]at hc;cases hc;exact Y.yX);refine⟨wh2,a2.mo (Y.oI w' w cs) (fun e=>?_) (fun g hg e=>?_),b2.kd hk (fun h=>h (.inr (.inr rfl))) rfl rfl,Y.RfE.JK (c.trans ((Y.RfE.of hU (Pr Vb c.bel.size)).trans c2)) Vb ((Y.oI w' w cs).mono (fun k _ hk=>zaa))⟩
   ·have:=hM.lt;omega
   ·obtain⟨c',Ve⟩:=a2.que.kind g hg;rw[e,Vl]at Ve;cases Ve
 have HMB:Hid (Y.aw w lo mb pb qv s):=hM;clear hM hT hF hf hTt Vk WR k0 k1 Vh;have HW1:Hid _:=Vj;clear Vj;unfold Y.ic at HW1;go_enter func127,ntmps127;go_wp2_with(first
  |(go_at_call 129;rw[HW1.out];refine Pw HFI.out ?_;rintro e w2 ⟨b,rfl,Zi,U4⟩;unfold Y.ndP)
  |(go_at_call 128;refine Pw (HTU.out _ U4) ?_;rintro e w3 ⟨rfl,hc3,h3⟩)
  |(go_at_call 185;refine Pw (HSP.out _ hc3) ?_;rintro e w4 ⟨rfl,WH⟩)
  |(go_at_call 186;refine Pw (HPO.out _ _ h3 WH) ?_;rintro e w5 ⟨nb,rfl,Va,hz5,h5⟩;unfold Y.ndP)
  |(show wpList _ _ _ (Oper.mk (some 29) _ _ _ _ _::_) _ _;refine QA rfl 227 (.tmp 28) rfl nb 1 rfl _ _ Va underlying227 rfl nP ?_)
  |(show wpList _ _ _ (Oper.mk none _ _ _ _ _::_) _ _;refine fC rfl 227 (.tmp 2) (.tmp 29) rfl w.heap.size 227 _ _ rfl rfl hz5 nP rfl rfl ?_))
 refine eh zm w _ _ _ _ rfl (UB w5 w _ _ _ _ hz5) underlying227 rfl nP rfl ?_;exact⟨rfl,h5.out _⟩
namespace Y
theorem kZ.get(h:kZ wh R):∃hv:Nat->Nat,(∀k,k<6->hv k<18446744073709551616)/\(∀k,k<6->wh (28+(k*65+64))=.int .u64 (hv k))/\∀k,k<6->∀s,s<64->(hv k).testBit s=!(R (k*65+s)).isEmpty:=by
 refine⟨fun k=>if hk:k<6 then Classical.choose (h k hk) else 0,fun k hk=>?_,fun k hk=>?_,fun k hk=>?_⟩
 all_goals
  have hs:=Classical.choose_spec (h k hk);simp only[dif_pos hk]
 ·exact hs.1
 ·exact hs.2.1
 ·exact hs.2.2
def Nh(w:World)(T:List Tn)(e:Ending)(w':World):Prop:=Below w w w'/\match (srt (fun x:Tn=>x.t) T).head? with
 |none=>e=.returned (.pointer none)
 |some x=>∃b,e=.returned (ndP b)/\w'.cell? ⟨b,0,none⟩=some (.int .u64 x.t)
theorem Mg{w W0:World}{lo:Y.Lo}{mb pb:Nat}{T:List Tn}{B:Nat->TypeId->Prop}(hM:aw w lo mb pb qv s)(hW:WhM w lo s R)(YW:∀k,k<6->s.wh (28+(k*65+64))=.int .u64 (hv k))(hF:∀r,isR r->(R r).map (·.2)=T.filter (fun t=>place s.now t.t == r))(hl:T.length<=19)(hg:5<w.heap.size)(hG:TabAt 5 Lib.deBruijn64tab w)(hB:Below w w W0)(hb:∀k t,k<w.heap.size->¬B k t)(Vd:∀k t,B k t->k<W0.heap.size\/t=163):Hx W0 mb R hv B:=by
 have Wk:=hM.lt;have WC:∀r,isR r->∀x∈R r,x.1<w.heap.size:=fun r hr x hx=>by
  exact zeC
 have hM0:=hM.below hB;have Xw:=hW.rgs.below hB;have hG0:TabAt 5 Lib.deBruijn64tab W0:=fun j hj=>(hB.cell (p:=⟨5,j,none⟩) hg).trans (hG j hj);refine⟨fun Bs V hk hc=>⟨hc,fun k XS=>?_,fun k j XS hj=>?_,?_,KpM.tab hk (fun t=>hb _ t hg) hG0⟩,Xw.nds,Xw.nod,fun r hr=>?_,fun r hr x hx t=>hb _ t (WC r hr x hx),fun t=>hb _ t Wk,fun t=>hb _ t hg,Vd⟩
 ·rw[show 28+k*65+64=28+(k*65+64) by omega];exact hk.cell ((hM0.whc (28+(k*65+64)) zaa zaa).trans (congrArg some (YW k XS))) (fun t=>hb _ t Wk)
 ·rw[QG];exact hk.cell ((hM0.whc (28+(k*65+j)) zaa zaa).trans (congrArg some (Xw.ring _ (.inl zaa)))) (fun t=>hb _ t Wk)
 ·exact hk.cell ((hM0.whc 418 zaa zaa).trans (congrArg some (Xw.ring 390 (.inr rfl)))) (fun t=>hb _ t Wk)
 ·have:((R r).map (·.2)).length<=T.length:=by rw[hF r hr];exact QI _ _
  rw[PE]at this;omega
end Y
theorem uL(w:World)(lo:Y.Lo)(mb pb:Nat)(qv:Value)(s:Y.MSt)(T:List Y.Tn)(hM:Y.aw w lo mb pb qv s)(hT:Y.ga w lo s T)(hl:T.length<=19)(Vr:s.now<18446744073709551616)(ZB:∀x∈T,s.now<=x.t)(hg:5<w.heap.size)(hG:TabAt 5 Lib.deBruijn64tab w):
  () 129 #[(mb,27)] w (Y.Nh w T):=by
 obtain⟨R,hW,hF,hb⟩:=hT;obtain⟨hv,VT,YW,hv3⟩:=hW.held.get;have WC:∀r,Y.isR r->∀x∈R r,x.1<w.heap.size:=fun r hr x hx=>by
  exact zeC
 refine Pw (FX w mb R hv VT (fun W0 hB hs=>Y.Mg hM hW YW hF hl hg hG hB (fun k _ hk=>zaa) (fun k _ e=>.inl zaa))) ?_
 ·rintro e w' ⟨rfl,hB⟩;refine⟨hB,?_⟩;have hs:=Y.Iq Vr (fun x hx=>⟨ZB x hx,hb x hx⟩) hF hv3;rw[<- hs];have Vs:∀x∈Y.zV R hv,∃r,Y.isR r/\x∈R r:=fun x hx=>by
   obtain⟨r,hr,hx⟩:=Rv.1 hx;exact⟨r,Y.xd hr,Y.lI.1 hx⟩
  unfold Y.CV;cases hA:Y.zV R hv with
  |nil=>rfl
  |cons x l=>
   obtain⟨r,hr,hx⟩:=Vs x (by rw[hA];exact PZ ..);obtain⟨i,hi⟩:=P5.1 hx;have h0:=hW.rgs.nds r hr i x hi;refine⟨x.1,rfl,?_⟩;rw[hB.cell (p:=x.1) (WC r hr x hx),Pt w _ _ _ _ _ h0];rfl
namespace Y
def dh(now t:Nat)(T:List Tn):Bool:=match (srt (fun x:Tn=>x.t) T).head? with|none=>false|some x=>decide (x.t<=max t now)
end Y
theorem CX(w:World)(lo:Y.Lo)(mb pb:Nat)(qv:Value)(s:Y.MSt)(T:List Y.Tn)(t:Nat)(hM:Y.aw w lo mb pb qv s)(hT:Y.ga w lo s T)(hl:T.length<=19)(Vr:s.now<18446744073709551616)(ZB:∀x∈T,s.now<=x.t)(hg:5<w.heap.size)(hG:TabAt 5 Lib.deBruijn64tab w):
  () 86 #[(mb,27),.int .u64 t] w fun e w'=>e=.returned (.bool (Y.dh s.now t T))/\Below w w w':=by
 have hf:=uL w lo mb pb qv s T hM hT hl Vr ZB hg hG;have HN:Hid (∀V,Below w w V->V.cell? ⟨mb,27,none⟩=some (.int .u64 s.now)):=fun V hV=>(hM.below hV).cell 27 zac;clear hM hT ZB hG;cases hh:(Y.srt (fun x:Y.Tn=>x.t) T).head? with
 |none=>
  have HF:Hid (() 129 #[(mb,27)] w fun e w'=>e=.returned (.pointer none)/\Below w w w'):=Pw hf (by
   rintro e w' ⟨h1,h2⟩;rw[hh]at h2;exact⟨h2,h1⟩)
  have HD:Hid (Y.dh s.now t T=false):=by unfold Hid Y.dh;rw[hh]
  clear hf hh;go_enter func86,ntmps86;go_wp2_with(go_at_call 129;refine Pw HF.out ?_;rintro e w1 ⟨rfl,hB⟩);exact zex
 |some x=>
  have HF:Hid (() 129 #[(mb,27)] w fun e w'=>∃b,e=.returned (.pointer (some ⟨b,0,none⟩))/\w'.cell? ⟨b,0,none⟩=some (.int .u64 x.t)/\Below w w w'):=Pw hf (by
   rintro e w' ⟨h1,h2⟩;rw[hh]at h2;obtain⟨b,e1,e2⟩:=h2;exact⟨b,e1,e2,h1⟩)
  have HD:Hid (Y.dh s.now t T=decide ((x.t:Int)<=max (t:Int) (s.now:Int))):=by
   unfold Hid Y.dh;rw[hh];exact decide_eq_decide.2 zaa
  clear hf hh;go_enter func86,ntmps86;go_wp2_with(go_at_call 129;refine Pw HF.out ?_;rintro e w1 ⟨b,rfl,hc,hB⟩;have h27:=HN.out w1 hB);exact zex
namespace Y
theorem mA{T:List Tn}{f:Tn}(h:(srt (fun x:Tn=>x.t) T).head?=some f):f∈T/\(∀x∈T,f.t<=x.t)/\∃m,T.filter (fun x=>x.t == f.t)=f::m:=by
 cases hs:srt (fun x:Tn=>x.t) T with
 |nil=>rw[hs]at h;cases h
 |cons a l=>
  rw[hs]at h;obtain rfl:a=f:=zaD;have h1:=qd (fun x:Tn=>x.t) T;rw[hs]at h1;have h2:=RF.1 h1;refine⟨lI.1 (by rw[hs];exact PZ ..),fun x hx=>?_,l.filter (fun x=>x.t == a.t),?_⟩
  ·have:=lI (f:=fun x:Tn=>x.t).2 hx;rw[hs]at this
   rcases QH.1 this with e|e
   ·rw[e];exact Po _
   ·exact h2.1 x e
  ·rw[<- lT (fun x:Tn=>x.t) T a.t,hs,Rn zad]
end Y
theorem Hh(w:World)(lo:Y.Lo)(mb pb:Nat)(qv:Value)(s:Y.MSt)(T:List Y.Tn)(f:Y.Tn)(hM:Y.aw w lo mb pb qv s)(hT:Y.ga w lo s T)(Vb:lo<=w.heap.size)(hl:T.length<=19)(Vr:s.now<18446744073709551616)(ZB:∀x∈T,s.now<=x.t)(hg:5<w.heap.size)(hG:TabAt 5 Lib.deBruijn64tab w)(hf:(Y.srt (fun x:Y.Tn=>x.t) T).head?=some f):
  () 127 #[(mb,27)] w fun e w'=>e=.returned (.agg #[f.ev,f.nm])/\Hid (Y.Hw w lo mb pb qv { s with now:=f.t } (T.eraseP (fun x=>x.t == f.t)) w'):=by
 obtain⟨h1,h2,m,h3⟩:=Y.mA hf;have XV:f.t<18446744073709551616:=by
  obtain⟨_,_,_,hb⟩:=hT;exact hb f h1
 have hB:Below w w (w.alloc Y.ic):=(Pq _ w).alloc (Po _) _;have hs:=hB.size;refine vL w lo mb pb qv s T f m hM hT Vb Vr (ZB f h1) XV h2 h3 ?_;refine Pw (uL _ lo mb pb qv s T (hM.below hB) (hT.below hB) hl Vr ZB (PY hg hs) (fun j hj=>(hB.cell (p:=⟨5,j,none⟩) hg).trans (hG j hj))) ?_;rintro e w' ⟨a,b⟩;rw[hf]at b;obtain⟨nb,e1,e2⟩:=b;exact⟨nb,e1,e2,a⟩
namespace Y
structure Live(w:World)(lo:Y.Lo)(mb pb b cap:Nat)(ps:List PS)(fin:Nat)(EN LV:Nat->List PA)(hvs:U.Sl)(H:List HV)(D:Nat->Bool)(mbm n:Nat)(T:()->Option (List (Option PM)))(M:()->Option Nat)(Lr:Nat->List (Option Nat))(pmF:Nat->PM)(acF:Nat->List PA)(r:RSt):Prop where
 run:ka w lo pb b cap ps fin EN LV hvs H D mbm n T M Lr pmF acF
 sz:SzP ps EN LV
 sza:∀m,∀a∈acF m,a.sz
 mt:MT w lo mb pb r
 ok:ROK ps r
 qk:QOK r
 q0:r.q=[]
 idl:Idl w mb
section
variable {w w':World}{lo:Y.Lo}{mb pb b cap:Nat}{ps:List PS}{fin:Nat}{EN LV:Nat->List PA}{hvs:U.Sl}{H:List HV}{D:Nat->Bool}{mbm n:Nat}{T:()->Option (List (Option PM))}{M:()->Option Nat}{Lr:Nat->List (Option Nat)}{pmF:Nat->PM}{acF:Nat->List PA}{r:RSt}
theorem Live.aq(h:Live w lo mb pb b cap ps fin EN LV hvs H D mbm n T M Lr pmF acF r)(hb:Below w w w'):Live w' lo mb pb b cap ps fin EN LV hvs H D mbm n T M Lr pmF acF r:=⟨h.run.rf (RfE.of hb h.mt.lo'),h.sz,h.sza,h.mt.below h.run.bJ.lw hb,h.ok,h.qk,h.q0,h.idl.bel h.mt.lt hb⟩
end
def iU(w w':World):Prop:=∀(k:Nat) (c:Array Value) (f:Nat×Nat),w.heap[k]?=some (.cells c 9 f)->w'.heap[k]?=some (.cells c 9 f)
theorem iU.trans{b c:World}(h:iU a b)(k:iU b c):iU a c:=fun i x f hi=>k i x f (h i x f hi)
theorem iU.kd{b:World}(h:Kd E a b)(hE:¬E 9):iU a b:=fun i x f hi=>(h.aq i x _ f hi hE).trans hi
theorem iU.bel{b:World}(h:Below a a b):iU a b:=iU.kd (bB (E:=fun _=>False) h) (fun h=>h)
theorem Nms.str{w w':World}{base:Nat}{sv:Value}{L:List ()}(h:Nms w base sv L)(hs:iU w w'):Nms w' base sv L:=⟨h.1,h.2.imp id (fun⟨g,cp,cu,a,b,c,d⟩=>⟨g,cp,cu,a,b,hs _ _ _ c,d⟩)⟩
def Lo.nos(lo:Lo)(V:World):Lo:=⟨lo.n,max lo.s V.heap.size,fun k=>lo.ok k/\∀c f,V.heap[k]?≠some (.cells c 9 f),fun k h=>lo.le k h.1,fun k h=>⟨lo.new k zaa,fun c f e=>by have:=(Pn.1 e).1;omega⟩⟩
theorem RfE.nos{lo:Y.Lo}{V b:World}(h:RfE E (lo.nos V) a b):RfE E lo a b:=⟨h.bel,h.kd,h.oth,fun k hk hn=>h.own k hk (fun e=>hn e.1)⟩
theorem RfE.str{lo:Y.Lo}{b:World}(h:RfE E (lo.nos a) a b):iU a b:=fun k c f hk=>(h.own k (Pn.1 hk).1 (fun e=>e.2 c f hk)).trans hk
theorem MT.nos{lo:Y.Lo}{mb pb:Nat}{r:RSt}(h:MT W lo mb pb r)(hi:Idl W mb):MT W (lo.nos W) mb pb r:=by
 obtain⟨qv,wh,a,R,b,c⟩:=h.ex;obtain⟨arr,a1,_⟩:=id a.blk;have hq:qv=.slice none 0 0:=Qh ((a.cell 26 zac:W.cell? (mb,26)=some qv).symm.trans hi);refine⟨⟨qv,wh,⟨a.blk,a.que,⟨a.lo',fun c f e=>?_⟩,fun g hg=>?_,?_⟩,R,⟨⟨b.rgs.ring,b.rgs.nds,fun q hq x hx=>⟨b.rgs.low q hq x hx,fun c f e=>?_⟩,b.rgs.dis,b.rgs.nod⟩,b.held⟩,c⟩,h.lo',h.act,h.now,h.tml,h.tab,h.tab5⟩
 ·rw[a1]at e;simp at e
 ·rw[hq]at hg;cases hg
 ·have:=a.sz;show max lo.s W.heap.size<=_;omega
 ·obtain⟨i,hi⟩:=P5.1 hx;rw[b.rgs.nds q hq i x hi]at e;simp at e
theorem MT.DE{V:World}{lo:Y.Lo}{mb pb:Nat}{r:RSt}(h:MT W (lo.nos V) mb pb r):MT W lo mb pb r:=by
 obtain⟨qv,wh,a,R,b,c⟩:=h.ex;exact⟨⟨qv,wh,⟨a.blk,a.que,a.lo'.1,fun g hg=>(a.qok g hg).1,Pr (Nat.le_max_left ..) a.sz⟩,R,⟨⟨b.rgs.ring,b.rgs.nds,fun q hq x hx=>(b.rgs.low q hq x hx).1,b.rgs.dis,b.rgs.nod⟩,b.held⟩,c⟩,h.lo',h.act,h.now,h.tml,h.tab,h.tab5⟩
section
variable {V w w':World}{lo:Y.Lo}{mb pb b cap:Nat}{ps:List PS}{fin:Nat}{EN LV:Nat->List PA}{hvs:U.Sl}{H:List HV}{D:Nat->Bool}{mbm n:Nat}{T:()->Option (List (Option PM))}{M:()->Option Nat}{Lr:Nat->List (Option Nat)}{pmF:Nat->PM}{acF:Nat->List PA}{r:RSt}
theorem Live.nos(h:Live w lo mb pb b cap ps fin EN LV hvs H D mbm n T M Lr pmF acF r):Live w (lo.nos w) mb pb b cap ps fin EN LV hvs H D mbm n T M Lr pmF acF r:=⟨h.run,h.sz,h.sza,h.mt.nos h.idl,h.ok,h.qk,h.q0,h.idl⟩
theorem Live.DE(h:Live w (lo.nos V) mb pb b cap ps fin EN LV hvs H D mbm n T M Lr pmF acF r):Live w lo mb pb b cap ps fin EN LV hvs H D mbm n T M Lr pmF acF r:=⟨h.run,h.sz,h.sza,h.mt.DE,h.ok,h.qk,h.q0,h.idl⟩
end
def cR(step:RSt->()->RSt)(r:RSt)(ev:()):RSt:=fA step { r with q:=r.q++[ev] }
theorem MT.moU{P:Nat->Prop}{W':World}{lo:Y.Lo}{mb pb:Nat}{r:RSt}(h:MT W lo mb pb r)(hl:Lw lo)(hm:Mo P W W')(hP:∀k,P k->lo<=k/\∃c t,W.heap[k]?=some (.cells c t (0,0))/\¬dc t):MT W' lo mb pb r:=by
 obtain⟨qv,wh,a,b⟩:=h.ex;have hb:Below lo W W':=⟨hm.os,hm.tape,hm.output,hm.size,fun k hk=>hm.block k (by have:=h.lo';omega) (fun hp=>zbY)⟩;have hk:Kd (fun t=>¬dc t) W W':=gS hm (fun k c t f hp hc=>by
  obtain⟨_,c',t',Ve,ht'⟩:=hP k hp;rw[hc]at Ve;cases Ve
  exact ht')
 refine⟨⟨qv,wh,a.mo hm (fun e=>?_) (fun g hg e=>?_),b.kd hk (fun h=>h (.inr (.inr rfl))) rfl rfl⟩,Pr h.lo' hm.size,h.act,h.now,h.tml,fY hl hb h.tab,cC hl hb h.tab5⟩
 ·obtain⟨_,c,t,hc,ht⟩:=hP _ e;obtain⟨arr,a1,_⟩:=a.blk;rw[hc]at a1;cases a1
  exact ht (.inl rfl)
 ·obtain⟨_,c,t,hc,ht⟩:=hP _ e;obtain⟨c',Ve⟩:=a.que.kind g hg;rw[hc]at Ve;cases Ve
  exact ht (.inr (.inl rfl))
theorem RfE.DX{lo:Y.Lo}{s:Nat}{w:World}{cs:Array Value}(h:RfE E lo w W)(U8:lo<=w.heap.size)(hs:w.heap.size<=s):RfE E lo w (W.setRow s cs):=by
 have o:=iM W s cs;exact⟨⟨h.bel.os,h.bel.tape,h.bel.output,by rw[TU];exact h.bel.size,fun k hk=>(Sj W s k cs zaa).trans (h.bel.block k hk)⟩,
  ⟨by rw[TU];exact h.kd.size,fun k c t f hk hn=>(Sj W s k cs (by have:=(Pn.1 hk).1;omega)).trans (h.kd.aq k c t f hk hn)⟩,
  ⟨by rw[TU];exact h.oth.size,fun k o hk ho=>(Sj W s k cs (by have:=(Pn.1 hk).1;omega)).trans (h.oth.same k o hk ho)⟩,
  fun k hk hn=>(Sj W s k cs zaa).trans (h.own k hk hn)⟩
theorem wK(W:World)(s:Nat)(cs:Array Value):Mo (·=s) W (W.setRow s cs):=⟨rfl,rfl,rfl,Nat.le_of_eq (TU W s cs).symm,fun k _ hk=>Sj W s k cs hk⟩
theorem qG:¬dc 50:=fun h=>zcn
def rC:Obj:=.cells #[.string ⟨#[]⟩,.int .u64 0,.slice none 0 0] 50
end Y
theorem rj:(Tryz.prog.info? 50).map (·.size)=some 3:=zab
theorem Mr:Tryz.f84.results=#[.cell 4 50]:=rfl
section
variable (w:World)(lo:Y.Lo)(mb pb b cap:Nat)(ps:List Y.PS)(fin:Nat)(EN LV:Nat->List Y.PA)(hvs:U.Sl)(H:List Y.HV)(D:Nat->Bool)(mbm n:Nat)(T:()->Option (List (Option Y.PM)))(M:()->Option Nat)(Lr:Nat->List (Option Nat))(pmF:Nat->Y.PM)(acF:Nat->List Y.PA)(r:Y.RSt)(ev:())
abbrev sf(ev:()):Prop:=∀V:World,() 75 #[ev] V fun e w'=>e=.returned ev/\Below V V w'
theorem Hi(hQ:Y.Live w lo mb pb b cap ps fin EN LV hvs H D mbm n T M Lr pmF acF r)(Wq:ev.size<=1000000)(Vu:sf ev):
  () 84 #[mb,ev] w fun e w'=>∃a k c,e=.returned (.agg #[ev,.int .u64 (Y.cR (Y.aZ ps fin EN LV H D M Lr pmF acF) r ev).now,.slice a k c])/\Hid (Y.Live w' lo mb pb b cap ps fin EN LV hvs H D mbm n T M Lr pmF acF (Y.cR (Y.aZ ps fin EN LV H D M Lr pmF acF) r ev)/\Y.Rf lo w w'/\Y.Nms w' lo (.slice a k c) ((Y.els (Y.cR (Y.aZ ps fin EN LV H D M Lr pmF acF) r ev).act).map (Y.bR ps))):=by
 have Vc:=hQ.run.bJ.lw;have U8:=hQ.mt.lo';have Xr:=hQ.mt.lt;have VG:Below w w (w.alloc Y.rC):=(Pq _ w).alloc (Po _) _;have hP:=hQ.aq VG;have Xw:Y.Rf lo w (w.alloc Y.rC):=Y.RfE.of VG U8;have Vv:(w.alloc Y.rC).heap[w.heap.size]?=some Y.rC:=PG _ _;have ZI:=hP.q0;generalize XZ:w.alloc Y.rC=W0 at *;have HRA:Hid (() 125 #[mb,ev] W0 fun e w'=>e=.returned (.tuple #[])/\Hid (Y.MT w' lo mb pb { r with q:=r.q++[ev] }/\Y.Rf lo W0 w')):=(oP W0 lo mb pb r ev Vc hP.mt (by rw[ZI];decide)).mono (fun e w' x=>⟨x.1,x.2.1,x.2.2⟩);have hr1:Y.ROK ps { r with q:=r.q++[ev] }:=⟨hP.ok.act,hP.ok.kept⟩;have hq1:Y.QOK { r with q:=r.q++[ev] }:=hP.qk.snoc Wq;obtain⟨XN,Yn⟩:=Y.oQ (fun r x h k=>Y.ou hP.run hP.sz hP.sza h k x) hr1 hq1;have HAR:Hid (∀V,Hid (Y.MT V lo mb pb { r with q:=r.q++[ev] }/\Y.Rf lo W0 V)->() 64 #[mb] V fun e w'=>e=.returned (.tuple #[])/\Hid ((Y.MT w' lo mb pb (Y.cR (Y.aZ ps fin EN LV H D M Lr pmF acF) r ev)/\Y.Idl w' mb)/\Y.Rf lo W0 w')):=fun V hV=>
  (kD V lo mb pb b cap _ ps fin EN LV hvs H D mbm n T M Lr pmF acF (hP.run.rf hV.out.2) hP.sz hP.sza hV.out.1 hr1 hq1 (by show(r.q++[ev]).length<=_;rw[ZI];simp)).mono (fun e w' x=>⟨x.1,⟨x.2.1,x.2.2.2⟩,hV.out.2.trans x.2.2.1⟩)
 have YM:Y.ROK ps (Y.cR (Y.aZ ps fin EN LV H D M Lr pmF acF) r ev):=XN;have hqa:Y.QOK (Y.cR (Y.aZ ps fin EN LV H D M Lr pmF acF) r ev):=Yn;have hqz:(Y.cR (Y.aZ ps fin EN LV H D M Lr pmF acF) r ev).q=[]:=rfl;clear XN Yn hr1 hq1;generalize Y.cR (Y.aZ ps fin EN LV H D M Lr pmF acF) r ev=r2 at *;have HST:Hid (∀V,Hid ((Y.MT V lo mb pb r2/\Y.Idl V mb)/\Y.Rf lo W0 V)->() 65 #[mb,ev] V fun e w'=>∃a k c,e=.returned (.agg #[ev,.int .u64 r2.now,.slice a k c])/\Hid (w'.heap[w.heap.size]?=some Y.rC/\∀cs,Y.Live (w'.setRow w cs) lo mb pb b cap ps fin EN LV hvs H D mbm n T M Lr pmF acF r2/\Y.Rf lo w (w'.setRow w cs)/\Y.Nms (w'.setRow w cs) lo (.slice a k c) ((Y.els r2.act).map (Y.bR ps)))):=fun V hV=>
  (BQ V lo mb pb b cap r2 ps fin EN LV ev (hP.run.rf hV.out.2).bJ hV.out.1.1 (Y.iI YM.act) Vu).mono (fun e w' x=>by
   obtain⟨sv,x1,x2,x3⟩:=x;obtain⟨a,c,rfl⟩:=x2.n;have hRv:Y.Rf lo W0 w':=hV.out.2.trans (Y.RfE.of x3 hV.out.1.1.lo');have hz:w'.heap[w.heap.size]?=some Y.rC:=(hRv.kd.aq _ _ _ _ Vv Y.qG).trans Vv;have hmt:=hV.out.1.1.below Vc x3;have hid:=hV.out.1.2.bel hV.out.1.1.lt x3;have hn0:Y.Nms w' lo (.slice a ((Y.els r2.act).map (Y.bR ps)).length c) ((Y.els r2.act).map (Y.bR ps)):=⟨x2.1,x2.2.imp id (fun⟨g,cp,cu,y1,y2,y3⟩=>⟨g,cp,cu,y1,Pr hV.out.1.1.lo' y2,y3⟩)⟩;refine⟨a,_,c,x1,hz,fun cs=>?_⟩;have hR':Y.Rf lo w (w'.setRow w cs):=Y.RfE.DX (Xw.trans hRv) U8 (Po _);exact⟨⟨hQ.run.rf hR',hP.sz,hP.sza,Y.MT.moU hmt Vc (Y.wK _ _ _) (fun k hk=>by subst hk;exact⟨U8,_,_,hz,Y.qG⟩),YM,hqa,hqz,((iM w' w cs).cell (p:=⟨mb,26,none⟩) (UL Xr)).trans hid⟩,hR',Kd.row (E:=fun t=>¬Y.dc t) (gS (Y.wK _ _ _) (fun k c t f hp hc=>by subst hp;rw[hz]at hc;cases hc;exact Y.qG)) hn0 (fun h=>h (.inr (.inl rfl)))⟩)
 clear hP hQ Vu YM hqa hqz ZI Xw Vv VG;have HW0:Hid _:=XZ;clear XZ;unfold Y.rC at HW0;go_enter func84,ntmps84;go_wp2_with(first
  |(go_at_call 125;rw[HW0.out];refine HRA.out.mono ?_;rintro e w1 ⟨rfl,h1⟩)
  |(go_at_call 64;refine(HAR.out _ h1).mono ?_;rintro e w2 ⟨rfl,h2⟩)
  |(go_at_call 65;refine(HST.out _ h2).mono ?_;rintro e w3 ⟨sa,sk,sc,rfl,h3⟩)
  |(show wpList _ _ _ (Oper.mk none _ _ _ _ _::_) _ _;refine fC rfl 50 (.tmp 4) (.tmp 12) rfl w.heap.size 50 _ _ rfl rfl h3.out.1 rj rfl rfl ?_))
 refine eh Mr w _ _ _ _ rfl (UB w3 w _ _ _ _ h3.out.1) underlying50 rfl rj rfl ?_;exact⟨_,_,_,rfl,h3.out.2 _⟩
theorem Cd(hQ:Y.Live w lo mb pb b cap ps fin EN LV hvs H D mbm n T M Lr pmF acF r)(Wq:ev.size<=1000000)(Vu:sf ev):
  () 84 #[mb,ev] w fun e w'=>∃a k c,e=.returned (.agg #[ev,.int .u64 (Y.cR (Y.aZ ps fin EN LV H D M Lr pmF acF) r ev).now,.slice a k c])/\Hid (Y.Live w' lo mb pb b cap ps fin EN LV hvs H D mbm n T M Lr pmF acF (Y.cR (Y.aZ ps fin EN LV H D M Lr pmF acF) r ev)/\Y.Rf lo w w'/\Y.Nms w' lo (.slice a k c) ((Y.els (Y.cR (Y.aZ ps fin EN LV H D M Lr pmF acF) r ev).act).map (Y.bR ps))/\Y.iU w w'):=
 Pw (Hi w (lo.nos w) mb pb b cap ps fin EN LV hvs H D mbm n T M Lr pmF acF r ev hQ.nos Wq Vu) (fun _ _ ⟨a,k,c,x,h⟩=>⟨a,k,c,x,h.out.1.DE,h.out.2.1.nos,h.out.2.2,h.out.2.1.str⟩)
namespace Y
def xK(w:World)(lo:Y.Lo)(mb pb b cap:Nat)(ps:List PS)(fin:Nat)(EN LV:Nat->List PA)(hvs:U.Sl)(H:List HV)(D:Nat->Bool)(mbm n:Nat)(T:()->Option (List (Option PM)))(M:()->Option Nat)(Lr:Nat->List (Option Nat))(pmF:Nat->PM)(acF:Nat->List PA)(r:RSt)(ev:())(e:Ending)(w':World):Prop:=
 if r.fin=0 then ∃sb sv,e=.returned (.tuple #[.slice (some ⟨sb,0,none⟩) 1 1,fuelV (cR (aZ ps fin EN LV H D M Lr pmF acF) r ev).fin])/\w'.heap[sb]?=some (.cells #[ev,.int .u64 (cR (aZ ps fin EN LV H D M Lr pmF acF) r ev).now,sv] 50 (0,0))/\Nms w' lo sv ((els (cR (aZ ps fin EN LV H D M Lr pmF acF) r ev).act).map (bR ps))/\Live w' lo mb pb b cap ps fin EN LV hvs H D mbm n T M Lr pmF acF (cR (aZ ps fin EN LV H D M Lr pmF acF) r ev)/\Rf lo w w'/\lo<=sb/\iU w w'
 else e=.returned (.tuple #[.slice none 0 0,fw r.fin])/\Below w w w'
end Y
theorem FW(hP:Y.Live w lo mb pb b cap ps fin EN LV hvs H D mbm n T M Lr pmF acF r)(Wq:ev.size<=1000000)(Vu:sf ev):
  () 51 #[mb,ev] w (Y.xK w lo mb pb b cap ps fin EN LV hvs H D mbm n T M Lr pmF acF r ev):=by
 obtain⟨qv,wh,hM,_⟩:=hP.mt.ex;have h5:w.cell? (mb,419)=some (Y.fw r.fin):=hM.cell 419 zac;clear hM;by_cases hf:r.fin=0
 ·have he:Y.fw r.fin=.nilIface:=by rw[hf];rfl
  rw[he]at h5;have HT:Hid _:=Cd w lo mb pb b cap ps fin EN LV hvs H D mbm n T M Lr pmF acF r ev hP Wq Vu;have Vc:=hP.run.bJ.lw;have HF:Hid (r.fin=0):=hf;generalize XN:Y.cR (Y.aZ ps fin EN LV H D M Lr pmF acF) r ev=r2 at *;have HR2:Hid _:=XN;have HOF:Hid (∀V,Hid (Y.Live V lo mb pb b cap ps fin EN LV hvs H D mbm n T M Lr pmF acF r2)->() 66 #[mb] V fun e w'=>e=.returned (Y.fuelV r2.fin)/\w'=V):=fun V hV=>by
   obtain⟨qv,wh,a,_⟩:=hV.out.mt.ex;exact ki V lo mb pb qv (r2.m wh) r2.fin a rfl hV.out.qk.fin
  have HB:Hid (∀(V:World) (o:Obj),Below V.heap.size V (V.alloc o)):=fun V o=>(Pq _ V).alloc (Po _) _;clear hP Vu XN hf;go_enter func51,ntmps51;go_wp2_with(first
   |(go_at_call 84;refine Pw HT.out ?_;rintro e w1 ⟨sa,sk,sc,rfl,h1⟩)
   |(go_at_call 66;refine(HOF.out _ (h1.out.1.aq (HB.out _ _))).mono ?_;rintro e w4 ⟨rfl,Xm⟩;rw[Xm];clear Xm w4))
  go_ret2;unfold Y.xK;rw[PC HF.out,HR2.out];have VM:=HB.out w1 (.cells #[ev,.int .u64 r2.now,.slice sa sk sc] 50);exact⟨_,_,rfl,PG _ _,Kd.row (bB (E:=fun _=>False) VM) h1.out.2.2.1 (fun h=>h),h1.out.1.aq VM,h1.out.2.1.trans (Y.RfE.of VM h1.out.1.mt.lo'),h1.out.1.mt.lo',h1.out.2.2.2.trans (Y.iU.bel VM)⟩
 ·have he:Y.fw r.fin=.iface 29 (.int .i64 r.fin):=by unfold Y.fw;rw[Pu hf]
  have HF:Hid (¬r.fin=0):=hf;have HE:Hid _:=he;rw[he]at h5;clear hP Vu hf he;go_enter func51,ntmps51;go_wp2
  go_quiet(fail)
  go_wp2;go_ret2;unfold Y.xK;rw[Pu HF.out,HE.out];exact⟨rfl,⟨rfl,rfl,rfl,Po _,fun _ _=>rfl⟩⟩
end
end
section
open Go.RowKit
def MU{σ α:Type}(F:Fence)(n:Nat)(P:Program)(g:Nat)(lb:Array Value)(encs:α->Array Value)(Rd:σ->World->Prop)(Tk:σ->α->World->World->Prop)(En:σ->World->World->Prop)(Nx:σ->σ->Prop)(w:World):Prop:=
 ∀(l:Nat) (J:σ->World->Prop) (Jt:σ->α->World->Prop) (Jx Je:World->Prop) (W:World),Below w w W->w.heap.size+2<=W.heap.size ->
  (∀s V,J s V->Rd s V)->(∀s x V V',J s V->Tk s x V V'->Jt s x V')->(∀s V V',J s V->En s V V'->Je V') ->
  (∀s x V,Jt s x V->YieldAt F (n-1) P l (encs x) V fun e V'=>(e=.returned true/\∃s',Nx s s'/\J s' V')\/(e=.returned false/\Jx V')) ->
  ∀s,J s W->CallsIn F n P g (#[.func (.yield l) #[] #[]]++lb) W fun e V=>(∃v,e=.returned v)/\(Je V\/Jx V)
def Oi{σ:Type}(B:Nat)(Nx:σ->σ->Prop)(I:σ->World->Prop)(Ix:World->Prop)(id:Nat)(s:σ)(W:World):Exit->Act->World->Prop
 |.normal,_,V=>KeepsFrom B W V/\∃s',Nx s s'/\I s' V
 |.exit i,_,V=>i=id/\KeepsFrom B W V/\Ix V
 |_,_,_=>False
theorem J6{σ α:Type}{F:Fence}{n:Nat}{P:Program}{g:Operand}{ps:Array Tmp}{assign body:Code}{Q:Exit->Act->World->Prop}{a:Act}{w:World}(hro:F.round=none)(h1:1<=n){gf:Nat}{lb:Array Value}
  (hg:a.eval g=.func (.func gf) #[] lb) (hF:F.fn gf) (eg:∀args w,(callFunc gf args).run P w=.ok (.enter gf args) w) {encs:α->Array Value} {Rd:σ->World->Prop} {Tk:σ->α->World->World->Prop} {En:σ->World->World->Prop} {Nx:σ->σ->Prop}
  (hseq:MU F (n-1) P gf lb encs Rd Tk En Nx w) (hps:∀x,(encs x).size=ps.size) (I:σ->World->Prop) (It:σ->α->World->Prop) (Ix Ie:World->Prop) (Bx:σ->α->Act->World->Prop) (id:Nat)
  (hI:OwnFrom w.heap.size I) (hIx:OwnFrom w.heap.size (fun(_:Unit)=>Ix)) (hIe:OwnFrom w.heap.size (fun(_:Unit)=>Ie)) (hBx:∀s x a',OwnFrom w (fun(_:Unit)=>Bx s x a'))
  (Zl:∀s V,I s V->Rd s V) (hTk:∀s x V V',I s V->Tk s x V V'->It s x V') (hEn:∀s V V',I s V->En s V V'->Ie V') (hTko:∀s x V V',Tk s x V V'->KeepsFrom w.heap.size V V') (hEno:∀s V V',En s V V'->KeepsFrom w.heap.size V V') (s0:σ) (h0:I s0 w)
  (VC:∀(l:Nat) (s:σ) (x:α) (W:World) (K:Act->World->Prop),It s x W->(∀a' W',KeepsFrom w W W'->Bx s x a' W'->K a' W')->assign.wpIn (F.inRound l) (n-1-1) P (Exit.then K (fun _ _ _=>False)) { tmps:=(ps.zip (encs x)).foldl (fun t (p,v)=>t.setIfInBounds p v) a.tmps,defers:=[] } W)
  (Wp:∀(l:Nat) (s:σ) (x:α) (a':Act) (W:World),w.heap.size<=l->Bx s x a' W->body.wpIn (F.inRound l) (n-1-1) P (Oi w Nx I Ix id s W) a' W)
  (Wx:∀(D:Nat) (W:World),w.heap.size<=D->Ie W->W.heap[D]?=some (.deferred (some []))->Q .normal { a with defers:={ target:=.collected D,args:=#[] }::a.defers } W)
  (WV:∀(D:Nat) (W:World),w.heap.size<=D->Ix W->W.heap[D]?=some (.deferred (some []))->(Code.exit id).wpIn F n P Q { a with defers:={ target:=.collected D,args:=#[] }::a.defers } W):
  (Code.rangeFunc g ps assign body).wpIn F n P Q a w:=by
 refine wpIn_rangeFunc fun fn YA=>?_;rw[hro];obtain⟨lp,Yg⟩:∃lp:LoopState->Option Code->Loop,lp=fun st pe=>{ state:=st,pending:=pe,fn,tmps:=a.tmps,params:=ps,assign,body,defers:=w.heap.size }:=⟨_,rfl⟩;have XO:=Uh (P:=P) (w:=w) fn a.tmps ps assign body;obtain⟨V,hV⟩:∃V,(w.alloc (.deferred (some []))).alloc (.loop (lp .ready none))=V:=⟨_,rfl⟩;have hb:Below w w V:=hV▸(((Pq _ w).alloc (Po _) _).alloc zad _);have hj:I s0 V/\V.heap[w.heap.size+1]?=some (.loop (lp .ready none))/\V.heap[w.heap.size]?=some (.deferred (some [])):=by
  exact zd7
 refine⟨w.heap.size+1,[{ target:=.collected w.heap.size,args:=#[] }],V,{ target:=.fn (.func gf) lb,args:=#[.func (.yield (w.heap.size+1)) #[] #[]] },V,gf,#[.func (.yield (w.heap.size+1)) #[] #[]]++lb,V,
  zbV,zbI,fun f' hf'=>zbE,zbX,fun _=>h1,?_⟩
 have hvs:V.heap.size=w.heap.size+2:=by rw[<- hV];simp
 refine(hseq (w.heap.size+1) (fun s W=>I s W/\W.heap[w.heap.size+1]?=some (.loop (lp .ready none))/\W.heap[w.heap.size]?=some (.deferred (some []))) (fun s x W=>It s x W/\W.heap[w.heap.size+1]?=some (.loop (lp .ready none))/\W.heap[w.heap.size]?=some (.deferred (some [])))
  (fun W=>Ix W/\W.heap[w.heap.size+1]?=some (.loop (lp .done (some (.exit id))))/\W.heap[w.heap.size]?=some (.deferred (some []))) (fun W=>Ie W/\W.heap[w.heap.size+1]?=some (.loop (lp .ready none))/\W.heap[w.heap.size]?=some (.deferred (some []))) V hb zaa (fun s W h=>Zl s W h.1) (fun s x A B h k=>?_) (fun s A B h k=>?_) ?_ s0 hj).mono ?_
 ·have hk:=hTko s x A B k;exact⟨hTk s x A B h.1 k,hk.same _ _ zaa h.2.1 rfl,hk.same _ _ (Po _) h.2.2 rfl⟩
 ·have hk:=hEno s A B k;exact⟨hEn s A B h.1 k,hk.same _ _ zaa h.2.1 rfl,hk.same _ _ (Po _) h.2.2 rfl⟩
 ·intro s x W ⟨hi,hl,hd⟩;have hy:=run_yield (P:=P) (args:=encs x) hl (by rw[Yg];exact hps x);rw[Yg]at hy;refine⟨fn,_,assign,body,hy,roundIn_of_wpIn YA (VC _ s x W _ hi fun a' Wa X4 hia=>⟨_,run_beginRound (X4.same _ _ zaa hl rfl) (by rw[Yg]),?_⟩)⟩;have hl:=X4.same _ _ zaa hl rfl;have hd:=X4.same _ _ (Po _) hd rfl;have Vd:=(Pn.1 hl).1;refine wpIn_mono (Wp _ s x a' _ zaa ((hBx s x a').putObj (s:=()) _ hia zaa hl rfl)) ?_;intro e a' W' hp;have VH:∀(jump:Option Code),KeepsFrom w (Wa.putObj (w.heap.size+1) (.loop { lp .ready none with state:=LoopState.busy })) W' ->
    (Instr.endRound (w.heap.size+1) jump).run P W'=.ok (.bool jump.isNone) (W'.putObj (w.heap.size+1) (.loop (lp (if jump.isNone then .ready else .done) jump))) /\
    W'.heap[w.heap.size+1]?=some (.loop { lp .ready none with state:=LoopState.busy }) /\
    (W'.putObj (w.heap.size+1) (.loop (lp (if jump.isNone then .ready else .done) jump))).heap[w.heap.size+1]?=some (.loop (lp (if jump.isNone then .ready else .done) jump)) /\
    (W'.putObj (w.heap.size+1) (.loop (lp (if jump.isNone then .ready else .done) jump))).heap[w.heap.size]?=some (.deferred (some [])):=fun jump hk=>by
   have YS:=hk.same _ _ zaa (Rs Vd) rfl;have hd':=hk.same _ _ (Po _) ((Qs zaa).trans hd) rfl;have hr:=run_endRound (P:=P) jump YS;rw[Yg]at hr⊢;exact⟨hr,by rw[Yg]at YS;exact YS,Rs (Pn.1 YS).1,(Qs zaa).trans hd'⟩
  cases e with
  |normal=>
   obtain⟨hk,s',hn,XJ⟩:=hp;obtain⟨hr,hl3,hl4,hd4⟩:=VH none hk;exact⟨_,_,hr,.inl ⟨rfl,s',hn,hI.putObj _ XJ zaa hl3 rfl,hl4,hd4⟩⟩
  |exit i=>
   obtain⟨rfl,hk,XJ⟩:=hp;obtain⟨hr,hl3,hl4,hd4⟩:=VH (some (.exit i)) hk;exact⟨_,_,hr,.inr ⟨rfl,hIx.putObj (s:=()) _ XJ zaa hl3 rfl,hl4,hd4⟩⟩
  |_=>exact hp.elim
 ·rintro e W ⟨⟨v,hv⟩,⟨hi,hl,hd⟩|⟨hi,hl,hd⟩⟩
  ·subst hv;exact⟨none,_,zaU,Wx _ _ (Po _) (hIe.putObj (s:=()) _ hi zaa hl rfl) ((Qs zaa).trans hd)⟩
  ·subst hv;exact⟨some (.exit id),_,zaU,WV _ _ (Po _) (hIx.putObj (s:=()) _ hi zaa hl rfl) ((Qs zaa).trans hd)⟩
end
section
open Go.RowKit Go.Proofs Go.Shelf
attribute [local go_sem] Qu
theorem least{σ:Type}(J:σ->World->Prop)(m:σ->Nat):∃μ:World->Nat,∀W s,J s W->μ W<=m s/\∃s',J s' W/\m s'=μ W:=by
 have h:∀W:World,∃k,∀s,J s W->k<=m s/\∃s',J s' W/\m s'=k:=fun W=>by
  by_cases h:∃s,J s W
  ·obtain⟨s,hs⟩:=h;have:∀n s,J s W->m s=n->∃k,∀s,J s W->k<=m s/\∃s',J s' W/\m s'=k:=by
    intro n
    induction n using Nat.strongRecOn with
    |_ n ih=>
     intro s hs hn;by_cases hl:∃s',J s' W/\m s'<n
     ·obtain⟨s',h1,h2⟩:=hl;exact ih _ h2 s' h1 rfl
     ·exact⟨n,fun x hx=>⟨Nat.le_of_not_lt (fun e=>hl ⟨x,hx,e⟩),s,hs,hn⟩⟩
   exact this _ s hs rfl
  ·exact⟨0,fun s hs=>(h ⟨s,hs⟩).elim⟩
 exact⟨fun W=>Classical.choose (h W),fun W=>Classical.choose_spec (h W)⟩
namespace Y
def lW(r:RSt)(f:Tn):RSt:={ r with now:=f.t,tm:=r.tm.eraseP (fun x=>x.t == f.t) }
end Y
section
variable (w:World)(lo:Y.Lo)(mb pb:Nat)(r:Y.RSt)(hl:Y.Lw lo)(h:Y.MT w lo mb pb r)(hk:Y.TOK r.now r.tm)
theorem Eb(hl:Y.Lw lo)(h:Y.MT w lo mb pb r)(u:Nat)(hu:u<18446744073709551616)(h1:r.now<=u)(h2:∀x∈r.tm,u<=x.t):() 128 #[(mb,27),.int .u64 u] w fun e w'=>e=.returned (.tuple #[])/\Hid (Y.MT w' lo mb pb { r with now:=u }/\Y.Rw lo w w'/\(Y.Idl w mb->Y.Idl w' mb)):=by
 obtain⟨qv,wh,a,b⟩:=h.ex;refine Pw (xA w lo mb pb qv (r.m wh) r.tm u a b h.lo' h.now hu h1 h2) ?_;rintro e w' ⟨rfl,h3⟩;obtain⟨wh',a2,b2,c2⟩:=h3.out;exact⟨rfl,⟨⟨qv,wh',a2,b2⟩,Pr h.lo' c2.bel.size,h.act,hu,h.tml,Y.fY hl c2.bel h.tab,Y.cC hl c2.bel h.tab5⟩,c2,a.idl a2⟩
theorem qW(hl:Y.Lw lo)(h:Y.MT w lo mb pb r)(hk:Y.TOK r.now r.tm)(t:Nat):() 86 #[(mb,27),.int .u64 t] w fun e w'=>e=.returned (.bool (Y.dh r.now t r.tm))/\Below w w w':=by
 obtain⟨qv,wh,a,b⟩:=h.ex;exact CX w lo mb pb qv (r.m wh) r.tm t a b (Pr h.tml zac) h.now (fun x hx=>(hk.2 x hx).1) (PY hl.g h.lo') h.tab
theorem Ea(hl:Y.Lw lo)(h:Y.MT w lo mb pb r)(hk:Y.TOK r.now r.tm)(f:Y.Tn)(hf:(Y.srt (fun x:Y.Tn=>x.t) r.tm).head?=some f):() 127 #[(mb,27)] w fun e w'=>e=.returned (.agg #[f.ev,f.nm])/\Hid (Y.MT w' lo mb pb (Y.lW r f)/\Y.Rw lo w w'/\(Y.Idl w mb->Y.Idl w' mb)):=by
 obtain⟨qv,wh,a,b⟩:=h.ex;have XV:f.t<18446744073709551616:=by
  obtain⟨_,_,_,hb⟩:=b;exact hb f (Y.mA hf).1
 refine Pw (Hh w lo mb pb qv (r.m wh) r.tm f a b h.lo' (Pr h.tml zac) h.now (fun x hx=>(hk.2 x hx).1) (PY hl.g h.lo') h.tab hf) ?_;rintro e w' ⟨rfl,h2⟩;obtain⟨wh',a2,b2,c2⟩:=h2.out;exact⟨rfl,⟨⟨qv,wh',a2,b2⟩,Pr h.lo' c2.bel.size,h.act,XV,Pr (List.length_eraseP_le ..) h.tml,Y.fY hl c2.bel h.tab,Y.cC hl c2.bel h.tab5⟩,c2,a.idl a2⟩
end
namespace Y
theorem AH{now t:Nat}{T:List Tn}(h:dh now t T=true):∃f,(srt (fun x:Tn=>x.t) T).head?=some f/\f.t<=max t now:=by
 unfold dh at h;cases hh:(srt (fun x:Tn=>x.t) T).head? with
 |none=>rw[hh]at h;cases h
 |some f=>rw[hh]at h;exact⟨f,rfl,RO h⟩
theorem qX{now t:Nat}{T:List Tn}(h:dh now t T=false):∀x∈T,max t now<=x.t:=fun x hx=>by
 unfold dh at h;cases hh:(srt (fun x:Tn=>x.t) T).head? with
 |none=>
  have:x∈srt (fun x:Tn=>x.t) T:=lI.2 hx;rw[List.head?_eq_none_iff.1 hh]at this;cases this
 |some f=>
  rw[hh]at h;have h1:=of_decide_eq_false h;have h2:=(mA hh).2.1 x hx;omega
def O0(lo:Y.Lo)(mb pb Bw Bt t:Nat)(s:Nat×RSt)(V:World):Prop:=s.1<=200/\MT V lo mb pb s.2/\TOK s.2.now s.2.tm/\V.cell? Bw=some ↑(mb,27)/\V.cell? Bt=some (.int .u64 t)
def Oq(lo:Y.Lo)(mb pb t:Nat)(s:Nat×RSt)(f:Tn)(V V':World):Prop:=dh s.2.now t s.2.tm=true/\(srt (fun x:Tn=>x.t) s.2.tm).head?=some f/\MT V' lo mb pb (lW s.2 f)/\Rw lo V V'/\(Idl V mb->Idl V' mb)
def Oo(lo:Y.Lo)(mb pb t:Nat)(s:Nat×RSt)(V V':World):Prop:=dh s.2.now t s.2.tm=false/\MT V' lo mb pb { s.2 with now:=max t s.2.now }/\Rw lo V V'/\(Idl V mb->Idl V' mb)
def tnV(x:Tn):Array Value:=#[.agg #[x.ev,x.nm]]
end Y
theorem NC(n:Nat)(hn:1<=n)(w:World)(lo:Y.Lo)(mb pb Bw Bt t:Nat)(ht:t<18446744073709551616)(hl:Y.Lw lo):
  MU Fence.wide n prog 126 #[Bw,Bt] Y.tnV (fun s V=>Y.O0 lo mb pb Bw Bt t s V/\∀V':World,Below V.heap.size V V'->V'.cell? Bw=some ↑(mb,27)/\V'.cell? Bt=some (.int .u64 t)) (Y.Oq lo mb pb t) (Y.Oo lo mb pb t) (fun s s'=>s'.1=s.1+1) w:=by
 intro l J Jt Jx Je W _ _ Zl hTk hEn hY s hs;obtain⟨μ,hμ⟩:=least J (fun s=>201-s.1);have HRd:Hid _:=Zl;have HTk:Hid _:=hTk;have HEn:Hid _:=hEn;have HY:Hid _:=hY;have HM:Hid _:=hμ;clear Zl hTk hEn hY hμ;refine TR func126 rfl trivial ?_ rfl;simp only[ntmps126,List.size_toArray,List.length_cons,List.length_nil,Nat.reduceAdd,Nat.reduceSub,Array.replicate_succ,Array.replicate_zero,List.push_toArray,List.append_toArray,List.nil_append,List.cons_append];gi_wp2
 gi_loopw[] (fun wr=>Hid (∃s,J s wr)) (fun wr=>μ wr)
 case atStart=>exact⟨s,hs⟩
 case round=>
  obtain⟨s1,WR⟩:=hrel.out;obtain⟨_,⟨k,r⟩,hJ,hm⟩:=HM.out wr s1 WR;obtain⟨⟨hk,YQ,hTO,cw,ct⟩,VX⟩:=HRd.out _ _ hJ;have HJ:Hid _:=hJ;have HMm:Hid _:=hm;dsimp only at hk YQ hTO;have HH:Hid _:=qW wr lo mb pb r hl YQ hTO t;clear WR hrel hJ hm;cases hd:Y.dh r.now t r.tm with
  |false=>
   rw[hd]at HH;have hle:=YQ.now;have HT:Hid (∀V,Below wr wr V->() 128 #[(mb,27),.int .u64 (max (t:Int) (r.now:Int))] V fun e w'=>e=.returned (.tuple #[])/\Hid (Je w')):=fun V hV=>by
    rw[show max (t:Int) (r.now:Int)=((max t r.now:Nat):Int) by omega];refine Pw (Eb V lo mb pb r hl (YQ.below hl hV) (max t r.now) zaa zaa (Y.qX hd)) ?_;rintro e w' ⟨rfl,h⟩;exact⟨rfl,HEn.out (k,r) wr w' HJ.out ⟨hd,h.out.1,(Y.RfE.of hV YQ.lo').trans h.out.2.1,fun hi=>h.out.2.2 (hi.bel YQ.lt hV)⟩⟩
   have HB:Hid (∀V,Below wr wr V->V.cell? ⟨mb,27,none⟩=some (.int .u64 r.now)/\V.cell? Bw=some ↑(mb,27)/\V.cell? Bt=some (.int .u64 t)):=fun V hV=>by
    obtain⟨qv,wh,a,b⟩:=(YQ.below hl hV).ex;exact⟨a.cell 27 zac,VX V hV⟩
   clear YQ hTO hd VX;gi_wp2_with(refine⟨trivial,?_⟩;gi_at_call 86;refine(P8.2 HH.out).mono ?_;rintro e w1 ⟨rfl,U3⟩;have hb1d:=U3.drew;obtain⟨c0,c1,c2⟩:=HB.out _ hb1d);refine bc nV 7 zab zab zab ?_;simp only[List.take_succ_cons,List.take_zero,List.drop_succ_cons,List.drop_zero]
   repeat still_step
   refine QY ?_;gi_wp2_with(refine⟨trivial,?_⟩;gi_at_call 128;refine(P8.2 (HT.out _ hb1d)).mono ?_;rintro e w2 ⟨rfl,h2⟩);go_end0;exact⟨⟨_,rfl⟩,.inl h2.out⟩
  |true=>
   rw[hd]at HH;obtain⟨f,hf,_⟩:=Y.AH hd;have HT:Hid (∀V,Below wr wr V->() 127 #[(mb,27)] V fun e w'=>e=.returned (.agg #[f.ev,f.nm])/\YieldAt Fence.wide (n-1) prog l #[.agg #[f.ev,f.nm]] w' fun e V'=>(e=.returned true/\∃s',s'.1=k+1/\J s' V')\/(e=.returned false/\Jx V')):=fun V hV=>by
    refine Pw (Ea V lo mb pb r hl (YQ.below hl hV) hTO f hf) ?_;rintro e w' ⟨rfl,h⟩;exact⟨rfl,HY.out (k,r) f w' (HTk.out (k,r) f wr w' HJ.out ⟨hd,hf,h.out.1,(Y.RfE.of hV YQ.lo').trans h.out.2.1,fun hi=>h.out.2.2 (hi.bel YQ.lt hV)⟩)⟩
   have HB:Hid (∀V,Below wr wr V->V.cell? Bw=some ↑(mb,27)):=fun V hV=>(VX V hV).1;clear YQ hTO hd VX hf;gi_wp2_with(refine⟨trivial,?_⟩;gi_at_call 86;refine(P8.2 HH.out).mono ?_;rintro e w1 ⟨rfl,U3⟩;have c1:=HB.out _ U3);refine⟨trivial,?_⟩
   gi_at_call 127
   refine(P8.2 (HT.out _ U3)).mono ?_;rintro e w2 ⟨rfl,hy0⟩;obtain⟨fn,tmps,assign,body,hy,hR⟩:=hy0;gi_wp2;refine hR.mono ?_;rintro e W3 (⟨rfl,s',hs',hJ'⟩|⟨rfl,hJx⟩)
   ·gi_wp2
    go_roundw
    case rel=>exact⟨s',hJ'⟩
    case measure=>
     have h1:=(HM.out W3 s' hJ').1;have h2:=HMm.out;omega
   ·gi_wp2;refine Q5 (QD rfl _ _ _) rfl ?_;exact⟨⟨_,rfl⟩,.inr hJx⟩
