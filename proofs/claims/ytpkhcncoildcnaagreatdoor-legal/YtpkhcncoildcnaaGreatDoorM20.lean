import Derived.Test.YtpkhcncoildcnaaGreatDoorM08
import Derived.Test.YtpkhcncoildcnaaGreatDoorM19
set_option maxRecDepth 100000
set_option maxHeartbeats 8000000
namespace Go.Proofs.YtpkhcncoildcnaaGreatDoor
variable {zp:Prop}
theorem zeM(h:zp:=by
 go_quiet(fail)
 go_wp2;go_ret;exact⟨by rw[HD.out];rfl,QK hB _⟩):zp:=h
theorem zeP(h:zp:=by
 obtain⟨i,hi⟩:=O5.1 hx;exact(Ov.1 (hW.rgs.nds r hr i x hi)).1):zp:=h
theorem zfx(h:zp:=by
 have:¬place t x.t=q:=zaa;simp[this]):zp:=h
theorem zaI(h:zp:=by first|exact Wq|exact Wq.alloc Wq.size _):zp:=h
theorem zbz(h:zp:=by first|exact HS.out _ (YS _)|exact HS.out _ (Wq.alloc Wq.size _)|exact(HS3.out _ w3 Wq hE.out).2.1 _):zp:=h
theorem zce(h:zp:=by first|exact UB.trans UU|exact(YS _).trans (UU.mono (TC (hsd _)))):zp:=h
theorem zcn(h:zp:=by rcases h with h|h|h<;>exact absurd h (by decide)):zp:=h
open Tryz
variable {R:Nat->List Y.Nd}{t q Bs now:Nat}{xs:List Y.Nd}{y:Y.Nd}{W w0 a:World}{wh:Nat->Value}{qv:Value}{s:Y.MSt}{rp:Option Addr}{hv:Nat->Nat}{E:TypeId->Prop}
section
open Go.RowKit Go.Proofs Go.Shelf
namespace Y
def fE(R:Nat->List Nd)(r t:Nat)(xs:List Nd)(q:Nat):List Nd:=upd R r [] q++xs.filter (fun x=>place t x.2.t == q)
theorem Bn(R:Nat->List Nd)(r t:Nat)(xs:List Nd)(x:Nd)(q:Nat):fE R r t (xs++[x]) q=upd (fE R r t xs) (place t x.2.t) (fE R r t xs (place t x.2.t)++[(x.1,x.2)]) q:=by
 by_cases e:q=place t x.2.t
 ·subst e;rw[aD];unfold fE;rw[Qg,Ql zad,Qn];rfl
 ·rw[aG _ _ e];unfold fE;rw[Qg,Qk (by simp;exact fun h=>e h.symm)];simp
theorem Dn{r:Nat}(h:y∈fE R r t xs q):(q≠r/\y∈R q)\/y∈xs:=by
 rcases OT.1 h with h|h
 ·by_cases e:q=r
  ·subst e;rw[aD]at h;cases h
  ·rw[aG _ _ e]at h;exact .inl ⟨e,h⟩
 ·exact .inr (P3.1 h).1
structure RgD(lo:Y.Lo)(R:Nat->List Nd):Prop where
 low:∀r,isR r->∀x∈R r,lo.ok x.1
 dis:∀r q,isR r->isR q->r≠q->∀x∈R r,∀y∈R q,x.1≠y.1
 nod:∀r,isR r->((R r).map (·.1)).Nodup
theorem dh.rgD{lo:Y.Lo}(h:dh W lo wh R):RgD lo R:=⟨h.low,h.dis,h.nod⟩
structure TuI(w0:World)(lo:Y.Lo)(mb pb:Nat)(qv:Value)(s:MSt)(R:Nat->List Nd)(r:Nat)(xs:List Nd)(V:World):Prop where
 pre:xs=(R r).take xs.length
 ex:∃wh',au V lo mb pb qv { s with wh:=wh' }/\WhM V lo { s with wh:=wh' } (fE R r s.now xs)
 rest:∀i x,xs.length<=i->(R r)[i]?=some x->V.heap[x.1]?=some (.cells (eN x.2 (nxt (R r) i)) 215 (0,0))
 rf:Rw lo w0 V
theorem TuI.gr{V V':World}{row:Option Nat}{lo:Y.Lo}{mb pb:Nat}{r:Nat}(h:TuI w0 lo mb pb qv s R r xs V)(hl:lo<=w0.heap.size)(hg:V.grownBy V' row)(hr:∀j,row=some j->w0.heap.size<=j/\∃o:Obj,V.heap[j]?=some o/\o.isCells=false):TuI w0 lo mb pb qv s R r xs V':=by
 obtain⟨wh',a,b⟩:=h.ex;have hr':∀j,row=some j->∃o:Obj,V.heap[j]?=some o/\o.isCells=false:=fun j e=>(hr j e).2;refine⟨h.pre,⟨wh',a.gr hg hr',b.kd (E:=fun _=>False) (iz hg hr') (fun h=>h)⟩,fun i x hi hx=>?_,h.rf.gr hl hg hr⟩;have hx':=h.rest i x hi hx;exact(iz (E:=fun _=>False) hg hr').aq _ _ _ _ hx' (fun h=>h) |>.trans hx'
theorem TuI.far{V:World}{lo:Y.Lo}{mb pb:Nat}{r:Nat}(h:TuI w0 lo mb pb qv s R r xs V)(hD:RgD lo R)(hr:isR r){i:Nat}(hi:xs.length<=i)(hy:(R r)[i]?=some y):∀q,isR q->∀z∈fE R r s.now xs q,z.1≠y.1:=fun q hq z hz=>by
 rcases Dn hz with⟨e,hz⟩|hz
 ·exact hD.dis q r hq hr e z hz y (OG hy)
 ·rw[h.pre]at hz;exact mj (hD.nod r hr) hi hy z hz
theorem TuI.step{V V':World}{lo:Y.Lo}{mb pb:Nat}{r:Nat}{x:Nd}(h:TuI w0 lo mb pb qv s R r xs V)(hD:RgD lo R)(hr:isR r)(hx:(R r)[xs.length]?=some x)
  (h1:∃wh',au V' lo mb pb qv { s with wh:=wh' }/\WhM V' lo { s with wh:=wh' } (upd (fE R r s.now xs) (place s.now x.2.t) (fE R r s.now xs (place s.now x.2.t)++[(x.1,x.2)]))) (h2:Rw lo V V') (h3:Mo (fun k=>k=mb\/k=x.1\/∃q,isR q/\∃y∈fE R r s.now xs q,k=y.1) V V'):TuI w0 lo mb pb qv s R r (xs++[x]) V':=by
 obtain⟨wh',a,b⟩:=h1;obtain⟨wh0,a0,_⟩:=h.ex;refine⟨?_,⟨wh',a,b.congr (fun q _=>Bn R r s.now xs x q)⟩,fun i y hi hy=>?_,h.rf.trans h2⟩
 ·rw[OM,Qu,<- dO hx]
  conv=>lhs;rw[h.pre]
 ·have Wn:xs.length+1<=i:=by rw[OM,Qu]at hi;exact hi
  have hy0:=h.rest i y zaa hy;refine(h3.block y.1 (Ov.1 hy0).1 ?_).trans hy0;rintro(e|e|⟨q,hq,z,hz,e⟩)
  ·exact a0.typ hy0 e.symm
  ·have hxm:x∈(R r).take (xs.length+1):=by rw[<- dO hx];simp
   exact mj (hD.nod r hr) Wn hy x hxm e.symm
  ·exact h.far hD hr zaa hy q hq z hz e.symm
theorem TuI.rd{V:World}{lo:Y.Lo}{mb pb:Nat}{r:Nat}(h:TuI w0 lo mb pb qv s R r xs V)(ht:∀x∈R r,isR (place s.now x.2.t))(hb:V.cell? Bs=some (aM (R r))):RdN Bs (R r) xs.length V:=by
 obtain⟨wh',a,b⟩:=h.ex;refine⟨hb,fun x hx=>?_,fun x hx=>?_,fun h0 z hz=>?_⟩
 ·obtain⟨i,hi⟩:=O5.1 hx
  rcases QD i xs.length with Vm|Vm
  ·have hxx:x∈xs:=by
    rw[h.pre];exact OG (by rw[PC Vm];exact hi)
   have hm:x∈fE R r s.now xs (place s.now x.2.t):=OT.2 (.inr (P3.2 ⟨hxx,zad⟩));obtain⟨j,hj⟩:=O5.1 hm;exact⟨_,b.rgs.nds _ (ht x hx) j x hj⟩
  ·exact⟨_,h.rest i x Vm hi⟩
 ·rw[OA V _ _ _ _ _ (h.rest _ x (Ow _) hx)];rfl
 ·have VE:(R r)[(R r).length-1]?=some z:=zaA;rw[OA V _ _ _ _ _ (h.rest _ z zaa VE)];rfl
theorem Bm{T:List Tn}(Uc:now<18446744073709551616)(ht:t<18446744073709551616)(hle:now<=t)(hT:∀x∈T,t<=x.t/\x.t<18446744073709551616)(hR:∀r,isR r->(R r).map (·.2)=T.filter (fun x=>place now x.t == r))(hq:isR q):
  (fE R (place now t) t (R (place now t)) q).map (·.2)=T.filter (fun x=>place t x.t == q):=by
 have hr:=gd now t;have hup:∀x∈T,place now t<=place now x.t:=fun x hx=>tB Uc ht (hT x hx).2 hle (hT x hx).1;have hst:∀x∈T,place now x.t≠place now t->place t x.t=place now x.t:=fun x hx h=>C0 Uc ht (hT x hx).2 hle (hT x hx).1 h;have hdn:∀x∈T,place now x.t=place now t->place now t≠390->place t x.t<=place now t:=fun x hx h h'=>CZ Uc ht (hT x hx).2 hle (hT x hx).1 h h';unfold fE;rw[Pk];have e2:((R (place now t)).filter (fun x=>place t x.2.t == q)).map (·.2)=(T.filter (fun x=>place now x.t == place now t)).filter (fun x=>place t x.t == q):=by
  rw[<- hR _ hr,Su];rfl
 rw[e2,RT];generalize place now t=r at *
 rcases RB q r with h|h|h
 ·have e1:(upd R r [] q).map (·.2)=[]:=by
   rw[aG _ _ zaa,hR q hq];refine QT.2 fun x hx=>?_;have:=hup x hx;simp;omega
  rw[e1,TG];refine QU fun x hx=>?_;by_cases e:place now x.t=r
  ·simp[e]
  ·have h1:=hst x hx e;have h2:=hup x hx;exact zfx
 ·subst h;rw[aD,List.map_nil,TG];refine QU fun x hx=>?_;by_cases e:place now x.t=q
  ·simp[e]
  ·have h1:=hst x hx e;exact zfx
 ·have TU:r≠390:=by have:=hq.lt;omega
  have e1:T.filter (fun x=>(place t x.t == q)&&(place now x.t == r))=[]:=by
   refine QT.2 fun x hx=>?_;by_cases e:place now x.t=r
   ·have:=hdn x hx e TU;exact zfx
   ·simp[e]
  rw[e1,Ra,aG _ _ zaa,hR q hq];refine QU fun x hx=>?_;by_cases e:place now x.t=r
  ·have:=hdn x hx e TU;have h1:¬place t x.t=q:=zaa;have h2:¬r=q:=zaa;rw[e,P5.2 h2,P5.2 h1]
  ·rw[hst x hx e]
end Y
attribute [local go_sem] Pp
theorem Fa(w:World)(lo:Y.Lo)(mb pb:Nat)(qv:Value)(s:Y.MSt)(R:Nat->List Y.Nd)(t:Nat)(hM:Y.au w lo mb pb qv s)(hW:Y.WhM w lo s R)(TV:lo<=w.heap.size):
  () 116 #[(mb,27),.int .i64 (Y.aN s.now t:Nat),.int .i64 (Y.gh s.now t:Nat)] w fun e w'=>e=.returned (.agg #[Y.aM (R (Y.place s.now t))])/\Hid (Y.Emp w w w' lo mb pb qv s R (Y.place s.now t)):=by
 have h6:=Y.fg s.now t;have hs:=Y.fK s.now t;unfold Y.place;by_cases h:Y.aN s.now t=6
 ·rw[OD h,h];exact Cf w lo mb pb qv s R _ hM hW TV
 ·rw[OB h];exact Cg w lo mb pb qv s R _ _ hM hW TV zaa hs
namespace Y
structure TuJ(w:World)(lo:Y.Lo)(mb pb:Nat)(qv:Value)(s:MSt)(R:Nat->List Nd)(r:Nat)(rp:Option Addr)(Bs:Nat)(V:World):Prop where
 ex:∃wh',au V lo mb pb qv { s with wh:=wh' }/\WhM V lo { s with wh:=wh' } (upd R r [])
 rf:Rw lo w V
 nds:cH V (R r)
 bx:Boxed V w 209 (mb,27)
 rg:Boxed V Bs 112 (.pointer rp)
 lt:w.heap.size<Bs
theorem TuJ.of{w w2 w3:World}{lo:Y.Lo}{mb pb:Nat}{r:Nat}(hM:au w lo mb pb qv s)(hn:cH w (R r))(TV:lo<=w.heap.size)(hb:Below w w w2)(bx:Boxed w2 w 209 (mb,27))(hE:Emp w2 w2 w3 lo mb pb qv s R r):Rw lo w w3/\cH w3 (R r)/\Boxed w3 w 209 (mb,27):=by
 have Vd:=hM.lt;refine⟨(RfE.of hb TV).trans hE.rf,fun i x hx=>?_,?_⟩
 ·have h0:=hn i x hx;have hl:=(Ov.1 h0).1;exact(hE.mo.block x.1 (OS hl hb.size) (fun e=>hM.typ h0 e.symm)).trans ((hb.block x.1 hl).trans h0)
 ·exact(hE.mo.block _ bx.lt zaa).trans bx
theorem TuJ.new{w w2 w3:World}{lo:Y.Lo}{mb pb:Nat}{r:Nat}(hM:au w lo mb pb qv s)(hn:cH w (R r))(TV:lo<=w.heap.size)(hb:Below w w w2)(bx:Boxed w2 w 209 (mb,27))(hE:Emp w2 w2 w3 lo mb pb qv s R r):TuJ w lo mb pb qv s R r rp w3 (w3.alloc (.cells #[.pointer rp] 112)):=by
 obtain⟨a,b,c⟩:=TuJ.of hM hn TV hb bx hE;obtain⟨wh',a1,a2⟩:=hE.ex;have hB:Below w3 w3 (w3.alloc (.cells #[.pointer rp] 112)):=(Oy _ w3).alloc (Ow _) _;refine⟨⟨wh',a1.below hB,a2.rgs.below hB,a2.held⟩,a.trans (RfE.of hB (Ox TV a.bel.size)),fun i x hx=>?_,aB c hB c.lt,O4 _ _ _,c.lt⟩;have h0:=b i x hx;exact(hB.block x.1 (Ov.1 h0).1).trans h0
theorem TuJ.old{w w2 w3:World}{lo:Y.Lo}{mb pb:Nat}{r:Nat}(hM:au w lo mb pb qv s)(hn:cH w (R r))(TV:lo<=w.heap.size)(hb:Below w w w2)(bx:Boxed w2 w 209 (mb,27))(hE:Emp w2 w2 w3 lo mb pb qv s R r)(Wb:w.heap.size<Bs)(hq:w3.heap[Bs]?=some (.cells #[.pointer none] 112 (0,0))):TuJ w lo mb pb qv s R r rp Bs (w3.setCell Bs (.pointer rp)):=by
 obtain⟨a,b,c⟩:=TuJ.of hM hn TV hb bx hE;have hE2:Emp w w2 w3 lo mb pb qv s R r:=⟨hE.ex,a,hE.mo⟩;have h3:=hE2.box (u:=.pointer rp) TV hq zaa (.inr trivial) hb;refine⟨h3.ex,h3.rf,fun i x hx=>?_,bs c (p:=Bs) (by show w.heap.size≠Bs;omega) _,OP w3 Bs 0 _ _ _ hq,Wb⟩;have h0:=hn i x hx;exact(h3.mo.block x.1 (Ov.1 h0).1 (fun e=>hM.typ h0 e.symm)).trans h0
theorem au.No{lo:Y.Lo}{mb pb:Nat}(h:au W lo mb pb qv s)(t:Nat):au (W.setCell (mb,27) (.int .u64 t)) lo mb pb qv { s with now:=t }:=
 h.set 27 _ _ zaa rfl fun j hj=>by
  by_cases e:j=27
  ·subst e;rw[OD rfl];rfl
  ·rw[OB e];unfold fw;dsimp only;by_cases e0:j=0
   ·rw[OD e0,OD e0]
   ·rw[OB e0,OB e0,OB e,OB e]
theorem TuJ.start{w V:World}{lo:Y.Lo}{mb pb:Nat}{r:Nat}(h:TuJ w lo mb pb qv s R r rp Bs V)(TV:lo<=w.heap.size)(Vd:mb<w.heap.size)(t:Nat)(o:Obj):TuI w lo mb pb qv { s with now:=t } R r [] ((V.setCell (mb,27) (.int .u64 t)).alloc o)/\Boxed ((V.setCell (mb,27) (.int .u64 t)).alloc o) w.heap.size 209 (mb,27):=by
 obtain⟨wh',a,b⟩:=h.ex;have hm:Mo (·=mb) V (V.setCell (mb,27) (.int .u64 t)):=(Mo.refl _ _).set _ _ rfl;have Z2:=Ox TV h.rf.bel.size;have hR:Rm lo V (V.setCell (mb,27) (.int .u64 t)):=RfE.mo hm (fun j hj=>by
  obtain⟨arr,a1,_⟩:=a.blk;subst hj;exact⟨a.lo',arr,_,_,a1,rfl⟩) Z2
 have hB:Below (V.setCell (mb,27) (.int .u64 t)).heap.size (V.setCell (mb,27) (.int .u64 t)) ((V.setCell (mb,27) (.int .u64 t)).alloc o):=(Oy _ _).alloc (Ow _) _;have b2:WhM (V.setCell (mb,27) (.int .u64 t)) lo { s with now:=t,wh:=wh' } (upd R r []):=⟨b.rgs.kd hR.kd (by unfold La;decide),b.held⟩;refine⟨⟨zad,⟨wh',(a.No t).below hB,(WhM.congr ⟨b2.rgs.below hB,b2.held⟩ (fun q _=>by unfold fE;simp))⟩,fun i x _ hx=>?_,h.rf.trans ((Jd hR).trans (RfE.of hB (by simp;exact Z2)))⟩,(bs h.bx (p:=⟨mb,27,none⟩) (by show w.heap.size≠mb;omega) _).alloc _⟩;have h0:=h.nds i x hx;have hl:=(Ov.1 h0).1;exact(hB.block x.1 (by simp;exact hl)).trans ((hm.block x.1 hl (fun e=>a.typ h0 e.symm)).trans h0)
end Y
theorem Gp(w:World)(lo:Y.Lo)(mb pb:Nat)(qv:Value)(s:Y.MSt)(R:Nat->List Y.Nd)(t:Nat)(hM:Y.au w lo mb pb qv s)(hW:Y.WhM w lo s R)(TV:lo<=w.heap.size)(Uc:s.now<18446744073709551616)(ht:t<18446744073709551616)(hRt:∀r,Y.isR r->∀x∈R r,x.2.t<18446744073709551616):
  () 77 #[(mb,27),.int .u64 t] w fun e w'=>e=.returned (.tuple #[])/\Hid (∃wh',Y.au w' lo mb pb qv { s with now:=t,wh:=wh' }/\Y.WhM w' lo { s with now:=t,wh:=wh' } (Y.fE R (Y.place s.now t) t (R (Y.place s.now t)))/\Y.Rw lo w w'):=by
 have hr:=Y.gd s.now t;have hn:=hW.rgs.nds _ hr;have hD:=hW.rgs.rgD;have Vd:=hM.lt;obtain⟨rp,US⟩:∃rp,Y.aM (R (Y.place s.now t))=.pointer rp:=by
  unfold Y.aM;cases(R (Y.place s.now t)).getLast? with
  |none=>exact⟨_,rfl⟩
  |some z=>exact⟨_,rfl⟩
 have Va:=fun V=>mS (Y.aM (R (Y.place s.now t))) V (Y.pk _);rw[US]at Va;refine(O3 (n:=7)).1 ?_;refine Pq func77 rfl trivial ?_ rfl;simp only[ntmps77,List.size_toArray,List.length_cons,List.length_nil,Nat.reduceAdd,Nat.reduceSub,Array.replicate_succ,Array.replicate_zero,List.push_toArray,List.append_toArray,List.nil_append,List.cons_append];gi_wp2;have bx1:=O4 w 209 (mb,27);have T5:Below w w (w.alloc (.cells #[(mb,27)] 209)):=(Oy _ w).alloc (Ow _) _;have Wg:(w.alloc (.cells #[(mb,27)] 209)).heap.size=w.heap.size+1:=zad;generalize w.alloc (.cells #[(mb,27)] 209)=W1 at *;have Ul:∀V,Below W1 W1 V->Below w w V/\Boxed V w 209 (mb,27):=fun V hV=>⟨T5.trans (hV.mono T5.size),aB bx1 hV bx1.lt⟩;obtain⟨r,hre⟩:∃r,Y.place s.now t=r:=⟨_,rfl⟩;have HSP:Hid (∀V,Below W1 W1 V->() 114 #[(mb,27),.int .u64 t] V fun e w'=>e=.returned (.tuple #[.int .i64 ((Y.aN s.now t:Nat):Int),.int .i64 ((Y.gh s.now t:Nat):Int)])/\Below V.heap.size V w'):=fun V hV=>pE V mb 27 s.now t Uc ht ((hM.below (Ul V hV).1).cell 27 zac);have HEM:Hid (∀V,Below W1 W1 V->() 116 #[(mb,27),.int .i64 ((Y.aN s.now t:Nat):Int),.int .i64 ((Y.gh s.now t:Nat):Int)] V fun e w'=>e=.returned (.agg #[.pointer rp])/\Hid (Y.Emp V V w' lo mb pb qv s R r)):=fun V hV=>by
  have h:=Fa V lo mb pb qv s R t (hM.below (Ul V hV).1) ⟨hW.rgs.below (Ul V hV).1,hW.held⟩ (Ox TV (Ul V hV).1.size);rw[US,hre]at h;exact h
 rw[hre]at US hn hr;have HS:Hid (∀V,Below W1 W1 V->V.cell? w=some ↑(mb,27)):=fun V hV=>(Ul V hV).2.cell;have HS3:Hid (∀V w',Below W1 W1 V->Y.Emp V V w' lo mb pb qv s R r->w'.cell? w=some ↑(mb,27)/\(∀o,(w'.alloc o).cell? w=some ↑(mb,27))/\∀Bs u,w.heap.size<Bs->(w'.setCell ⟨Bs,0,none⟩ u).cell? w=some ↑(mb,27)):=fun V w' hV hE=>by
  have c:=(Y.TuJ.of hM hn TV (Ul V hV).1 (Ul V hV).2 hE).2.2;exact⟨c.cell,fun o=>(c.alloc o).cell,fun Bs u h=>(bs c (p:=⟨Bs,0,none⟩) (by show w.heap.size≠Bs;omega) u).cell⟩
 have HQ:Hid (∀V w' Bs,Y.Emp V V w' lo mb pb qv s R r->V.heap[Bs]?=some (.cells #[.pointer none] 112 (0,0))->w.heap.size<Bs->w'.heap[Bs]?=some (.cells #[.pointer none] 112 (0,0))):=fun V w' Bs hE hq h=>(hE.mo.block Bs (Ov.1 hq).1 zaa).trans hq;have HF1:Hid (∀V w',Below W1 W1 V->Y.Emp V V w' lo mb pb qv s R r->Y.TuJ w lo mb pb qv s R r rp w'.heap.size (w'.alloc (.cells #[.pointer rp] 112))):=fun V w' hV hE=>Y.TuJ.new hM hn TV (Ul V hV).1 (Ul V hV).2 hE;have HF2:Hid (∀V w' Bs,Below W1 W1 V->Y.Emp V V w' lo mb pb qv s R r->w.heap.size<Bs->w'.heap[Bs]?=some (.cells #[.pointer none] 112 (0,0))->Y.TuJ w lo mb pb qv s R r rp Bs (w'.setCell ⟨Bs,0,none⟩ (.pointer rp))):=fun V w' Bs hV hE hB hq=>Y.TuJ.old hM hn TV (Ul V hV).1 (Ul V hV).2 hE hB hq;have UB:Below W1 W1 W1.drew:=(Oy _ W1).drew;have YS:∀o:Obj,Below W1 W1 (W1.alloc o).drew:=fun o=>((Oy _ W1).alloc (Ow _) _).drew;have hg1:∀o:Obj,(W1.alloc o).drew.heap[W1.heap.size]?=some o:=fun o=>OH W1 o;have hsd:∀o:Obj,W1.heap.size<(W1.alloc o).drew.heap.size:=fun o=>by show W1.heap.size<(W1.alloc o).heap.size;simp
 generalize hkk:Y.aN s.now t=kk at HSP HEM;generalize hss:Y.gh s.now t=ss at HSP HEM;have HKS:Hid (Y.aN s.now t=kk/\Y.gh s.now t=ss):=⟨hkk,hss⟩;have HRE:Hid _:=hre;have HRV:Hid _:=US;have HM:Hid _:=hM;have HW:Hid _:=hW;have HN:Hid _:=hn;have HD:Hid _:=hD;clear hkk hss hM hW hn hD Ul US hre;have Xk:=bx1.cell;refine wpIn_mono (Q:=oX (fun _ a' V=>∃Bs,a'={ tmps:=#[.pointer (some ⟨mb,27,none⟩),.int .u64 t,.pointer (some ⟨w.heap.size,0,none⟩),undef,.pointer (some ⟨Bs,0,none⟩),undef,.pointer (some ⟨mb,27,none⟩),.pointer (some ⟨mb,27,none⟩),.int .u64 t,.tuple #[.int .i64 kk,.int .i64 ss],.int .i64 kk,.int .i64 ss,.agg #[.pointer rp],undef,undef,undef,undef,undef,undef,undef,undef,undef,undef],defers:=[] }/\Y.TuJ w lo mb pb qv s R r rp Bs V)) (Ty.2 ?reg) ?rest
 case reg=>
  refine OQ (S:=(fun V=>V.cell? w=some (.pointer (some ⟨mb,27,none⟩)))) zab Xk (fun u0=>?_);refine tD (some 6) 0 (mb,27) rfl u0 ?_;refine tD (some 7) 1 (mb,27) rfl u0 ?_;refine tD (some 8) 2 (.int .u64 t) rfl u0 ?_;refine yH [3,7] ?_;refine Pb rfl (fun K hK=>?rg1) (Pb rfl (fun K hK=>?rg2) P1)
  case' rg1=>
   go_simp;refine(HSP.out _ zbd).mono ?_;rintro e w2 ⟨rfl,UU⟩;have Wq:Below W1 W1 w2:=zce;refine hK.out _ _ (HS.out w2 Wq) (fun u0=>?_);clear hK K;refine tD (some 10) 4 (.int .i64 kk) rfl u0 ?_;refine tD (some 11) 5 (.int .i64 ss) rfl u0 ?_;refine yH [6,7] ?_;refine Pb rfl (fun K hK=>?rg3) (Pb rfl (fun K hK=>?rg4) P1)
   case' rg3=>
    go_simp;refine(HEM.out _ zaI).mono ?_;rintro e w3 ⟨rfl,hE⟩;refine hK.out _ _ (HS3.out _ w3 zaI hE.out).1 (fun u0=>?_);clear hK K;refine zH 7 rfl fun K hK=>?_;go_simp;refine hK.out _ _ zbz (fun u0=>?_);clear hK K;refine zH 8 rfl fun K hK=>?_;go_simp;refine hK.out _ _ ((HS3.out _ w3 Wq hE.out).2.1 _) (fun u0=>?_);clear hK K u0;refine OY zab ?_ _;exact⟨_,rfl,HF1.out _ _ Wq hE.out⟩
   case' rg4=>
    go_simp;refine hK.out _ _ zbz (fun u0=>?_);clear hK K;refine zH 6 rfl fun K hK=>?_;go_simp;refine(HEM.out _ zaI).mono ?_;rintro e w3 ⟨rfl,hE⟩;refine hK.out _ _ (HS3.out _ w3 zaI hE.out).1 (fun u0=>?_);clear hK K;refine zH 8 rfl fun K hK=>?_;have q0:=HQ.out _ _ _ hE.out (OH w2 _) (by have:=Wq.size;omega);have k0:=OA w3 _ 0 _ _ _ q0;have z0:w3.frozen? w2=false:=zbk;have hlB:w.heap.size<w2.heap.size:=by have:=Wq.size;omega
    go_simp;refine hK.out _ _ ((HS3.out _ w3 (Wq.alloc Wq.size _) hE.out).2.2 _ _ hlB) (fun u0=>?_);clear hK K u0;refine OY zab ?_ _;exact⟨_,rfl,HF2.out _ _ _ (Wq.alloc Wq.size _) hE.out hlB q0⟩
  case' rg2=>
   go_simp;refine hK.out _ _ zbz (fun u0=>?_);clear hK K;refine zH 3 rfl fun K hK=>?_;go_simp;refine(HSP.out _ zbd).mono ?_;rintro e w2 ⟨rfl,UU⟩;have Wq:Below W1 W1 w2:=zce;refine hK.out _ _ (HS.out w2 Wq) (fun u0=>?_);clear hK K;refine tD (some 10) 4 (.int .i64 kk) rfl u0 ?_;refine tD (some 11) 5 (.int .i64 ss) rfl u0 ?_;refine zH 6 rfl fun K hK=>?_;go_simp;refine(HEM.out _ zaI).mono ?_;rintro e w3 ⟨rfl,hE⟩;refine hK.out _ _ (HS3.out _ w3 zaI hE.out).1 (fun u0=>?_);clear hK K;refine zH 8 rfl fun K hK=>?_;have hlB:w.heap.size<w.heap.size+1:=RL _;have q0:w3.heap[w.heap.size+1]?=some (.cells #[.pointer none] 112 (0,0)):=by
    rw[<- Wg];exact HQ.out _ _ W1 hE.out ((UU.block _ (hsd _)).trans (hg1 _)) zaa
   have k0:=OA w3 _ 0 _ _ _ q0;have z0:w3.frozen? ↑(w.heap.size+1)=false:=zbk;go_simp;refine hK.out _ _ ((HS3.out _ w3 Wq hE.out).2.2 _ _ hlB) (fun u0=>?_);clear hK K u0;refine OY zab ?_ _;exact⟨_,rfl,HF2.out _ _ _ Wq hE.out hlB q0⟩
 case rest=>
  rintro e a' V h;cases e with
  |normal=>
   obtain⟨Bs,rfl,hJ⟩:=h;have HR:Hid _:=hJ.ex;obtain⟨wh',a,b⟩:=HR.out;have c0:=hJ.bx.cell;have c27:V.cell? (mb,27)=some (.int .u64 s.now):=a.cell 27 zac;have f27:V.frozen? (mb,27)=false:=a.frozen 27;have hBm:Bs≠mb:=by have:=hJ.lt;omega
   have Xo:=bs hJ.rg (p:=⟨mb,27,none⟩) hBm (.int .u64 t);have hrc:=Xo.cell;obtain⟨hT0,y0⟩:=hJ.start TV Vd t (.cells #[.pointer rp] 112);have y1:=O4 (V.setCell (mb,27) (.int .u64 t)) 112 (.pointer rp);have hsV:(V.setCell (mb,27) (.int .u64 t)).heap.size=V.heap.size:=zad;rw[hsV]at y1;have Z2:w.heap.size<V.heap.size:=hJ.bx.lt;have XR:((V.setCell (mb,27) (.int .u64 t)).alloc (.cells #[.pointer rp] 112)).heap.size=V.heap.size+1:=zad;clear a b HR hJ Xo;gi_wp2_with(refine⟨trivial,?_⟩;gi_at_call 117;refine(O3.2 (Va _)).mono ?_;rintro e w9 ⟨rfl,Pg⟩;rw[Pg];clear Pg w9);generalize(V.setCell (mb,27) (.int .u64 t)).alloc (.cells #[.pointer rp] 112)=W0 at *;have Ua:=HD.out.nod r hr;refine tI rfl zaa (gf:=165) rfl trivial (QN func165 zab rfl)
    (AF 6 zaa V.heap.size (R r) Ua W0) (fun _ _=>trivial) (fun _ _ _ _ _=>trivial) (fun _=>rfl)
    (fun xs U=>Y.TuI w lo mb pb qv { s with now:=t } R r xs U/\(Boxed U w 209 (mb,27)/\Boxed U V 112 (.pointer rp)))
    (Pa (fun xs A C row h hg hrw=>h.gr TV hg (fun j e=>⟨by have:=(hrw j e).1;omega,(hrw j e).2⟩)) (Pa (PY (PG _ _ _) _) (PY (PG _ _ _) _)))
    (fun xs U hI=>hI.1.rd (fun _ _=>Y.gd _ _) (by rw[HRV.out];exact hI.2.2.cell)) ⟨hT0,y0,y1⟩
    (fun x a' _=>a'={ tmps:=#[(mb,27),.int .u64 t,w,undef,Bs,.pointer (some ⟨x.1,0,none⟩),(mb,27),(mb,27),.int .u64 t,.tuple #[(kk:Int),(ss:Int)],(kk:Int),(ss:Int),.agg #[.pointer rp],(mb,27),.int .u64 t,(mb,27),(mb,27),.agg #[.pointer rp],.func (.func 165) #[] #[V],.pointer (some ⟨x.1,0,none⟩),undef,undef,undef],defers:=[] }) (fun _ _ _ _ _ _ hs _ _=>hs) ?assign ?body ?done
   case assign=>
    intro l xs x U K hI hK;exact zfu
   case body=>
    rintro l xs x a' U hl _ ⟨hx,VK⟩ ⟨hT,z0,z1⟩ rfl;obtain⟨wh2,a2,b2⟩:=hT.ex;have ZM:=I2 U lo mb pb qv _ _ x.1 x.2 _ a2 b2 (Ox TV hT.rf.bel.size) ht (hRt r hr x (OG hx)) (hT.rest _ x (Ow _) hx) (hT.far HD.out hr (Ow _) hx) (HD.out.low r hr x (OG hx));have hput2:=OI ZM (R':=fun e w'=>e=.returned (.tuple #[])/\Hid (KeepsFrom W0 U w'/\True/\Y.TuI w lo mb pb qv { s with now:=t } R r (xs++[x]) w'/\(Boxed w' w 209 (mb,27)/\Boxed w' V 112 (.pointer rp)))) (by
     rintro e w' ⟨rfl,wh3,a3,b3,c3,d3⟩;exact⟨rfl,c3.oth.from _,trivial,hT.step HD.out hr hx ⟨wh3,a3,b3⟩ c3 d3,c3.kd.boxed z0 zaO,c3.kd.boxed z1 zaO⟩)
    have q0:=z0.cell;clear ZM a2 b2;gi_wp2_with(refine⟨trivial,?_⟩;gi_at_call 118;refine(aI hput2).mono ?_;intro e w8 h8;obtain⟨rfl,h8⟩:=h8);exact h8.out
   case done=>
    rintro D xs U hD hS ⟨hT,_⟩ T7;subst hS;gi_wp2;refine⟨zad,.inl ⟨_,_,rfl,Pj T7,?_⟩⟩;have hT2:=hT.gr TV (Qa U D (.deferred none)) (fun j e=>zaJ);obtain⟨wh4,a4,b4⟩:=hT2.ex;refine⟨_,Pu rfl _ _ _,rfl,wh4,a4,?_,hT2.rf⟩;rw[HRE.out];exact b4
  |_=>exact h.elim
namespace Y
theorem fR.bound{T:List Tn}(hF:∀r,isR r->(R r).map (·.2)=T.filter (fun t=>place s.now t.t == r))(hb:∀t∈T,t.t<18446744073709551616):∀r,isR r->∀x∈R r,x.2.t<18446744073709551616:=fun r hr x hx=>by
 have:x.2∈(R r).map (·.2):=O7.2 ⟨x,hx,rfl⟩;rw[hF r hr]at this;exact hb _ (P3.1 this).1
theorem sG{α:Type}(p:α->Bool):∀T:List α,(T.eraseP p).filter p=(T.filter p).tail
 |[]=>rfl
 |x::T=>by
  by_cases h:p x
  ·rw[List.eraseP_cons_of_pos h,Ql h];rfl
  ·rw[List.eraseP_cons_of_neg h,Qk h,Qk h];exact sG p T
theorem qE{α:Type}(p q:α->Bool)(h:∀x,p x=true->q x=false):∀T:List α,(T.eraseP p).filter q=T.filter q
 |[]=>rfl
 |x::T=>by
  by_cases hx:p x
  ·rw[List.eraseP_cons_of_pos hx,Qk (by rw[h x hx];simp)]
  ·rw[List.eraseP_cons_of_neg hx,Sj,Sj,qE p q h T]
theorem nV(ht:t<18446744073709551616):aN t t=0/\gh t t=t % 64/\place t t=t % 64:=by
 have h0:aN t t=0:=by
  have:=(a7 ht ht (k:=0) zac).2 rfl;omega
 have h1:gh t t=t % 64:=by rw[fJ,h0];simp
 refine⟨h0,h1,?_⟩;unfold place;rw[OB zaa,h0,h1];omega
theorem uU{x:Nat}(ht:t<18446744073709551616)(hx:x<18446744073709551616):place t x=place t t↔x=t:=by
 refine⟨fun h=>?_,fun h=>by rw[h]⟩;obtain⟨h0,h1,h2⟩:=nV ht;rw[h2]at h;have s1:=fK t x;have h6:=fg t x;unfold place at h;by_cases hk:aN t x=6
 ·rw[OD hk]at h;omega
 ·rw[OB hk]at h;have Yp:aN t x=0:=zaa;have hd:=(a7 ht hx (k:=0) zac).1 zaa;rw[Yp,fJ,Yp]at h;simp at h hd;omega
end Y
theorem wT(w:World)(lo:Y.Lo)(mb pb:Nat)(qv:Value)(s:Y.MSt)(T:List Y.Tn)(t:Nat)(hM:Y.au w lo mb pb qv s)(hT:Y.fR w lo s T)(TV:lo<=w.heap.size)(Uc:s.now<18446744073709551616)(ht:t<18446744073709551616)(hle:s.now<=t)(hTt:∀x∈T,t<=x.t):
  () 77 #[(mb,27),.int .u64 t] w fun e w'=>e=.returned (.tuple #[])/\Hid (∃wh',Y.au w' lo mb pb qv { s with now:=t,wh:=wh' }/\Y.fR w' lo { s with now:=t,wh:=wh' } T/\Y.Rw lo w w'):=by
 obtain⟨R,hW,hF,hb⟩:=hT;refine OI (Gp w lo mb pb qv s R t hM hW TV Uc ht (Y.fR.bound hF hb)) ?_;rintro e w' ⟨rfl,h⟩;obtain⟨wh',a,b,c⟩:=h.out;exact⟨rfl,wh',a,⟨_,b,fun r hr=>Y.Bm Uc ht hle (fun x hx=>⟨hTt x hx,hb x hx⟩) hF hr,hb⟩,c⟩
theorem JB(w:World)(lo:Y.Lo)(mb pb:Nat)(qv:Value)(s:Y.MSt)(T:List Y.Tn)(f:Y.Tn)(m:List Y.Tn)(hM:Y.au w lo mb pb qv s)(hT:Y.fR w lo s T)(TV:lo<=w.heap.size)(Uc:s.now<18446744073709551616)(hf:T.filter (fun x=>x.t == s.now)=f::m):
  () 115 #[(mb,28),.int .i64 ((s.now % 64:Nat):Int)] w fun e w'=>∃b,e=.returned (Y.ndP b)/\Hid (∃wh',Y.au w' lo mb pb qv { s with wh:=wh' }/\Y.fR w' lo { s with wh:=wh' } (T.eraseP (fun x=>x.t == s.now))/\Y.Rw lo w w'/\∃v,w'.heap[b]?=some (.cells (Y.eN f v) 215 (0,0))):=by
 obtain⟨R,hW,hF,hb⟩:=hT;obtain⟨h0,h1,h2⟩:=Y.nV Uc;have hr:Y.isR (s.now % 64):=.inl zaa;have hq:∀x∈T,(Y.place s.now x.t == s.now % 64)=(x.t == s.now):=fun x hx=>by
  have:=Y.uU Uc (hb x hx);rw[h2]at this;by_cases e:x.t=s.now
  ·rw[Sc.2 (this.2 e),Sc.2 e]
  ·rw[P5.2 (fun h=>e (this.1 h)),P5.2 e]
 have YB:(R (s.now % 64)).map (·.2)=f::m:=by
  rw[hF _ hr,QU hq];exact hf
 obtain⟨nf,nm,hn,e1,e2⟩:∃nf nm,R (s.now % 64)=nf::nm/\nf.2=f/\nm.map (·.2)=m:=by
  cases hh:R (s.now % 64) with
  |nil=>rw[hh]at YB;cases YB
  |cons a l=>
   rw[hh,QQ]at YB;injection YB with p1 p2;exact⟨a,l,rfl,p1,p2⟩
 have hp:=JM w lo mb pb qv s R 0 (s.now % 64) nf nm hM hW TV zac zaa (by rw[SA,QC];exact hn);rw[SA,QC,S9]at hp;refine OI hp ?_;rintro e w' ⟨rfl,h⟩;obtain⟨wh',a,b,c,v,hv⟩:=h.out;rw[e1]at hv;refine⟨nf.1,rfl,wh',a,⟨_,b,fun r hr'=>?_,fun x hx=>hb x (RY hx)⟩,c,v,hv⟩;by_cases er:r=s.now % 64
 ·subst er;rw[Y.aD,e2];have:m=(T.filter (fun x=>x.t == s.now)).tail:=by rw[hf];rfl
  rw[this,<- Y.sG];exact(QU fun x hx=>hq x (RY hx)).symm
 ·rw[Y.aG _ _ er,hF r hr'];refine(Y.qE _ _ (fun x hx=>?_) T).symm;have ex:x.t=s.now:=zby;show(Y.place s.now x.t == r)=false;rw[ex,h2];exact P5.2 (fun h=>er h.symm)
namespace Y
theorem z7{α β:Type}{f g:α->List β}(h:∀x,(f x).Sublist (g x)):∀l:List α,(l.flatMap f).Sublist (l.flatMap g)
 |[]=>List.Sublist.slnil
 |x::l=>by
  rw[PO,PO];exact(h x).append (z7 h l)
theorem JY:xw.Pairwise (·<·):=zaU
theorem F5(hv:Nat->Nat):(gF hv).Sublist xw:=by
 unfold gF xw kx ly;refine List.Sublist.append (z7 (fun k=>?_) _) (List.Sublist.refl _);unfold ld eX;exact List.filter_sublist.map _
theorem AQ(hv:Nat->Nat):(gF hv).Pairwise (·<·):=JY.sublist (F5 hv)
theorem wB{r:Nat}(h:r∈gF hv):isR r:=by
 rcases OT.1 h with h|h
 ·obtain⟨k,hk,hr⟩:=Q3.1 h;obtain⟨j,hj,rfl⟩:=O7.1 hr;have h1:=PD.1 hk;have h2:=(fZ.1 hj).1;exact .inl zaa
 ·exact .inr zaC
theorem FF(hh:∀k,k<6->∀s,s<64->(hv k).testBit s=!(R (k*65+s)).isEmpty){r:Nat}(hr:isR r)(TU:R r≠[]):r∈gF hv:=by
 rcases hr with⟨h1,h2⟩|rfl
 ·refine OT.2 (.inl (Q3.2 ⟨r / 65,PD.2 zaa,O7.2 ⟨r % 65,fZ.2 ⟨zaa,?_⟩,zaa⟩⟩));rw[hh _ zaa _ zaa,show r / 65*65+r % 65=r by omega];cases e:R r with
  |nil=>exact absurd e TU
  |cons a l=>rfl
 ·exact OT.2 (.inr zad)
theorem zX{β:Type}(p:Nat)(X:List β):∀l:List Nat,l.Pairwise (·<·)->(l.flatMap fun r=>if r=p then X else[])=if p∈l then X else[]
 |[],_=>by simp
 |x::l,h=>by
  have h1:=Qq.1 h;rw[PO,zX p X l h1.2];by_cases e:x=p
  ·subst e;have:x ∉ l:=fun hx=>by have:=h1.1 x hx;omega
   simp[this]
  ·have e':¬p=x:=fun h=>e h.symm;simp[e,e']
theorem GL{T:List Tn}(Uc:now<18446744073709551616)(hT:∀x∈T,now<=x.t/\x.t<18446744073709551616)(hF:∀r,isR r->(R r).map (·.2)=T.filter (fun x=>place now x.t == r))(hh:∀k,k<6->∀s,s<64->(hv k).testBit s=!(R (k*65+s)).isEmpty):(zl R hv).map (·.2)=srt (fun x:Tn=>x.t) T:=by
 have e1:(zl R hv).map (·.2)=(gF hv).flatMap (fun r=>srt (fun x:Tn=>x.t) (T.filter (fun x=>place now x.t == r))):=by
  unfold zl;rw[List.map_flatMap];have:∀l:List Nat,(∀r∈l,isR r)->(l.flatMap fun r=>(byT R r).map (·.2))=l.flatMap (fun r=>srt (fun x:Tn=>x.t) (T.filter (fun x=>place now x.t == r))):=fun l hl=>by
   induction l with
   |nil=>rfl
   |cons r l ih=>
    rw[PO,PO,ih (fun q hq=>hl q (OZ _ hq))]
    congr 1
    unfold byT;rw[Em (fun y:Nd=>y.2) (fun x:Tn=>x.t),hF r (hl r (O1 ..))]
  exact this _ (fun r hr=>wB hr)
 rw[e1];refine Dc ?_ fun k=>?_
 ·refine List.pairwise_flatMap.2 ⟨fun r _=>pF _ _,(AQ hv).imp fun{a b} hab x hx y hy=>?_⟩;have hx':=P3.1 (kV.1 hx);have hy':=P3.1 (kV.1 hy);have px:place now x.t=a:=by simpa using hx'.2
  have py:place now y.t=b:=by simpa using hy'.2
  rcases Nat.le_total x.t y.t with h|h
  ·exact h
  ·have:=tB Uc (hT y hy'.1).2 (hT x hx'.1).2 (hT y hy'.1).1 h;omega
 ·rw[List.filter_flatMap];have e2:((gF hv).flatMap fun r=>(srt (fun x:Tn=>x.t) (T.filter (fun x=>place now x.t == r))).filter (fun x=>x.t == k))=(gF hv).flatMap (fun r=>if r=place now k then T.filter (fun x=>x.t == k) else[]):=by
   congr 1
   funext r;rw[lf (fun x:Tn=>x.t) _ k,RT];by_cases e:r=place now k
   ·rw[OD e];refine QU fun x _=>?_;by_cases ex:x.t=k
    ·subst ex;simp[e]
    ·simp[ex]
   ·rw[OB e];refine QT.2 fun x _=>?_;by_cases ex:x.t=k
    ·subst ex;have:¬place now x.t=r:=fun h=>e h.symm;simp[this]
    ·simp[ex]
  rw[e2,zX _ _ _ (AQ hv)];by_cases hm:place now k∈gF hv
  ·rw[OD hm]
  ·rw[OB hm]
   symm
   refine QT.2 fun x hx hxk=>?_;have ex:x.t=k:=by simpa using hxk
   refine hm (FF hh (gd now k) (fun h=>?_));have:=hF _ (gd now k);rw[h]at this;have Ud:x∈T.filter (fun x=>place now x.t == place now k):=P3.2 ⟨hx,by rw[ex];simp⟩;rw[<- this]at Ud;cases Ud
end Y
theorem nh:(Tryz.prog.info? 139).map (·.size)=some 2:=zab
theorem yF:Tryz.f76.results=#[.cell 2 139]:=rfl
namespace Y
def gL:Obj:=.cells #[.string ⟨#[]⟩,.string ⟨#[]⟩] 139
theorem yt:¬cR 139:=fun h=>zcn
theorem L9:¬gq 139:=fun h=>yt (h.elim .inl (fun h=>.inr (.inr h)))
theorem nQ(W:World)(s:Nat)(cs:Array Value):Mo (·=s) W (W.setRow s cs):=⟨rfl,rfl,rfl,Nat.le_of_eq (SN W s cs).symm,fun k _ hk=>Rc W s k cs hk⟩
def Mh(mb:Nat)(x:Tn)(V:World):Prop:=() 78 #[(mb,27)] V fun e w'=>∃b,e=.returned (ndP b)/\w'.cell? ⟨b,0,none⟩=some (.int .u64 x.t)/\Below V V w'
def Gu(w:World)(lo:Y.Lo)(mb pb:Nat)(qv:Value)(s:MSt)(T:List Tn)(V:World):Prop:=∃wh',au V lo mb pb qv { s with wh:=wh' }/\fR V lo { s with wh:=wh' } T/\Rw lo w V
end Y
theorem vf(w:World)(lo:Y.Lo)(mb pb:Nat)(qv:Value)(s:Y.MSt)(T:List Y.Tn)(f:Y.Tn)(m:List Y.Tn)(hM:Y.au w lo mb pb qv s)(hT:Y.fR w lo s T)(TV:lo<=w.heap.size)(Uc:s.now<18446744073709551616)(hle:s.now<=f.t)(Wy:f.t<18446744073709551616)(hTt:∀x∈T,f.t<=x.t)(hf:T.filter (fun x=>x.t == f.t)=f::m)(hF:Y.Mh mb f (w.alloc Y.gL)):
  () 76 #[(mb,27)] w fun e w'=>e=.returned (.agg #[f.ev,f.nm])/\Hid (Y.Gu w lo mb pb qv { s with now:=f.t } (T.eraseP (fun x=>x.t == f.t)) w'):=by
 have T5:Below w w (w.alloc Y.gL):=(Oy _ w).alloc (Ow _) _;have Ub:(w.alloc Y.gL).heap[w.heap.size]?=some Y.gL:=OH _ _;have Wg:(w.alloc Y.gL).heap.size=w.heap.size+1:=zad;obtain⟨k0,k1,_⟩:=Y.nV Wy;generalize Uj:w.alloc Y.gL=W1 at *;have HFI:Hid _:=hF;have HTU:Hid (∀V,Below W1 W1 V->() 77 #[(mb,27),.int .u64 f.t] V fun e w'=>e=.returned (.tuple #[])/\w'.cell? ⟨mb,27,none⟩=some (.int .u64 f.t)/\Hid (Y.Gu w lo mb pb qv { s with now:=f.t } T w'/\w'.heap[w.heap.size]?=some Y.gL)):=fun V hV=>by
  have hV':Below w w V:=T5.trans (hV.mono T5.size);refine OI (wT V lo mb pb qv s T f.t (hM.below hV') (hT.below hV') (Ox TV hV'.size) Uc Wy hle hTt) ?_;rintro e w' ⟨rfl,h⟩;obtain⟨wh',a,b,c⟩:=h.out;have hzV:V.heap[w.heap.size]?=some Y.gL:=(hV.block _ zaa).trans Ub;exact⟨rfl,a.cell 27 zac,⟨wh',a,b,(Y.RfE.of hV' TV).trans c⟩,(c.kd.aq _ _ _ _ hzV Y.L9).trans hzV⟩
 have HSP:Hid (∀V,V.cell? ⟨mb,27,none⟩=some (.int .u64 f.t)->() 114 #[(mb,27),.int .u64 f.t] V fun e w'=>e=.returned (.tuple #[(0:Int),.int .i64 ((f.t % 64:Nat):Int)])/\Below V.heap.size V w'):=fun V hV=>by
  have h:=pE V mb 27 f.t f.t Wy Wy hV;rw[k0,k1]at h;exact h
 have HPO:Hid (∀V U,Hid (Y.Gu w lo mb pb qv { s with now:=f.t } T V/\V.heap[w.heap.size]?=some Y.gL)->Below V.heap.size V U->() 115 #[(mb,28),.int .i64 ((f.t % 64:Nat):Int)] U fun e w'=>∃b,e=.returned (Y.ndP b)/\w'.rangeAt b 1 [f.ev,f.nm]/\w'.heap[w.heap.size]?=some Y.gL/\Hid (∀cs,Y.Gu w lo mb pb qv { s with now:=f.t } (T.eraseP (fun x=>x.t == f.t)) (w'.setRow w cs))):=fun V U hV hU=>by
  obtain⟨⟨wh',a,b,c⟩,hz⟩:=hV.out;have hlU:=Ox TV (Ox c.bel.size hU.size);refine OI (JB U lo mb pb qv { s with now:=f.t,wh:=wh' } T f m (a.below hU) (b.below hU) hlU Wy hf) ?_;rintro e w' ⟨nb,rfl,h⟩;obtain⟨wh2,a2,b2,c2,v,hv⟩:=h.out;have hzU:U.heap[w.heap.size]?=some Y.gL:=(hU.block _ (Ov.1 hz).1).trans hz;have Uf:w'.heap[w.heap.size]?=some Y.gL:=(c2.kd.aq _ _ _ _ hzU Y.L9).trans hzU;refine⟨nb,rfl,fun j u hj=>?_,Uf,fun cs=>?_⟩
  ·rw[OA w' _ _ _ _ _ hv]
   match j,hj with
   |0,hj=>exact hj
   |1,hj=>exact hj
   |(n+2),hj=>simp at hj
  ·have hk:Kd (fun t=>¬Y.cR t) w' (w'.setRow w cs):=gO (Y.nQ w' w cs) (fun k c t fz hp hc=>by subst hp;rw[Uf]at hc;cases hc;exact Y.yt);refine⟨wh2,a2.mo (Y.nQ w' w cs) (fun e=>?_) (fun g hg e=>?_),b2.kd hk (fun h=>h (.inr (.inr rfl))) rfl rfl,Y.RfE.II (c.trans ((Y.RfE.of hU (Ox TV c.bel.size)).trans c2)) TV ((Y.nQ w' w cs).mono (fun k _ hk=>zaa))⟩
   ·have:=hM.lt;omega
   ·obtain⟨c',TZ⟩:=a2.que.kind g hg;rw[e,Uf]at TZ;cases TZ
 have HMB:Hid (Y.au w lo mb pb qv s):=hM;clear hM hT hF hf hTt Ub Wg k0 k1 T5;have Zh:Hid _:=Uj;clear Uj;unfold Y.gL at Zh;go_enter func76,ntmps76;go_wp2_with(first
  |(go_at_call 78;rw[Zh.out];refine OI HFI.out ?_;rintro e w2 ⟨b,rfl,XT,TP⟩;unfold Y.ndP)
  |(go_at_call 77;refine OI (HTU.out _ TP) ?_;rintro e w3 ⟨rfl,hc3,h3⟩)
  |(go_at_call 114;refine OI (HSP.out _ hc3) ?_;rintro e w4 ⟨rfl,TY⟩)
  |(go_at_call 115;refine OI (HPO.out _ _ h3 TY) ?_;rintro e w5 ⟨nb,rfl,TS,hz5,h5⟩;unfold Y.ndP)
  |(show wpList _ _ _ (Oper.mk (some 29) _ _ _ _ _::_) _ _;refine PW rfl 139 (.tmp 28) rfl nb 1 rfl _ _ TS underlying139 rfl nh ?_)
  |(show wpList _ _ _ (Oper.mk none _ _ _ _ _::_) _ _;refine fs rfl 139 (.tmp 2) (.tmp 29) rfl w.heap.size 139 _ _ rfl rfl hz5 nh rfl rfl ?_))
 refine ee yF w _ _ _ _ rfl (Tq w5 w _ _ _ _ hz5) underlying139 rfl nh rfl ?_;exact⟨rfl,h5.out _⟩
namespace Y
theorem kB.get(h:kB wh R):∃hv:Nat->Nat,(∀k,k<6->hv k<18446744073709551616)/\(∀k,k<6->wh (28+(k*65+64))=.int .u64 (hv k))/\∀k,k<6->∀s,s<64->(hv k).testBit s=!(R (k*65+s)).isEmpty:=by
 refine⟨fun k=>if hk:k<6 then Classical.choose (h k hk) else 0,fun k hk=>?_,fun k hk=>?_,fun k hk=>?_⟩
 all_goals
  have hs:=Classical.choose_spec (h k hk);simp only[dif_pos hk]
 ·exact hs.1
 ·exact hs.2.1
 ·exact hs.2.2
def Mi(w:World)(T:List Tn)(e:Ending)(w':World):Prop:=Below w w w'/\match (srt (fun x:Tn=>x.t) T).head? with
 |none=>e=.returned (.pointer none)
 |some x=>∃b,e=.returned (ndP b)/\w'.cell? ⟨b,0,none⟩=some (.int .u64 x.t)
theorem Ld{w W0:World}{lo:Y.Lo}{mb pb:Nat}{T:List Tn}{B:Nat->TypeId->Prop}(hM:au w lo mb pb qv s)(hW:WhM w lo s R)(XE:∀k,k<6->s.wh (28+(k*65+64))=.int .u64 (hv k))(hF:∀r,isR r->(R r).map (·.2)=T.filter (fun t=>place s.now t.t == r))(hl:T.length<=19)(hg:3<w.heap.size)(hG:TabAt 3 Lib.deBruijn64tab w)(hB:Below w w W0)(hb:∀k t,k<w.heap.size->¬B k t)(TX:∀k t,B k t->k<W0.heap.size\/t=157):Gv W0 mb R hv B:=by
 have Vd:=hM.lt;have Vv:∀r,isR r->∀x∈R r,x.1<w.heap.size:=fun r hr x hx=>by
  exact zeP
 have hM0:=hM.below hB;have V7:=hW.rgs.below hB;have hG0:TabAt 3 Lib.deBruijn64tab W0:=fun j hj=>(hB.cell (p:=⟨3,j,none⟩) hg).trans (hG j hj);refine⟨fun Bs V hk hc=>⟨hc,fun k Zs=>?_,fun k j Zs hj=>?_,?_,KpM.tab hk (fun t=>hb _ t hg) hG0⟩,V7.nds,V7.nod,fun r hr=>?_,fun r hr x hx t=>hb _ t (Vv r hr x hx),fun t=>hb _ t Vd,fun t=>hb _ t hg,TX⟩
 ·rw[show 28+k*65+64=28+(k*65+64) by omega];exact hk.cell ((hM0.whc (28+(k*65+64)) zaa zaa).trans (congrArg some (XE k Zs))) (fun t=>hb _ t Vd)
 ·rw[PJ];exact hk.cell ((hM0.whc (28+(k*65+j)) zaa zaa).trans (congrArg some (V7.ring _ (.inl zaa)))) (fun t=>hb _ t Vd)
 ·exact hk.cell ((hM0.whc 418 zaa zaa).trans (congrArg some (V7.ring 390 (.inr rfl)))) (fun t=>hb _ t Vd)
 ·have:((R r).map (·.2)).length<=T.length:=by rw[hF r hr];exact PB _ _
  rw[OK]at this;omega
end Y
theorem uk(w:World)(lo:Y.Lo)(mb pb:Nat)(qv:Value)(s:Y.MSt)(T:List Y.Tn)(hM:Y.au w lo mb pb qv s)(hT:Y.fR w lo s T)(hl:T.length<=19)(Uc:s.now<18446744073709551616)(V8:∀x∈T,s.now<=x.t)(hg:3<w.heap.size)(hG:TabAt 3 Lib.deBruijn64tab w):
  () 78 #[(mb,27)] w (Y.Mi w T):=by
 obtain⟨R,hW,hF,hb⟩:=hT;obtain⟨hv,UP,XE,YF⟩:=hW.held.get;have Vv:∀r,Y.isR r->∀x∈R r,x.1<w.heap.size:=fun r hr x hx=>by
  exact zeP
 refine OI (Fc w mb R hv UP (fun W0 hB hs=>Y.Ld hM hW XE hF hl hg hG hB (fun k _ hk=>zaa) (fun k _ e=>.inl zaa))) ?_
 ·rintro e w' ⟨rfl,hB⟩;refine⟨hB,?_⟩;have hs:=Y.GL Uc (fun x hx=>⟨V8 x hx,hb x hx⟩) hF YF;rw[<- hs];have Ud:∀x∈Y.zl R hv,∃r,Y.isR r/\x∈R r:=fun x hx=>by
   obtain⟨r,hr,hx⟩:=Q3.1 hx;exact⟨r,Y.wB hr,Y.kV.1 hx⟩
  unfold Y.Ci;cases hA:Y.zl R hv with
  |nil=>rfl
  |cons x l=>
   obtain⟨r,hr,hx⟩:=Ud x (by rw[hA];exact O1 ..);obtain⟨i,hi⟩:=O5.1 hx;have h0:=hW.rgs.nds r hr i x hi;refine⟨x.1,rfl,?_⟩;rw[hB.cell (p:=x.1) (Vv r hr x hx),OA w _ _ _ _ _ h0];rfl
namespace Y
def cY(now t:Nat)(T:List Tn):Bool:=match (srt (fun x:Tn=>x.t) T).head? with|none=>false|some x=>decide (x.t<=max t now)
end Y
theorem Ck(w:World)(lo:Y.Lo)(mb pb:Nat)(qv:Value)(s:Y.MSt)(T:List Y.Tn)(t:Nat)(hM:Y.au w lo mb pb qv s)(hT:Y.fR w lo s T)(hl:T.length<=19)(Uc:s.now<18446744073709551616)(V8:∀x∈T,s.now<=x.t)(hg:3<w.heap.size)(hG:TabAt 3 Lib.deBruijn64tab w):
  () 47 #[(mb,27),.int .u64 t] w fun e w'=>e=.returned (.bool (Y.cY s.now t T))/\Below w w w':=by
 have hf:=uk w lo mb pb qv s T hM hT hl Uc V8 hg hG;have HN:Hid (∀V,Below w w V->V.cell? ⟨mb,27,none⟩=some (.int .u64 s.now)):=fun V hV=>(hM.below hV).cell 27 zac;clear hM hT V8 hG;cases hh:(Y.srt (fun x:Y.Tn=>x.t) T).head? with
 |none=>
  have HF:Hid (() 78 #[(mb,27)] w fun e w'=>e=.returned (.pointer none)/\Below w w w'):=OI hf (by
   rintro e w' ⟨h1,h2⟩;rw[hh]at h2;exact⟨h2,h1⟩)
  have HD:Hid (Y.cY s.now t T=false):=by unfold Hid Y.cY;rw[hh]
  clear hf hh;go_enter func47,ntmps47;go_wp2_with(go_at_call 78;refine OI HF.out ?_;rintro e w1 ⟨rfl,hB⟩);exact zeM
 |some x=>
  have HF:Hid (() 78 #[(mb,27)] w fun e w'=>∃b,e=.returned (.pointer (some ⟨b,0,none⟩))/\w'.cell? ⟨b,0,none⟩=some (.int .u64 x.t)/\Below w w w'):=OI hf (by
   rintro e w' ⟨h1,h2⟩;rw[hh]at h2;obtain⟨b,e1,e2⟩:=h2;exact⟨b,e1,e2,h1⟩)
  have HD:Hid (Y.cY s.now t T=decide ((x.t:Int)<=max (t:Int) (s.now:Int))):=by
   unfold Hid Y.cY;rw[hh];exact decide_eq_decide.2 zaa
  clear hf hh;go_enter func47,ntmps47;go_wp2_with(go_at_call 78;refine OI HF.out ?_;rintro e w1 ⟨b,rfl,hc,hB⟩;have h27:=HN.out w1 hB);exact zeM
namespace Y
theorem lS{T:List Tn}{f:Tn}(h:(srt (fun x:Tn=>x.t) T).head?=some f):f∈T/\(∀x∈T,f.t<=x.t)/\∃m,T.filter (fun x=>x.t == f.t)=f::m:=by
 cases hs:srt (fun x:Tn=>x.t) T with
 |nil=>rw[hs]at h;cases h
 |cons a l=>
  rw[hs]at h;obtain rfl:a=f:=zaC;have h1:=pF (fun x:Tn=>x.t) T;rw[hs]at h1;have h2:=Qq.1 h1;refine⟨kV.1 (by rw[hs];exact O1 ..),fun x hx=>?_,l.filter (fun x=>x.t == a.t),?_⟩
  ·have:=kV (f:=fun x:Tn=>x.t).2 hx;rw[hs]at this
   rcases P2.1 this with e|e
   ·rw[e];exact Ow _
   ·exact h2.1 x e
  ·rw[<- lf (fun x:Tn=>x.t) T a.t,hs,Ql zad]
end Y
theorem Gh(w:World)(lo:Y.Lo)(mb pb:Nat)(qv:Value)(s:Y.MSt)(T:List Y.Tn)(f:Y.Tn)(hM:Y.au w lo mb pb qv s)(hT:Y.fR w lo s T)(TV:lo<=w.heap.size)(hl:T.length<=19)(Uc:s.now<18446744073709551616)(V8:∀x∈T,s.now<=x.t)(hg:3<w.heap.size)(hG:TabAt 3 Lib.deBruijn64tab w)(hf:(Y.srt (fun x:Y.Tn=>x.t) T).head?=some f):
  () 76 #[(mb,27)] w fun e w'=>e=.returned (.agg #[f.ev,f.nm])/\Hid (Y.Gu w lo mb pb qv { s with now:=f.t } (T.eraseP (fun x=>x.t == f.t)) w'):=by
 obtain⟨h1,h2,m,h3⟩:=Y.lS hf;have Wy:f.t<18446744073709551616:=by
  obtain⟨_,_,_,hb⟩:=hT;exact hb f h1
 have hB:Below w w (w.alloc Y.gL):=(Oy _ w).alloc (Ow _) _;have hs:=hB.size;refine vf w lo mb pb qv s T f m hM hT TV Uc (V8 f h1) Wy h2 h3 ?_;refine OI (uk _ lo mb pb qv s T (hM.below hB) (hT.below hB) hl Uc V8 (OS hg hs) (fun j hj=>(hB.cell (p:=⟨3,j,none⟩) hg).trans (hG j hj))) ?_;rintro e w' ⟨a,b⟩;rw[hf]at b;obtain⟨nb,e1,e2⟩:=b;exact⟨nb,e1,e2,a⟩
namespace Y
structure Live(w:World)(lo:Y.Lo)(mb pb b cap:Nat)(ps:List PS)(fin:Nat)(EN LV:Nat->List PA)(hvs:U.Sl)(H:List HV)(D:Nat->Bool)(mbm n:Nat)(T:()->Option (List (Option PM)))(M:()->Option Nat)(Lr:Nat->List (Option Nat))(pmF:Nat->PM)(acF:Nat->List PA)(r:RSt):Prop where
 run:jW w lo pb b cap ps fin EN LV hvs H D mbm n T M Lr pmF acF
 sz:SzP ps EN LV
 sza:∀m,∀a∈acF m,a.sz
 mt:MT w lo mb pb r
 ok:ROK ps r
 qk:QOK r
 q0:r.q=[]
 idl:Idl w mb
section
variable {w w':World}{lo:Y.Lo}{mb pb b cap:Nat}{ps:List PS}{fin:Nat}{EN LV:Nat->List PA}{hvs:U.Sl}{H:List HV}{D:Nat->Bool}{mbm n:Nat}{T:()->Option (List (Option PM))}{M:()->Option Nat}{Lr:Nat->List (Option Nat)}{pmF:Nat->PM}{acF:Nat->List PA}{r:RSt}
theorem Live.aq(h:Live w lo mb pb b cap ps fin EN LV hvs H D mbm n T M Lr pmF acF r)(hb:Below w w w'):Live w' lo mb pb b cap ps fin EN LV hvs H D mbm n T M Lr pmF acF r:=⟨h.run.rf (RfE.of hb h.mt.lo'),h.sz,h.sza,h.mt.below h.run.bG.lw hb,h.ok,h.qk,h.q0,h.idl.bel h.mt.lt hb⟩
end
def iL(w w':World):Prop:=∀(k:Nat) (c:Array Value) (f:Nat×Nat),w.heap[k]?=some (.cells c 9 f)->w'.heap[k]?=some (.cells c 9 f)
theorem iL.trans{b c:World}(h:iL a b)(k:iL b c):iL a c:=fun i x f hi=>k i x f (h i x f hi)
theorem iL.kd{b:World}(h:Kd E a b)(hE:¬E 9):iL a b:=fun i x f hi=>(h.aq i x _ f hi hE).trans hi
theorem iL.bel{b:World}(h:Below a a b):iL a b:=iL.kd (bE (E:=fun _=>False) h) (fun h=>h)
theorem Nms.str{w w':World}{base:Nat}{sv:Value}{L:List ()}(h:Nms w base sv L)(hs:iL w w'):Nms w' base sv L:=⟨h.1,h.2.imp id (fun⟨g,cp,cu,a,b,c,d⟩=>⟨g,cp,cu,a,b,hs _ _ _ c,d⟩)⟩
def Lo.nos(lo:Lo)(V:World):Lo:=⟨lo.n,max lo.s V.heap.size,fun k=>lo.ok k/\∀c f,V.heap[k]?≠some (.cells c 9 f),fun k h=>lo.le k h.1,fun k h=>⟨lo.new k zaa,fun c f e=>by have:=(Ov.1 e).1;omega⟩⟩
theorem RfE.nos{lo:Y.Lo}{V b:World}(h:RfE E (lo.nos V) a b):RfE E lo a b:=⟨h.bel,h.kd,h.oth,fun k hk hn=>h.own k hk (fun e=>hn e.1)⟩
theorem RfE.str{lo:Y.Lo}{b:World}(h:RfE E (lo.nos a) a b):iL a b:=fun k c f hk=>(h.own k (Ov.1 hk).1 (fun e=>e.2 c f hk)).trans hk
theorem MT.nos{lo:Y.Lo}{mb pb:Nat}{r:RSt}(h:MT W lo mb pb r)(hi:Idl W mb):MT W (lo.nos W) mb pb r:=by
 obtain⟨qv,wh,a,R,b,c⟩:=h.ex;obtain⟨arr,a1,_⟩:=id a.blk;have hq:qv=.slice none 0 0:=Pd ((a.cell 26 zac:W.cell? (mb,26)=some qv).symm.trans hi);refine⟨⟨qv,wh,⟨a.blk,a.que,⟨a.lo',fun c f e=>?_⟩,fun g hg=>?_,?_⟩,R,⟨⟨b.rgs.ring,b.rgs.nds,fun q hq x hx=>⟨b.rgs.low q hq x hx,fun c f e=>?_⟩,b.rgs.dis,b.rgs.nod⟩,b.held⟩,c⟩,h.lo',h.act,h.now,h.tml,h.tab,h.tab5⟩
 ·rw[a1]at e;simp at e
 ·rw[hq]at hg;cases hg
 ·have:=a.sz;show max lo.s W.heap.size<=_;omega
 ·obtain⟨i,hi⟩:=O5.1 hx;rw[b.rgs.nds q hq i x hi]at e;simp at e
theorem MT.CQ{V:World}{lo:Y.Lo}{mb pb:Nat}{r:RSt}(h:MT W (lo.nos V) mb pb r):MT W lo mb pb r:=by
 obtain⟨qv,wh,a,R,b,c⟩:=h.ex;exact⟨⟨qv,wh,⟨a.blk,a.que,a.lo'.1,fun g hg=>(a.qok g hg).1,Ox (Nat.le_max_left ..) a.sz⟩,R,⟨⟨b.rgs.ring,b.rgs.nds,fun q hq x hx=>(b.rgs.low q hq x hx).1,b.rgs.dis,b.rgs.nod⟩,b.held⟩,c⟩,h.lo',h.act,h.now,h.tml,h.tab,h.tab5⟩
section
variable {V w w':World}{lo:Y.Lo}{mb pb b cap:Nat}{ps:List PS}{fin:Nat}{EN LV:Nat->List PA}{hvs:U.Sl}{H:List HV}{D:Nat->Bool}{mbm n:Nat}{T:()->Option (List (Option PM))}{M:()->Option Nat}{Lr:Nat->List (Option Nat)}{pmF:Nat->PM}{acF:Nat->List PA}{r:RSt}
theorem Live.nos(h:Live w lo mb pb b cap ps fin EN LV hvs H D mbm n T M Lr pmF acF r):Live w (lo.nos w) mb pb b cap ps fin EN LV hvs H D mbm n T M Lr pmF acF r:=⟨h.run,h.sz,h.sza,h.mt.nos h.idl,h.ok,h.qk,h.q0,h.idl⟩
theorem Live.CQ(h:Live w (lo.nos V) mb pb b cap ps fin EN LV hvs H D mbm n T M Lr pmF acF r):Live w lo mb pb b cap ps fin EN LV hvs H D mbm n T M Lr pmF acF r:=⟨h.run,h.sz,h.sza,h.mt.CQ,h.ok,h.qk,h.q0,h.idl⟩
end
def bY(step:RSt->()->RSt)(r:RSt)(ev:()):RSt:=fo step { r with q:=r.q++[ev] }
theorem MT.moU{P:Nat->Prop}{W':World}{lo:Y.Lo}{mb pb:Nat}{r:RSt}(h:MT W lo mb pb r)(hl:Lw lo)(hm:Mo P W W')(hP:∀k,P k->lo<=k/\∃c t,W.heap[k]?=some (.cells c t (0,0))/\¬cR t):MT W' lo mb pb r:=by
 obtain⟨qv,wh,a,b⟩:=h.ex;have hb:Below lo W W':=⟨hm.os,hm.tape,hm.output,hm.size,fun k hk=>hm.block k (by have:=h.lo';omega) (fun hp=>zbZ)⟩;have hk:Kd (fun t=>¬cR t) W W':=gO hm (fun k c t f hp hc=>by
  obtain⟨_,c',t',TZ,ht'⟩:=hP k hp;rw[hc]at TZ;cases TZ
  exact ht')
 refine⟨⟨qv,wh,a.mo hm (fun e=>?_) (fun g hg e=>?_),b.kd hk (fun h=>h (.inr (.inr rfl))) rfl rfl⟩,Ox h.lo' hm.size,h.act,h.now,h.tml,gH hl hb h.tab,b8 hl hb h.tab5⟩
 ·obtain⟨_,c,t,hc,ht⟩:=hP _ e;obtain⟨arr,a1,_⟩:=a.blk;rw[hc]at a1;cases a1
  exact ht (.inl rfl)
 ·obtain⟨_,c,t,hc,ht⟩:=hP _ e;obtain⟨c',TZ⟩:=a.que.kind g hg;rw[hc]at TZ;cases TZ
  exact ht (.inr (.inl rfl))
theorem RfE.C8{lo:Y.Lo}{s:Nat}{w:World}{cs:Array Value}(h:RfE E lo w W)(TT:lo<=w.heap.size)(hs:w.heap.size<=s):RfE E lo w (W.setRow s cs):=by
 have o:=iA W s cs;exact⟨⟨h.bel.os,h.bel.tape,h.bel.output,by rw[SN];exact h.bel.size,fun k hk=>(Rc W s k cs zaa).trans (h.bel.block k hk)⟩,
  ⟨by rw[SN];exact h.kd.size,fun k c t f hk hn=>(Rc W s k cs (by have:=(Ov.1 hk).1;omega)).trans (h.kd.aq k c t f hk hn)⟩,
  ⟨by rw[SN];exact h.oth.size,fun k o hk ho=>(Rc W s k cs (by have:=(Ov.1 hk).1;omega)).trans (h.oth.same k o hk ho)⟩,
  fun k hk hn=>(Rc W s k cs zaa).trans (h.own k hk hn)⟩
theorem vZ(W:World)(s:Nat)(cs:Array Value):Mo (·=s) W (W.setRow s cs):=⟨rfl,rfl,rfl,Nat.le_of_eq (SN W s cs).symm,fun k _ hk=>Rc W s k cs hk⟩
theorem qd:¬cR 38:=fun h=>zcn
def qS:Obj:=.cells #[.string ⟨#[]⟩,.int .u64 0,.slice none 0 0] 38
end Y
theorem qO:(Tryz.prog.info? 38).map (·.size)=some 3:=zab
theorem Lq:Tryz.f40.results=#[.cell 4 38]:=rfl
section
variable (w:World)(lo:Y.Lo)(mb pb b cap:Nat)(ps:List Y.PS)(fin:Nat)(EN LV:Nat->List Y.PA)(hvs:U.Sl)(H:List Y.HV)(D:Nat->Bool)(mbm n:Nat)(T:()->Option (List (Option Y.PM)))(M:()->Option Nat)(Lr:Nat->List (Option Nat))(pmF:Nat->Y.PM)(acF:Nat->List Y.PA)(r:Y.RSt)(ev:())
abbrev Bv(ev:()):Prop:=∀V:World,() 95 #[ev] V fun e w'=>e=.returned ev/\Below V V w'
theorem Gi(hQ:Y.Live w lo mb pb b cap ps fin EN LV hvs H D mbm n T M Lr pmF acF r)(Vg:ev.size<=1000000)(Um:Bv ev):
  () 40 #[mb,ev] w fun e w'=>∃a k c,e=.returned (.agg #[ev,.int .u64 (Y.bY (Y.aT ps fin EN LV H D M Lr pmF acF) r ev).now,.slice a k c])/\Hid (Y.Live w' lo mb pb b cap ps fin EN LV hvs H D mbm n T M Lr pmF acF (Y.bY (Y.aT ps fin EN LV H D M Lr pmF acF) r ev)/\Y.Rf lo w w'/\Y.Nms w' lo (.slice a k c) ((Y.els (Y.bY (Y.aT ps fin EN LV H D M Lr pmF acF) r ev).act).map (Y.bJ ps))):=by
 have TW:=hQ.run.bG.lw;have TT:=hQ.mt.lo';have VY:=hQ.mt.lt;have Ut:Below w w (w.alloc Y.qS):=(Oy _ w).alloc (Ow _) _;have hP:=hQ.aq Ut;have V7:Y.Rf lo w (w.alloc Y.qS):=Y.RfE.of Ut TT;have Ue:(w.alloc Y.qS).heap[w.heap.size]?=some Y.qS:=OH _ _;have Yc:=hP.q0;generalize WC:w.alloc Y.qS=W0 at *;have HRA:Hid (() 71 #[mb,ev] W0 fun e w'=>e=.returned (.tuple #[])/\Hid (Y.MT w' lo mb pb { r with q:=r.q++[ev] }/\Y.Rf lo W0 w')):=(nX W0 lo mb pb r ev TW hP.mt (by rw[Yc];decide)).mono (fun e w' x=>⟨x.1,x.2.1,x.2.2⟩);have ZY:Y.ROK ps { r with q:=r.q++[ev] }:=⟨hP.ok.act,hP.ok.kept⟩;have YZ:Y.QOK { r with q:=r.q++[ev] }:=hP.qk.snoc Vg;obtain⟨Wr,WY⟩:=Y.nZ (fun r x h k=>Y.nF hP.run hP.sz hP.sza h k x) ZY YZ;have HAR:Hid (∀V,Hid (Y.MT V lo mb pb { r with q:=r.q++[ev] }/\Y.Rf lo W0 V)->() 63 #[mb] V fun e w'=>e=.returned (.tuple #[])/\Hid ((Y.MT w' lo mb pb (Y.bY (Y.aT ps fin EN LV H D M Lr pmF acF) r ev)/\Y.Idl w' mb)/\Y.Rf lo W0 w')):=fun V hV=>
  (j0 V lo mb pb b cap _ ps fin EN LV hvs H D mbm n T M Lr pmF acF (hP.run.rf hV.out.2) hP.sz hP.sza hV.out.1 ZY YZ (by show(r.q++[ev]).length<=_;rw[Yc];simp)).mono (fun e w' x=>⟨x.1,⟨x.2.1,x.2.2.2⟩,hV.out.2.trans x.2.2.1⟩)
 have XS:Y.ROK ps (Y.bY (Y.aT ps fin EN LV H D M Lr pmF acF) r ev):=Wr;have Zr:Y.QOK (Y.bY (Y.aT ps fin EN LV H D M Lr pmF acF) r ev):=WY;have hqz:(Y.bY (Y.aT ps fin EN LV H D M Lr pmF acF) r ev).q=[]:=rfl;clear Wr WY ZY YZ;generalize Y.bY (Y.aT ps fin EN LV H D M Lr pmF acF) r ev=r2 at *;have XQ:Hid (∀V,Hid ((Y.MT V lo mb pb r2/\Y.Idl V mb)/\Y.Rf lo W0 V)->() 64 #[mb,ev] V fun e w'=>∃a k c,e=.returned (.agg #[ev,.int .u64 r2.now,.slice a k c])/\Hid (w'.heap[w.heap.size]?=some Y.qS/\∀cs,Y.Live (w'.setRow w cs) lo mb pb b cap ps fin EN LV hvs H D mbm n T M Lr pmF acF r2/\Y.Rf lo w (w'.setRow w cs)/\Y.Nms (w'.setRow w cs) lo (.slice a k c) ((Y.els r2.act).map (Y.bJ ps)))):=fun V hV=>
  (A7 V lo mb pb b cap r2 ps fin EN LV ev (hP.run.rf hV.out.2).bG hV.out.1.1 (Y.iy XS.act) Um).mono (fun e w' x=>by
   obtain⟨sv,x1,x2,x3⟩:=x;obtain⟨a,c,rfl⟩:=x2.n;have hRv:Y.Rf lo W0 w':=hV.out.2.trans (Y.RfE.of x3 hV.out.1.1.lo');have hz:w'.heap[w.heap.size]?=some Y.qS:=(hRv.kd.aq _ _ _ _ Ue Y.qd).trans Ue;have hmt:=hV.out.1.1.below TW x3;have hid:=hV.out.1.2.bel hV.out.1.1.lt x3;have Xt:Y.Nms w' lo (.slice a ((Y.els r2.act).map (Y.bJ ps)).length c) ((Y.els r2.act).map (Y.bJ ps)):=⟨x2.1,x2.2.imp id (fun⟨g,cp,cu,y1,y2,y3⟩=>⟨g,cp,cu,y1,Ox hV.out.1.1.lo' y2,y3⟩)⟩;refine⟨a,_,c,x1,hz,fun cs=>?_⟩;have hR':Y.Rf lo w (w'.setRow w cs):=Y.RfE.C8 (V7.trans hRv) TT (Ow _);exact⟨⟨hQ.run.rf hR',hP.sz,hP.sza,Y.MT.moU hmt TW (Y.vZ _ _ _) (fun k hk=>by subst hk;exact⟨TT,_,_,hz,Y.qd⟩),XS,Zr,hqz,((iA w' w cs).cell (p:=⟨mb,26,none⟩) (TB VY)).trans hid⟩,hR',Kd.row (E:=fun t=>¬Y.cR t) (gO (Y.vZ _ _ _) (fun k c t f hp hc=>by subst hp;rw[hz]at hc;cases hc;exact Y.qd)) Xt (fun h=>h (.inr (.inl rfl)))⟩)
 clear hP hQ Um XS Zr hqz Yc V7 Ue Ut;have HW0:Hid _:=WC;clear WC;unfold Y.qS at HW0;go_enter func40,ntmps40;go_wp2_with(first
  |(go_at_call 71;rw[HW0.out];refine HRA.out.mono ?_;rintro e w1 ⟨rfl,h1⟩)
  |(go_at_call 63;refine(HAR.out _ h1).mono ?_;rintro e w2 ⟨rfl,h2⟩)
  |(go_at_call 64;refine(XQ.out _ h2).mono ?_;rintro e w3 ⟨sa,sk,sc,rfl,h3⟩)
  |(show wpList _ _ _ (Oper.mk none _ _ _ _ _::_) _ _;refine fs rfl 38 (.tmp 4) (.tmp 12) rfl w.heap.size 38 _ _ rfl rfl h3.out.1 qO rfl rfl ?_))
 refine ee Lq w _ _ _ _ rfl (Tq w3 w _ _ _ _ h3.out.1) underlying38 rfl qO rfl ?_;exact⟨_,_,_,rfl,h3.out.2 _⟩
theorem Bo(hQ:Y.Live w lo mb pb b cap ps fin EN LV hvs H D mbm n T M Lr pmF acF r)(Vg:ev.size<=1000000)(Um:Bv ev):
  () 40 #[mb,ev] w fun e w'=>∃a k c,e=.returned (.agg #[ev,.int .u64 (Y.bY (Y.aT ps fin EN LV H D M Lr pmF acF) r ev).now,.slice a k c])/\Hid (Y.Live w' lo mb pb b cap ps fin EN LV hvs H D mbm n T M Lr pmF acF (Y.bY (Y.aT ps fin EN LV H D M Lr pmF acF) r ev)/\Y.Rf lo w w'/\Y.Nms w' lo (.slice a k c) ((Y.els (Y.bY (Y.aT ps fin EN LV H D M Lr pmF acF) r ev).act).map (Y.bJ ps))/\Y.iL w w'):=
 OI (Gi w (lo.nos w) mb pb b cap ps fin EN LV hvs H D mbm n T M Lr pmF acF r ev hQ.nos Vg Um) (fun _ _ ⟨a,k,c,x,h⟩=>⟨a,k,c,x,h.out.1.CQ,h.out.2.1.nos,h.out.2.2,h.out.2.1.str⟩)
namespace Y
def xj(w:World)(lo:Y.Lo)(mb pb b cap:Nat)(ps:List PS)(fin:Nat)(EN LV:Nat->List PA)(hvs:U.Sl)(H:List HV)(D:Nat->Bool)(mbm n:Nat)(T:()->Option (List (Option PM)))(M:()->Option Nat)(Lr:Nat->List (Option Nat))(pmF:Nat->PM)(acF:Nat->List PA)(r:RSt)(ev:())(e:Ending)(w':World):Prop:=
 if r.fin=0 then ∃sb sv,e=.returned (.tuple #[.slice (some ⟨sb,0,none⟩) 1 1,fuelV (bY (aT ps fin EN LV H D M Lr pmF acF) r ev).fin])/\w'.heap[sb]?=some (.cells #[ev,.int .u64 (bY (aT ps fin EN LV H D M Lr pmF acF) r ev).now,sv] 38 (0,0))/\Nms w' lo sv ((els (bY (aT ps fin EN LV H D M Lr pmF acF) r ev).act).map (bJ ps))/\Live w' lo mb pb b cap ps fin EN LV hvs H D mbm n T M Lr pmF acF (bY (aT ps fin EN LV H D M Lr pmF acF) r ev)/\Rf lo w w'/\lo<=sb/\iL w w'
 else e=.returned (.tuple #[.slice none 0 0,fj r.fin])/\Below w w w'
end Y
theorem Fb(hP:Y.Live w lo mb pb b cap ps fin EN LV hvs H D mbm n T M Lr pmF acF r)(Vg:ev.size<=1000000)(Um:Bv ev):
  () 24 #[mb,ev] w (Y.xj w lo mb pb b cap ps fin EN LV hvs H D mbm n T M Lr pmF acF r ev):=by
 obtain⟨qv,wh,hM,_⟩:=hP.mt.ex;have h5:w.cell? (mb,419)=some (Y.fj r.fin):=hM.cell 419 zac;clear hM;by_cases hf:r.fin=0
 ·have he:Y.fj r.fin=.nilIface:=by rw[hf];rfl
  rw[he]at h5;have HT:Hid _:=Bo w lo mb pb b cap ps fin EN LV hvs H D mbm n T M Lr pmF acF r ev hP Vg Um;have TW:=hP.run.bG.lw;have HF:Hid (r.fin=0):=hf;generalize Wr:Y.bY (Y.aT ps fin EN LV H D M Lr pmF acF) r ev=r2 at *;have HR2:Hid _:=Wr;have HOF:Hid (∀V,Hid (Y.Live V lo mb pb b cap ps fin EN LV hvs H D mbm n T M Lr pmF acF r2)->() 41 #[mb] V fun e w'=>e=.returned (Y.fuelV r2.fin)/\w'=V):=fun V hV=>by
   obtain⟨qv,wh,a,_⟩:=hV.out.mt.ex;exact jM V lo mb pb qv (r2.m wh) r2.fin a rfl hV.out.qk.fin
  have HB:Hid (∀(V:World) (o:Obj),Below V.heap.size V (V.alloc o)):=fun V o=>(Oy _ V).alloc (Ow _) _;clear hP Um Wr hf;go_enter func24,ntmps24;go_wp2_with(first
   |(go_at_call 40;refine OI HT.out ?_;rintro e w1 ⟨sa,sk,sc,rfl,h1⟩)
   |(go_at_call 41;refine(HOF.out _ (h1.out.1.aq (HB.out _ _))).mono ?_;rintro e w4 ⟨rfl,Zt⟩;rw[Zt];clear Zt w4))
  go_ret2;unfold Y.xj;rw[OD HF.out,HR2.out];have UE:=HB.out w1 (.cells #[ev,.int .u64 r2.now,.slice sa sk sc] 38);exact⟨_,_,rfl,OH _ _,Kd.row (bE (E:=fun _=>False) UE) h1.out.2.2.1 (fun h=>h),h1.out.1.aq UE,h1.out.2.1.trans (Y.RfE.of UE h1.out.1.mt.lo'),h1.out.1.mt.lo',h1.out.2.2.2.trans (Y.iL.bel UE)⟩
 ·have he:Y.fj r.fin=.iface 31 (.int .i64 r.fin):=by unfold Y.fj;rw[OB hf]
  have HF:Hid (¬r.fin=0):=hf;have HE:Hid _:=he;rw[he]at h5;clear hP Um hf he;go_enter func24,ntmps24;go_wp2
  go_quiet(fail)
  go_wp2;go_ret2;unfold Y.xj;rw[OB HF.out,HE.out];exact⟨rfl,⟨rfl,rfl,rfl,Ow _,fun _ _=>rfl⟩⟩
end
end
section
open Go.RowKit
def L1{σ α:Type}(F:Fence)(n:Nat)(P:Program)(g:Nat)(lb:Array Value)(encs:α->Array Value)(Rd:σ->World->Prop)(Tk:σ->α->World->World->Prop)(En:σ->World->World->Prop)(Nx:σ->σ->Prop)(w:World):Prop:=
 ∀(l:Nat) (J:σ->World->Prop) (Jt:σ->α->World->Prop) (Jx Je:World->Prop) (W:World),Below w w W->w.heap.size+2<=W.heap.size ->
  (∀s V,J s V->Rd s V)->(∀s x V V',J s V->Tk s x V V'->Jt s x V')->(∀s V V',J s V->En s V V'->Je V') ->
  (∀s x V,Jt s x V->YieldAt F (n-1) P l (encs x) V fun e V'=>(e=.returned true/\∃s',Nx s s'/\J s' V')\/(e=.returned false/\Jx V')) ->
  ∀s,J s W->CallsIn F n P g (#[.func (.yield l) #[] #[]]++lb) W fun e V=>(∃v,e=.returned v)/\(Je V\/Jx V)
def Nq{σ:Type}(B:Nat)(Nx:σ->σ->Prop)(I:σ->World->Prop)(Ix:World->Prop)(id:Nat)(s:σ)(W:World):Exit->Act->World->Prop
 |.normal,_,V=>KeepsFrom B W V/\∃s',Nx s s'/\I s' V
 |.exit i,_,V=>i=id/\KeepsFrom B W V/\Ix V
 |_,_,_=>False
theorem I3{σ α:Type}{F:Fence}{n:Nat}{P:Program}{g:Operand}{ps:Array Tmp}{assign body:Code}{Q:Exit->Act->World->Prop}{a:Act}{w:World}(hro:F.round=none)(h1:1<=n){gf:Nat}{lb:Array Value}
  (hg:a.eval g=.func (.func gf) #[] lb) (hF:F.fn gf) (eg:∀args w,(callFunc gf args).run P w=.ok (.enter gf args) w) {encs:α->Array Value} {Rd:σ->World->Prop} {Tk:σ->α->World->World->Prop} {En:σ->World->World->Prop} {Nx:σ->σ->Prop}
  (ZC:L1 F (n-1) P gf lb encs Rd Tk En Nx w) (Zl:∀x,(encs x).size=ps.size) (I:σ->World->Prop) (It:σ->α->World->Prop) (Ix Ie:World->Prop) (Bx:σ->α->Act->World->Prop) (id:Nat)
  (hI:OwnFrom w.heap.size I) (Zm:OwnFrom w.heap.size (fun(_:Unit)=>Ix)) (hIe:OwnFrom w.heap.size (fun(_:Unit)=>Ie)) (hBx:∀s x a',OwnFrom w (fun(_:Unit)=>Bx s x a'))
  (Xm:∀s V,I s V->Rd s V) (hTk:∀s x V V',I s V->Tk s x V V'->It s x V') (hEn:∀s V V',I s V->En s V V'->Ie V') (hTko:∀s x V V',Tk s x V V'->KeepsFrom w.heap.size V V') (hEno:∀s V V',En s V V'->KeepsFrom w.heap.size V V') (s0:σ) (h0:I s0 w)
  (Up:∀(l:Nat) (s:σ) (x:α) (W:World) (K:Act->World->Prop),It s x W->(∀a' W',KeepsFrom w W W'->Bx s x a' W'->K a' W')->assign.wpIn (F.inRound l) (n-1-1) P (Exit.then K (fun _ _ _=>False)) { tmps:=(ps.zip (encs x)).foldl (fun t (p,v)=>t.setIfInBounds p v) a.tmps,defers:=[] } W)
  (Vc:∀(l:Nat) (s:σ) (x:α) (a':Act) (W:World),w.heap.size<=l->Bx s x a' W->body.wpIn (F.inRound l) (n-1-1) P (Nq w Nx I Ix id s W) a' W)
  (Vn:∀(D:Nat) (W:World),w.heap.size<=D->Ie W->W.heap[D]?=some (.deferred (some []))->Q .normal { a with defers:={ target:=.collected D,args:=#[] }::a.defers } W)
  (VB:∀(D:Nat) (W:World),w.heap.size<=D->Ix W->W.heap[D]?=some (.deferred (some []))->(Code.exit id).wpIn F n P Q { a with defers:={ target:=.collected D,args:=#[] }::a.defers } W):
  (Code.rangeFunc g ps assign body).wpIn F n P Q a w:=by
 refine wpIn_rangeFunc fun fn YP=>?_;rw[hro];obtain⟨lp,WQ⟩:∃lp:LoopState->Option Code->Loop,lp=fun st pe=>{ state:=st,pending:=pe,fn,tmps:=a.tmps,params:=ps,assign,body,defers:=w.heap.size }:=⟨_,rfl⟩;have Ws:=S3 (P:=P) (w:=w) fn a.tmps ps assign body;obtain⟨V,hV⟩:∃V,(w.alloc (.deferred (some []))).alloc (.loop (lp .ready none))=V:=⟨_,rfl⟩;have hb:Below w w V:=hV▸(((Oy _ w).alloc (Ow _) _).alloc zad _);have hj:I s0 V/\V.heap[w.heap.size+1]?=some (.loop (lp .ready none))/\V.heap[w.heap.size]?=some (.deferred (some [])):=by
  exact zeu
 refine⟨w.heap.size+1,[{ target:=.collected w.heap.size,args:=#[] }],V,{ target:=.fn (.func gf) lb,args:=#[.func (.yield (w.heap.size+1)) #[] #[]] },V,gf,#[.func (.yield (w.heap.size+1)) #[] #[]]++lb,V,
  zbW,zbI,fun f' hf'=>zbE,zbY,fun _=>h1,?_⟩
 have hvs:V.heap.size=w.heap.size+2:=by rw[<- hV];simp
 refine(ZC (w.heap.size+1) (fun s W=>I s W/\W.heap[w.heap.size+1]?=some (.loop (lp .ready none))/\W.heap[w.heap.size]?=some (.deferred (some []))) (fun s x W=>It s x W/\W.heap[w.heap.size+1]?=some (.loop (lp .ready none))/\W.heap[w.heap.size]?=some (.deferred (some [])))
  (fun W=>Ix W/\W.heap[w.heap.size+1]?=some (.loop (lp .done (some (.exit id))))/\W.heap[w.heap.size]?=some (.deferred (some []))) (fun W=>Ie W/\W.heap[w.heap.size+1]?=some (.loop (lp .ready none))/\W.heap[w.heap.size]?=some (.deferred (some []))) V hb zaa (fun s W h=>Xm s W h.1) (fun s x A B h k=>?_) (fun s A B h k=>?_) ?_ s0 hj).mono ?_
 ·have hk:=hTko s x A B k;exact⟨hTk s x A B h.1 k,hk.same _ _ zaa h.2.1 rfl,hk.same _ _ (Ow _) h.2.2 rfl⟩
 ·have hk:=hEno s A B k;exact⟨hEn s A B h.1 k,hk.same _ _ zaa h.2.1 rfl,hk.same _ _ (Ow _) h.2.2 rfl⟩
 ·intro s x W ⟨hi,hl,hd⟩;have hy:=run_yield (P:=P) (args:=encs x) hl (by rw[WQ];exact Zl x);rw[WQ]at hy;refine⟨fn,_,assign,body,hy,roundIn_of_wpIn YP (Up _ s x W _ hi fun a' Wa WD hia=>⟨_,run_beginRound (WD.same _ _ zaa hl rfl) (by rw[WQ]),?_⟩)⟩;have hl:=WD.same _ _ zaa hl rfl;have hd:=WD.same _ _ (Ow _) hd rfl;have TX:=(Ov.1 hl).1;refine wpIn_mono (Vc _ s x a' _ zaa ((hBx s x a').putObj (s:=()) _ hia zaa hl rfl)) ?_;intro e a' W' hp;have Uu:∀(jump:Option Code),KeepsFrom w (Wa.putObj (w.heap.size+1) (.loop { lp .ready none with state:=LoopState.busy })) W' ->
    (Instr.endRound (w.heap.size+1) jump).run P W'=.ok (.bool jump.isNone) (W'.putObj (w.heap.size+1) (.loop (lp (if jump.isNone then .ready else .done) jump))) /\
    W'.heap[w.heap.size+1]?=some (.loop { lp .ready none with state:=LoopState.busy }) /\
    (W'.putObj (w.heap.size+1) (.loop (lp (if jump.isNone then .ready else .done) jump))).heap[w.heap.size+1]?=some (.loop (lp (if jump.isNone then .ready else .done) jump)) /\
    (W'.putObj (w.heap.size+1) (.loop (lp (if jump.isNone then .ready else .done) jump))).heap[w.heap.size]?=some (.deferred (some [])):=fun jump hk=>by
   have Xy:=hk.same _ _ zaa (Qp TX) rfl;have hd':=hk.same _ _ (Ow _) ((Pn zaa).trans hd) rfl;have hr:=run_endRound (P:=P) jump Xy;rw[WQ]at hr⊢;exact⟨hr,by rw[WQ]at Xy;exact Xy,Qp (Ov.1 Xy).1,(Pn zaa).trans hd'⟩
  cases e with
  |normal=>
   obtain⟨hk,s',hn,Wn⟩:=hp;obtain⟨hr,hl3,hl4,hd4⟩:=Uu none hk;exact⟨_,_,hr,.inl ⟨rfl,s',hn,hI.putObj _ Wn zaa hl3 rfl,hl4,hd4⟩⟩
  |exit i=>
   obtain⟨rfl,hk,Wn⟩:=hp;obtain⟨hr,hl3,hl4,hd4⟩:=Uu (some (.exit i)) hk;exact⟨_,_,hr,.inr ⟨rfl,Zm.putObj (s:=()) _ Wn zaa hl3 rfl,hl4,hd4⟩⟩
  |_=>exact hp.elim
 ·rintro e W ⟨⟨v,hv⟩,⟨hi,hl,hd⟩|⟨hi,hl,hd⟩⟩
  ·subst hv;exact⟨none,_,zaW,Vn _ _ (Ow _) (hIe.putObj (s:=()) _ hi zaa hl rfl) ((Pn zaa).trans hd)⟩
  ·subst hv;exact⟨some (.exit id),_,zaW,VB _ _ (Ow _) (Zm.putObj (s:=()) _ hi zaa hl rfl) ((Pn zaa).trans hd)⟩
end
section
open Go.RowKit Go.Proofs Go.Shelf
attribute [local go_sem] Pp
theorem least{σ:Type}(J:σ->World->Prop)(m:σ->Nat):∃μ:World->Nat,∀W s,J s W->μ W<=m s/\∃s',J s' W/\m s'=μ W:=by
 have h:∀W:World,∃k,∀s,J s W->k<=m s/\∃s',J s' W/\m s'=k:=fun W=>by
  by_cases h:∃s,J s W
  ·obtain⟨s,hs⟩:=h;have:∀n s,J s W->m s=n->∃k,∀s,J s W->k<=m s/\∃s',J s' W/\m s'=k:=by
    intro n
    induction n using Nat.strongRecOn with
    |_ n ih=>
     intro s hs hn;by_cases hl:∃s',J s' W/\m s'<n
     ·obtain⟨s',h1,h2⟩:=hl;exact ih _ h2 s' h1 rfl
     ·exact⟨n,fun x hx=>⟨Nat.le_of_not_lt (fun e=>hl ⟨x,hx,e⟩),s,hs,hn⟩⟩
   exact this _ s hs rfl
  ·exact⟨0,fun s hs=>(h ⟨s,hs⟩).elim⟩
 exact⟨fun W=>Classical.choose (h W),fun W=>Classical.choose_spec (h W)⟩
namespace Y
def jR(r:RSt)(f:Tn):RSt:={ r with now:=f.t,tm:=r.tm.eraseP (fun x=>x.t == f.t) }
end Y
section
variable (w:World)(lo:Y.Lo)(mb pb:Nat)(r:Y.RSt)(hl:Y.Lw lo)(h:Y.MT w lo mb pb r)(hk:Y.TOK r.now r.tm)
theorem Dm(hl:Y.Lw lo)(h:Y.MT w lo mb pb r)(u:Nat)(hu:u<18446744073709551616)(h1:r.now<=u)(h2:∀x∈r.tm,u<=x.t):() 77 #[(mb,27),.int .u64 u] w fun e w'=>e=.returned (.tuple #[])/\Hid (Y.MT w' lo mb pb { r with now:=u }/\Y.Rw lo w w'/\(Y.Idl w mb->Y.Idl w' mb)):=by
 obtain⟨qv,wh,a,b⟩:=h.ex;refine OI (wT w lo mb pb qv (r.m wh) r.tm u a b h.lo' h.now hu h1 h2) ?_;rintro e w' ⟨rfl,h3⟩;obtain⟨wh',a2,b2,c2⟩:=h3.out;exact⟨rfl,⟨⟨qv,wh',a2,b2⟩,Ox h.lo' c2.bel.size,h.act,hu,h.tml,Y.gH hl c2.bel h.tab,Y.b8 hl c2.bel h.tab5⟩,c2,a.idl a2⟩
theorem qG(hl:Y.Lw lo)(h:Y.MT w lo mb pb r)(hk:Y.TOK r.now r.tm)(t:Nat):() 47 #[(mb,27),.int .u64 t] w fun e w'=>e=.returned (.bool (Y.cY r.now t r.tm))/\Below w w w':=by
 obtain⟨qv,wh,a,b⟩:=h.ex;exact Ck w lo mb pb qv (r.m wh) r.tm t a b (Ox h.tml zac) h.now (fun x hx=>(hk.2 x hx).1) (OS hl.g h.lo') h.tab
theorem Dl(hl:Y.Lw lo)(h:Y.MT w lo mb pb r)(hk:Y.TOK r.now r.tm)(f:Y.Tn)(hf:(Y.srt (fun x:Y.Tn=>x.t) r.tm).head?=some f):() 76 #[(mb,27)] w fun e w'=>e=.returned (.agg #[f.ev,f.nm])/\Hid (Y.MT w' lo mb pb (Y.jR r f)/\Y.Rw lo w w'/\(Y.Idl w mb->Y.Idl w' mb)):=by
 obtain⟨qv,wh,a,b⟩:=h.ex;have Wy:f.t<18446744073709551616:=by
  obtain⟨_,_,_,hb⟩:=b;exact hb f (Y.lS hf).1
 refine OI (Gh w lo mb pb qv (r.m wh) r.tm f a b h.lo' (Ox h.tml zac) h.now (fun x hx=>(hk.2 x hx).1) (OS hl.g h.lo') h.tab hf) ?_;rintro e w' ⟨rfl,h2⟩;obtain⟨wh',a2,b2,c2⟩:=h2.out;exact⟨rfl,⟨⟨qv,wh',a2,b2⟩,Ox h.lo' c2.bel.size,h.act,Wy,Ox (List.length_eraseP_le ..) h.tml,Y.gH hl c2.bel h.tab,Y.b8 hl c2.bel h.tab5⟩,c2,a.idl a2⟩
end
namespace Y
theorem Ac{now t:Nat}{T:List Tn}(h:cY now t T=true):∃f,(srt (fun x:Tn=>x.t) T).head?=some f/\f.t<=max t now:=by
 unfold cY at h;cases hh:(srt (fun x:Tn=>x.t) T).head? with
 |none=>rw[hh]at h;cases h
 |some f=>rw[hh]at h;exact⟨f,rfl,QL h⟩
theorem qH{now t:Nat}{T:List Tn}(h:cY now t T=false):∀x∈T,max t now<=x.t:=fun x hx=>by
 unfold cY at h;cases hh:(srt (fun x:Tn=>x.t) T).head? with
 |none=>
  have:x∈srt (fun x:Tn=>x.t) T:=kV.2 hx;rw[List.head?_eq_none_iff.1 hh]at this;cases this
 |some f=>
  rw[hh]at h;have h1:=of_decide_eq_false h;have h2:=(lS hh).2.1 x hx;omega
def N3(lo:Y.Lo)(mb pb Bw Bt t:Nat)(s:Nat×RSt)(V:World):Prop:=s.1<=200/\MT V lo mb pb s.2/\TOK s.2.now s.2.tm/\V.cell? Bw=some ↑(mb,27)/\V.cell? Bt=some (.int .u64 t)
def Nv(lo:Y.Lo)(mb pb t:Nat)(s:Nat×RSt)(f:Tn)(V V':World):Prop:=cY s.2.now t s.2.tm=true/\(srt (fun x:Tn=>x.t) s.2.tm).head?=some f/\MT V' lo mb pb (jR s.2 f)/\Rw lo V V'/\(Idl V mb->Idl V' mb)
def Nu(lo:Y.Lo)(mb pb t:Nat)(s:Nat×RSt)(V V':World):Prop:=cY s.2.now t s.2.tm=false/\MT V' lo mb pb { s.2 with now:=max t s.2.now }/\Rw lo V V'/\(Idl V mb->Idl V' mb)
def tnV(x:Tn):Array Value:=#[.agg #[x.ev,x.nm]]
end Y
theorem MG(n:Nat)(hn:1<=n)(w:World)(lo:Y.Lo)(mb pb Bw Bt t:Nat)(ht:t<18446744073709551616)(hl:Y.Lw lo):
  L1 Fence.wide n prog 75 #[Bw,Bt] Y.tnV (fun s V=>Y.N3 lo mb pb Bw Bt t s V/\∀V':World,Below V.heap.size V V'->V'.cell? Bw=some ↑(mb,27)/\V'.cell? Bt=some (.int .u64 t)) (Y.Nv lo mb pb t) (Y.Nu lo mb pb t) (fun s s'=>s'.1=s.1+1) w:=by
 intro l J Jt Jx Je W _ _ Xm hTk hEn hY s hs;obtain⟨μ,hμ⟩:=least J (fun s=>201-s.1);have HRd:Hid _:=Xm;have HTk:Hid _:=hTk;have HEn:Hid _:=hEn;have HY:Hid _:=hY;have HM:Hid _:=hμ;clear Xm hTk hEn hY hμ;refine SL func75 rfl trivial ?_ rfl;simp only[ntmps75,List.size_toArray,List.length_cons,List.length_nil,Nat.reduceAdd,Nat.reduceSub,Array.replicate_succ,Array.replicate_zero,List.push_toArray,List.append_toArray,List.nil_append,List.cons_append];gi_wp2
 gi_loopw[] (fun wr=>Hid (∃s,J s wr)) (fun wr=>μ wr)
 case atStart=>exact⟨s,hs⟩
 case round=>
  obtain⟨s1,Wg⟩:=hrel.out;obtain⟨_,⟨k,r⟩,hJ,hm⟩:=HM.out wr s1 Wg;obtain⟨⟨hk,Xw,hTO,cw,ct⟩,UM⟩:=HRd.out _ _ hJ;have HJ:Hid _:=hJ;have HMm:Hid _:=hm;dsimp only at hk Xw hTO;have HH:Hid _:=qG wr lo mb pb r hl Xw hTO t;clear Wg hrel hJ hm;cases hd:Y.cY r.now t r.tm with
  |false=>
   rw[hd]at HH;have hle:=Xw.now;have HT:Hid (∀V,Below wr wr V->() 77 #[(mb,27),.int .u64 (max (t:Int) (r.now:Int))] V fun e w'=>e=.returned (.tuple #[])/\Hid (Je w')):=fun V hV=>by
    rw[show max (t:Int) (r.now:Int)=((max t r.now:Nat):Int) by omega];refine OI (Dm V lo mb pb r hl (Xw.below hl hV) (max t r.now) zaa zaa (Y.qH hd)) ?_;rintro e w' ⟨rfl,h⟩;exact⟨rfl,HEn.out (k,r) wr w' HJ.out ⟨hd,h.out.1,(Y.RfE.of hV Xw.lo').trans h.out.2.1,fun hi=>h.out.2.2 (hi.bel Xw.lt hV)⟩⟩
   have HB:Hid (∀V,Below wr wr V->V.cell? ⟨mb,27,none⟩=some (.int .u64 r.now)/\V.cell? Bw=some ↑(mb,27)/\V.cell? Bt=some (.int .u64 t)):=fun V hV=>by
    obtain⟨qv,wh,a,b⟩:=(Xw.below hl hV).ex;exact⟨a.cell 27 zac,UM V hV⟩
   clear Xw hTO hd UM;gi_wp2_with(refine⟨trivial,?_⟩;gi_at_call 47;refine(O3.2 HH.out).mono ?_;rintro e w1 ⟨rfl,TM⟩;have hb1d:=TM.drew;obtain⟨c0,c1,c2⟩:=HB.out _ hb1d);refine aW np 7 zab zab zab ?_;simp only[List.take_succ_cons,List.take_zero,List.drop_succ_cons,List.drop_zero]
   repeat still_step
   refine P8 ?_;gi_wp2_with(refine⟨trivial,?_⟩;gi_at_call 77;refine(O3.2 (HT.out _ hb1d)).mono ?_;rintro e w2 ⟨rfl,h2⟩);go_end0;exact⟨⟨_,rfl⟩,.inl h2.out⟩
  |true=>
   rw[hd]at HH;obtain⟨f,hf,_⟩:=Y.Ac hd;have HT:Hid (∀V,Below wr wr V->() 76 #[(mb,27)] V fun e w'=>e=.returned (.agg #[f.ev,f.nm])/\YieldAt Fence.wide (n-1) prog l #[.agg #[f.ev,f.nm]] w' fun e V'=>(e=.returned true/\∃s',s'.1=k+1/\J s' V')\/(e=.returned false/\Jx V')):=fun V hV=>by
    refine OI (Dl V lo mb pb r hl (Xw.below hl hV) hTO f hf) ?_;rintro e w' ⟨rfl,h⟩;exact⟨rfl,HY.out (k,r) f w' (HTk.out (k,r) f wr w' HJ.out ⟨hd,hf,h.out.1,(Y.RfE.of hV Xw.lo').trans h.out.2.1,fun hi=>h.out.2.2 (hi.bel Xw.lt hV)⟩)⟩
   have HB:Hid (∀V,Below wr wr V->V.cell? Bw=some ↑(mb,27)):=fun V hV=>(UM V hV).1;clear Xw hTO hd UM hf;gi_wp2_with(refine⟨trivial,?_⟩;gi_at_call 47;refine(O3.2 HH.out).mono ?_;rintro e w1 ⟨rfl,TM⟩;have c1:=HB.out _ TM);refine⟨trivial,?_⟩
   gi_at_call 76
   refine(O3.2 (HT.out _ TM)).mono ?_;rintro e w2 ⟨rfl,hy0⟩;obtain⟨fn,tmps,assign,body,hy,hR⟩:=hy0;gi_wp2;refine hR.mono ?_;rintro e W3 (⟨rfl,s',hs',YC⟩|⟨rfl,hJx⟩)
   ·gi_wp2
    go_roundw
    case rel=>exact⟨s',YC⟩
    case measure=>
     have h1:=(HM.out W3 s' YC).1;have h2:=HMm.out;omega
   ·gi_wp2;refine Qb (Pu rfl _ _ _) rfl ?_;exact⟨⟨_,rfl⟩,.inr hJx⟩
