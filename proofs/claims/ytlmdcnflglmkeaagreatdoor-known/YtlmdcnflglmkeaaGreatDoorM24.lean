import Derived.Test.YtlmdcnflglmkeaaGreatDoorM23
set_option maxRecDepth 100000
set_option maxHeartbeats 8000000
namespace Go.Proofs.YtlmdcnflglmkeaaGreatDoor
theorem zdZ {zp:Prop} (h:zp:=by
 go_roundw
 case rel=>exact ⟨j+1,sl',HJ.out,zah,rfl,h5⟩
 case measure=>have:=HJ.out;simp [intOf];omega):zp:=h
theorem zbM {zp:Prop} (h:zp:=by rw [JJ _ _ _ _ _ _ hc];rfl):zp:=h
open Tryz
section
open Go.RowKit Go.Proofs Go.Shelf
namespace Fr
def okd (d:List UInt8):Bool:=decide (1<=d.length/\d.length<=10)&&(!dot d||(d.drop 1).all fun c=>decide (48<=c.toNat/\c.toNat<=57))
theorem Ja:((List.range 12).all fun k=>decide ((kd k).length<=10)&&decide ((kw k).length<=4096)&&(kd k).all okd)=true:=zab
theorem Kq {k:Nat} (hk:k<12):(kd k).length<=10/\(kw k).length<=4096/\∀ d∈kd k,okd d=true:=by
 have:=NN.1 Ja k (MD.2 hk);simp only [Bool.and_eq_true,decide_eq_true_eq,List.all_eq_true] at this;exact ⟨this.1.1,this.1.2,this.2⟩
def KI (w2:World) (xb:Nat) (p:Pg.Par) (D:List (List UInt8)) (G:List (ByteArray×Pg.RSt)) (j:Nat) (sl:Ref.Sl) (wr:World):Prop:=∃ r acc,Pg.Ses wr w2 xb p r/\Pg.LN wr p.lo p.lo p.ps (.slice sl.a sl.n sl.c) acc/\Below w2 w2 wr/\acc++(goK p.an (D.drop j) r).1=G/\(goK p.an (D.drop j) r).2.fin≠6
def KJ (w2:World) (xb:Nat) (p:Pg.Par) (D:List (List UInt8)) (G:List (ByteArray×Pg.RSt)) (j:Nat) (sl:Ref.Sl) (l:Value) (wr:World):Prop:=∃ r acc L,Pg.Ses wr w2 xb p r/\Pg.LN wr p.lo p.lo p.ps (.slice sl.a sl.n sl.c) acc/\Pg.LN wr p.lo p.lo p.ps l L/\Below w2 w2 wr/\(acc++L)++(goK p.an (D.drop j) r).1=G/\(goK p.an (D.drop j) r).2.fin≠6
abbrev KC (w2:World) (xb:Nat) (p:Pg.Par) (D:List (List UInt8)) (G:List (ByteArray×Pg.RSt)) (j:Nat) (sl:Ref.Sl) (e:Ending) (w':World):Prop:=∃ l,∃ n:Nat,e = .returned (.tuple #[l,(n:Int)])/\Hid (KJ w2 xb p D G j sl l w')
section
variable {w2 wr:World} {xb:Nat} {p:Pg.Par} {D:List (List UInt8)} {G:List (ByteArray×Pg.RSt)} {j:Nat} {sl:Ref.Sl}
theorem KI.call (h:KI w2 xb p D G j sl wr) (hv:vF w2) (hcl:∀ ev:ByteArray,ev.size<=1000000->xv ev) {d:List UInt8} (hd:D[j]?=some d) (hok:okd d=true) :
  (dot d=true->() 11 #[xb,.int .u64 (kJ (d.drop 1))] wr (KC w2 xb p D G (j+1) sl))/\(dot d=false->() 12 #[xb,.string (mk d)] wr (KC w2 xb p D G (j+1) sl)):=by
 obtain ⟨r,acc,hS,hL,hB,hG,hF⟩:=h;have hE:Pg.xx wr:=(hB.cell (p:=⟨0,0,none⟩) (LY _ _ hv.errT)).trans hv.errT;have hg:0<w2.heap.size:=LY _ _ hv.errT;have hdr:D.drop j=d::D.drop (j+1):=by
  obtain ⟨hj,e⟩:=Ku.1 hd;rw [<- e];exact N0 hj
 rw [hdr] at hG hF;have hf6:(stK p.an r d).2.fin≠6:=fun e=>hF (show (goK p.an (D.drop (j+1)) (stK p.an r d).2).2.fin=6 from Cp _ _ e);unfold okd at hok;rw [L1] at hok;have hl:=Nh hok.1;have fin:∀ l V,Pg.Ses V w2 xb p (stK p.an r d).2->Pg.LN V p.lo p.lo p.ps l (stK p.an r d).1->Pg.Rf (Pg.Lo.all p.lo) wr V->Pg.gb wr V->KJ w2 xb p D G (j+1) sl l V:=fun l V a1 a2 a3 a4=>⟨_,acc,_,a1,hL.str a3 a4,a2,hB.trans (a3.bel.mono hS.n0),by rw [Nl];exact hG,hF⟩;refine ⟨fun h => ?_,fun h => ?_⟩
 ·have hdg:∀ c∈d.drop 1,48<=c.toNat/\c.toNat<=57:=by
   have:=hok.2;rw [h,PG,OW,NN] at this;exact fun c hc=>Nh (this c hc)
  have hlt:=wM (d.drop 1) hdg (d.drop 1).length;rw [MH] at hlt;have h9:(10:Nat) ^ (d.drop 1).length<=10 ^ 9:=MU zac (by rw [OE];omega);have hst:stK p.an r d=Pg.ckK p.an r (kJ (d.drop 1)):=by unfold stK;rw [LA h]
  refine LF (Ig wr w2 xb p r hS hE hg hcl (kJ (d.drop 1)) zaa) ?_;rintro e V ⟨l,n,rfl,h1⟩;obtain ⟨a1,a2,a3,a4⟩:=h1.out;rw [hst] at fin hf6;exact ⟨l,n,rfl,fin l V a1 (a2 hf6) a3 a4⟩
 ·have hst:stK p.an r d=Pg.evK p.an r (mk d):=by unfold stK;rw [KQ (by rw [h];decide)]
  refine LF (Ir wr w2 xb p r hS hE hg hcl (mk d) (by show d.length<=_;omega)) ?_;rintro e V ⟨l,n,rfl,h1⟩;obtain ⟨a1,a2,a3,a4⟩:=h1.out;rw [hst] at fin;exact ⟨l,n,rfl,fin l V a1 a2 a3 a4⟩
theorem KJ.app {l:Value} (h:KJ w2 xb p D G j sl l wr) (hG:G.length<=20) {ops:Array Oper} {rest:List Oper} {o:Oper} {a:Act} {Q:Exit->Act->World->Prop} (hgd:o.guard=none) (s x:Operand) (ho:o.op = .call { callee := .builtin .append,args:=#[s,x],argTypes:=#[31,31] }) (hs:a.eval s = .slice sl.a sl.n sl.c) (hx:a.eval x=l)
  (k:∀ (sl':Ref.Sl) w',Hid (KI w2 xb p D G j sl' w')->wpList prog ops Q rest (a.put o.dst (.slice sl'.a sl'.n sl'.c)) w'):wpList prog ops Q (o::rest) a wr:=by
 obtain ⟨r,acc,L,hS,hA,hB,hb,hE,hF⟩:=h;have hn:acc.length+L.length<=20:=by
  have:=congrArg List.length hE;simp only [List.length_append] at this;omega
 refine CY hgd s x ho p.lo p.ps _ l acc L hs hx hA hB zaa hS.lv.mt.lo' (fun sl' w' h1 hm=>k sl' w' ?_);obtain ⟨vs,_,hrow,_⟩:=hA;obtain ⟨h2,h3⟩:=hS.stp hm (fun k hk=>⟨(L9 hrow k hk).1,bM hrow k hk⟩);exact ⟨r,acc++L,h2,h1,hb.trans (h3.mono hS.n0),hE,hF⟩
end
end Fr
theorem AS (a:Int) (w:World) (h1 : -9223372036854775808<=a) (h2:a<=9223372036854775807) (hv:vF w) (hcl:∀ ev:ByteArray,ev.size<=1000000->xv ev) :
  () 3 #[(a:Int)] w fun e w'=>e = .returned true/\Below w w w':=by
 have HK:Hid _:=yM w;have HPK:Hid _:=fun V=>D5 a V h1 h2;have hpl:=Fr.D4 a;have HV:Hid _:=hv;clear hv;go_enter func3,ntmps3;go_wp2_with fail;refine LF HK.out ?_;rintro e w1 ⟨g,rfl,hb1,hty,hkn⟩;have HW:Hid _:=zZ w1;have HB1:Hid _:=hb1;have HKN:Hid _:=hkn;clear hb1 hkn hty HK;dsimp only;go_wp2_with fail;refine LF HW.out ?_;rintro e w2 ⟨g2,rfl,hb2,hwr⟩;have HB2:Hid (Below w w w2):=HB1.out.trans (hb2.mono HB1.out.size);have HKN2:Hid (Fr.KG w2 g):=fun k hk=>by
  obtain ⟨b,a1,a2,a3,a4⟩:=HKN.out k hk;have hg:=LY _ _ a1;exact ⟨b,(hb2.cell (p:=⟨g,k*3,none⟩) hg).trans a1,(hb2.cell (p:=⟨g,k*3+1,none⟩) hg).trans a2,(hb2.cell (p:=⟨g,k*3+2,none⟩) hg).trans a3,(hb2.block _ (ph.1 a4).1).trans a4⟩
 clear hb2 HB1 HKN HW;dsimp only;by_cases hk:Fr.iM a<12
 ·obtain ⟨k,hkk⟩:∃ k,Fr.iM a=k:=⟨_,rfl⟩;rw [hkk] at HPK hk;obtain ⟨b,a1,a2,a3,a4⟩:=HKN2.out k hk;obtain ⟨S,hR,hok⟩:=Fr.DE hk;obtain ⟨o1,o2,o3⟩:=Fr.Kq hk;have hts:=Fr.Jp hk;have hk':((k:Int)<12):=zaa;obtain ⟨tx,htx⟩:∃ tx,Fr.mk (Fr.kt k)=tx:=⟨_,rfl⟩;obtain ⟨D,hD⟩:∃ D,Fr.kd k=D:=⟨_,rfl⟩;obtain ⟨kw,hkw⟩:∃ kw,Fr.mk (Fr.kw k)=kw:=⟨_,rfl⟩;rw [htx] at a1 hR hts;rw [hD] at a2 a4 o1 o3;rw [hkw] at a3;have HST:Hid (() 8 #[tx] w2 fun e w'=>∃ xb sb,e = .returned (.tuple #[.pointer (some ⟨xb,0,none⟩),.slice (some ⟨sb,0,none⟩) 1 1,(0:Int),(0:Int)])/\∃ p G,Hid (Fr.KI w2 xb p D G 0 ⟨some ⟨sb,0,none⟩,1,1⟩ w'/\G.length<=20/\(∀ x∈G,x.2.now<10)/\Fr.mk (Fr.toL (G.map (Fr.tdS p.ps)) G.length)=kw/\(Fr.toL (G.map (Fr.tdS p.ps)) G.length).length<=4096)):=by
   refine LF (kG tx w2 (HV.out.aw HB2.out) hts) ?_;rintro e w' ⟨hb',hp⟩;rw [hR] at hp;obtain ⟨xb,sb,p,r,rfl,hS,_,_,u,v,sv,e1,e2,e3,e4,e5,e6⟩:=hp;have h:=hok u v;unfold Fr.okS Fr.smK at h;simp only [Bool.and_eq_true,beq_iff_eq,bne_iff_ne,decide_eq_true_eq,List.all_eq_true] at h;obtain ⟨⟨⟨h1,h2⟩,h3,h4⟩,h5⟩:=h;have ean:p.an=Pg.anS S u v:=funext fun r=>funext fun ev=>e3 r ev;refine ⟨xb,sb,by rw [e1,show Pg.fuelN (Pg.stS S u v).fin=0 by rw [h1];rfl];rfl,p,Fr.Hn S u v k,⟨r,[(⟨#[]⟩,r)],hS,.one e4 e5 e6,hb',?_,?_⟩,h3,h4,?_,?_⟩
   ·rw [ean,e1,QG,<- hD];rfl
   ·rw [ean,e1,QG,<- hD];exact h2
   ·rw [e2,h5,hkw]
   ·rw [e2,h5];exact o2
  clear hR hok o2 hts hkk hpl hkw htx hD HKN2;have HA4:Hid _:=a4;have HO3:Hid _:=o3;have HKC:Hid (∀ V,Below w2 w2 V->V.cell? ⟨g,k*3+1,none⟩=some (.slice b D.length D.length)/\V.cell? ⟨g,k*3+2,none⟩=some ↑kw/\∀ (j:Nat) (d:List UInt8),D[j]?=some d->V.cell? ⟨b,j,none⟩=some (.string (Fr.mk d))):=fun V hV=>by
   have hg:=LY _ _ a2;refine ⟨(hV.cell (p:=⟨g,k*3+1,none⟩) hg).trans a2,(hV.cell (p:=⟨g,k*3+2,none⟩) hg).trans a3,fun j d hd => ?_⟩;rw [JJ _ _ _ _ _ _ ((hV.block _ (ph.1 a4).1).trans a4)];simp [hd]
  clear a2 a3 a4 o3 hwr;go_wp2_with (first
   | (go_at_call 7;refine LF (HPK.out _) ?_;rintro e w9 ⟨rfl,hw9⟩;rw [hw9];clear hw9 w9)
   | (go_at_call 8;refine LF HST.out ?_;rintro e w3 ⟨xb,sb,rfl,p,G,h3⟩))
  go_loopw [15,18] (fun st i wr=>∃ (j:Nat) (sl:Ref.Sl),j<=D.length/\i = .int .i64 j/\st = .slice sl.a sl.n sl.c/\Hid (Fr.KI w2 xb p D G j sl wr)) (fun _ i _=>D.length-(intOf i).toNat)
  case atStart=>exact ⟨0,⟨some ⟨sb,0,none⟩,1,1⟩,LL _,rfl,rfl,h3.out.1⟩
  case round =>
   obtain ⟨j,sl,hj,rfl,rfl,HI⟩:=hrel;have hbw:Below w2 w2 wr:=by
    obtain ⟨_,_,_,_,hb,_⟩:=HI.out;exact hb
   obtain ⟨c1,c2,c3⟩:=HKC.out wr hbw;by_cases hjl:j<D.length
   ·obtain ⟨d,hd⟩:∃ d,D[j]?=some d:=⟨_,ym hjl⟩;have cd:=c3 j d hd;have hjl':((j:Int)<(D.length:Int)):=zaa;have hod:=HO3.out d (LG hd);obtain ⟨q1,q2⟩:=HI.out.call (HV.out.aw HB2.out) hcl hd hod;have HJ:Hid (j+1<=D.length):=hjl;have hdl:1<=d.length:=by
     unfold Fr.okd at hod;rw [L1] at hod;exact (Nh hod.1).1
    have hjb:j<=10:=zaa;have hz2:0<(Fr.mk d).size:=hdl;have hz1:(0:Int)<((Fr.mk d).size:Int):=zaa;have HG:Hid _:=h3.out.2.1;obtain ⟨ch,dr,rfl⟩:∃ ch dr,d=ch::dr:=by
     cases d with
     | nil=>cases hdl
     | cons ch dr=>exact ⟨ch,dr,rfl⟩
    have hch:(Fr.mk (ch::dr))[0].toNat=ch.toNat:=rfl;cases hdt:Fr.dot (ch::dr) with
    | true =>
     have h46:ch.toNat=46:=by
      have:ch=46:=by simpa [Fr.dot] using hdt
      rw [this];rfl
     rw [h46] at hch;have HNU:Hid _:=fun V=>zc (ch::dr) V (by
      unfold Fr.okd at hod;rw [L1] at hod;exact (Nh hod.1).2) (by
      unfold Fr.okd at hod;rw [hdt,L1,PG,OW,NN] at hod;exact fun c hc=>Nh (hod.2 c hc))
     have HQ:Hid _:=q1 hdt;obtain ⟨tn,htn⟩:∃ tn,Fr.kJ ((ch::dr).drop 1)=tn:=⟨_,rfl⟩;rw [htn] at HNU HQ;clear q1 q2 c3 htn hod hd hdt h46;go_wp2_with (first
      | (go_at_call 10;refine LF (HNU.out _) ?_;rintro e w9 ⟨rfl,hw9⟩;rw [hw9];clear hw9 w9)
      | (go_at_call 11;refine LF HQ.out ?_;rintro e w4 ⟨l,n,rfl,h4⟩)
      | (at_builtin;refine h4.out.app HG.out rfl _ _ rfl rfl rfl ?_;intro sl' w5 h5))
     exact zdZ
    | false =>
     have h46:¬ ch.toNat=46:=fun e=>by
      have:ch=46:=Pj.1 e;rw [this] at hdt;cases hdt
     have hc1:¬ (Fr.mk (ch::dr))[0].toNat=46:=by rw [hch];exact h46
     have hc2:¬ (((Fr.mk (ch::dr))[0].toNat:Nat):Int)=46:=by rw [hch];omega
     have HQ:Hid _:=q2 hdt;clear q1 q2 c3 hod hd hdt h46 hch;go_wp2_with (first
      | (go_at_call 12;refine LF HQ.out ?_;rintro e w4 ⟨l,n,rfl,h4⟩)
      | (at_builtin;refine h4.out.app HG.out rfl _ _ rfl rfl rfl ?_;intro sl' w5 h5))
     exact zdZ
   ·obtain rfl:j=D.length:=zaa;have HTD:Hid (() 13 #[.slice sl.a sl.n sl.c] wr fun e w'=>e = .returned kw/\Hid (w'.cell? ⟨g,k*3+2,none⟩=some ↑kw/\Below w w w')):=by
     obtain ⟨r,acc,hS,hL,hb,hE,hF⟩:=HI.out;obtain ⟨_,g1,g2,g3,g4⟩:=h3.out;rw [List.drop_length] at hE;have hE:acc++[]=G:=hE;rw [NX] at hE;subst hE;refine LF (GW wr sl (acc.map (Fr.tdS p.ps)) (Fr.Jw hL) (fun x hx => ?_) (by rw [LI];exact g4) zaR) ?_
     ·obtain ⟨y,hy,rfl⟩:=Mc.1 hx;exact g2 y hy
     ·rintro e w' ⟨rfl,hb'⟩;rw [LI,g3];exact ⟨rfl,(HKC.out w' (hb.trans (hb'.mono hb.size))).2.1,HB2.out.trans ((hb.mono HB2.out.size).trans (hb'.mono (Fq HB2.out.size hb.size)))⟩
    have hsk:(kw.toList == kw.toList)=true:=zad;clear c3;go_wp2_with (go_at_call 13;refine LF HTD.out ?_;rintro e w4 ⟨rfl,h4⟩;have c4:=h4.out.1);go_ret;exact ⟨rfl,h4.out.2⟩
 ·obtain ⟨j,hj⟩:∃ j,Fr.iM a=12+j:=⟨Fr.iM a-12,zaa⟩;have hj28:j<28:=zaa;rw [hj] at HPK;obtain ⟨c1,c2,c3⟩:=hwr j hj28;obtain ⟨hR,hlen⟩:=Fr.EA hj28;have hj28':((j:Int)<28):=zaa;clear hk hpl hj hwr;obtain ⟨tx,htx⟩:∃ tx,Fr.mk (Fr.wt j).1=tx:=⟨_,rfl⟩;have hts:tx.size<=1073741824:=by rw [<- htx];show (Fr.wt j).1.length<=_;omega
  rw [htx] at c1 hR;generalize (Fr.wt j).2.1=ec at *;generalize (Fr.wt j).2.2=el at *;clear htx hlen;have HBX:Hid (∀ V,Below (w2.heap.size+1) (w2.alloc (.cells #[tx,(ec:Int),(el:Int)] 29)) V->V.cell? w2=some ↑tx/\V.cell? ⟨w2,1,none⟩=some ↑(ec:Int)/\V.cell? ⟨w2,2,none⟩=some ↑(el:Int)/\Below w w V):=fun V hV=>by
   have hn:=LC w2 (.cells #[tx,(ec:Int),(el:Int)] 29);have hc:=(hV.block w2 (PD _)).trans hn;have hb0:Below w w (w2.alloc (.cells #[tx,(ec:Int),(el:Int)] 29)):=HB2.out.alloc HB2.out.size _;exact ⟨zbM,zbM,zbM,hb0.trans (hV.mono (O1 HB2.out.size))⟩
  have HST:Hid (() 8 #[tx] (w2.alloc (.cells #[tx,(ec:Int),(el:Int)] 29)) fun e w'=>e = .returned (.tuple #[.pointer none,.slice none 0 0,(ec:Int),(el:Int)])/\Below (w2.heap.size+1) (w2.alloc (.cells #[tx,(ec:Int),(el:Int)] 29)) w'):=by
   refine LF (kG tx _ (HV.out.aw (HBX.out _ (FP _ _)).2.2.2) hts) ?_;rintro e w' ⟨hb',hp⟩;rw [hR] at hp;exact ⟨hp,by rw [MA] at hb';exact hb'⟩
  have HLW:Hid (∀ V,Below (w2.heap.size+1) (w2.alloc (.cells #[tx,(ec:Int),(el:Int)] 29)) V->() 9 #[tx] V fun e w'=>e = .returned (.tuple #[.string ⟨#[]⟩,(ec:Int),(el:Int)])/\Hid (Below (w2.heap.size+1) (w2.alloc (.cells #[tx,(ec:Int),(el:Int)] 29)) w')):=fun V hV =>
   LF (Bf tx V (HV.out.aw (HBX.out _ hV).2.2.2) hts ec el hR) (fun e w' x=>⟨x.1,hV.trans (x.2.mono (by have:=hV.size;rw [MA] at this;exact this))⟩)
  clear hR hts;go_wp2_with (first
   | (go_at_call 7;refine LF (HPK.out _) ?_;rintro e w9 ⟨rfl,hw9⟩;rw [hw9];clear hw9 w9)
   | (go_at_call 8;refine LF HST.out ?_;rintro e w3 ⟨rfl,hb3⟩;obtain ⟨d1,d2,d3,_⟩:=HBX.out w3 hb3)
   | (go_at_call 9;refine LF (HLW.out w3 hb3) ?_;rintro e w4 ⟨rfl,hb4⟩;obtain ⟨e1,e2,e3,HBE⟩:=HBX.out w4 hb4.out))
  go_ret;exact ⟨rfl,HBE⟩
