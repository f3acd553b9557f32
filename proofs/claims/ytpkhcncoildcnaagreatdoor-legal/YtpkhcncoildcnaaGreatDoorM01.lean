import Derived.Test.YtpkhcncoildcnaaGreatDoorM00
set_option maxRecDepth 100000
set_option maxHeartbeats 8000000
namespace Go.Proofs.YtpkhcncoildcnaaGreatDoor
variable {zp:Prop}
theorem zc3(h:zp:=by
 refine tH 18 (.int .u32 ((q.inside|||(p.inside|||t):Nat):Int)) rfl u0 ?_;refine tH 19 (b,ow*10) rfl u0 ?_;refine tH 20 (b,ow*10+5) rfl u0 ?_;refine zH 21 rfl fun K hK=>?_;go_simp;refine hK.out _ _ (by
  have e:∀(a:Addr),a≠⟨b,ow*10+5,none⟩->∀v,(W.setCell (b,ow*10+5) v).drew.cell? a=W.drew.cell? a:=fun a ha v=>ay (fun h=>ha h.symm)
  (try dsimp only at u0);(try dsimp only)
  rw[e _ zak,e _ zak,e _ zak,e _ zak,e _ zak];exact u0) (fun u0=>?_)
 clear hK K;refine OY zab ?_ _;unfold oX;gi_wp2;refine⟨zad,.inl ⟨_,_,rfl,Pj hK8,?_⟩⟩;exact⟨_,Pu rfl _ _ _,rfl,Uu⟩):zp:=h
theorem zdP(h:zp:=by
 go_enter func167,ntmps167;go_wp2_with(go_at_call 166;refine he.mono ?_;rintro e w9 ⟨rfl,Pg⟩;rw[Pg];clear Pg w9);go_end0;exact⟨rfl,rfl⟩):zp:=h
theorem zed(h:zp:=by
 subst hv;exact⟨none,_,zaW,Vn _ xs _ (Ow _) hS (hI.putObj _ hi zaa hl rfl) ((Pn zaa).trans hd)⟩):zp:=h
theorem zeH(h:zp:=by
 intro l pre x W K hI hK;gi_wp2;exact hK _ _ (PK _ _) (fun h=>h) hI rfl):zp:=h
theorem ze0(h:zp:=by
 go_enter func166,ntmps166;go_wp2;go_ret;exact⟨rfl,rfl⟩):zp:=h
theorem zfF(h:zp:=by
 simp[results,Tryz.f150,go_sem,hc5]):zp:=h
theorem zfL(h:zp:=by
 have:=(hr _ e.symm).1;omega):zp:=h
theorem zak(h:zp:=by intro h;injection h with h1 h2;omega):zp:=h
theorem zas(h:zp:=by have:=(hr r e).1;omega):zp:=h
theorem zaA(h:zp:=by rw[<- Qe];exact hz):zp:=h
theorem zaN(h:zp:=by rw[Y.cG];exact hS):zp:=h
theorem zaW(h:zp:=by have:=Tp (P:=P) hl (by rw[WQ];simp);rw[WQ]at this;exact this):zp:=h
theorem zaY(h:zp:=by rw[OA w _ _ _ _ _ hn];rfl):zp:=h
theorem za0(h:zp:=by rw[e]at hz;simp at hz):zp:=h
theorem za5(h:zp:=by simpa using hk):zp:=h
theorem za9(h:zp:=by rw[hk];rfl):zp:=h
theorem zbE(h:zp:=by simp[Target.leads]at hf';exact hf'▸hF):zp:=h
theorem zbH(h:zp:=by intro x;injection x with x1 x2;omega):zp:=h
theorem zbI(h:zp:=by simp only[resolve,hg];simp[go_sem]):zp:=h
theorem zbW(h:zp:=by rw[<- hV,WQ];exact Ws):zp:=h
theorem zbY(h:zp:=by simp[invoke,go_sem,eg]):zp:=h
theorem zcu(h:zp:=by have:=(Oz.1 hv).1;simpa[PS.cells] using this):zp:=h
theorem zcv(h:zp:=by intro h;injection h with h1;exact Yn h1.symm):zp:=h
open Tryz
variable {c a w W W' b W0 X V Z:World}{P:Nat->Prop}{Q:Exit->Act->World->Prop}{i n pb cap lo:Nat}{B:Nat->TypeId->Prop}{t:TypeId}{v:Value}{g:Operand}{assign body:Code}{p:Addr}
section
open Go.RowKit Go.Proofs Go.Shelf
attribute [local go_sem] Pp
def oX(Q:Exit->Act->World->Prop):Exit->Act->World->Prop
 |.normal,a,w=>Q .normal a w
 |.ret,_,_=>False
 |.exit _,_,_=>False
 |.goto _,_,_=>False
 |.panic _,_,_=>False
 |.outgrown,_,_=>False
theorem kz{c:Code}{P:Program}{a:Act}(h:c.wp P (oX Q) a w):c.wp P Q a w:=fun b k cs=>by
 obtain⟨e,a',w',q,r⟩:=h b k cs;cases e<;>first|exact q.elim|exact⟨_,_,_,q,r⟩
namespace Y
def lB(ps:List PS)(i:Nat):Int:=match ps[i]? with|some p=>p.kind|none=>1
def dom(ps:List PS)(i j:Nat):Nat:=match (els (dc ps i&&&dc ps j)).reverse.find? (fun k=>lB ps k == 0) with|some k=>fm ps k|none=>2 ^ ps.length-1
theorem Ky{f:Nat->Bool}{l q:List Nat}(h:q++[i] <+: l)(hq:∀j∈q,f j=false)(hi:f i=true):l.find? f=some i:=by
 obtain⟨t,rfl⟩:=h;rw[Qn,List.find?_append];have:q.find? f=none:=List.find?_eq_none.2 fun x hx=>by rw[hq x hx];decide
 rw[this];simp[hi]
end Y
theorem E6(n:Nat)(hn:3<=n)(w:World)(pb b cap:Nat)(ps:List Y.PS)(i j:Nat)(p q:Y.PS)(UZ:ps[i]?=some p)(hqj:ps[j]?=some q)(Ux:∀i,i∈Y.els (p.around&&&q.around)->i<ps.length)(hP:Y.cd w pb b cap ps)(T8:pb<w.heap.size)(hb:b<w.heap.size):
  CallsIn Fence.wide n prog 156 #[pb,(i:Int),(j:Int)] w fun e w'=>e=.returned (.int .u32 (Y.dom ps i j))/\Below w w w':=by
 have h1:1<=n:=zaa;have Vm:i<ps.length:=(Oz.1 UZ).1;have hjl:j<ps.length:=(Oz.1 hqj).1;have hlen:=hP.len;have sp:=(hP.sm i p UZ).ha;have sq:=(hP.sm j q hqj).ha;have ha1:=RM _ _ sp sq;have hs:p.around&&&q.around<4294967296:=Y.kF sp;refine Pq func156 rfl trivial ?_ rfl;simp only[ntmps156,List.size_toArray,List.length_cons,List.length_nil,Nat.reduceAdd,Nat.reduceSub,Array.replicate_succ,Array.replicate_zero,List.push_toArray,List.append_toArray,List.nil_append,List.cons_append];gi_wp2;have c0:=O4 w 103 pb;have c1:=O4 (w.alloc (.cells #[pb] 103)) 107 (.int .u32 0);simp only[World.size_alloc]at c1;have c0:=c0.alloc (.cells #[.int .u32 0] 107);have Ut:Below w w ((w.alloc (.cells #[pb] 103)).alloc (.cells #[.int .u32 0] 107)):=((Oy _ w).alloc (Ow _) _).alloc zad _;obtain⟨W0,WC⟩:∃W0,(w.alloc (.cells #[pb] 103)).alloc (.cells #[.int .u32 0] 107)=W0:=⟨_,rfl⟩;have T6:W0.heap.size=w.heap.size+1+1:=by rw[<- WC];simp
 rw[WC]at c0 c1 Ut⊢;have Xl:=hP.below Ut T8 hb;refine Ty.2 (kz ?_);refine OQ (S:=(fun V=>V.cell? w=some ↑pb/\V.cell? pb=some (.slice b ps.length cap)/\V.cell? (b,i*10+6)=some (.int .u32 p.around)/\V.cell? (b,j*10+6)=some (.int .u32 q.around))) zab ⟨c0.cell,Xl.row,(Xl.at' i p UZ).c6,(Xl.at' j q hqj).c6⟩ (fun u0=>?_);refine tH 0 pb rfl u0 ?_;refine tH 1 pb rfl u0 ?_;refine tH 2 pb rfl u0 ?_;refine tH 3 (.slice b ps.length cap) rfl u0 ?_;refine tH 4 (.int .i64 i) rfl u0 ?_;refine tH 5 (b,i*10) rfl u0 ?_;refine tH 6 (b,i*10+6) rfl u0 ?_;refine tH 7 (.int .u32 p.around) rfl u0 ?_;refine tH 8 pb rfl u0 ?_;refine tH 9 pb rfl u0 ?_;refine tH 10 pb rfl u0 ?_;refine tH 11 (.slice b ps.length cap) rfl u0 ?_;refine tH 12 (.int .i64 j) rfl u0 ?_;refine tH 13 (b,j*10) rfl u0 ?_;refine tH 14 (b,j*10+6) rfl u0 ?_;refine tH 15 (.int .u32 q.around) rfl u0 ?_;refine tH 16 (.int .u32 ((p.around&&&q.around:Nat):Int)) rfl u0 ?_;refine zH 17 rfl fun K hK=>?_;go_simp;refine(om _ _).mono ?_;rintro e w9 ⟨rfl,rfl⟩;have T5:Below w w (W0.drew.alloc (.cells #[.int .u32 ((p.around&&&q.around:Nat):Int)] 107)):=(Ut.trans (Oy _ W0).drew).alloc (by simp[T6];omega) _;have d0:=Boxed.alloc (W:=W0.drew) (show Boxed W0.drew _ _ _ from c0) (.cells #[.int .u32 ((p.around&&&q.around:Nat):Int)] 107);have d1:=Boxed.alloc (W:=W0.drew) (show Boxed W0.drew _ _ _ from c1) (.cells #[.int .u32 ((p.around&&&q.around:Nat):Int)] 107);have d2:=O4 W0.drew 107 (.int .u32 ((p.around&&&q.around:Nat):Int));have hsz':W0.drew.heap.size=w.heap.size+1+1:=T6;rw[hsz']at d2⊢;have VW:=hP.below T5 T8 hb;refine hK.out _ _ ⟨d0.cell,VW.row,(VW.at' i p UZ).c6,(VW.at' j q hqj).c6⟩ (fun u0=>?_);clear hK K u0;refine OY zab ?_ _;unfold oX;gi_wp2;obtain⟨W1,Uj⟩:∃W1,(W0.alloc (.cells #[.int .u32 ((p.around&&&q.around:Nat):Int)] 107)).drew=W1:=⟨_,rfl⟩;have hW1':W0.drew.alloc (.cells #[.int .u32 ((p.around&&&q.around:Nat):Int)] 107)=W1:=Uj;have hsz1:W1.heap.size=w.heap.size+1+1+1:=by rw[<- hW1',Py,hsz']
 rw[hW1']at d0 d1 d2 T5 VW;rw[Uj];clear Uj hW1' WC Ut Xl c0 c1 T6 hsz';have hdm:Y.dom ps i j=match (Y.els (p.around&&&q.around)).reverse.find? (fun k=>Y.lB ps k == 0) with|some k=>Y.fm ps k|none=>2 ^ ps.length-1:=by
  unfold Y.dom Y.dc;rw[UZ,hqj]
 generalize hsd:p.around&&&q.around=s at *;refine So rfl h1 (gf:=234) (lb:=#[↑(w.heap.size+1+1)]) rfl trivial (QN func234 zab rfl)
  (lO (n-1) zaa (w.heap.size+1+1) s hs _ zaa d2.cell) (fun _ _=>trivial) (fun _ _ _ _ _ _ _ _=>trivial) (Oy _ _) (fun _=>rfl)
  (fun pre W=>((∀k∈Y.ba pre,(Y.lB ps k == 0)=false)/\Boxed W w 103 pb/\Boxed W (w.heap.size+1) 107 (.int .u32 0))/\Below w w W)
  (fun c pre W=>((c=.ret/\∃(l:List Nat) (k:Nat),Y.ba pre=l++[k]/\(∀k∈l,(Y.lB ps k == 0)=false)/\(Y.lB ps k == 0)=true)/\∃k,(Y.ba pre).getLast?=some k/\Boxed W (w.heap.size+1) 107 (.int .u32 (Y.fm ps k)))/\Below w w W)
  (Pa (Pa (fun _ _ _ _ h _ _=>h) (Pa (PY (PG _ _ _) _) (PY (PG _ _ _) _))) (Qr (Ow _) zaa))
  (fun c=>Pa (Pa (fun _ _ _ _ h _ _=>h) (fun s0 A B row h hg hr=>by
   obtain⟨k,hk,hb⟩:=h;exact⟨k,hk,(PY (PG (w.heap.size+1) 107 (fun _:Unit=>.int .u32 (Y.fm ps k))) _) () A B row hb hg hr⟩)) (Qr (Ow _) zaa))
  ⟨⟨fun k hk=>(by cases hk),d0,d1⟩,T5⟩
  (fun x=>{ tmps:=#[.pointer (some ⟨pb,0,none⟩),.int .i64 i,.int .i64 j,.pointer (some ⟨w.heap.size,0,none⟩),undef,undef,.pointer (some ⟨w.heap.size+1,0,none⟩),.int .i64 x.1,.pointer (some ⟨pb,0,none⟩),.pointer (some ⟨pb,0,none⟩),.pointer (some ⟨pb,0,none⟩),.slice (some ⟨b,0,none⟩) ps.length cap,.int .i64 i,.pointer (some ⟨b,i*10,none⟩),.pointer (some ⟨b,i*10+6,none⟩),.int .u32 p.around,.pointer (some ⟨pb,0,none⟩),.pointer (some ⟨pb,0,none⟩),.pointer (some ⟨pb,0,none⟩),.slice (some ⟨b,0,none⟩) ps.length cap,.int .i64 j,.pointer (some ⟨b,j*10,none⟩),.pointer (some ⟨b,j*10+6,none⟩),.int .u32 q.around,.int .u32 s,.func (.func 234) #[] #[.pointer (some ⟨w.heap.size+1+1,0,none⟩)],.int .i64 x.1,undef,undef,undef,undef,undef,undef,undef,undef,undef,undef,undef,undef,undef,undef,undef,undef,undef,undef,undef,undef,undef,undef,undef,undef],defers:=[] }) ?assign ?body ?done ?stop
 case assign=>
  exact zfI
 case body=>
  rintro l pre x W ⟨⟨TU,hp,hr⟩,hB⟩ _;have VI:=Ux x.1 x.2;obtain⟨px,Wc⟩:∃p,ps[x.1]?=some p:=⟨_,Ou VI⟩;have Uk:=hP.below hB T8 hb;have hpc:=hp.cell;have hrc:=hr.cell;have hrf:=hr.frozen;have TO:=Uk.row;have k0:=(Uk.at' x.1 px Wc).c0;have k5:=(Uk.at' x.1 px Wc).c5;have hkA:Y.lB ps x.1=px.kind:=by unfold Y.lB;rw[Wc]
  have hiA:Y.fm ps x.1=px.inside:=by unfold Y.fm;rw[Wc]
  have hv:=Y.ej pre x;have T4:Boxed (W.setCell ↑(w.heap.size+1) (.int .u32 px.inside)) (w.heap.size+1) 107 (.int .u32 (Y.fm ps x.1)):=by
   rw[hiA];exact Ta _ hr
  have Wb:∀v,Below w w (W.setCell ↑(w.heap.size+1) v):=fun v=>hB.setCell (p:=↑(w.heap.size+1)) zad _;gi_wp2
  ·rename_i hk;exact⟨Ps _ _ _,⟨⟨rfl,Y.ba pre,x.1,hv,TU,by rw[hkA];exact hk⟩,x.1,by rw[hv];simp,T4⟩,Wb _⟩
  ·rename_i hk;refine⟨KeepsOthers.refl _,trivial,⟨?_,hp,hr⟩,hB⟩;intro k hm;rw[hv]at hm
   rcases OT.1 hm with h|h
   ·exact TU k h
   ·rw[OE.1 h,hkA];exact hk
 case done=>
  rintro D ys W hD VA ⟨⟨TU,hp,hr⟩,hB⟩ hK;rw[Y.cG,VA]at TU;have YP:(Y.els s).reverse.find? (fun k=>Y.lB ps k == 0)=none:=List.find?_eq_none.2 fun k hk=>by rw[TU k hk];decide
  rw[YP]at hdm;have Uk:=hP.below hB T8 hb;have hpc:=hp.cell;have hrc:=hr.cell;have hrf:=hr.frozen;have TO:=Uk.row;have U1:=fun w=>iR ps.length w zaa;have hm1:=PU ps.length;have hm2:=gI (i:=ps.length) zaa;generalize 2 ^ ps.length=m at *;have hsub:((m:Int)-1)=((m-1:Nat):Int):=zaa;gi_wp2_with(refine⟨trivial,?_⟩;gi_at_call 99;refine(O3.2 (U1 _)).mono ?_;rintro e w9 ⟨rfl,Pg⟩;rw[Pg];clear Pg w9);have hK':=(Ps W ⟨w.heap.size+1,0,none⟩ (.int .u32 ((m-1:Nat):Int))).same D _ hK rfl;refine⟨zad,.inl ⟨_,_,rfl,Pj hK',?_⟩⟩;have hc5:=cell_kept (Ta (.int .u32 ((m-1:Nat):Int)) hr).cell (Qa _ D (.deferred none)) (fun r e=>by cases e;exact⟨_,hK',rfl⟩)
  refine⟨.int .u32 ((m-1:Nat):Int),?_,by rw[hdm],(hB.setCell (p:=↑(w.heap.size+1)) zad _).trans (QW (w:=w) (Ow _) _ D _ _ zaa hK' rfl rfl)⟩;simp[results,Tryz.f156,go_sem,hc5]
 case stop=>
  rintro D c pre W hD VX ⟨⟨⟨rfl,l,k,hl,hq,hk⟩,k',UD,hr⟩,hB⟩ hK;rw[hl]at UD;have hkk:k=k':=by simpa using UD
  subst hkk;rw[<- Y.cG,hl]at VX;rw[Y.Ky VX hq hk]at hdm;gi_wp2;refine⟨zad,.inl ⟨_,_,rfl,Pj hK,?_⟩⟩;have hc5:=cell_kept hr.cell (Qa _ D (.deferred none)) (fun r e=>by cases e;exact⟨_,hK,rfl⟩);refine⟨.int .u32 (Y.fm ps k),?_,rfl,hB.trans (QW (w:=w) (Ow _) W D _ _ zaa hK rfl rfl)⟩;simp[results,Tryz.f156,go_sem,hc5]
theorem BR(w:World)(pb b cap:Nat)(ps:List Y.PS)(i:Nat)(p:Y.PS)(fin act:Nat)(UZ:ps[i]?=some p)(hk:(p.kind != 1)=true)(Uu:w.cell? (pb,2)=some (.int .u32 fin))(hf:fin<4294967296)(ha:act<4294967296)(hP:Y.cd w pb b cap ps)(T8:pb<w.heap.size)(hb:b<w.heap.size):
  () 150 #[pb,(i:Int),.int .u32 act] w fun e w'=>e=.returned (.bool (p.parts&&&fin&&&act != 0))/\Below w w w':=by
 have Vm:i<ps.length:=(Oz.1 UZ).1;have hlen:=hP.len;have sp:=(hP.sm i p UZ).hp;have ha1:=RM _ _ sp hf;have ha2:=RM _ _ (Y.kF (b:=fin) sp) ha;obtain⟨r,hr⟩:∃r,(p.parts&&&fin&&&act != 0)=r:=⟨_,rfl⟩;have hrI:(((p.parts&&&fin&&&act:Nat):Int) != 0)=r:=by
  rw[<- hr];cases h:(p.parts&&&fin&&&act)
  ·rfl
  ·simp;omega
 rw[hr];have c0:=O4 w 103 pb;have c1:=O4 (w.alloc (.cells #[pb] 103)) 107 (.int .u32 act);have c2:=O4 ((w.alloc (.cells #[pb] 103)).alloc (.cells #[.int .u32 act] 107)) 4 (.bool false);simp only[World.size_alloc]at c1 c2;have c0:=(c0.alloc (.cells #[.int .u32 act] 107)).alloc (.cells #[false] 4);have c1:=c1.alloc (.cells #[false] 4);have Ut:Below w w (((w.alloc (.cells #[pb] 103)).alloc (.cells #[.int .u32 act] 107)).alloc (.cells #[false] 4)):=(((Oy _ w).alloc (Ow _) _).alloc zad _).alloc zae _;have Xl:=hP.below Ut T8 hb;have hF0:=(Ut.cell (p:=⟨pb,2,none⟩) T8).trans Uu;have h0:=Xl.row;have k0:=(Xl.at' i p UZ).c0;have k4:=(Xl.at' i p UZ).c4;have q0:=c0.cell;go_enter func150,ntmps150;go_wp2;obtain⟨W0,WC⟩:∃W0,((w.alloc (.cells #[pb] 103)).alloc (.cells #[.int .u32 act] 107)).alloc (.cells #[false] 4)=W0:=⟨_,rfl⟩;rw[WC]at c0 c1 c2 Ut hF0 h0 k0 k4 q0⊢;have hrc:=c2.cell;have hrf:=c2.frozen;refine kz ?_;refine OQ (S:=(fun V=>V.cell? w=some ↑pb/\V.cell? ⟨pb,2,none⟩=some (.int .u32 fin)/\V.cell? (b,i*10+4)=some (.int .u32 p.parts)/\V.cell? ↑(w.heap.size+1)=some (.int .u32 act))) zab ⟨c0.cell,hF0,k4,c1.cell⟩ (fun u0=>?_);refine tH 0 (b,i*10) rfl u0 ?_;refine tH 1 (b,i*10) rfl u0 ?_;refine tH 2 (b,i*10+4) rfl u0 ?_;refine tH 3 (.int .u32 p.parts) rfl u0 ?_;refine tH 4 pb rfl u0 ?_;refine tH 5 pb rfl u0 ?_;refine tH 6 (pb,2) rfl u0 ?_;refine tH 7 (.int .u32 fin) rfl u0 ?_;refine tH 8 (.int .u32 ((p.parts&&&fin:Nat):Int)) rfl u0 ?_;refine tH 9 (.int .u32 act) rfl u0 ?_;refine tH 10 (.int .u32 ((p.parts&&&fin&&&act:Nat):Int)) rfl u0 ?_;refine tH 11 (.bool r) rfl u0 ?_;refine zH 12 rfl fun K hK=>?_;go_simp;refine hK.out _ _ (by
  have e:∀(a:Addr),a.block≠w.heap.size+1+1->∀v,(W0.setCell ↑(w.heap.size+1+1) v).drew.cell? a=W0.drew.cell? a:=fun a ha v=>World.cell?_setCell_far W0 _ _ _ (fun h=>ha h.symm)
  (try dsimp only at u0);(try dsimp only)
  rw[e _ zae,e _ zae,e _ zae,e _ zad];exact u0) (fun _=>?_)
 clear hK K;refine OY zab ?_ _;unfold oX;go_wp2;have hc5:((W0.setCell ↑(w.heap.size+1+1) (.bool r)).drew).cell? ↑(w.heap.size+1+1)=some (.bool r):=(Ta (.bool r) c2).cell;refine Qb (v:=.bool r) ?_ rfl ?_
 ·exact zfF
 ·exact⟨rfl,(Ut.setCell (p:=↑(w.heap.size+1+1)) zae _).trans (Oy _ _).drew⟩
attribute [local go_sem] Pp
namespace Y
def atEnd(ps:List PS)(fin act:Nat):Nat->Nat->Bool
 |0,_=>false
 |f+1,i=>match ps[i]? with
  |none=>false
  |some p=>if p.kind != 1 then p.parts&&&fin&&&act != 0 else(els p.parts).all (atEnd ps fin act f)
theorem eE(h:Below W W W'):KeepsOthers W W':=⟨h.size,fun k _ hk _=>(h.block k (Ov.1 hk).1).trans hk⟩
theorem j4{B:Nat}(h:Boxed W B t v)(hB:Below W W W'):Boxed W' B t v:=(hB.block B h.lt).trans h
end Y
theorem ES(pb b cap:Nat)(ps:List Y.PS)(fin act:Nat)(hf:fin<4294967296)(ha:act<4294967296)(We:∀(i:Nat) (p:Y.PS),ps[i]?=some p->∀j∈Y.els p.parts,i<j/\j<ps.length):∀(f i:Nat) (p:Y.PS) (w:World),ps.length-i<=f->ps[i]?=some p->w.cell? (pb,2)=some (.int .u32 fin)->Y.cd w pb b cap ps->pb<w.heap.size->b<w.heap.size->1<w.heap.size->TabAt 1 Lib.deBruijn32tab w ->
  () 150 #[pb,(i:Int),.int .u32 act] w fun e w'=>e=.returned (.bool (Y.atEnd ps fin act f i))/\Below w w w':=by
 intro f
 induction f with
 |zero=>
  intro i p w hfu UZ;have Vm:i<ps.length:=(Oz.1 UZ).1;omega
 |succ f ih=>
 intro i p w hfu UZ Uu hP T8 hb hg hT;have Vm:i<ps.length:=(Oz.1 UZ).1;have hlen:=hP.len;by_cases hk:(p.kind != 1)=true
 ·have:Y.atEnd ps fin act (f+1) i=(p.parts&&&fin&&&act != 0):=by
   rw[Y.atEnd,UZ];simp only[hk,if_true]
  rw[this];exact BR w pb b cap ps i p fin act UZ hk Uu hf ha hP T8 hb
 have hk:(p.kind != 1)=false:=za5;have hae:Y.atEnd ps fin act (f+1) i=(Y.els p.parts).all (Y.atEnd ps fin act f):=by
  rw[Y.atEnd,UZ];simp only[hk];rfl
 have hs:=(hP.sm i p UZ).hp;have Ux:=We i p UZ;refine(O3 (n:=3)).1 ?_;have c0:=O4 w 103 pb;have c1:=O4 (w.alloc (.cells #[pb] 103)) 107 (.int .u32 act);have c2:=O4 ((w.alloc (.cells #[pb] 103)).alloc (.cells #[.int .u32 act] 107)) 4 (.bool false);have c3:=O4 (((w.alloc (.cells #[pb] 103)).alloc (.cells #[.int .u32 act] 107)).alloc (.cells #[false] 4)) 107 (.int .u32 p.parts);simp only[World.size_alloc]at c1 c2 c3;have Ut:Below w w (((w.alloc (.cells #[pb] 103)).alloc (.cells #[.int .u32 act] 107)).alloc (.cells #[false] 4)):=(((Oy _ w).alloc (Ow _) _).alloc zad _).alloc zae _;have Xl:=hP.below Ut T8 hb;have h0:=Xl.row;have k0:=(Xl.at' i p UZ).c0;have k4:=(Xl.at' i p UZ).c4;have q0:=((c0.alloc (.cells #[.int .u32 act] 107)).alloc (.cells #[false] 4)).cell;refine Pq func150 rfl trivial ?_ rfl;simp only[ntmps150,List.size_toArray,List.length_cons,List.length_nil,Nat.reduceAdd,Nat.reduceSub,Array.replicate_succ,Array.replicate_zero,List.push_toArray,List.append_toArray,List.nil_append,List.cons_append];gi_wp2_with(refine⟨trivial,?_⟩;gi_at_call 98;refine(O3.2 (dH p.parts _)).mono ?_;rintro e w9 ⟨rfl,Pg⟩;rw[Pg];clear Pg w9);have T5:=Ut.alloc zae (.cells #[.int .u32 p.parts] 107);refine So rfl zaa (gf:=148) (lb:=#[↑(w.heap.size+1+1+1)]) rfl trivial (QN func148 zab rfl)
  (fH 2 zaa (w.heap.size+1+1+1) p.parts hs _ zad zad c3.cell (Y.KpT.of T5 hg hT)) Y.KpT.tr (fun W l o o' hl h hc hw=>Y.KpT.of (QW (n₀:=w.heap.size) (Ox (RG _ 4) zad) W l o o' hl h hc hw) hg) (Oy _ _) (fun _=>rfl)
  (fun pre W=>((∀k∈Y.ba pre,Y.atEnd ps fin act f k=true)/\Boxed W w 103 pb/\Boxed W (w.heap.size+1) 107 (.int .u32 act)/\Boxed W (w.heap.size+1+1) 4 (.bool false))/\Below w w W)
  (fun c pre W=>((c=.ret/\∃k∈Y.ba pre,Y.atEnd ps fin act f k=false)/\Boxed W (w.heap.size+1+1) 4 (.bool false))/\Below w w W)
  (Pa (Pa (fun _ _ _ _ h _ _=>h) (Pa (PY (PG _ _ _) _) (Pa (PY (PG _ _ _) _) (PY (PG _ _ _) _)))) (Qr (Ow _) zae))
  (fun c=>Pa (Pa (fun _ _ _ _ h _ _=>h) (PY (PG _ _ _) _)) (Qr (Ow _) zae))
  ⟨⟨fun k hk=>(by cases hk),((c0.alloc _).alloc _).alloc _,(c1.alloc _).alloc _,c2.alloc _⟩,T5⟩
  (fun x=>{ tmps:=#[.pointer (some ⟨pb,0,none⟩),.int .i64 i,.int .u32 act,.pointer (some ⟨w.heap.size,0,none⟩),undef,.pointer (some ⟨w.heap.size+1,0,none⟩),.pointer (some ⟨w.heap.size+1+1,0,none⟩),.pointer (some ⟨b,i*10,none⟩),.int .i64 x.1,.pointer (some ⟨pb,0,none⟩),.pointer (some ⟨pb,0,none⟩),.pointer (some ⟨pb,0,none⟩),.slice (some ⟨b,0,none⟩) ps.length cap,.int .i64 i,.pointer (some ⟨b,i*10,none⟩),.pointer (some ⟨b,i*10,none⟩),.pointer (some ⟨b,i*10,none⟩),.pointer (some ⟨b,i*10,none⟩),.int .i64 p.kind,.bool false,undef,undef,undef,undef,undef,undef,undef,undef,undef,undef,undef,undef,.pointer (some ⟨b,i*10,none⟩),.pointer (some ⟨b,i*10,none⟩),.pointer (some ⟨b,i*10+4,none⟩),.int .u32 p.parts,.func (.func 148) #[] #[.pointer (some ⟨w.heap.size+1+1+1,0,none⟩)],.int .i64 x.1,undef,undef,undef,undef,undef],defers:=[] }) ?assign ?body ?done ?stop
 case assign=>
  exact zfI
 case body=>
  rintro l pre x W ⟨⟨Vs,hp,Wm,hr⟩,hB⟩ _;obtain⟨hx1,VJ⟩:=Ux x.1 x.2;obtain⟨px,Wc⟩:∃p,ps[x.1]?=some p:=⟨_,Ou VJ⟩;have T6:=hB.size;have hih:=ih x.1 px W zaa Wc ((hB.cell (p:=⟨pb,2,none⟩) T8).trans Uu) (hP.below hB T8 hb) zaa zaa zaa (Y.KpT.of hB hg hT);have hpc:=hp.cell;have hacc:=Wm.cell;have hv:=Y.ej pre x;obtain⟨r,YQ⟩:∃r,Y.atEnd ps fin act f x.1=r:=⟨_,rfl⟩;rw[YQ]at hih;have hih:() 150 #[pb,(x.1:Int),.int .u32 act] W fun e w'=>e=.returned r/\Below W W w'/\w'.cell? ↑(w.heap.size+1+1)=some (.bool false)/\w'.frozen? ↑(w.heap.size+1+1)=false:=hih.mono fun e w' h=>⟨h.1,h.2,(Y.j4 hr h.2).cell,(Y.j4 hr h.2).frozen⟩;cases r
  all_goals gi_wp2_with(refine⟨trivial,?_⟩;gi_at_call 150;refine(aI hih).mono ?_;clear hih;rintro e w9 ⟨rfl,UK,h9c,h9f⟩)
  ·rename_i w9 UK h9c h9f;exact⟨(Y.eE UK).trans (Ps _ _ _),⟨⟨rfl,x.1,by rw[hv];simp,YQ⟩,Ta _ (Y.j4 hr UK)⟩,(hB.trans (UK.mono T6)).setCell (p:=↑(w.heap.size+1+1)) zae _⟩
  ·rename_i w9 UK h9c h9f;refine⟨Y.eE UK,Y.KpT.of UK zaa,⟨?_,Y.j4 hp UK,Y.j4 Wm UK,Y.j4 hr UK⟩,hB.trans (UK.mono T6)⟩;intro k hm;rw[hv]at hm
   rcases OT.1 hm with h|h
   ·exact Vs k h
   ·rw[OE.1 h];exact YQ
 case done=>
  rintro D ys W hD VA ⟨⟨Vs,hp,Wm,hr⟩,hB⟩ hK;rw[Y.cG,VA]at Vs;have hrc:=hr.cell;have hrf:=hr.frozen;gi_wp2;have hK':=(Ps W ⟨w.heap.size+1+1,0,none⟩ (.bool true)).same D _ hK rfl;refine⟨zad,.inl ⟨_,_,rfl,Pj hK',?_⟩⟩;have hc5:=cell_kept (Ta (.bool true) hr).cell (Qa _ D (.deferred none)) (fun r e=>by cases e;exact⟨_,hK',rfl⟩);refine⟨.bool true,?_,by rw[hae,Ro.2 Vs],(hB.setCell (p:=↑(w.heap.size+1+1)) zae _).trans (QW (w:=w) (Ow _) _ D _ _ zbr hK' rfl rfl)⟩;exact zfF
 case stop=>
  rintro D c pre W hD VX ⟨⟨⟨rfl,k,hk1,VN⟩,hr⟩,hB⟩ hK;rw[<- Y.cG]at VX;have hfa:(Y.els p.parts).all (Y.atEnd ps fin act f)=false:=Sz.2 ⟨k,VX.subset hk1,by rw[VN];decide⟩;gi_wp2;refine⟨zad,.inl ⟨_,_,rfl,Pj hK,?_⟩⟩;have hc5:=cell_kept hr.cell (Qa _ D (.deferred none)) (fun r e=>by cases e;exact⟨_,hK,rfl⟩);refine⟨.bool false,?_,by rw[hae,hfa],hB.trans (QW (w:=w) (Ow _) W D _ _ zbr hK rfl rfl)⟩;exact zfF
attribute [local go_sem] Pp
theorem oD(h1:2<=n){ps:Array Tmp}{a:Act}(Bs s:Nat)(hs:s<4294967296)
  (he:a.eval g=.func (.func 148) #[] #[Bs]) (Wb:Bs<w.heap.size) (hg:1<w.heap.size) (hc:w.cell? Bs=some (.int .u32 s)) (hT:TabAt 1 Lib.deBruijn32tab w) (Zl:1=ps.size)
  (I:List (Y.In s)->World->Prop) (Ix:Code->List (Y.In s)->World->Prop) (hI:OwnFrom w.heap.size I) (Zm:∀c,OwnFrom w (Ix c)) (h0:I [] w) (Ax:Y.In s->Act->World->Prop) (hAx:∀x a',OwnFrom w (fun(_:Unit) W=>Ax x a' W))
  (Up:∀(l:Nat) (pre:List (Y.In s)) (x:Y.In s) (W:World) (K:Act->World->Prop),I pre W->(∀a' W',KeepsFrom w W W'->Y.KpT W W'->I pre W'->Ax x a' W'->K a' W') ->
   assign.wpIn (Fence.wide.inRound l) (n-1-1) prog (Exit.then K (fun _ _ _=>False)) { tmps:=(ps.zip #[Value.int .i64 (x.1:Int)]).foldl (fun t (p,v)=>t.setIfInBounds p v) a.tmps,defers:=[] } W)
  (Vc:∀(l:Nat) (pre:List (Y.In s)) (x:Y.In s) (a':Act) (W:World),w.heap.size<=l->(∃r,W.heap[l]?=some (.loop r))->I pre W->Ax x a' W->pre.length<32->body.wpIn (Fence.wide.inRound l) (n-1-1) prog (ownPostG w Y.KpT I Ix (pre++[x]) W) a' W)
  (Vn:∀(D:Nat) (xs:List (Y.In s)) (W:World),w.heap.size<=D->Y.ba xs=Y.els s->I xs W->W.heap[D]?=some (.deferred (some []))->Q .normal { a with defers:={ target:=.collected D,args:=#[] }::a.defers } W)
  (VB:∀(D:Nat) (c:Code) (pre:List (Y.In s)) (W:World),w.heap.size<=D->Y.ba pre <+: Y.els s->Ix c pre W->W.heap[D]?=some (.deferred (some []))->c.wpIn Fence.wide n prog Q { a with defers:={ target:=.collected D,args:=#[] }::a.defers } W):
  (Code.rangeFunc g ps assign body).wpIn Fence.wide n prog Q a w:=
 RE rfl zaa (gf:=148) he trivial (QN func148 zab rfl)
  (fH (n-1) zaa Bs s hs w Wb hg hc hT) Y.KpT.tr (fun W l o o' hl h hc hw=>Y.KpT.of (QW (n₀:=w.heap.size) (Ow _) W l o o' hl h hc hw) hg) (Oy _ _) (fun _=>Zl)
  I Ix hI Zm h0 Ax hAx Up Vc (fun D xs W hD hS=>Vn D xs W hD zaN) (fun D c pre W hD hS=>VB D c pre W hD zaN)
theorem MR(h1:2<=n){ps:Array Tmp}{a:Act}{l₀:Nat}{r₀:Loop}(hl₀:w.heap[l₀]?=some (.loop r₀))(Bs s:Nat)(hs:s<4294967296)
  (he:a.eval g=.func (.func 148) #[] #[Bs]) (Wb:Bs<w.heap.size) (hg:1<w.heap.size) (hc:w.cell? Bs=some (.int .u32 s)) (hT:TabAt 1 Lib.deBruijn32tab w) (Zl:1=ps.size)
  (I:List (Y.In s)->World->Prop) (Ix:Code->List (Y.In s)->World->Prop) (hI:OwnFrom w.heap.size I) (Zm:∀c,OwnFrom w (Ix c)) (h0:I [] w) (Ax:Y.In s->Act->World->Prop) (hAx:∀x a',OwnFrom w (fun(_:Unit) W=>Ax x a' W))
  (Up:∀(l:Nat) (pre:List (Y.In s)) (x:Y.In s) (W:World) (K:Act->World->Prop),I pre W->(∀a' W',KeepsFrom w W W'->Y.KpT W W'->I pre W'->Ax x a' W'->K a' W') ->
   assign.wpIn (Fence.wide.inRound l) (n-1-1) prog (Exit.then K (fun _ _ _=>False)) { tmps:=(ps.zip #[Value.int .i64 (x.1:Int)]).foldl (fun t (p,v)=>t.setIfInBounds p v) a.tmps,defers:=[] } W)
  (Vc:∀(l:Nat) (pre:List (Y.In s)) (x:Y.In s) (a':Act) (W:World),w.heap.size<=l->(∃r,W.heap[l]?=some (.loop r))->I pre W->Ax x a' W->pre.length<32->body.wpIn (Fence.wide.inRound l) (n-1-1) prog (ownPostG w Y.KpT I Ix (pre++[x]) W) a' W)
  (Vn:∀(xs:List (Y.In s)) (W:World),Y.ba xs=Y.els s->I xs W->Q .normal a W)
  (VB:∀(c:Code) (pre:List (Y.In s)) (W:World),Y.ba pre <+: Y.els s->Ix c pre W->c.wpIn (Fence.wide.inRound l₀) n prog Q a W):
  (Code.rangeFunc g ps assign body).wpIn (Fence.wide.inRound l₀) n prog Q a w:=
 wpIn_rangeFunc_ownN (l₀:=l₀) (r₀:=r₀) rfl hl₀ zaa (gf:=148) he trivial (QN func148 zab rfl)
  ((fH (n-1) zaa Bs s hs w Wb hg hc hT).inRound l₀) Y.KpT.tr (fun W l o o' hl h hc hw=>Y.KpT.of (QW (n₀:=w.heap.size) (Ow _) W l o o' hl h hc hw) hg) (Oy _ _) (fun _=>Zl)
  I Ix hI Zm h0 Ax hAx Up Vc (fun xs W hS=>Vn xs W zaN) (fun c pre W hS=>VB c pre W zaN)
namespace Y
def gU(ps:List PS)(o:Nat)(l:List Nat):Nat:=l.foldl (fun o k=>if o.testBit k then o else o|||bW ps k) o
def j6(ps:List PS)(o:Nat)(l:List Nat):Nat:=l.foldl (fun o i=>match ps[i]? with|some p=>if p.kind != 1 then o else gU ps o (els p.parts)|none=>o) o
def complete(ps:List PS)(s:Nat):Nat:=j6 ps s (els s)
theorem EY(ps:List PS)(o:Nat)(l:List Nat)(k:Nat):gU ps o (l++[k])=if(gU ps o l).testBit k then gU ps o l else gU ps o l|||bW ps k:=by
 unfold gU;rw[Px];rfl
theorem EX(ps:List PS)(o:Nat)(l:List Nat)(i:Nat){p:PS}(hp:ps[i]?=some p):j6 ps o (l++[i])=if p.kind != 1 then j6 ps o l else gU ps (j6 ps o l) (els p.parts):=by
 unfold j6;rw[Px];simp only[List.foldl_cons,List.foldl_nil,hp]
def Sms(ps:List PS):Prop:=∀(i:Nat) (p:PS),ps[i]?=some p->p.Sm
theorem rC{ps:List PS}(h:Sms ps):∀(l:List Nat) (o:Nat),o<4294967296->gU ps o l<4294967296
 |[],_,ho=>ho
 |k::l,o,ho=>by
  show gU ps (if o.testBit k then o else o|||bW ps k) l<_;split
  ·exact rC h l _ ho
  ·exact rC h l _ (qM ho (rP h k))
theorem DX{ps:List PS}(h:Sms ps):∀(l:List Nat) (o:Nat),o<4294967296->j6 ps o l<4294967296
 |[],_,ho=>ho
 |i::l,o,ho=>by
  show j6 ps (match ps[i]? with|some p=>if p.kind != 1 then o else gU ps o (els p.parts)|none=>o) l<_;refine DX h l _ ?_;split
  ·split
   ·exact ho
   ·exact rC h _ _ ho
  ·exact ho
end Y
theorem oy(w:World)(pb b cap:Nat)(ps:List Y.PS)(s:Nat)(hs:s<4294967296)(Ux:∀i,i∈Y.els s->i<ps.length)(We:∀(i:Nat) (p:Y.PS),ps[i]?=some p->∀j∈Y.els p.parts,j<ps.length)(hP:Y.cd w pb b cap ps)(T8:pb<w.heap.size)(hb:b<w.heap.size)
  (hg:1<w.heap.size) (hT:TabAt 1 Lib.deBruijn32tab w):
  () 158 #[pb,.int .u32 s] w fun e w'=>e=.returned (.int .u32 (Y.complete ps s))/\Below w w w':=by
 refine(O3 (n:=6)).1 ?_;have hlen:=hP.len;refine Pq func158 rfl trivial ?_ rfl;simp only[ntmps158,List.size_toArray,List.length_cons,List.length_nil,Nat.reduceAdd,Nat.reduceSub,Array.replicate_succ,Array.replicate_zero,List.push_toArray,List.append_toArray,List.nil_append,List.cons_append];gi_wp2_with(refine⟨trivial,?_⟩;gi_at_call 98;refine(O3.2 (dH s _)).mono ?_;rintro e w9 ⟨rfl,Pg⟩;rw[Pg];clear Pg w9);have c0:=((O4 w 103 pb).alloc (.cells #[.int .u32 s] 107)).alloc (.cells #[.int .u32 s] 107);have c1:=(O4 (w.alloc (.cells #[pb] 103)) 107 (.int .u32 s)).alloc (.cells #[.int .u32 s] 107);have c2:=O4 ((w.alloc (.cells #[pb] 103)).alloc (.cells #[.int .u32 s] 107)) 107 (.int .u32 s);simp only[World.size_alloc]at c1 c2;have Ut:Below w w (((w.alloc (.cells #[pb] 103)).alloc (.cells #[.int .u32 s] 107)).alloc (.cells #[.int .u32 s] 107)):=(((Oy _ w).alloc (Ow _) _).alloc zad _).alloc zae _;have T6:(((w.alloc (.cells #[pb] 103)).alloc (.cells #[.int .u32 s] 107)).alloc (.cells #[.int .u32 s] 107)).heap.size=w.heap.size+3:=zad;obtain⟨W0,WC⟩:∃W0,((w.alloc (.cells #[pb] 103)).alloc (.cells #[.int .u32 s] 107)).alloc (.cells #[.int .u32 s] 107)=W0:=⟨_,rfl⟩;rw[WC]at c0 c1 c2 Ut T6⊢;clear WC;refine oD zaa (w.heap.size+1+1) s hs rfl zaa zaa c2.cell (Y.KpT.of Ut hg hT) rfl
  (fun pre W=>(Boxed W w 103 pb/\Boxed W (w.heap.size+1) 107 (.int .u32 (Y.j6 ps s (Y.ba pre))))/\Below w w W)
  (fun _ _ _=>False)
  (Pa (Pa (PY (PG _ _ _) _) (PY (PG _ _ _) _)) (Qr (Ow _) zaa))
  (fun _ _ _ _ _ hs _ _=>hs)
  ⟨⟨c0,c1⟩,Ut⟩
  (fun x a' _=>a'={ tmps:=#[.pointer (some ⟨pb,0,none⟩),.int .u32 s,.pointer (some ⟨w.heap.size,0,none⟩),.pointer (some ⟨w.heap.size+1,0,none⟩),.int .u32 0,.int .i64 x.1,undef,.int .u32 s,.func (.func 148) #[] #[.pointer (some ⟨w.heap.size+1+1,0,none⟩)],.int .i64 x.1,undef,undef,undef,undef,undef,undef,undef,undef,undef,undef,undef,undef,undef,undef,undef,undef,undef,undef,undef,undef,undef,undef,undef,undef,undef,undef,undef,undef,undef,undef,undef,undef,undef,undef],defers:=[] })
  (fun _ _ _ _ _ _ hs _ _=>hs)
  ?assign ?body ?done ?stop
 case assign=>
  exact zeH
 case body=>
  rintro l pre x a' W hl ⟨r,hr⟩ ⟨⟨hp,hc⟩,hB⟩ rfl _;have VI:=Ux x.1 x.2;obtain⟨p,Wc⟩:∃p,ps[x.1]?=some p:=⟨_,Ou VI⟩;have Xj:=hP.below hB T8 hb;have U6:=Y.EX ps s (Y.ba pre) x.1 Wc;rw[<- Y.ej]at U6;have h0:=Xj.row;have k0:=(Xj.at' x.1 p Wc).c0;have k4:=(Xj.at' x.1 p Wc).c4;have hpc:=hp.cell;by_cases hk:(p.kind != 1)=true
  ·rw[OD hk]at U6;gi_wp2;exact⟨PK _ _,(fun h=>h),⟨hp,by rw[U6];exact hc⟩,hB⟩
  have hk:(p.kind != 1)=false:=za5;rw[OB (by rw[hk];decide)]at U6;have h1':2<=6-1-1:=zaa;gi_wp2_with(refine⟨trivial,?_⟩;gi_at_call 98;refine(aI (dH p.parts _)).mono ?_;rintro e w9 ⟨rfl,Pg⟩;rw[Pg];clear Pg w9);have hsW:=hB.size;have bN:=O4 W 107 (.int .u32 p.parts);have hr':(W.alloc (.cells #[.int .u32 p.parts] 107)).heap[l]?=some (.loop r):=(Pz W _ l (Ov.1 hr).1).trans hr;have UA:=hB.alloc hsW (.cells #[.int .u32 p.parts] 107);refine MR h1' (l₀:=l) (r₀:=r) hr' W p.parts (hP.sm x.1 p Wc).hp rfl zad zae bN.cell (Y.KpT.of UA hg hT) rfl
   (fun pre' W'=>(Boxed W' w 103 pb/\Boxed W' (w.heap.size+1) 107 (.int .u32 (Y.gU ps (Y.j6 ps s (Y.ba pre)) (Y.ba pre'))))/\(Below w W W'/\KeepsFrom W0.heap.size W W'))
   (fun _ _ _=>False)
   (Pa (Pa (PY (PG _ _ _) _) (PY (PG _ _ _) _)) (Pa (Qr hsW zae) (Tm zad)))
   (fun _ _ _ _ _ hs _ _=>hs)
   ⟨⟨hp.alloc _,hc.alloc _⟩,(Oy _ W).alloc hsW _,(To _ _).from _⟩
   (fun y a'' _=>a''={ tmps:=#[.pointer (some ⟨pb,0,none⟩),.int .u32 s,.pointer (some ⟨w.heap.size,0,none⟩),.pointer (some ⟨w.heap.size+1,0,none⟩),.int .u32 0,.int .i64 x.1,.int .i64 y.1,.int .u32 s,.func (.func 148) #[] #[.pointer (some ⟨w.heap.size+1+1,0,none⟩)],.int .i64 x.1,.pointer (some ⟨pb,0,none⟩),.pointer (some ⟨pb,0,none⟩),.pointer (some ⟨pb,0,none⟩),.slice (some ⟨b,0,none⟩) ps.length cap,.int .i64 x.1,.pointer (some ⟨b,x.1*10,none⟩),.pointer (some ⟨b,x.1*10,none⟩),.int .i64 p.kind,.bool false,.pointer (some ⟨pb,0,none⟩),.pointer (some ⟨pb,0,none⟩),.pointer (some ⟨pb,0,none⟩),.slice (some ⟨b,0,none⟩) ps.length cap,.int .i64 x.1,.pointer (some ⟨b,x.1*10,none⟩),.pointer (some ⟨b,x.1*10+4,none⟩),.int .u32 p.parts,.func (.func 148) #[] #[.pointer (some ⟨W.heap.size,0,none⟩)],.int .i64 y.1,undef,undef,undef,undef,undef,undef,undef,undef,undef,undef,undef,undef,undef,undef,undef],defers:=[] })
   (fun _ _ _ _ _ _ hs _ _=>hs)
   ?assign2 ?body2 ?done2 ?stop2
  case assign2=>
   rintro l2 pre' y W' K hi hK;gi_wp2;exact hK _ _ (PK _ _) (fun h=>h) hi rfl
  case body2=>
   rintro l2 pre' y a'' W' _ _ ⟨⟨hp2,XT⟩,Wt,hKF⟩ rfl _;have hyl:=We x.1 p Wc y.1 y.2;obtain⟨q,hqy⟩:∃q,ps[y.1]?=some q:=⟨_,Ou hyl⟩;have VO:=Xj.below Wt T8 hb;have XU:=Y.EY ps (Y.j6 ps s (Y.ba pre)) (Y.ba pre') y.1;rw[<- Y.ej]at XU;have TX:=Y.rC hP.sm (Y.ba pre') _ (Y.DX hP.sm (Y.ba pre) s hs);have cS:=XT.cell;have fS:=XT.frozen;have cP:=hp2.cell;have r0:=VO.row;have r7:=(VO.at' y.1 q hqy).c7;have hw7:=(hP.sm y.1 q hqy).hw;have hwa:Y.bW ps y.1=q.wth:=by unfold Y.bW;rw[hqy]
   obtain⟨o,ho⟩:∃o,Y.gU ps (Y.j6 ps s (Y.ba pre)) (Y.ba pre')=o:=⟨_,rfl⟩;rw[ho]at XU TX cS XT;have Yo:y.1<32:=zaa;obtain⟨t,ht⟩:∃t,o.testBit y.1=t:=⟨_,rfl⟩;have hha:=xP o y.1 W' Yo TX;rw[ht]at hha XU;have ha:=Q2 _ _ TX hw7;have UM:∀V:World,Boxed V (w.heap.size+1) 107 (.int .u32 (o:Nat))->Boxed (V.setCell ↑(w.heap.size+1) (.int .u32 ((o|||q.wth:Nat):Int))) (w.heap.size+1) 107 (.int .u32 ((o|||q.wth:Nat):Int)):=fun V h=>h.set _;cases t
   all_goals gi_wp2_with(refine⟨trivial,?_⟩;gi_at_call 203;refine(aI hha).mono ?_;rintro e w9 ⟨rfl,Pg⟩;rw[Pg];clear Pg w9)
   ·gi_region
    all_goals gi_wp2
    all_goals
     rw[OB zac,hwa]at XU;exact⟨((Rr W').trans (Ps _ _ _)).from _,Y.KpT.of (((Oy w W').drew).setCell (p:=↑(w.heap.size+1)) zad _) hg,⟨Boxed.kept (W:=W'.drew) (show Boxed W'.drew _ _ _ from hp2) (grownBy_setCell' _ _ _) zad,by rw[XU];exact UM W'.drew XT⟩,(Wt.trans ((Oy _ W').drew)).setCell (p:=↑(w.heap.size+1)) zad _,hKF.trans (((Rr W').trans (Ps _ _ _)).from _)⟩
   ·rw[OD (by trivial)]at XU;exact⟨PK _ _,(fun h=>h),⟨hp2,by rw[XU];exact XT⟩,Wt,hKF⟩
  case done2=>
   rintro ys W' VA ⟨⟨hp2,XT⟩,Wt,hKF⟩;rw[VA]at XT;gi_wp2;exact⟨hKF,Y.KpT.of Wt hg,⟨hp2,by rw[U6];exact XT⟩,hB.trans Wt⟩
  case stop2=>
   rintro c pre' W' _ h;exact h.elim
 case done=>
  rintro D ys W hD VA ⟨⟨_,hc⟩,hB⟩ hK;have hc:=hc.cell;rw[VA]at hc;gi_wp2;refine⟨zad,.inl ⟨_,_,rfl,Pj hK,?_⟩⟩;exact⟨_,SQ rfl _ _ _,rfl,hB.trans (QW (w:=w) (Ow _) W D _ _ zaa hK rfl rfl)⟩
 case stop=>
  exact zfA
end
section
open Go.RowKit
structure Mo(P:Nat->Prop)(w w':World):Prop where
 os:w'.os=w.os
 tape:w'.tape=w.tape
 output:w'.output=w.output
 size:w.heap.size<=w'.heap.size
 block:∀k,k<w.heap.size->¬P k->w'.heap[k]?=w.heap[k]?
theorem Mo.refl(P:Nat->Prop)(w:World):Mo P w w:=⟨rfl,rfl,rfl,Ow _,fun _ _ _=>rfl⟩
theorem Mo.trans(h:Mo P a b)(k:Mo P b c):Mo P a c:=
 ⟨k.os.trans h.os,k.tape.trans h.tape,k.output.trans h.output,Ox h.size k.size,fun i hi hn=>by rw[k.block i (OS hi h.size) hn,h.block i hi hn]⟩
theorem Mo.trans'{Q:Nat->Prop}(h:Mo P a b)(k:Mo Q b c)(hQ:∀i,i<a.heap.size->Q i->P i):Mo P a c:=
 ⟨k.os.trans h.os,k.tape.trans h.tape,k.output.trans h.output,Ox h.size k.size,fun i hi hn=>by rw[k.block i (OS hi h.size) (fun q=>hn (hQ i hi q)),h.block i hi hn]⟩
theorem Mo.mono{Q:Nat->Prop}(h:Mo P a b)(hQ:∀i,i<a.heap.size->P i->Q i):Mo Q a b:=
 ⟨h.os,h.tape,h.output,h.size,fun i hi hn=>h.block i hi (fun p=>hn (hQ i hi p))⟩
theorem az(h:Below a a b):Mo P a b:=⟨h.os,h.tape,h.output,h.size,fun i hi _=>h.block i hi⟩
theorem Ea{g:Nat}(h:iF g a b):Mo (·=g) a b:=⟨h.os,h.tape,h.output,zbl,fun i _ hn=>h.block i hn⟩
theorem Mo.below{B:Nat}{o:World}(h:Mo P a b)(hb:Below B o a)(hB:B<=a.heap.size)(hP:∀i,i<B->¬P i):Below B o b:=
 hb.trans ⟨h.os,h.tape,h.output,h.size,fun k hk=>h.block k zaa (hP k hk)⟩
theorem Mo.cell(h:Mo P a b)(hp:p.block<a.heap.size)(hn:¬P p.block):b.cell? p=a.cell? p:=OO (w:=a) (h.block p.block hp hn)
theorem Mo.own{base size:Nat}{e:TypeId}{xs:List Value}(h:Mo P a b)(ho:a.ownsRow base e size v n xs)(hn:∀g,v.ownBlock=some g->¬P g):b.ownsRow base e size v n xs:=by
 refine⟨ho.1,?_⟩
 rcases ho.2 with h'|⟨k,cap,cur,hv,hb,UD,r⟩
 ·exact .inl h'
 ·refine .inr ⟨k,cap,cur,hv,hb,?_,r⟩;rw[h.block k (Ov.1 UD).1 (hn k (by rw[hv];rfl))];exact UD
end
section
open Go.RowKit Go.Proofs Go.Shelf
attribute [local go_sem] Pp
theorem Mo.bel{A A':World}(hm:Mo P W0 A)(hb:Below W0 A A'):Mo P W0 A':=⟨hb.os.trans hm.os,hb.tape.trans hm.tape,hb.output.trans hm.output,Ox hm.size hb.size,fun k hk hn=>(hb.block k hk).trans (hm.block k hk hn)⟩
theorem IX{β:Type}{J:β->World->Prop}(hJ:∀s A A',J s A->Below W0 A A'->J s A'):OwnFrom W0.heap.size (fun s W=>J s W/\Mo P W0 W):=fun s A A' row h hg hr=>by
 have hb:Below W0 A A':=(Oy _ A).grown hg h.2.size (fun k e=>(hr k e).1);exact⟨hJ s A A' h.1 hb,h.2.bel hb⟩
theorem Mo.set(h:Mo P a b)(p:Addr)(v:Value)(hp:P p.block):Mo P a (b.setCell p v):=⟨h.os,h.tape,h.output,Ox h.size zad,fun k hk hn=>(O9 b p v k (fun e=>hn (e▸hp))).trans (h.block k hk hn)⟩
theorem Mo.kpT(h:Mo P a b)(hg:1<a.heap.size)(hn:¬P 1):Y.KpT a b:=fun x j hj=>(h.cell (p:=⟨1,j,none⟩) hg hn).trans (x j hj)
theorem Boxed.mo{B:Nat}(h:Boxed a B t v)(hm:Mo P a b)(hn:¬P B):Boxed b B t v:=(hm.block B h.lt hn).trans h
theorem ay{a b:Addr}(h:a≠b):(w.setCell a v).cell? b=w.cell? b:=World.cell?_setCell_other w a b v h
theorem jB(h:Mo P a b):Mo P a b.drew:=⟨h.os,h.tape,h.output,h.size,h.block⟩
theorem bs{B:Nat}(h:Boxed W B t v)(hn:B≠p.block)(u:Value):Boxed (W.setCell p u) B t v:=(O9 W p u B hn).trans h
theorem aB{B:Nat}(h:Boxed W B t v)(hB:Below n W W')(hb:B<n):Boxed W' B t v:=(hB.block B hb).trans h
namespace Y
def PS.cells(p:PS):List Value:=[(p.kind:Int),p.name,p.done,(p.owner:Int),.int .u32 p.parts,.int .u32 p.inside,.int .u32 p.around,.int .u32 p.wth,p.enter.v,p.leave.v]
structure bC(W:World)(pb b cap:Nat)(ps:List PS):Prop where
 row:W.cell? pb=some (.slice b ps.length cap)
 at':∀(i:Nat) (p:PS),ps[i]?=some p->∀(k:Nat) (v:Value),p.cells[k]?=some v->W.cell? (b,i*10+k)=some v/\W.frozen? (b,i*10+k)=false
 len:ps.length<=24
 ne:pb≠b
theorem bC.ps{b:Nat}{ps:List PS}{p:PS}(h:bC W pb b cap ps)(hi:ps[i]?=some p):uD W b i p where
 c0:=(h.at' i p hi 0 _ rfl).1
 c1:=(h.at' i p hi 1 _ rfl).1
 c2:=(h.at' i p hi 2 _ rfl).1
 c3:=(h.at' i p hi 3 _ rfl).1
 c4:=(h.at' i p hi 4 _ rfl).1
 c5:=(h.at' i p hi 5 _ rfl).1
 c6:=(h.at' i p hi 6 _ rfl).1
 c7:=(h.at' i p hi 7 _ rfl).1
 c8:=(h.at' i p hi 8 _ rfl).1
 c9:=(h.at' i p hi 9 _ rfl).1
theorem bC.bG{b:Nat}{ps:List PS}(h:bC W pb b cap ps)(hs:Sms ps):cd W pb b cap ps where
 row:=h.row
 at':=fun _ _ hi=>h.ps hi
 sm:=hs
 len:=h.len
theorem bC.below{B b:Nat}{ps:List PS}(h:bC W pb b cap ps)(hB:Below B W W')(h1:pb<B)(h2:b<B):bC W' pb b cap ps where
 row:=(hB.cell (p:=pb) h1).trans h.row
 at':=fun i p hi k v hv=>by
  have:=h.at' i p hi k v hv;exact⟨(hB.cell (p:=⟨b,_,none⟩) h2).trans this.1,(hB.frozen (p:=⟨b,_,none⟩) h2).trans this.2⟩
 len:=h.len
 ne:=h.ne
theorem bC.set{b:Nat}{ps:List PS}{p:PS}(h:bC W pb b cap ps)(hi:ps[i]?=some p)(k:Nat)(v:Value)(p':PS)(hk:k<10)(hc:∀j,p'.cells[j]?=if j=k then some v else p.cells[j]?):bC (W.setCell (b,i*10+k) v) pb b cap (ps.set i p') where
 row:=by
  rw[ay (by intro e;injection e with e1;exact h.ne e1.symm),ON];exact h.row
 at':=fun i' q hq k' v' hv=>by
  have Vm:i<ps.length:=(Oz.1 hi).1;rw[QZ];have UD:k'<10:=zcu;obtain⟨v0,hv0⟩:∃v0,p.cells[k]?=some v0:=⟨_,Ou (by simpa[PS.cells] using hk)⟩;by_cases e:i'=i
  ·subst e;rw[OR Vm]at hq;cases hq
   rw[hc]at hv;by_cases e2:k'=k
   ·subst e2;rw[OD rfl]at hv;cases hv
    have:=h.at' i' p hi k' v0 hv0;exact⟨Q5 _ _ _ this.1,this.2⟩
   ·rw[OB e2]at hv;have:=h.at' i' p hi k' v' hv;exact⟨(ay zbH).trans this.1,this.2⟩
  ·rw[OU (fun x=>e x.symm)]at hq;have:=h.at' i' q hq k' v' hv;exact⟨(ay zbH).trans this.1,this.2⟩
 len:=by rw[ON];exact h.len
 ne:=h.ne
def orW(ps:List PS)(o:Nat)(l:List Nat):Nat:=l.foldl (fun o k=>o|||bW ps k) o
theorem IW(ps:List PS)(o:Nat)(l:List Nat)(k:Nat):orW ps o (l++[k])=orW ps o l|||bW ps k:=by
 unfold orW;rw[Px];rfl
theorem IV{ps:List PS}(h:Sms ps):∀(l:List Nat) (o:Nat),o<4294967296->orW ps o l<4294967296
 |[],_,ho=>ho
 |k::l,_,ho=>IV h l _ (qM ho (rP h k))
def gG(ps:List PS)(i:Nat)(p:PS):Nat:=orW ps (2 ^ i) (if p.kind == 0 then(els p.parts).take 1 else els p.parts)
def aX(ps:List PS)(i:Nat):List PS:=match ps[i]? with
 |none=>ps
 |some p=>if p.owner == -1 then ps.set i { p with wth:=gG ps i p } else match ps[p.owner.toNat]? with
  |none=>ps.set i { p with wth:=gG ps i p }
  |some q=>(ps.set i { p with wth:=gG ps i p }).set p.owner.toNat { q with inside:=q.inside|||(p.inside|||2 ^ i) }
theorem Gd{s:Nat}{pre:List (In s)}(h:ba pre <+: els s){x:Nat}(he:ba pre=[x]):(els s).take 1=[x]:=by
 obtain⟨t,ht⟩:=h;rw[<- ht,he];rfl
def stay{s:Nat}(p:PS)(pre:List (In s)):Prop:=p.kind=0->pre=[]
def brk{s:Nat}(p:PS)(pre:List (In s)):Prop:=p.kind=0/\∃x,ba pre=[x]
end Y
theorem uu(h:i<32):2 ^ i<4294967296:=OS (QM zac h) zac
theorem yQ(w:World)(pb b cap:Nat)(ps:List Y.PS)(i:Nat)(p:Y.PS)(UZ:ps[i]?=some p)(We:∀j∈Y.els p.parts,i<j/\j<ps.length)(how:p.owner=-1\/∃o:Nat,p.owner=o/\o<i)(hP:Y.bC w pb b cap ps)(WB:Y.Sms ps)(T8:pb<w.heap.size)(hb:b<w.heap.size)
  (hg:1<w.heap.size) (hgb:1≠b) (hT:TabAt 1 Lib.deBruijn32tab w):
  () 66 #[pb,(i:Int)] w fun e w'=>e=.returned (.tuple #[])/\Y.bC w' pb b cap (Y.aX ps i)/\Mo (·=b) w w':=by
 have Vm:i<ps.length:=(Oz.1 UZ).1;have hlen:=hP.len;have Wf:i<32:=zaa;have TU:=hP.ne;obtain⟨t,ht⟩:∃t,2 ^ i=t:=⟨_,rfl⟩;have Vo:t<4294967296:=by rw[<- ht];exact uu Wf
 have U1:∀V:World,() 99 #[(i:Int)] V fun e w'=>e=.returned (.int .u32 t)/\w'=V:=fun V=>by rw[<- ht];exact iR i V Wf
 refine(O3 (n:=6)).1 ?_;refine Pq func66 rfl trivial ?_ rfl;simp only[ntmps66,List.size_toArray,List.length_cons,List.length_nil,Nat.reduceAdd,Nat.reduceSub,Array.replicate_succ,Array.replicate_zero,List.push_toArray,List.append_toArray,List.nil_append,List.cons_append];have c0:=(O4 w 103 pb);have Ut:Below w w (w.alloc (.cells #[pb] 103)):=(Oy _ w).alloc (Ow _) _;have YQ:=(hP.below Ut T8 hb).row;gi_wp2;have c0:=c0.alloc (.cells #[(b,i*10)] 252);have c1:=O4 (w.alloc (.cells #[pb] 103)) 252 (b,i*10);simp only[World.size_alloc]at c1;have T5:=Ut.alloc zad (.cells #[(b,i*10)] 252);have VW:=hP.below T5 T8 hb;obtain⟨W1,Uj⟩:∃W1,(w.alloc (.cells #[pb] 103)).alloc (.cells #[(b,i*10)] 252)=W1:=⟨_,rfl⟩;have T6:W1.heap.size=w.heap.size+1+1:=by rw[<- Uj];simp
 rw[Uj]at c0 c1 T5 VW⊢;clear Uj Ut YQ;have k7f:=(VW.at' i p UZ 7 _ rfl).2;have k7c:=(VW.at' i p UZ 7 _ rfl).1;refine Ty.2 (kz ?_);refine OQ (S:=(fun V=>V.cell? ↑(w.heap.size+1)=some ↑(b,i*10))) zab c1.cell (fun u0=>?_);refine tH 0 (b,i*10) rfl u0 ?_;refine tH 1 (.int .i64 i) rfl u0 ?_;refine zH 2 rfl fun K hK=>?_;go_simp;refine(U1 _).mono ?_;rintro e w9 ⟨rfl,rfl⟩;refine hK.out _ _ u0 (fun u0=>?_);clear hK K;refine tH 3 (b,i*10) rfl u0 ?_;refine tH 4 (b,i*10+7) rfl u0 ?_;refine zH 5 rfl fun K hK=>?_;go_simp;refine hK.out _ _ (by
  have e:∀(a:Addr),a≠⟨b,i*10+7,none⟩->∀v,(W1.setCell (b,i*10+7) v).drew.cell? a=W1.drew.cell? a:=fun a ha v=>ay (fun h=>ha h.symm)
  (try dsimp only at u0);(try dsimp only)
  rw[e _ zak];exact u0) (fun u0=>?_)
 clear hK K;refine OY zab ?_ _;unfold oX;have VO:=VW.set UZ 7 (.int .u32 t) { p with wth:=t } zac (fun j=>by
  match j with
  |0|1|2|3|4|5|6|7|8|9=>rfl
  |j+10=>rfl)
 have VO:Y.bC (W1.setCell (b,i*10+7) (.int .u32 t)).drew pb b cap (ps.set i { p with wth:=t }):=⟨VO.row,VO.at',VO.len,VO.ne⟩;have c0:Boxed (W1.setCell (b,i*10+7) (.int .u32 t)).drew w.heap.size 103 pb:=bs c0 (p:=(b,i*10+7)) zae _;have c1:Boxed (W1.setCell (b,i*10+7) (.int .u32 t)).drew (w.heap.size+1) 252 (b,i*10):=bs c1 (p:=(b,i*10+7)) zae _;have Vh:Mo (·=b) w (W1.setCell (b,i*10+7) (.int .u32 t)).drew:=jB ((az T5).set ⟨b,i*10+7,none⟩ _ rfl);obtain⟨W2,WR⟩:∃W2,(W1.setCell (b,i*10+7) (.int .u32 t)).drew=W2:=⟨_,rfl⟩;have WS:W2.heap.size=w.heap.size+1+1:=by rw[<- WR];simp[World.drew,T6]
 rw[WR]at c0 c1 VO Vh⊢;clear WR k7f k7c;have hpi2:(ps.set i { p with wth:=t })[i]?=some { p with wth:=t }:=OR Vm;have d1:=c1.cell;have d4:=(VO.ps hpi2).c4;gi_wp2_with(refine⟨trivial,?_⟩;gi_at_call 98;refine(O3.2 (dH p.parts _)).mono ?_;rintro e w9 ⟨rfl,Pg⟩;rw[Pg];clear Pg w9);have VP:=(Oy W2 W2).alloc (Ow _) (.cells #[.int .u32 p.parts] 107);have c2:=O4 W2 107 (.int .u32 p.parts);have hP3:=VO.below VP zaa zaa;have c0:=aB c0 VP c0.lt;have c1:=aB c1 VP c1.lt;have Vi:Mo (·=b) w (W2.alloc (.cells #[.int .u32 p.parts] 107)):=Vh.trans (az VP);obtain⟨W3,YR⟩:∃W3,W2.alloc (.cells #[.int .u32 p.parts] 107)=W3:=⟨_,rfl⟩;have hsz3:W3.heap.size=w.heap.size+1+1+1:=by rw[<- YR];simp[WS]
 rw[WS]at c2;rw[YR]at c0 c1 c2 hP3 Vi⊢;clear YR VP VO Vh d1 d4 hpi2 VW T5;have hT3:TabAt 1 Lib.deBruijn32tab W3:=Vi.kpT hg hgb hT;have hs:=(WB i p UZ).hp;have Ug:b<W3.heap.size:=zaa;refine oD zaa (w.heap.size+1+1) p.parts hs rfl zaa zaa c2.cell hT3 rfl
  (fun pre W=>(Y.stay p pre/\Boxed W w 103 pb/\Boxed W (w.heap.size+1) 252 (b,i*10)/\Y.bC W pb b cap (ps.set i { p with wth:=Y.orW ps t (Y.ba pre) }))/\Mo (·=b) W3 W)
  (fun c pre W=>((c=.exit 0/\Y.brk p pre)/\Boxed W w 103 pb/\Boxed W (w.heap.size+1) 252 (b,i*10)/\Y.bC W pb b cap (ps.set i { p with wth:=Y.orW ps t (Y.ba pre) }))/\Mo (·=b) W3 W)
  (IX (fun s A A' h hb=>⟨h.1,aB h.2.1 hb zaa,aB h.2.2.1 hb zaa,h.2.2.2.below hb zaa zaa⟩))
  (fun c=>IX (fun s A A' h hb=>⟨h.1,aB h.2.1 hb zaa,aB h.2.2.1 hb zaa,h.2.2.2.below hb zaa zaa⟩))
  ⟨⟨fun _=>rfl,c0,c1,hP3⟩,Mo.refl _ _⟩
  (fun x a' _=>a'={ tmps:=#[.pointer (some ⟨pb,0,none⟩),.int .i64 i,.pointer (some ⟨w.heap.size,0,none⟩),undef,.pointer (some ⟨w.heap.size+1,0,none⟩),.int .i64 x.1,.pointer (some ⟨pb,0,none⟩),.pointer (some ⟨pb,0,none⟩),.pointer (some ⟨pb,0,none⟩),.slice (some ⟨b,0,none⟩) ps.length cap,.int .i64 i,.pointer (some ⟨b,i*10,none⟩),.pointer (some ⟨b,i*10,none⟩),.int .i64 i,.int .u32 t,.pointer (some ⟨b,i*10,none⟩),.pointer (some ⟨b,i*10+7,none⟩),.pointer (some ⟨b,i*10,none⟩),.pointer (some ⟨b,i*10,none⟩),.pointer (some ⟨b,i*10+4,none⟩),.int .u32 p.parts,.func (.func 148) #[] #[.pointer (some ⟨w.heap.size+1+1,0,none⟩)],.int .i64 x.1,undef,undef,undef,undef,undef,undef,undef,undef,undef,undef,undef,undef,undef,undef,undef,undef,undef,undef,undef,undef,undef,undef,undef,undef,undef,undef,undef,undef,undef,undef,undef,undef,undef,undef,undef,undef,undef,undef,undef,undef,undef,undef,undef,undef,undef,undef],defers:=[] })
  (fun _ _ _ _ _ _ hs _ _=>hs)
  ?assign ?body ?done ?stop
 case assign=>
  exact zeH
 case body=>
  rintro l pre x a' W _ _ ⟨⟨Yp,h0,h1,Uk⟩,hM⟩ rfl _;obtain⟨hx1,VJ⟩:=We x.1 x.2;obtain⟨q,hqx⟩:∃q,ps[x.1]?=some q:=⟨_,Ou VJ⟩;obtain⟨o,ho⟩:∃o,Y.orW ps t (Y.ba pre)=o:=⟨_,rfl⟩;have holt:=Y.IV WB (Y.ba pre) _ Vo;have U6:=Y.IW ps t (Y.ba pre) x.1;have hwa:Y.bW ps x.1=q.wth:=by unfold Y.bW;rw[hqx]
  rw[<- Y.ej,hwa,ho]at U6;rw[ho]at holt Uk;have hpi':(ps.set i { p with wth:=o })[i]?=some { p with wth:=o }:=OR Vm;have hqx':(ps.set i { p with wth:=o })[x.1]?=some q:=by rw[OU zaa];exact hqx
  have h0c:=h0.cell;have h1c:=h1.cell;have TO:=Uk.row;rw[ON]at TO;have hq7:=(Uk.ps hqx').c7;have k7:=Uk.at' i _ hpi' 7 _ rfl;have k7c:=k7.1;have k7f:=k7.2;have ha:=Q2 _ _ holt (WB x.1 q hqx).hw;have hx10:x.1*10+7≠i*10+7:=zaa;have V4:=Uk.set hpi' 7 (.int .u32 ((o|||q.wth:Nat):Int)) { p with wth:=o|||q.wth } zac (fun j=>by
   match j with
   |0|1|2|3|4|5|6|7|8|9=>rfl
   |j+10=>rfl)
  rw[RR,<- U6]at V4;gi_wp2;refine dd (S:=(fun V=>V.cell? w=some ↑pb/\V.cell? ↑(w.heap.size+1)=some ↑(b,i*10)/\V.cell? pb=some (.slice b ps.length cap)/\V.cell? (b,x.1*10+7)=some (.int .u32 q.wth))) zab zab zbm ⟨h0c,h1c,TO,hq7⟩ (fun u0=>?_);refine tH 0 (b,i*10) rfl u0 ?_;refine tH 1 (b,i*10) rfl u0 ?_;refine tH 2 (b,i*10+7) rfl u0 ?_;refine tH 4 pb rfl u0 ?_;refine tH 5 pb rfl u0 ?_;refine tH 6 pb rfl u0 ?_;refine tH 7 (.slice b ps.length cap) rfl u0 ?_;refine tH 8 (.int .i64 x.1) rfl u0 ?_;refine tH 9 (b,x.1*10) rfl u0 ?_;refine tH 10 (b,x.1*10+7) rfl u0 ?_;refine tH 11 (.int .u32 q.wth) rfl u0 ?_;refine zH 3 rfl fun K hK=>?_;go_simp;refine hK.out _ _ u0 (fun u0=>?_);clear hK K;refine tH 12 (.int .u32 ((o|||q.wth:Nat):Int)) rfl u0 ?_;refine tH 13 (b,i*10) rfl u0 ?_;refine tH 14 (b,i*10+7) rfl u0 ?_;refine zH 15 rfl fun K hK=>?_;go_simp;refine hK.out _ _ (by
   have e:∀(a:Addr),a≠⟨b,i*10+7,none⟩->∀v,(W.setCell (b,i*10+7) v).drew.cell? a=W.drew.cell? a:=fun a ha v=>ay (fun h=>ha h.symm)
   (try dsimp only at u0);(try dsimp only)
   rw[e _ zak,e _ zak,e _ zak,e _ zak];exact u0) (fun u0=>?_)
  clear hK K;refine OY zab ?_ _;clear u0;have V4:Y.bC (W.setCell (b,i*10+7) (.int .u32 ((o|||q.wth:Nat):Int))).drew pb b cap (ps.set i { p with wth:=Y.orW ps t (Y.ba (pre++[x])) }):=by
   rw[U6]at V4⊢;exact⟨V4.row,V4.at',V4.len,V4.ne⟩
  have g0:Boxed (W.setCell (b,i*10+7) (.int .u32 ((o|||q.wth:Nat):Int))).drew w.heap.size 103 pb:=bs h0 (p:=(b,i*10+7)) zae _;have g1:Boxed (W.setCell (b,i*10+7) (.int .u32 ((o|||q.wth:Nat):Int))).drew (w.heap.size+1) 252 (b,i*10):=bs h1 (p:=(b,i*10+7)) zae _;have gM:Mo (·=b) W (W.setCell (b,i*10+7) (.int .u32 ((o|||q.wth:Nat):Int))).drew:=jB ((Mo.refl _ W).set ⟨b,i*10+7,none⟩ _ rfl);have gK:KeepsOthers W (W.setCell (b,i*10+7) (.int .u32 ((o|||q.wth:Nat):Int))).drew:=(Ps _ _ _).trans (Rr _);have gT:=gM.kpT (by have:=hM.size;omega) hgb;obtain⟨W5,hW5⟩:∃W5,(W.setCell (b,i*10+7) (.int .u32 ((o|||q.wth:Nat):Int))).drew=W5:=⟨_,rfl⟩;rw[hW5]at V4 g0 g1 gM gK gT⊢;clear hW5 Uk h0 h1 h0c h1c TO hq7 k7 k7c k7f;have hpi5:(ps.set i { p with wth:=Y.orW ps t (Y.ba (pre++[x])) })[i]?=some { p with wth:=Y.orW ps t (Y.ba (pre++[x])) }:=OR Vm;have e1:=g1.cell;have e0:=(V4.ps hpi5).c0;by_cases hk:p.kind=0
  ·have Vt:Y.brk p (pre++[x]):=⟨hk,x.1,by rw[Yp hk];rfl⟩;have UD:(p.kind == 0)=true:=za9;clear hk Yp;gi_wp2;exact⟨gK.from _,⟨⟨rfl,Vt⟩,g0,g1,V4⟩,hM.trans gM⟩
  ·have hst:Y.stay p (pre++[x]):=fun h=>absurd h hk;have UD:(p.kind == 0)=false:=za5;clear hk Yp;gi_wp2;exact⟨gK.from _,gT,⟨hst,g0,g1,V4⟩,hM.trans gM⟩
 case' done=>
  rintro D ys W hD VA ⟨⟨Yp,h0,h1,Uk⟩,hM⟩ hK;have hsw:Y.orW ps t (Y.ba ys)=Y.gG ps i p:=by
   unfold Y.gG;rw[ht];by_cases hk:p.kind=0
   ·rw[OD za9,<- VA,Yp hk];rfl
   ·rw[OB za5,VA]
  rw[hsw]at Uk;clear hsw Yp VA ys
 case' stop=>
  rintro D c pre W hD VX ⟨⟨⟨rfl,⟨hk,x,hx⟩⟩,h0,h1,Uk⟩,hM⟩ hK;have hsw:Y.orW ps t (Y.ba pre)=Y.gG ps i p:=by
   unfold Y.gG;rw[ht];rw[OD za9,Y.Gd VX hx,hx]
  rw[hsw]at Uk;clear hsw VX hk hx x pre
 all_goals
  have hpi4:(ps.set i { p with wth:=Y.gG ps i p })[i]?=some { p with wth:=Y.gG ps i p }:=OR Vm;have h0c:=h0.cell;have h1c:=h1.cell;have TO:=Uk.row;rw[ON]at TO;have k3:W.cell? (b,i*10+3)=some ↑(p.owner:Int):=(Uk.ps hpi4).c3;have k5:W.cell? (b,i*10+5)=some (.int .u32 p.inside):=(Uk.ps hpi4).c5;have Vu:∀V:World,Y.bC V pb b cap (Y.aX ps i)->Mo (·=b) W V->V.heap[D]?=some (.deferred (some []))->Y.bC (V.putObj D (.deferred none)) pb b cap (Y.aX ps i)/\Mo (·=b) w (V.putObj D (.deferred none)):=by
   intro V hV hMV XO;have V5:=QW (w:=W3) (n₀:=W3.heap.size) (Ow _) V D _ (.deferred none) hD XO rfl rfl;exact⟨hV.below V5 zaa zaa,Vi.trans ((hM.trans hMV).bel V5)⟩
  rcases how with ho|⟨ow,ho,howi⟩
  ·have hsr:Y.aX ps i=ps.set i { p with wth:=Y.gG ps i p }:=by unfold Y.aX;rw[UZ];simp only[ho];rfl
   have Uu:=Vu W (by rw[hsr];exact Uk) (Mo.refl _ _) hK;rw[ho]at k3;clear hsr Vu ho;gi_wp2;refine⟨zad,.inl ⟨_,_,rfl,Pj hK,?_⟩⟩;exact⟨_,Pu rfl _ _ _,rfl,Uu⟩
  ·have Xx:ow<ps.length:=zaa;obtain⟨q,hq⟩:∃q,ps[ow]?=some q:=⟨_,Ou Xx⟩;have ZB:(ps.set i { p with wth:=Y.gG ps i p })[ow]?=some q:=by rw[OU zaa];exact hq
   have hsr:Y.aX ps i=(ps.set i { p with wth:=Y.gG ps i p }).set ow { q with inside:=q.inside|||(p.inside|||t) }:=by
    unfold Y.aX;rw[UZ];simp only[ho,Int.toNat_natCast,hq,ht];rw[OB zad]
   have kq:=Uk.at' ow q ZB 5 _ rfl;have kqc:=kq.1;have kqf:=kq.2;rw[ho]at k3;have VC:((ow:Int) != -1)=true:=zad;have o1:=Q2 _ _ (WB i p UZ).hi Vo;have o2:=Q2 _ _ (WB ow q hq).hi (Y.qM (WB i p UZ).hi Vo);have hP8:=Uk.set ZB 5 (.int .u32 ((q.inside|||(p.inside|||t):Nat):Int)) { q with inside:=q.inside|||(p.inside|||t) } zac (fun j=>by
    match j with
    |0|1|2|3|4|5|6|7|8|9=>rfl
    |j+10=>rfl)
   rw[<- hsr]at hP8;have hP8:Y.bC (W.setCell (b,ow*10+5) (.int .u32 ((q.inside|||(p.inside|||t):Nat):Int))).drew pb b cap (Y.aX ps i):=⟨hP8.row,hP8.at',hP8.len,hP8.ne⟩;have hK8:(W.setCell (b,ow*10+5) (.int .u32 ((q.inside|||(p.inside|||t):Nat):Int))).drew.heap[D]?=some (.deferred (some [])):=((Ps W ⟨b,ow*10+5,none⟩ (.int .u32 ((q.inside|||(p.inside|||t):Nat):Int))).trans (Rr _)).same D _ hK rfl;have Uu:=Vu _ hP8 (jB ((Mo.refl _ W).set ⟨b,ow*10+5,none⟩ _ rfl)) hK8;clear hP8 hsr Vu ZB hpi4 Uk kq;gi_wp2;refine Ty.2 (kz ?_);refine OQ (S:=(fun V=>V.cell? w=some ↑pb/\V.cell? ↑(w.heap.size+1)=some ↑(b,i*10)/\V.cell? pb=some (.slice b ps.length cap)/\V.cell? (b,i*10+3)=some ↑(ow:Int)/\V.cell? (b,i*10+5)=some (.int .u32 p.inside))) zab ⟨h0c,h1c,TO,k3,k5⟩ (fun u0=>?_);refine tH 0 pb rfl u0 ?_;refine tH 1 pb rfl u0 ?_;refine tH 2 pb rfl u0 ?_;refine tH 3 (.slice b ps.length cap) rfl u0 ?_;refine tH 4 (b,i*10) rfl u0 ?_;refine tH 5 (b,i*10) rfl u0 ?_;refine tH 6 (b,i*10+3) rfl u0 ?_;refine tH 7 (.int .i64 ow) rfl u0 ?_;refine tH 8 (b,ow*10) rfl u0 ?_;refine tH 9 (b,ow*10+5) rfl u0 ?_;refine tH 11 (b,i*10) rfl u0 ?_;refine tH 12 (b,i*10) rfl u0 ?_;refine tH 13 (b,i*10+5) rfl u0 ?_;refine tH 14 (.int .u32 p.inside) rfl u0 ?_;refine tH 15 (.int .i64 i) rfl u0 ?_;refine yH [10,16] ?_;refine Pb rfl (fun K hK=>?_) (Pb rfl (fun K hK=>?_) P1)
   ·skip
    go_simp;refine hK.out _ _ u0 (fun u0=>?_);clear hK K;refine zH 16 rfl fun K hK=>?_;go_simp;refine(U1 _).mono ?_;rintro e w9 ⟨rfl,rfl⟩;refine hK.out _ _ u0 (fun u0=>?_);clear hK K;refine tH 17 (.int .u32 ((p.inside|||t:Nat):Int)) rfl u0 ?_;exact zc3
   ·skip
    go_simp;refine(U1 _).mono ?_;rintro e w9 ⟨rfl,rfl⟩;refine hK.out _ _ u0 (fun u0=>?_);clear hK K;refine tH 17 (.int .u32 ((p.inside|||t:Nat):Int)) rfl u0 ?_;refine zH 10 rfl fun K hK=>?_;go_simp;refine hK.out _ _ u0 (fun u0=>?_);clear hK K;exact zc3
namespace Y
structure Tn where
 t:Nat
 ev:()
 nm:()
abbrev Nd:Type:=Nat×Tn
def ndP(b:Nat):Value:=.pointer (some ⟨b,0,none⟩)
def aM(l:List Nd):Value:=match l.getLast? with|none=>.pointer none|some z=>ndP z.1
def nxt(l:List Nd)(i:Nat):Value:=match l[i+1]? with|some y=>ndP y.1|none=>match l[0]? with|some y=>ndP y.1|none=>.pointer none
def eN(x:Tn)(v:Value):Array Value:=#[.int .u64 x.t,x.ev,x.nm,v]
def cH(W:World)(l:List Nd):Prop:=∀(i:Nat) (x:Nd),l[i]?=some x->W.heap[x.1]?=some (.cells (eN x.2 (nxt l i)) 215 (0,0))
def eH(w:World)(p:Addr)(l:List Nd)(n:Nat):World:=match l.getLast? with
 |none=>(w.setCell ⟨n,3,none⟩ (ndP n)).setCell p (ndP n)
 |some z=>((w.setCell ⟨n,3,none⟩ (nxt l (l.length-1))).setCell ⟨z.1,3,none⟩ (ndP n)).setCell p (ndP n)
theorem cH.nil(W:World):cH W []:=fun i x h=>by simp at h
theorem cH.mo{l:List Nd}(h:cH W l)(hm:Mo P W W')(hn:∀x∈l,¬P x.1):cH W' l:=fun i x hx=>
 (hm.block x.1 (Ov.1 (h i x hx)).1 (hn x (OG hx))).trans (h i x hx)
theorem jf{l:List Nd}{f:Nd}(h:l[0]?=some f):nxt l (l.length-1)=ndP f.1:=by
 unfold nxt;rw[OV zaa,h]
theorem IS{l:List Nd}{x:Nd}(hi:i+1<l.length):nxt (l++[x]) i=nxt l i:=by
 unfold nxt;rw[Pv hi,Ou hi]
theorem uT{l:List Nd}{x:Nd}(h:l≠[]):nxt (l++[x]) (l.length-1)=ndP x.1:=by
 unfold nxt;have:0<l.length:=Qc.2 h;rw[show l.length-1+1=l.length by omega,PE (Ow _)];simp
theorem yx{l:List Nd}{x f:Nd}(h:l[0]?=some f):nxt (l++[x]) l.length=ndP f.1:=by
 unfold nxt;have:0<l.length:=(Oz.1 h).1;rw[OV zad,Pv this,h]
theorem cH.push{w:World}{p:Addr}{l:List Nd}{n:Nat}{x:Tn}{v:Value}(h:cH w l)(Ua:(l.map (·.1)).Nodup)(hn:w.heap[n]?=some (.cells (eN x v) 215 (0,0)))(Vv:n ∉ l.map (·.1))(hpn:p.block≠n)(Uo:p.block ∉ l.map (·.1)):
  cH (eH w p l n) (l++[(n,x)])/\Mo (fun k=>k=p.block\/k=n\/∃z,l.getLast?=some z/\k=z.1) w (eH w p l n):=by
 unfold eH;cases hz:l.getLast? with
 |none=>
  have hl:l=[]:=QY.1 hz;subst hl;refine⟨fun i y hy=>?_,((Mo.refl _ w).set _ _ (.inr (.inl rfl))).set _ _ (.inl rfl)⟩;have:i=0/\y=(n,x):=by
   rcases i with _|i
   ·simp at hy;exact⟨rfl,hy.symm⟩
   ·simp at hy
  obtain⟨rfl,rfl⟩:=this;exact(O9 _ p _ n (fun e=>hpn e.symm)).trans (OP w n 3 _ _ _ hn)
 |some z=>
  have TU:l≠[]:=fun e=>za0;have hlen:0<l.length:=Qc.2 TU;have VE:l[l.length-1]?=some z:=zaA;obtain⟨f,hf⟩:∃f,l[0]?=some f:=⟨_,Ou hlen⟩;have XP:z.1∈l.map (·.1):=O7.2 ⟨z,OG VE,rfl⟩;have Zn:n≠z.1:=fun e=>Vv (e▸XP);have hzp:p.block≠z.1:=fun e=>Uo (e▸XP);rw[jf hf];refine⟨fun i y hy=>?_,(((Mo.refl _ w).set _ _ (.inr (.inl rfl))).set _ _ (.inr (.inr ⟨z,rfl,rfl⟩))).set _ _ (.inl rfl)⟩;have hn1:(w.setCell (n,3) (ndP f.1)).heap[n]?=some (.cells (eN x (ndP f.1)) 215 (0,0)):=OP w n 3 _ _ _ hn
  rcases QD i l.length with hi|hi
  ·rw[Pv hi]at hy;have hyl:y.1∈l.map (·.1):=O7.2 ⟨y,OG hy,rfl⟩;have hyn:y.1≠n:=fun e=>Vv (e▸hyl);have hyp:y.1≠p.block:=fun e=>Uo (e▸hyl);have h1:(w.setCell (n,3) (ndP f.1)).heap[y.1]?=some (.cells (eN y.2 (nxt l i)) 215 (0,0)):=(O9 _ _ _ y.1 hyn).trans (h i y hy);by_cases e:i=l.length-1
   ·subst e;rw[VE]at hy;cases hy
    rw[uT TU];exact(O9 _ p _ z.1 hyp).trans (OP _ z.1 3 _ _ _ h1)
   ·rw[IS zaa];refine(O9 _ p _ y.1 hyp).trans ((O9 _ _ _ y.1 (fun e2=>e ?_)).trans h1);have e3:y.1=z.1:=e2;have a1:(l.map (·.1))[i]?=some y.1:=by rw[OF,hy];rfl
    have a2:(l.map (·.1))[l.length-1]?=some y.1:=by rw[OF,VE,e3];rfl
    exact(SB zae Ua).1 (a1.trans a2.symm)
  ·have:i=l.length/\y=(n,x):=by
    rw[PE hi]at hy;obtain⟨k,rfl⟩:∃k,i=l.length+k:=⟨i-l.length,zaa⟩
    rcases k with _|k
    ·simp at hy;exact⟨rfl,hy.symm⟩
    ·simp at hy
   obtain⟨rfl,rfl⟩:=this;rw[yx hf];exact(O9 _ p _ n (fun e=>hpn e.symm)).trans ((O9 _ _ _ n Zn).trans hn1)
theorem n6(l:List Nd)(x:Nd):aM (l++[x])=ndP x.1:=by unfold aM;simp
end Y
theorem lV(w:World)(c o:Nat)(l:List Y.Nd)(hc:w.cell? (c,o)=some (Y.aM l)):
  () 166 #[(c,o)] w fun e w'=>e=.returned l.isEmpty/\w'=w:=by
 unfold Y.aM at hc;cases hz:l.getLast? with
 |none=>
  have hl:l=[]:=QY.1 hz;subst hl;simp only[List.getLast?_nil]at hc;exact ze0
 |some z=>
  rw[hz]at hc;unfold Y.ndP at hc;have hl:l.isEmpty=false:=by
   cases l with
   |nil=>simp at hz
   |cons a l=>rfl
  rw[hl];clear hz hl;dsimp only at hc;exact ze0
theorem mY(w:World)(c o:Nat)(l:List Y.Nd)(n:Nat)(x:Y.Tn)(v:Value)(hc:w.cell? (c,o)=some (Y.aM l))(Vp:w.frozen? (c,o)=false)(hR:Y.cH w l)(hn:w.heap[n]?=some (.cells (Y.eN x v) 215 (0,0)))(Vv:n ∉ l.map (·.1))(Yn:c≠n)(Um:c ∉ l.map (·.1)):
  () 167 #[(c,o),n] w fun e w'=>e=.returned (.tuple #[])/\w'=Y.eH w ⟨c,o,none⟩ l n:=by
 have he:=lV w c o l hc;have n3:w.cell? (n,3)=some v:=zaY;have f3:w.frozen? (n,3)=false:=by simp[World.frozen?,hn]
 unfold Y.eH;cases hz:l.getLast? with
 |none=>
  have hl:l=[]:=QY.1 hz;subst hl;unfold Y.aM at hc;simp only[List.getLast?_nil]at hc;have c1:(w.setCell (n,3) n).cell? (c,o)=_:=(ay (w:=w) zcv).trans hc;have f1:(w.setCell (n,3) n).frozen? (c,o)=false:=by rw[QZ];exact Vp
  simp only[List.isEmpty_nil]at he;clear hR hn hz;unfold Y.ndP;exact zdP
 |some z=>
  have TU:l≠[]:=fun e=>za0;have hlen:0<l.length:=Qc.2 TU;have VE:l[l.length-1]?=some z:=zaA;obtain⟨f,hf⟩:∃f,l[0]?=some f:=⟨_,Ou hlen⟩;have XP:z.1∈l.map (·.1):=O7.2 ⟨z,OG VE,rfl⟩;have Zn:n≠z.1:=fun e=>Vv (e▸XP);have hcz:c≠z.1:=fun e=>Um (e▸XP);rw[Y.jf hf];have hez:l.isEmpty=false:=by cases l with|nil=>simp at hz|cons a l=>rfl
  rw[hez]at he;have Yq:=hR _ z VE;rw[Y.jf hf]at Yq;unfold Y.aM at hc;rw[hz]at hc;unfold Y.ndP at hc Yq⊢;obtain⟨zb,zt⟩:=z;obtain⟨fb,ft⟩:=f;dsimp only at hc Yq Zn hcz⊢;have z3:w.cell? (zb,3)=some ↑fb:=by rw[OA w _ _ _ _ _ Yq];rfl
  have fz3:w.frozen? (zb,3)=false:=by simp[World.frozen?,Yq]
  have c1:(w.setCell (n,3) fb).cell? (c,o)=_:=(ay (w:=w) zcv).trans hc;have z31:(w.setCell (n,3) fb).cell? (zb,3)=_:=(ay (w:=w) (by intro h;injection h with h1;exact Zn h1)).trans z3;have fz31:(w.setCell (n,3) fb).frozen? (zb,3)=false:=by rw[QZ];exact fz3
  have c2:((w.setCell (n,3) fb).setCell (zb,3) n).cell? (c,o)=_:=(ay (w:=_) (by intro h;injection h with h1;exact hcz h1.symm)).trans c1;have f2:((w.setCell (n,3) fb).setCell (zb,3) n).frozen? (c,o)=false:=by rw[QZ,QZ];exact Vp
  clear hR hn hz VE hf XP Yq hez hlen TU Vv Um;exact zdP
end
section
open Go.RowKit
def Gx{α:Type}(F:Fence)(n:Nat)(P:Program)(g:Nat)(lb:Array Value)(encs:α->Array Value)(Kp:World->World->Prop)(Rd:List α->World->Prop)(Nx:List α->α->Prop)(S:List α->Prop)(w:World):Prop:=
 ∀(l:Nat) (J:List α->World->Prop) (W:World),Below w w W->w.heap.size+2<=W.heap.size->OwnFrom W.heap.size J->(∀xs V,J xs V->Rd xs V) ->
  (∀xs x V,J xs V->Nx xs x->YieldAt F (n-1) P l (encs x) V fun e V'=>e=.returned true/\J (xs++[x]) V'/\Kp V V')->J [] W ->
  CallsIn F n P g (#[.func (.yield l) #[] #[]]++lb) W fun e V=>(∃v,e=.returned v)/\∃xs,S xs/\J xs V
theorem tI{α:Type}{F:Fence}{P:Program}{ps:Array Tmp}{a:Act}(hro:F.round=none)(h1:1<=n){gf:Nat}{lb:Array Value}
  (hg:a.eval g=.func (.func gf) #[] lb) (hF:F.fn gf) (eg:∀args w,(callFunc gf args).run P w=.ok (.enter gf args) w) {encs:α->Array Value} {Kp:World->World->Prop} {Rd:List α->World->Prop} {Nx:List α->α->Prop} {S:List α->Prop}
  (ZC:Gx F (n-1) P gf lb encs Kp Rd Nx S w)
  (hKt:∀{A B C:World},Kp A B->Kp B C->Kp A C) (hKb:∀(W:World) (o o':Obj),W.heap[w.heap.size+1]?=some o->o.isCells=false->Kp W (W.putObj (w.heap.size+1) o')) (Zl:∀x,(encs x).size=ps.size) (I:List α->World->Prop) (hI:OwnFrom w.heap.size I) (Xm:∀xs V,I xs V->Rd xs V) (h0:I [] w)
  (Ax:α->Act->World->Prop) (hAx:∀x a',OwnFrom w (fun(_:Unit) W=>Ax x a' W))
  (Up:∀(l:Nat) (xs:List α) (x:α) (W:World) (K:Act->World->Prop),I xs W->(∀a' W',KeepsFrom w W W'->Kp W W'->I xs W'->Ax x a' W'->K a' W')->assign.wpIn (F.inRound l) (n-1-1) P (Exit.then K (fun _ _ _=>False)) { tmps:=(ps.zip (encs x)).foldl (fun t (p,v)=>t.setIfInBounds p v) a.tmps,defers:=[] } W)
  (Vc:∀(l:Nat) (xs:List α) (x:α) (a':Act) (W:World),w.heap.size<=l->(∃r,W.heap[l]?=some (.loop r))->Nx xs x->I xs W->Ax x a' W->body.wpIn (F.inRound l) (n-1-1) P (Exit.then (fun _ V=>KeepsFrom w.heap.size W V/\Kp W V/\I (xs++[x]) V) (fun _ _ _=>False)) a' W)
  (Vn:∀(D:Nat) (xs:List α) (W:World),w.heap.size<=D->S xs->I xs W->W.heap[D]?=some (.deferred (some []))->Q .normal { a with defers:={ target:=.collected D,args:=#[] }::a.defers } W):
  (Code.rangeFunc g ps assign body).wpIn F n P Q a w:=by
 refine wpIn_rangeFunc fun fn YP=>?_;rw[hro];obtain⟨lp,WQ⟩:∃lp:LoopState->Loop,lp=fun st=>{ state:=st,pending:=none,fn,tmps:=a.tmps,params:=ps,assign,body,defers:=w.heap.size }:=⟨_,rfl⟩;have Ws:=S3 (P:=P) (w:=w) fn a.tmps ps assign body;obtain⟨V,hV⟩:∃V,(w.alloc (.deferred (some []))).alloc (.loop (lp .ready))=V:=⟨_,rfl⟩;have hb:Below w w V:=hV▸(((Oy _ w).alloc (Ow _) _).alloc zad _);have hj:I [] V/\V.heap[w.heap.size+1]?=some (.loop (lp .ready))/\V.heap[w.heap.size]?=some (.deferred (some [])):=by
  rw[<- hV];exact⟨hI.alloc _ (hI.alloc _ h0),by have:=OH (w.alloc (.deferred (some []))) (.loop (lp .ready));simpa using this,(Pz _ _ _ zad).trans (OH w _)⟩
 refine⟨w.heap.size+1,[{ target:=.collected w.heap.size,args:=#[] }],V,{ target:=.fn (.func gf) lb,args:=#[.func (.yield (w.heap.size+1)) #[] #[]] },V,gf,#[.func (.yield (w.heap.size+1)) #[] #[]]++lb,V,
  zbW,zbI,fun f' hf'=>zbE,zbY,fun _=>h1,?_⟩
 have hvs:V.heap.size=w.heap.size+2:=by rw[<- hV];simp
 refine(ZC (w.heap.size+1) (fun xs W=>I xs W/\W.heap[w.heap.size+1]?=some (.loop (lp .ready))/\W.heap[w.heap.size]?=some (.deferred (some []))) V hb zaa (fun xs A B row h VQ hr=>?_) (fun xs W h=>Xm xs W h.1) ?_ hj).mono ?_
 ·obtain⟨hi,hl,hd⟩:=h;refine⟨hI xs A B row hi VQ (fun r e=>⟨zas,(hr r e).2⟩),(VQ.block _ (Ov.1 hl).1 (fun e=>?_)).trans hl,(VQ.block _ (Ov.1 hd).1 (fun e=>?_)).trans hd⟩
  ·exact zfL
  ·exact zfL
 ·intro xs x W ⟨hi,hl,hd⟩ Yr;have hy:=run_yield (P:=P) (args:=encs x) hl (by rw[WQ];exact Zl x);rw[WQ]at hy;refine⟨fn,_,assign,body,hy,roundIn_of_wpIn YP (Up _ xs x W _ hi fun a' Wa WD hkp hia hax=>⟨_,run_beginRound (WD.same _ _ zaa hl rfl) (by rw[WQ]),?_⟩)⟩;have hl:=WD.same _ _ zaa hl rfl;have hd:=WD.same _ _ (Ow _) hd rfl;have TX:=(Ov.1 hl).1;have k1:=hKb Wa _ (.loop { lp .ready with state:=LoopState.busy }) hl rfl;refine wpIn_mono (Vc _ xs x a' _ zaa ⟨_,Qp TX⟩ Yr (hI.putObj _ hia zaa hl rfl) ((hAx x a').putObj (s:=()) _ hax zaa hl rfl)) ?_;intro e a' W' hp;cases e with
  |normal=>
   obtain⟨hk,k2,Wn⟩:=hp;have Xy:=hk.same _ _ zaa (Qp TX) rfl;have hd':=hk.same _ _ (Ow _) ((Pn zaa).trans hd) rfl;have hr:=run_endRound (P:=P) none Xy;have V6:({ { lp .ready with state:=LoopState.busy } with state:=LoopState.ready,pending:=none }:Loop)=lp .ready:=by rw[WQ]
   refine⟨_,_,hr,rfl,⟨hI.putObj _ Wn zaa Xy rfl,?_,(Pn zaa).trans hd'⟩,hKt hkp (hKt k1 (hKt k2 (hKb _ _ _ Xy rfl)))⟩;rw[Qp (Ov.1 Xy).1];exact congrArg (fun r=>some (Obj.loop r)) V6
  |_=>exact hp.elim
 ·intro e W ⟨⟨v,hv⟩,xs,hS,hi,hl,hd⟩;exact zed
def KpM(B:Nat->TypeId->Prop)(W W':World):Prop:=W.heap.size<=W'.heap.size/\∀(k:Nat) (c:Array Value) (t:TypeId) (f:Nat×Nat),W.heap[k]?=some (.cells c t f)->¬B k t->W'.heap[k]?=some (.cells c t f)
theorem KpM.refl(B:Nat->TypeId->Prop)(W:World):KpM B W W:=⟨Ow _,fun _ _ _ _ h _=>h⟩
theorem KpM.tr(h:KpM B X V)(k:KpM B V Z):KpM B X Z:=⟨Ox h.1 k.1,fun i c t f hi hn=>k.2 i c t f (h.2 i c t f hi hn) hn⟩
theorem KpM.put(W:World)(l:Nat)(o o':Obj)(h:W.heap[l]?=some o)(ho:o.isCells=false):KpM B W (W.putObj l o'):=⟨by simp[World.putObj],fun k c t f hk _=>by
 by_cases e:l=k
 ·subst e;rw[h]at hk;cases hk
  cases ho
 ·exact(Pn zaa).trans hk⟩
theorem KpM.below(h:Below W W W'):KpM B W W':=⟨h.size,fun k _ _ _ hk _=>(h.block k (Ov.1 hk).1).trans hk⟩
theorem KpM.set(W:World)(p:Addr)(v:Value)(hp:∀t,B p.block t):KpM B W (W.setCell p v):=⟨zad,fun k _ t _ hk hn=>(O9 W p v k (fun e=>hn (e▸hp t))).trans hk⟩
theorem KpM.cell(h:KpM B W W')(hc:W.cell? p=some v)(hn:∀t,¬B p.block t):W'.cell? p=some v:=by
 have:∃c t f,W.heap[p.block]?=some (.cells c t f):=by
  unfold World.cell? at hc;split at hc
  ·rename_i c e f hb;exact⟨_,_,_,hb⟩
  ·cases hc
 obtain⟨c,t,f,hb⟩:=this;rw[<- hc];exact OO (w:=W) ((h.2 _ _ _ _ hb (hn _)).trans hb.symm)
theorem ou(h:Below W W W')(hc:W.cell? p=some v):W'.cell? p=some v:=(KpM.below (B:=fun _ _=>False) h).cell hc (fun _ h=>h)
theorem KpM.own{β:Type}:OwnFrom n (fun(_:β) W=>KpM B W0 W):=fun _ X V row h hg hr=>h.tr ⟨hg.size,fun k c t f hk _=>(hg.block k (Ov.1 hk).1 (fun e=>by
 obtain⟨_,o,ho,hc⟩:=hr k e.symm;rw[hk]at ho;cases ho
 cases hc)).trans hk⟩
def KpN(B:Nat->TypeId->Prop)(lo:Nat)(W W':World):Prop:=KpM B W W'/\KeepsFrom lo W W'
theorem KpN.refl(B:Nat->TypeId->Prop)(lo:Nat)(W:World):KpN B lo W W:=⟨KpM.refl _ _,PK _ _⟩
theorem KpN.tr(h:KpN B lo X V)(k:KpN B lo V Z):KpN B lo X Z:=⟨h.1.tr k.1,h.2.trans k.2⟩
theorem KpN.put{l:Nat}(hl:l<lo)(W:World)(o o':Obj)(h:W.heap[l]?=some o)(ho:o.isCells=false):KpN B lo W (W.putObj l o'):=⟨KpM.put W l o o' h ho,KeepsFrom.of_grownBy (Qa W l o') (fun j e=>by cases e;exact hl)⟩
theorem KpN.below(h:Below W W W'):KpN B lo W W':=⟨KpM.below h,⟨h.size,fun k _ _ hk _=>(h.block k (Ov.1 hk).1).trans hk⟩⟩
theorem KpN.set(W:World)(p:Addr)(v:Value)(hp:∀t,B p.block t):KpN B lo W (W.setCell p v):=⟨KpM.set W p v hp,(Ps W p v).from lo⟩
theorem KpN.own{β:Type}(hn:W0.heap.size<=n):OwnFrom n (fun(_:β) W=>KpN B lo W0 W):=(KpM.own).and (Tm hn)
def marks(Ds:List Nat):List Deferred:=Ds.map fun D=>{ target:=.collected D,args:=#[] }
theorem iP{F:Fence}{n:Nat}{P:Program}{fn:Func}{tmps:Array Value}{R:Ending->World->Prop}(Inv:World->Prop):∀(Ds:List Nat) (W:World),Ds.Nodup->(∀D∈Ds,W.heap[D]?=some (.deferred (some [])))->(∀D V,D∈Ds->Inv V->V.heap[D]?=some (.deferred (some []))->Inv (V.putObj D (.deferred none)))->(∀V,Inv V->LeavesIn F n P fn tmps R [] .returning V)->Inv W->LeavesInM F n P fn tmps R (marks Ds) .returning W
 |[],W,_,_,_,hR,hI=>hR W hI
 |D::Ds,W,hn,hD,hp,hR,hI=>by
  have h0:=hD D (O1 ..);obtain⟨hn1,hn2⟩:=R6.1 hn;refine⟨zad,.inl ⟨D,_,rfl,Pj h0,?_⟩⟩;refine iP Inv Ds _ hn2 (fun E hE=>(Pn (r:=D) (k:=E) (fun e=>hn1 (e▸hE))).trans (hD E (OZ _ hE))) (fun E V hE=>hp E V (OZ _ hE)) hR (hp D W (O1 ..) hI h0)
