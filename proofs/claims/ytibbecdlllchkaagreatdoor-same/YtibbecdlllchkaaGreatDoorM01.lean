import Derived.Test.YtibbecdlllchkaaGreatDoorM00
set_option maxRecDepth 100000
set_option maxHeartbeats 8000000
namespace Go.Proofs.YtibbecdlllchkaaGreatDoor
variable {zp:Prop}
theorem zcK(h:zp:=by
 refine tH 18 (.int .u32 ((q.inside|||(p.inside|||t):Nat):Int)) rfl Pm ?_;refine tH 19 (b,ow*10) rfl Pm ?_;refine tH 20 (b,ow*10+5) rfl Pm ?_;refine zH 21 rfl fun K hK=>?_;go_simp;refine hK.out _ _ (by
  have e:∀(a:Addr),a≠⟨b,ow*10+5,none⟩->∀v,(W.setCell (b,ow*10+5) v).drew.cell? a=W.drew.cell? a:=fun a ha v=>aA (fun h=>ha h.symm)
  (try dsimp only at Pm);(try dsimp only)
  rw[e _ zak,e _ zak,e _ zak,e _ zak,e _ zak];exact Pm) (fun Pm=>?_)
 clear hK K;refine PX zab ?_ _;unfold pQ;gi_wp2;refine⟨zad,.inl ⟨_,_,rfl,Qn hK8,?_⟩⟩;exact⟨_,QD rfl _ _ _,rfl,VH⟩):zp:=h
theorem zdt(h:zp:=by
 go_enter func230,ntmps230;go_wp2_with(go_at_call 229;refine he.mono ?_;rintro e w9 ⟨rfl,U1⟩;rw[U1];clear U1 w9);go_end0;exact⟨rfl,rfl⟩):zp:=h
theorem zdR(h:zp:=by
 subst hv;exact⟨none,_,zaU,Wx _ xs _ (Po _) hS (hI.putObj _ hi zaa hl rfl) ((Qs zaa).trans hd)⟩):zp:=h
theorem zeq(h:zp:=by
 intro l pre x W K hI hK;gi_wp2;exact hK _ _ (QP _ _) (fun h=>h) hI rfl):zp:=h
theorem zeN(h:zp:=by
 go_enter func229,ntmps229;go_wp2;go_ret;exact⟨rfl,rfl⟩):zp:=h
theorem zfq(h:zp:=by
 simp[results,Tryz.f153,go_sem,hc5]):zp:=h
theorem zfv(h:zp:=by
 have:=(hr _ e.symm).1;omega):zp:=h
theorem zak(h:zp:=by intro h;injection h with h1 h2;omega):zp:=h
theorem zas(h:zp:=by have:=(hr r e).1;omega):zp:=h
theorem zaA(h:zp:=by rw[<- Q9];exact hz):zp:=h
theorem zaN(h:zp:=by rw[Y.cU];exact hS):zp:=h
theorem zaU(h:zp:=by have:=UA (P:=P) hl (by rw[Yg];simp);rw[Yg]at this;exact this):zp:=h
theorem zaX(h:zp:=by rw[Pt w _ _ _ _ _ hn];rfl):zp:=h
theorem zaZ(h:zp:=by rw[e]at hz;simp at hz):zp:=h
theorem za3(h:zp:=by simpa using hk):zp:=h
theorem za7(h:zp:=by rw[hk];rfl):zp:=h
theorem zbE(h:zp:=by simp[Target.leads]at hf';exact hf'▸hF):zp:=h
theorem zbH(h:zp:=by intro x;injection x with x1 x2;omega):zp:=h
theorem zbI(h:zp:=by simp only[resolve,hg];simp[go_sem]):zp:=h
theorem zbV(h:zp:=by rw[<- hV,Yg];exact XO):zp:=h
theorem zbX(h:zp:=by simp[invoke,go_sem,eg]):zp:=h
theorem zcu(h:zp:=by have:=(Ps.1 hv).1;simpa[PS.cells] using this):zp:=h
theorem zcv(h:zp:=by intro h;injection h with h1;exact ZZ h1.symm):zp:=h
open Tryz
variable {c a w W W' b W0 X V Z:World}{P:Nat->Prop}{Q:Exit->Act->World->Prop}{i n pb cap lo:Nat}{B:Nat->TypeId->Prop}{t:TypeId}{v:Value}{g:Operand}{assign body:Code}{p:Addr}
section
open Go.RowKit Go.Proofs Go.Shelf
attribute [local go_sem] Qu
def pQ(Q:Exit->Act->World->Prop):Exit->Act->World->Prop
 |.normal,a,w=>Q .normal a w
 |.ret,_,_=>False
 |.exit _,_,_=>False
 |.goto _,_,_=>False
 |.panic _,_,_=>False
 |.outgrown,_,_=>False
theorem kX{c:Code}{P:Program}{a:Act}(h:c.wp P (pQ Q) a w):c.wp P Q a w:=fun b k cs=>by
 obtain⟨e,a',w',q,r⟩:=h b k cs;cases e<;>first|exact q.elim|exact⟨_,_,_,q,r⟩
namespace Y
def mH(ps:List PS)(i:Nat):Int:=match ps[i]? with|some p=>p.kind|none=>1
def dom(ps:List PS)(i j:Nat):Nat:=match (els (kc ps i&&&kc ps j)).reverse.find? (fun k=>mH ps k == 0) with|some k=>kg ps k|none=>2 ^ ps.length-1
theorem Lv{f:Nat->Bool}{l q:List Nat}(h:q++[i] <+: l)(hq:∀j∈q,f j=false)(hi:f i=true):l.find? f=some i:=by
 obtain⟨t,rfl⟩:=h;rw[Qd,List.find?_append];have:q.find? f=none:=List.find?_eq_none.2 fun x hx=>by rw[hq x hx];decide
 rw[this];simp[hi]
end Y
theorem FQ(n:Nat)(hn:3<=n)(w:World)(pb b cap:Nat)(ps:List Y.PS)(i j:Nat)(p q:Y.PS)(Wi:ps[i]?=some p)(hqj:ps[j]?=some q)(V9:∀i,i∈Y.els (p.around&&&q.around)->i<ps.length)(hP:Y.cJ w pb b cap ps)(Vo:pb<w.heap.size)(hb:b<w.heap.size):
  CallsIn Fence.wide n prog 159 #[pb,(i:Int),(j:Int)] w fun e w'=>e=.returned (.int .u32 (Y.dom ps i j))/\Below w w w':=by
 have h1:1<=n:=zaa;have WU:i<ps.length:=(Ps.1 Wi).1;have hjl:j<ps.length:=(Ps.1 hqj).1;have hlen:=hP.len;have sp:=(hP.sm i p Wi).ha;have sq:=(hP.sm j q hqj).ha;have ha1:=SW _ _ sp sq;have hs:p.around&&&q.around<4294967296:=Y.lg sp;refine Qv func159 rfl trivial ?_ rfl;simp only[ntmps159,List.size_toArray,List.length_cons,List.length_nil,Nat.reduceAdd,Nat.reduceSub,Array.replicate_succ,Array.replicate_zero,List.push_toArray,List.append_toArray,List.nil_append,List.cons_append];gi_wp2;have c0:=P9 w 103 pb;have c1:=P9 (w.alloc (.cells #[pb] 103)) 167 (.int .u32 0);simp only[World.size_alloc]at c1;have c0:=c0.alloc (.cells #[.int .u32 0] 167);have VG:Below w w ((w.alloc (.cells #[pb] 103)).alloc (.cells #[.int .u32 0] 167)):=((Pq _ w).alloc (Po _) _).alloc zad _;obtain⟨W0,XZ⟩:∃W0,(w.alloc (.cells #[pb] 103)).alloc (.cells #[.int .u32 0] 167)=W0:=⟨_,rfl⟩;have Vf:W0.heap.size=w.heap.size+1+1:=by rw[<- XZ];simp
 rw[XZ]at c0 c1 VG⊢;have Yz:=hP.below VG Vo hb;refine UG.2 (kX ?_);refine PJ (S:=(fun V=>V.cell? w=some ↑pb/\V.cell? pb=some (.slice b ps.length cap)/\V.cell? (b,i*10+6)=some (.int .u32 p.around)/\V.cell? (b,j*10+6)=some (.int .u32 q.around))) zab ⟨c0.cell,Yz.row,(Yz.at' i p Wi).c6,(Yz.at' j q hqj).c6⟩ (fun Pm=>?_);refine tH 0 pb rfl Pm ?_;refine tH 1 pb rfl Pm ?_;refine tH 2 pb rfl Pm ?_;refine tH 3 (.slice b ps.length cap) rfl Pm ?_;refine tH 4 (.int .i64 i) rfl Pm ?_;refine tH 5 (b,i*10) rfl Pm ?_;refine tH 6 (b,i*10+6) rfl Pm ?_;refine tH 7 (.int .u32 p.around) rfl Pm ?_;refine tH 8 pb rfl Pm ?_;refine tH 9 pb rfl Pm ?_;refine tH 10 pb rfl Pm ?_;refine tH 11 (.slice b ps.length cap) rfl Pm ?_;refine tH 12 (.int .i64 j) rfl Pm ?_;refine tH 13 (b,j*10) rfl Pm ?_;refine tH 14 (b,j*10+6) rfl Pm ?_;refine tH 15 (.int .u32 q.around) rfl Pm ?_;refine tH 16 (.int .u32 ((p.around&&&q.around:Nat):Int)) rfl Pm ?_;refine zH 17 rfl fun K hK=>?_;go_simp;refine(o6 _ _).mono ?_;rintro e w9 ⟨rfl,rfl⟩;have Vh:Below w w (W0.drew.alloc (.cells #[.int .u32 ((p.around&&&q.around:Nat):Int)] 167)):=(VG.trans (Pq _ W0).drew).alloc (by simp[Vf];omega) _;have d0:=Boxed.alloc (W:=W0.drew) (show Boxed W0.drew _ _ _ from c0) (.cells #[.int .u32 ((p.around&&&q.around:Nat):Int)] 167);have d1:=Boxed.alloc (W:=W0.drew) (show Boxed W0.drew _ _ _ from c1) (.cells #[.int .u32 ((p.around&&&q.around:Nat):Int)] 167);have d2:=P9 W0.drew 167 (.int .u32 ((p.around&&&q.around:Nat):Int));have hsz':W0.drew.heap.size=w.heap.size+1+1:=Vf;rw[hsz']at d2⊢;have Xp:=hP.below Vh Vo hb;refine hK.out _ _ ⟨d0.cell,Xp.row,(Xp.at' i p Wi).c6,(Xp.at' j q hqj).c6⟩ (fun Pm=>?_);clear hK K Pm;refine PX zab ?_ _;unfold pQ;gi_wp2;obtain⟨W1,Vj⟩:∃W1,(W0.alloc (.cells #[.int .u32 ((p.around&&&q.around:Nat):Int)] 167)).drew=W1:=⟨_,rfl⟩;have hW1':W0.drew.alloc (.cells #[.int .u32 ((p.around&&&q.around:Nat):Int)] 167)=W1:=Vj;have hsz1:W1.heap.size=w.heap.size+1+1+1:=by rw[<- hW1',QL,hsz']
 rw[hW1']at d0 d1 d2 Vh Xp;rw[Vj];clear Vj hW1' XZ VG Yz c0 c1 Vf hsz';have hdm:Y.dom ps i j=match (Y.els (p.around&&&q.around)).reverse.find? (fun k=>Y.mH ps k == 0) with|some k=>Y.kg ps k|none=>2 ^ ps.length-1:=by
  unfold Y.dom Y.kc;rw[Wi,hqj]
 generalize hsd:p.around&&&q.around=s at *;refine Tt rfl h1 (gf:=243) (lb:=#[↑(w.heap.size+1+1)]) rfl trivial (RT func243 zab rfl)
  (mx (n-1) zaa (w.heap.size+1+1) s hs _ zaa d2.cell) (fun _ _=>trivial) (fun _ _ _ _ _ _ _ _=>trivial) (Pq _ _) (fun _=>rfl)
  (fun pre W=>((∀k∈Y.bn pre,(Y.mH ps k == 0)=false)/\Boxed W w 103 pb/\Boxed W (w.heap.size+1) 167 (.int .u32 0))/\Below w w W)
  (fun c pre W=>((c=.ret/\∃(l:List Nat) (k:Nat),Y.bn pre=l++[k]/\(∀k∈l,(Y.mH ps k == 0)=false)/\(Y.mH ps k == 0)=true)/\∃k,(Y.bn pre).getLast?=some k/\Boxed W (w.heap.size+1) 167 (.int .u32 (Y.kg ps k)))/\Below w w W)
  (Qi (Qi (fun _ _ _ _ h _ _=>h) (Qi (QU (QM _ _ _) _) (QU (QM _ _ _) _))) (Ru (Po _) zaa))
  (fun c=>Qi (Qi (fun _ _ _ _ h _ _=>h) (fun s0 A B row h hg hr=>by
   obtain⟨k,hk,hb⟩:=h;exact⟨k,hk,(QU (QM (w.heap.size+1) 167 (fun _:Unit=>.int .u32 (Y.kg ps k))) _) () A B row hb hg hr⟩)) (Ru (Po _) zaa))
  ⟨⟨fun k hk=>(by cases hk),d0,d1⟩,Vh⟩
  (fun x=>{ tmps:=#[.pointer (some ⟨pb,0,none⟩),.int .i64 i,.int .i64 j,.pointer (some ⟨w.heap.size,0,none⟩),undef,undef,.pointer (some ⟨w.heap.size+1,0,none⟩),.int .i64 x.1,.pointer (some ⟨pb,0,none⟩),.pointer (some ⟨pb,0,none⟩),.pointer (some ⟨pb,0,none⟩),.slice (some ⟨b,0,none⟩) ps.length cap,.int .i64 i,.pointer (some ⟨b,i*10,none⟩),.pointer (some ⟨b,i*10+6,none⟩),.int .u32 p.around,.pointer (some ⟨pb,0,none⟩),.pointer (some ⟨pb,0,none⟩),.pointer (some ⟨pb,0,none⟩),.slice (some ⟨b,0,none⟩) ps.length cap,.int .i64 j,.pointer (some ⟨b,j*10,none⟩),.pointer (some ⟨b,j*10+6,none⟩),.int .u32 q.around,.int .u32 s,.func (.func 243) #[] #[.pointer (some ⟨w.heap.size+1+1,0,none⟩)],.int .i64 x.1,undef,undef,undef,undef,undef,undef,undef,undef,undef,undef,undef,undef,undef,undef,undef,undef,undef,undef,undef,undef,undef,undef,undef,undef],defers:=[] }) ?assign ?body ?done ?stop
 case assign=>
  exact zft
 case body=>
  rintro l pre x W ⟨⟨U9,hp,hr⟩,hB⟩ _;have Xo:=V9 x.1 x.2;obtain⟨px,XA⟩:∃p,ps[x.1]?=some p:=⟨_,Pp Xo⟩;have Vz:=hP.below hB Vo hb;have hpc:=hp.cell;have hrc:=hr.cell;have hrf:=hr.frozen;have U5:=Vz.row;have k0:=(Vz.at' x.1 px XA).c0;have k5:=(Vz.at' x.1 px XA).c5;have hkA:Y.mH ps x.1=px.kind:=by unfold Y.mH;rw[XA]
  have hiA:Y.kg ps x.1=px.inside:=by unfold Y.kg;rw[XA]
  have hv:=Y.eu pre x;have Vq:Boxed (W.setCell ↑(w.heap.size+1) (.int .u32 px.inside)) (w.heap.size+1) 167 (.int .u32 (Y.kg ps x.1)):=by
   rw[hiA];exact Um _ hr
  have Xy:∀v,Below w w (W.setCell ↑(w.heap.size+1) v):=fun v=>hB.setCell (p:=↑(w.heap.size+1)) zad _;gi_wp2
  ·rename_i hk;exact⟨Qz _ _ _,⟨⟨rfl,Y.bn pre,x.1,hv,U9,by rw[hkA];exact hk⟩,x.1,by rw[hv];simp,Vq⟩,Xy _⟩
  ·rename_i hk;refine⟨KeepsOthers.refl _,trivial,⟨?_,hp,hr⟩,hB⟩;intro k hm;rw[hv]at hm
   rcases PQ.1 hm with h|h
   ·exact U9 k h
   ·rw[PB.1 h,hkA];exact hk
 case done=>
  rintro D ys W hD WT ⟨⟨U9,hp,hr⟩,hB⟩ hK;rw[Y.cU,WT]at U9;have YA:(Y.els s).reverse.find? (fun k=>Y.mH ps k == 0)=none:=List.find?_eq_none.2 fun k hk=>by rw[U9 k hk];decide
  rw[YA]at hdm;have Vz:=hP.below hB Vo hb;have hpc:=hp.cell;have hrc:=hr.cell;have hrf:=hr.frozen;have U5:=Vz.row;have Wc:=fun w=>jf ps.length w zaa;have hm1:=Q3 ps.length;have hm2:=gZ (i:=ps.length) zaa;generalize 2 ^ ps.length=m at *;have hsub:((m:Int)-1)=((m-1:Nat):Int):=zaa;gi_wp2_with(refine⟨trivial,?_⟩;gi_at_call 101;refine(P8.2 (Wc _)).mono ?_;rintro e w9 ⟨rfl,U1⟩;rw[U1];clear U1 w9);have hK':=(Qz W ⟨w.heap.size+1,0,none⟩ (.int .u32 ((m-1:Nat):Int))).same D _ hK rfl;refine⟨zad,.inl ⟨_,_,rfl,Qn hK',?_⟩⟩;have hc5:=cell_kept (Um (.int .u32 ((m-1:Nat):Int)) hr).cell (Q4 _ D (.deferred none)) (fun r e=>by cases e;exact⟨_,hK',rfl⟩)
  refine⟨.int .u32 ((m-1:Nat):Int),?_,by rw[hdm],(hB.setCell (p:=↑(w.heap.size+1)) zad _).trans (R3 (w:=w) (Po _) _ D _ _ zaa hK' rfl rfl)⟩;simp[results,Tryz.f159,go_sem,hc5]
 case stop=>
  rintro D c pre W hD Xq ⟨⟨⟨rfl,l,k,hl,hq,hk⟩,k',VB,hr⟩,hB⟩ hK;rw[hl]at VB;have hkk:k=k':=by simpa using VB
  subst hkk;rw[<- Y.cU,hl]at Xq;rw[Y.Lv Xq hq hk]at hdm;gi_wp2;refine⟨zad,.inl ⟨_,_,rfl,Qn hK,?_⟩⟩;have hc5:=cell_kept hr.cell (Q4 _ D (.deferred none)) (fun r e=>by cases e;exact⟨_,hK,rfl⟩);refine⟨.int .u32 (Y.kg ps k),?_,rfl,hB.trans (R3 (w:=w) (Po _) W D _ _ zaa hK rfl rfl)⟩;simp[results,Tryz.f159,go_sem,hc5]
theorem CB(w:World)(pb b cap:Nat)(ps:List Y.PS)(i:Nat)(p:Y.PS)(fin act:Nat)(Wi:ps[i]?=some p)(hk:(p.kind != 1)=true)(VH:w.cell? (pb,2)=some (.int .u32 fin))(hf:fin<4294967296)(ha:act<4294967296)(hP:Y.cJ w pb b cap ps)(Vo:pb<w.heap.size)(hb:b<w.heap.size):
  () 153 #[pb,(i:Int),.int .u32 act] w fun e w'=>e=.returned (.bool (p.parts&&&fin&&&act != 0))/\Below w w w':=by
 have WU:i<ps.length:=(Ps.1 Wi).1;have hlen:=hP.len;have sp:=(hP.sm i p Wi).hp;have ha1:=SW _ _ sp hf;have ha2:=SW _ _ (Y.lg (b:=fin) sp) ha;obtain⟨r,hr⟩:∃r,(p.parts&&&fin&&&act != 0)=r:=⟨_,rfl⟩;have hrI:(((p.parts&&&fin&&&act:Nat):Int) != 0)=r:=by
  rw[<- hr];cases h:(p.parts&&&fin&&&act)
  ·rfl
  ·simp;omega
 rw[hr];have c0:=P9 w 103 pb;have c1:=P9 (w.alloc (.cells #[pb] 103)) 167 (.int .u32 act);have c2:=P9 ((w.alloc (.cells #[pb] 103)).alloc (.cells #[.int .u32 act] 167)) 4 (.bool false);simp only[World.size_alloc]at c1 c2;have c0:=(c0.alloc (.cells #[.int .u32 act] 167)).alloc (.cells #[false] 4);have c1:=c1.alloc (.cells #[false] 4);have VG:Below w w (((w.alloc (.cells #[pb] 103)).alloc (.cells #[.int .u32 act] 167)).alloc (.cells #[false] 4)):=(((Pq _ w).alloc (Po _) _).alloc zad _).alloc zaf _;have Yz:=hP.below VG Vo hb;have hF0:=(VG.cell (p:=⟨pb,2,none⟩) Vo).trans VH;have h0:=Yz.row;have k0:=(Yz.at' i p Wi).c0;have k4:=(Yz.at' i p Wi).c4;have q0:=c0.cell;go_enter func153,ntmps153;go_wp2;obtain⟨W0,XZ⟩:∃W0,((w.alloc (.cells #[pb] 103)).alloc (.cells #[.int .u32 act] 167)).alloc (.cells #[false] 4)=W0:=⟨_,rfl⟩;rw[XZ]at c0 c1 c2 VG hF0 h0 k0 k4 q0⊢;have hrc:=c2.cell;have hrf:=c2.frozen;refine kX ?_;refine PJ (S:=(fun V=>V.cell? w=some ↑pb/\V.cell? ⟨pb,2,none⟩=some (.int .u32 fin)/\V.cell? (b,i*10+4)=some (.int .u32 p.parts)/\V.cell? ↑(w.heap.size+1)=some (.int .u32 act))) zab ⟨c0.cell,hF0,k4,c1.cell⟩ (fun Pm=>?_);refine tH 0 (b,i*10) rfl Pm ?_;refine tH 1 (b,i*10) rfl Pm ?_;refine tH 2 (b,i*10+4) rfl Pm ?_;refine tH 3 (.int .u32 p.parts) rfl Pm ?_;refine tH 4 pb rfl Pm ?_;refine tH 5 pb rfl Pm ?_;refine tH 6 (pb,2) rfl Pm ?_;refine tH 7 (.int .u32 fin) rfl Pm ?_;refine tH 8 (.int .u32 ((p.parts&&&fin:Nat):Int)) rfl Pm ?_;refine tH 9 (.int .u32 act) rfl Pm ?_;refine tH 10 (.int .u32 ((p.parts&&&fin&&&act:Nat):Int)) rfl Pm ?_;refine tH 11 (.bool r) rfl Pm ?_;refine zH 12 rfl fun K hK=>?_;go_simp;refine hK.out _ _ (by
  have e:∀(a:Addr),a.block≠w.heap.size+1+1->∀v,(W0.setCell ↑(w.heap.size+1+1) v).drew.cell? a=W0.drew.cell? a:=fun a ha v=>World.cell?_setCell_far W0 _ _ _ (fun h=>ha h.symm)
  (try dsimp only at Pm);(try dsimp only)
  rw[e _ zaf,e _ zaf,e _ zaf,e _ zad];exact Pm) (fun _=>?_)
 clear hK K;refine PX zab ?_ _;unfold pQ;go_wp2;have hc5:((W0.setCell ↑(w.heap.size+1+1) (.bool r)).drew).cell? ↑(w.heap.size+1+1)=some (.bool r):=(Um (.bool r) c2).cell;refine Q5 (v:=.bool r) ?_ rfl ?_
 ·exact zfq
 ·exact⟨rfl,(VG.setCell (p:=↑(w.heap.size+1+1)) zaf _).trans (Pq _ _).drew⟩
attribute [local go_sem] Qu
namespace Y
def atEnd(ps:List PS)(fin act:Nat):Nat->Nat->Bool
 |0,_=>false
 |f+1,i=>match ps[i]? with
  |none=>false
  |some p=>if p.kind != 1 then p.parts&&&fin&&&act != 0 else(els p.parts).all (atEnd ps fin act f)
theorem eJ(h:Below W W W'):KeepsOthers W W':=⟨h.size,fun k _ hk _=>(h.block k (Pn.1 hk).1).trans hk⟩
theorem kE{B:Nat}(h:Boxed W B t v)(hB:Below W W W'):Boxed W' B t v:=(hB.block B h.lt).trans h
end Y
theorem FG(pb b cap:Nat)(ps:List Y.PS)(fin act:Nat)(hf:fin<4294967296)(ha:act<4294967296)(X3:∀(i:Nat) (p:Y.PS),ps[i]?=some p->∀j∈Y.els p.parts,i<j/\j<ps.length):∀(f i:Nat) (p:Y.PS) (w:World),ps.length-i<=f->ps[i]?=some p->w.cell? (pb,2)=some (.int .u32 fin)->Y.cJ w pb b cap ps->pb<w.heap.size->b<w.heap.size->1<w.heap.size->TabAt 1 Lib.deBruijn32tab w ->
  () 153 #[pb,(i:Int),.int .u32 act] w fun e w'=>e=.returned (.bool (Y.atEnd ps fin act f i))/\Below w w w':=by
 intro f
 induction f with
 |zero=>
  intro i p w hfu Wi;have WU:i<ps.length:=(Ps.1 Wi).1;omega
 |succ f ih=>
 intro i p w hfu Wi VH hP Vo hb hg hT;have WU:i<ps.length:=(Ps.1 Wi).1;have hlen:=hP.len;by_cases hk:(p.kind != 1)=true
 ·have:Y.atEnd ps fin act (f+1) i=(p.parts&&&fin&&&act != 0):=by
   rw[Y.atEnd,Wi];simp only[hk,if_true]
  rw[this];exact CB w pb b cap ps i p fin act Wi hk VH hf ha hP Vo hb
 have hk:(p.kind != 1)=false:=za3;have hae:Y.atEnd ps fin act (f+1) i=(Y.els p.parts).all (Y.atEnd ps fin act f):=by
  rw[Y.atEnd,Wi];simp only[hk];rfl
 have hs:=(hP.sm i p Wi).hp;have V9:=X3 i p Wi;refine(P8 (n:=3)).1 ?_;have c0:=P9 w 103 pb;have c1:=P9 (w.alloc (.cells #[pb] 103)) 167 (.int .u32 act);have c2:=P9 ((w.alloc (.cells #[pb] 103)).alloc (.cells #[.int .u32 act] 167)) 4 (.bool false);have c3:=P9 (((w.alloc (.cells #[pb] 103)).alloc (.cells #[.int .u32 act] 167)).alloc (.cells #[false] 4)) 167 (.int .u32 p.parts);simp only[World.size_alloc]at c1 c2 c3;have VG:Below w w (((w.alloc (.cells #[pb] 103)).alloc (.cells #[.int .u32 act] 167)).alloc (.cells #[false] 4)):=(((Pq _ w).alloc (Po _) _).alloc zad _).alloc zaf _;have Yz:=hP.below VG Vo hb;have h0:=Yz.row;have k0:=(Yz.at' i p Wi).c0;have k4:=(Yz.at' i p Wi).c4;have q0:=((c0.alloc (.cells #[.int .u32 act] 167)).alloc (.cells #[false] 4)).cell;refine Qv func153 rfl trivial ?_ rfl;simp only[ntmps153,List.size_toArray,List.length_cons,List.length_nil,Nat.reduceAdd,Nat.reduceSub,Array.replicate_succ,Array.replicate_zero,List.push_toArray,List.append_toArray,List.nil_append,List.cons_append];gi_wp2_with(refine⟨trivial,?_⟩;gi_at_call 100;refine(P8.2 (dI p.parts _)).mono ?_;rintro e w9 ⟨rfl,U1⟩;rw[U1];clear U1 w9);have Vh:=VG.alloc zaf (.cells #[.int .u32 p.parts] 167);refine Tt rfl zaa (gf:=151) (lb:=#[↑(w.heap.size+1+1+1)]) rfl trivial (RT func151 zab rfl)
  (fO 2 zaa (w.heap.size+1+1+1) p.parts hs _ zad zad c3.cell (Y.KpT.of Vh hg hT)) Y.KpT.tr (fun W l o o' hl h hc hw=>Y.KpT.of (R3 (n₀:=w.heap.size) (Pr (Sc _ 4) zad) W l o o' hl h hc hw) hg) (Pq _ _) (fun _=>rfl)
  (fun pre W=>((∀k∈Y.bn pre,Y.atEnd ps fin act f k=true)/\Boxed W w 103 pb/\Boxed W (w.heap.size+1) 167 (.int .u32 act)/\Boxed W (w.heap.size+1+1) 4 (.bool false))/\Below w w W)
  (fun c pre W=>((c=.ret/\∃k∈Y.bn pre,Y.atEnd ps fin act f k=false)/\Boxed W (w.heap.size+1+1) 4 (.bool false))/\Below w w W)
  (Qi (Qi (fun _ _ _ _ h _ _=>h) (Qi (QU (QM _ _ _) _) (Qi (QU (QM _ _ _) _) (QU (QM _ _ _) _)))) (Ru (Po _) zaf))
  (fun c=>Qi (Qi (fun _ _ _ _ h _ _=>h) (QU (QM _ _ _) _)) (Ru (Po _) zaf))
  ⟨⟨fun k hk=>(by cases hk),((c0.alloc _).alloc _).alloc _,(c1.alloc _).alloc _,c2.alloc _⟩,Vh⟩
  (fun x=>{ tmps:=#[.pointer (some ⟨pb,0,none⟩),.int .i64 i,.int .u32 act,.pointer (some ⟨w.heap.size,0,none⟩),undef,.pointer (some ⟨w.heap.size+1,0,none⟩),.pointer (some ⟨w.heap.size+1+1,0,none⟩),.pointer (some ⟨b,i*10,none⟩),.int .i64 x.1,.pointer (some ⟨pb,0,none⟩),.pointer (some ⟨pb,0,none⟩),.pointer (some ⟨pb,0,none⟩),.slice (some ⟨b,0,none⟩) ps.length cap,.int .i64 i,.pointer (some ⟨b,i*10,none⟩),.pointer (some ⟨b,i*10,none⟩),.pointer (some ⟨b,i*10,none⟩),.pointer (some ⟨b,i*10,none⟩),.int .i64 p.kind,.bool false,undef,undef,undef,undef,undef,undef,undef,undef,undef,undef,undef,undef,.pointer (some ⟨b,i*10,none⟩),.pointer (some ⟨b,i*10,none⟩),.pointer (some ⟨b,i*10+4,none⟩),.int .u32 p.parts,.func (.func 151) #[] #[.pointer (some ⟨w.heap.size+1+1+1,0,none⟩)],.int .i64 x.1,undef,undef,undef,undef,undef],defers:=[] }) ?assign ?body ?done ?stop
 case assign=>
  exact zft
 case body=>
  rintro l pre x W ⟨⟨WB,hp,Y8,hr⟩,hB⟩ _;obtain⟨hx1,Y9⟩:=V9 x.1 x.2;obtain⟨px,XA⟩:∃p,ps[x.1]?=some p:=⟨_,Pp Y9⟩;have Vf:=hB.size;have hih:=ih x.1 px W zaa XA ((hB.cell (p:=⟨pb,2,none⟩) Vo).trans VH) (hP.below hB Vo hb) zaa zaa zaa (Y.KpT.of hB hg hT);have hpc:=hp.cell;have hacc:=Y8.cell;have hv:=Y.eu pre x;obtain⟨r,hr0⟩:∃r,Y.atEnd ps fin act f x.1=r:=⟨_,rfl⟩;rw[hr0]at hih;have hih:() 153 #[pb,(x.1:Int),.int .u32 act] W fun e w'=>e=.returned r/\Below W W w'/\w'.cell? ↑(w.heap.size+1+1)=some (.bool false)/\w'.frozen? ↑(w.heap.size+1+1)=false:=hih.mono fun e w' h=>⟨h.1,h.2,(Y.kE hr h.2).cell,(Y.kE hr h.2).frozen⟩;cases r
  all_goals gi_wp2_with(refine⟨trivial,?_⟩;gi_at_call 153;refine(aI hih).mono ?_;clear hih;rintro e w9 ⟨rfl,VQ,h9c,h9f⟩)
  ·rename_i w9 VQ h9c h9f;exact⟨(Y.eJ VQ).trans (Qz _ _ _),⟨⟨rfl,x.1,by rw[hv];simp,hr0⟩,Um _ (Y.kE hr VQ)⟩,(hB.trans (VQ.mono Vf)).setCell (p:=↑(w.heap.size+1+1)) zaf _⟩
  ·rename_i w9 VQ h9c h9f;refine⟨Y.eJ VQ,Y.KpT.of VQ zaa,⟨?_,Y.kE hp VQ,Y.kE Y8 VQ,Y.kE hr VQ⟩,hB.trans (VQ.mono Vf)⟩;intro k hm;rw[hv]at hm
   rcases PQ.1 hm with h|h
   ·exact WB k h
   ·rw[PB.1 h];exact hr0
 case done=>
  rintro D ys W hD WT ⟨⟨WB,hp,Y8,hr⟩,hB⟩ hK;rw[Y.cU,WT]at WB;have hrc:=hr.cell;have hrf:=hr.frozen;gi_wp2;have hK':=(Qz W ⟨w.heap.size+1+1,0,none⟩ (.bool true)).same D _ hK rfl;refine⟨zad,.inl ⟨_,_,rfl,Qn hK',?_⟩⟩;have hc5:=cell_kept (Um (.bool true) hr).cell (Q4 _ D (.deferred none)) (fun r e=>by cases e;exact⟨_,hK',rfl⟩);refine⟨.bool true,?_,by rw[hae,RG.2 WB],(hB.setCell (p:=↑(w.heap.size+1+1)) zaf _).trans (R3 (w:=w) (Po _) _ D _ _ zbq hK' rfl rfl)⟩;exact zfq
 case stop=>
  rintro D c pre W hD Xq ⟨⟨⟨rfl,k,YB,Wy⟩,hr⟩,hB⟩ hK;rw[<- Y.cU]at Xq;have hfa:(Y.els p.parts).all (Y.atEnd ps fin act f)=false:=TE.2 ⟨k,Xq.subset YB,by rw[Wy];decide⟩;gi_wp2;refine⟨zad,.inl ⟨_,_,rfl,Qn hK,?_⟩⟩;have hc5:=cell_kept hr.cell (Q4 _ D (.deferred none)) (fun r e=>by cases e;exact⟨_,hK,rfl⟩);refine⟨.bool false,?_,by rw[hae,hfa],hB.trans (R3 (w:=w) (Po _) W D _ _ zbq hK rfl rfl)⟩;exact zfq
attribute [local go_sem] Qu
theorem pr(h1:2<=n){ps:Array Tmp}{a:Act}(Bs s:Nat)(hs:s<4294967296)
  (he:a.eval g=.func (.func 151) #[] #[Bs]) (Xy:Bs<w.heap.size) (hg:1<w.heap.size) (hc:w.cell? Bs=some (.int .u32 s)) (hT:TabAt 1 Lib.deBruijn32tab w) (hps:1=ps.size)
  (I:List (Y.In s)->World->Prop) (Ix:Code->List (Y.In s)->World->Prop) (hI:OwnFrom w.heap.size I) (hIx:∀c,OwnFrom w (Ix c)) (h0:I [] w) (Ax:Y.In s->Act->World->Prop) (hAx:∀x a',OwnFrom w (fun(_:Unit) W=>Ax x a' W))
  (VC:∀(l:Nat) (pre:List (Y.In s)) (x:Y.In s) (W:World) (K:Act->World->Prop),I pre W->(∀a' W',KeepsFrom w W W'->Y.KpT W W'->I pre W'->Ax x a' W'->K a' W') ->
   assign.wpIn (Fence.wide.inRound l) (n-1-1) prog (Exit.then K (fun _ _ _=>False)) { tmps:=(ps.zip #[Value.int .i64 (x.1:Int)]).foldl (fun t (p,v)=>t.setIfInBounds p v) a.tmps,defers:=[] } W)
  (Wp:∀(l:Nat) (pre:List (Y.In s)) (x:Y.In s) (a':Act) (W:World),w.heap.size<=l->(∃r,W.heap[l]?=some (.loop r))->I pre W->Ax x a' W->pre.length<32->body.wpIn (Fence.wide.inRound l) (n-1-1) prog (ownPostG w Y.KpT I Ix (pre++[x]) W) a' W)
  (Wx:∀(D:Nat) (xs:List (Y.In s)) (W:World),w.heap.size<=D->Y.bn xs=Y.els s->I xs W->W.heap[D]?=some (.deferred (some []))->Q .normal { a with defers:={ target:=.collected D,args:=#[] }::a.defers } W)
  (WV:∀(D:Nat) (c:Code) (pre:List (Y.In s)) (W:World),w.heap.size<=D->Y.bn pre <+: Y.els s->Ix c pre W->W.heap[D]?=some (.deferred (some []))->c.wpIn Fence.wide n prog Q { a with defers:={ target:=.collected D,args:=#[] }::a.defers } W):
  (Code.rangeFunc g ps assign body).wpIn Fence.wide n prog Q a w:=
 SN rfl zaa (gf:=151) he trivial (RT func151 zab rfl)
  (fO (n-1) zaa Bs s hs w Xy hg hc hT) Y.KpT.tr (fun W l o o' hl h hc hw=>Y.KpT.of (R3 (n₀:=w.heap.size) (Po _) W l o o' hl h hc hw) hg) (Pq _ _) (fun _=>hps)
  I Ix hI hIx h0 Ax hAx VC Wp (fun D xs W hD hS=>Wx D xs W hD zaN) (fun D c pre W hD hS=>WV D c pre W hD zaN)
theorem NM(h1:2<=n){ps:Array Tmp}{a:Act}{l₀:Nat}{r₀:Loop}(hl₀:w.heap[l₀]?=some (.loop r₀))(Bs s:Nat)(hs:s<4294967296)
  (he:a.eval g=.func (.func 151) #[] #[Bs]) (Xy:Bs<w.heap.size) (hg:1<w.heap.size) (hc:w.cell? Bs=some (.int .u32 s)) (hT:TabAt 1 Lib.deBruijn32tab w) (hps:1=ps.size)
  (I:List (Y.In s)->World->Prop) (Ix:Code->List (Y.In s)->World->Prop) (hI:OwnFrom w.heap.size I) (hIx:∀c,OwnFrom w (Ix c)) (h0:I [] w) (Ax:Y.In s->Act->World->Prop) (hAx:∀x a',OwnFrom w (fun(_:Unit) W=>Ax x a' W))
  (VC:∀(l:Nat) (pre:List (Y.In s)) (x:Y.In s) (W:World) (K:Act->World->Prop),I pre W->(∀a' W',KeepsFrom w W W'->Y.KpT W W'->I pre W'->Ax x a' W'->K a' W') ->
   assign.wpIn (Fence.wide.inRound l) (n-1-1) prog (Exit.then K (fun _ _ _=>False)) { tmps:=(ps.zip #[Value.int .i64 (x.1:Int)]).foldl (fun t (p,v)=>t.setIfInBounds p v) a.tmps,defers:=[] } W)
  (Wp:∀(l:Nat) (pre:List (Y.In s)) (x:Y.In s) (a':Act) (W:World),w.heap.size<=l->(∃r,W.heap[l]?=some (.loop r))->I pre W->Ax x a' W->pre.length<32->body.wpIn (Fence.wide.inRound l) (n-1-1) prog (ownPostG w Y.KpT I Ix (pre++[x]) W) a' W)
  (Wx:∀(xs:List (Y.In s)) (W:World),Y.bn xs=Y.els s->I xs W->Q .normal a W)
  (WV:∀(c:Code) (pre:List (Y.In s)) (W:World),Y.bn pre <+: Y.els s->Ix c pre W->c.wpIn (Fence.wide.inRound l₀) n prog Q a W):
  (Code.rangeFunc g ps assign body).wpIn (Fence.wide.inRound l₀) n prog Q a w:=
 wpIn_rangeFunc_ownN (l₀:=l₀) (r₀:=r₀) rfl hl₀ zaa (gf:=151) he trivial (RT func151 zab rfl)
  ((fO (n-1) zaa Bs s hs w Xy hg hc hT).inRound l₀) Y.KpT.tr (fun W l o o' hl h hc hw=>Y.KpT.of (R3 (n₀:=w.heap.size) (Po _) W l o o' hl h hc hw) hg) (Pq _ _) (fun _=>hps)
  I Ix hI hIx h0 Ax hAx VC Wp (fun xs W hS=>Wx xs W zaN) (fun c pre W hS=>WV c pre W zaN)
namespace Y
def me(ps:List PS)(o:Nat)(l:List Nat):Nat:=l.foldl (fun o k=>if o.testBit k then o else o|||gn ps k) o
def o9(ps:List PS)(o:Nat)(l:List Nat):Nat:=l.foldl (fun o i=>match ps[i]? with|some p=>if p.kind != 1 then o else me ps o (els p.parts)|none=>o) o
def complete(ps:List PS)(s:Nat):Nat:=o9 ps s (els s)
theorem FL(ps:List PS)(o:Nat)(l:List Nat)(k:Nat):me ps o (l++[k])=if(me ps o l).testBit k then me ps o l else me ps o l|||gn ps k:=by
 unfold me;rw[QQ];rfl
theorem FK(ps:List PS)(o:Nat)(l:List Nat)(i:Nat){p:PS}(hp:ps[i]?=some p):o9 ps o (l++[i])=if p.kind != 1 then o9 ps o l else me ps (o9 ps o l) (els p.parts):=by
 unfold o9;rw[QQ];simp only[List.foldl_cons,List.foldl_nil,hp]
def Sms(ps:List PS):Prop:=∀(i:Nat) (p:PS),ps[i]?=some p->p.Sm
theorem rQ{ps:List PS}(h:Sms ps):∀(l:List Nat) (o:Nat),o<4294967296->me ps o l<4294967296
 |[],_,ho=>ho
 |k::l,o,ho=>by
  show me ps (if o.testBit k then o else o|||gn ps k) l<_;split
  ·exact rQ h l _ ho
  ·exact rQ h l _ (rh ho (r9 h k))
theorem EJ{ps:List PS}(h:Sms ps):∀(l:List Nat) (o:Nat),o<4294967296->o9 ps o l<4294967296
 |[],_,ho=>ho
 |i::l,o,ho=>by
  show o9 ps (match ps[i]? with|some p=>if p.kind != 1 then o else me ps o (els p.parts)|none=>o) l<_;refine EJ h l _ ?_;split
  ·split
   ·exact ho
   ·exact rQ h _ _ ho
  ·exact ho
end Y
theorem pf(w:World)(pb b cap:Nat)(ps:List Y.PS)(s:Nat)(hs:s<4294967296)(V9:∀i,i∈Y.els s->i<ps.length)(X3:∀(i:Nat) (p:Y.PS),ps[i]?=some p->∀j∈Y.els p.parts,j<ps.length)(hP:Y.cJ w pb b cap ps)(Vo:pb<w.heap.size)(hb:b<w.heap.size)
  (hg:1<w.heap.size) (hT:TabAt 1 Lib.deBruijn32tab w):
  () 161 #[pb,.int .u32 s] w fun e w'=>e=.returned (.int .u32 (Y.complete ps s))/\Below w w w':=by
 refine(P8 (n:=6)).1 ?_;have hlen:=hP.len;refine Qv func161 rfl trivial ?_ rfl;simp only[ntmps161,List.size_toArray,List.length_cons,List.length_nil,Nat.reduceAdd,Nat.reduceSub,Array.replicate_succ,Array.replicate_zero,List.push_toArray,List.append_toArray,List.nil_append,List.cons_append];gi_wp2_with(refine⟨trivial,?_⟩;gi_at_call 100;refine(P8.2 (dI s _)).mono ?_;rintro e w9 ⟨rfl,U1⟩;rw[U1];clear U1 w9);have c0:=((P9 w 103 pb).alloc (.cells #[.int .u32 s] 167)).alloc (.cells #[.int .u32 s] 167);have c1:=(P9 (w.alloc (.cells #[pb] 103)) 167 (.int .u32 s)).alloc (.cells #[.int .u32 s] 167);have c2:=P9 ((w.alloc (.cells #[pb] 103)).alloc (.cells #[.int .u32 s] 167)) 167 (.int .u32 s);simp only[World.size_alloc]at c1 c2;have VG:Below w w (((w.alloc (.cells #[pb] 103)).alloc (.cells #[.int .u32 s] 167)).alloc (.cells #[.int .u32 s] 167)):=(((Pq _ w).alloc (Po _) _).alloc zad _).alloc zaf _;have Vf:(((w.alloc (.cells #[pb] 103)).alloc (.cells #[.int .u32 s] 167)).alloc (.cells #[.int .u32 s] 167)).heap.size=w.heap.size+3:=zad;obtain⟨W0,XZ⟩:∃W0,((w.alloc (.cells #[pb] 103)).alloc (.cells #[.int .u32 s] 167)).alloc (.cells #[.int .u32 s] 167)=W0:=⟨_,rfl⟩;rw[XZ]at c0 c1 c2 VG Vf⊢;clear XZ;refine pr zaa (w.heap.size+1+1) s hs rfl zaa zaa c2.cell (Y.KpT.of VG hg hT) rfl
  (fun pre W=>(Boxed W w 103 pb/\Boxed W (w.heap.size+1) 167 (.int .u32 (Y.o9 ps s (Y.bn pre))))/\Below w w W)
  (fun _ _ _=>False)
  (Qi (Qi (QU (QM _ _ _) _) (QU (QM _ _ _) _)) (Ru (Po _) zaa))
  (fun _ _ _ _ _ hs _ _=>hs)
  ⟨⟨c0,c1⟩,VG⟩
  (fun x a' _=>a'={ tmps:=#[.pointer (some ⟨pb,0,none⟩),.int .u32 s,.pointer (some ⟨w.heap.size,0,none⟩),.pointer (some ⟨w.heap.size+1,0,none⟩),.int .u32 0,.int .i64 x.1,undef,.int .u32 s,.func (.func 151) #[] #[.pointer (some ⟨w.heap.size+1+1,0,none⟩)],.int .i64 x.1,undef,undef,undef,undef,undef,undef,undef,undef,undef,undef,undef,undef,undef,undef,undef,undef,undef,undef,undef,undef,undef,undef,undef,undef,undef,undef,undef,undef,undef,undef,undef,undef,undef,undef],defers:=[] })
  (fun _ _ _ _ _ _ hs _ _=>hs)
  ?assign ?body ?done ?stop
 case assign=>
  exact zeq
 case body=>
  rintro l pre x a' W hl ⟨r,hr⟩ ⟨⟨hp,hc⟩,hB⟩ rfl _;have Xo:=V9 x.1 x.2;obtain⟨p,XA⟩:∃p,ps[x.1]?=some p:=⟨_,Pp Xo⟩;have Yx:=hP.below hB Vo hb;have Wh:=Y.FK ps s (Y.bn pre) x.1 XA;rw[<- Y.eu]at Wh;have h0:=Yx.row;have k0:=(Yx.at' x.1 p XA).c0;have k4:=(Yx.at' x.1 p XA).c4;have hpc:=hp.cell;by_cases hk:(p.kind != 1)=true
  ·rw[PC hk]at Wh;gi_wp2;exact⟨QP _ _,(fun h=>h),⟨hp,by rw[Wh];exact hc⟩,hB⟩
  have hk:(p.kind != 1)=false:=za3;rw[Pu (by rw[hk];decide)]at Wh;have h1':2<=6-1-1:=zaa;gi_wp2_with(refine⟨trivial,?_⟩;gi_at_call 100;refine(aI (dI p.parts _)).mono ?_;rintro e w9 ⟨rfl,U1⟩;rw[U1];clear U1 w9);have hsW:=hB.size;have bN:=P9 W 167 (.int .u32 p.parts);have hr':(W.alloc (.cells #[.int .u32 p.parts] 167)).heap[l]?=some (.loop r):=(QS W _ l (Pn.1 hr).1).trans hr;have VK:=hB.alloc hsW (.cells #[.int .u32 p.parts] 167);refine NM h1' (l₀:=l) (r₀:=r) hr' W p.parts (hP.sm x.1 p XA).hp rfl zad zaf bN.cell (Y.KpT.of VK hg hT) rfl
   (fun pre' W'=>(Boxed W' w 103 pb/\Boxed W' (w.heap.size+1) 167 (.int .u32 (Y.me ps (Y.o9 ps s (Y.bn pre)) (Y.bn pre'))))/\(Below w W W'/\KeepsFrom W0.heap.size W W'))
   (fun _ _ _=>False)
   (Qi (Qi (QU (QM _ _ _) _) (QU (QM _ _ _) _)) (Qi (Ru hsW zaf) (Uy zad)))
   (fun _ _ _ _ _ hs _ _=>hs)
   ⟨⟨hp.alloc _,hc.alloc _⟩,(Pq _ W).alloc hsW _,(Uz _ _).from _⟩
   (fun y a'' _=>a''={ tmps:=#[.pointer (some ⟨pb,0,none⟩),.int .u32 s,.pointer (some ⟨w.heap.size,0,none⟩),.pointer (some ⟨w.heap.size+1,0,none⟩),.int .u32 0,.int .i64 x.1,.int .i64 y.1,.int .u32 s,.func (.func 151) #[] #[.pointer (some ⟨w.heap.size+1+1,0,none⟩)],.int .i64 x.1,.pointer (some ⟨pb,0,none⟩),.pointer (some ⟨pb,0,none⟩),.pointer (some ⟨pb,0,none⟩),.slice (some ⟨b,0,none⟩) ps.length cap,.int .i64 x.1,.pointer (some ⟨b,x.1*10,none⟩),.pointer (some ⟨b,x.1*10,none⟩),.int .i64 p.kind,.bool false,.pointer (some ⟨pb,0,none⟩),.pointer (some ⟨pb,0,none⟩),.pointer (some ⟨pb,0,none⟩),.slice (some ⟨b,0,none⟩) ps.length cap,.int .i64 x.1,.pointer (some ⟨b,x.1*10,none⟩),.pointer (some ⟨b,x.1*10+4,none⟩),.int .u32 p.parts,.func (.func 151) #[] #[.pointer (some ⟨W.heap.size,0,none⟩)],.int .i64 y.1,undef,undef,undef,undef,undef,undef,undef,undef,undef,undef,undef,undef,undef,undef,undef],defers:=[] })
   (fun _ _ _ _ _ _ hs _ _=>hs)
   ?assign2 ?body2 ?done2 ?stop2
  case assign2=>
   rintro l2 pre' y W' K hi hK;gi_wp2;exact hK _ _ (QP _ _) (fun h=>h) hi rfl
  case body2=>
   rintro l2 pre' y a'' W' _ _ ⟨⟨hp2,Zi⟩,XP,hKF⟩ rfl _;have hyl:=X3 x.1 p XA y.1 y.2;obtain⟨q,hqy⟩:∃q,ps[y.1]?=some q:=⟨_,Pp hyl⟩;have Xh:=Yx.below XP Vo hb;have Zj:=Y.FL ps (Y.o9 ps s (Y.bn pre)) (Y.bn pre') y.1;rw[<- Y.eu]at Zj;have Vd:=Y.rQ hP.sm (Y.bn pre') _ (Y.EJ hP.sm (Y.bn pre) s hs);have cS:=Zi.cell;have fS:=Zi.frozen;have cP:=hp2.cell;have r0:=Xh.row;have r7:=(Xh.at' y.1 q hqy).c7;have hw7:=(hP.sm y.1 q hqy).hw;have hwa:Y.gn ps y.1=q.wth:=by unfold Y.gn;rw[hqy]
   obtain⟨o,ho⟩:∃o,Y.me ps (Y.o9 ps s (Y.bn pre)) (Y.bn pre')=o:=⟨_,rfl⟩;rw[ho]at Zj Vd cS Zi;have h32:y.1<32:=zaa;obtain⟨t,ht⟩:∃t,o.testBit y.1=t:=⟨_,rfl⟩;have hha:=yy o y.1 W' h32 Vd;rw[ht]at hha Zj;have ha:=Se _ _ Vd hw7;have VX:∀V:World,Boxed V (w.heap.size+1) 167 (.int .u32 (o:Nat))->Boxed (V.setCell ↑(w.heap.size+1) (.int .u32 ((o|||q.wth:Nat):Int))) (w.heap.size+1) 167 (.int .u32 ((o|||q.wth:Nat):Int)):=fun V h=>h.set _;cases t
   all_goals gi_wp2_with(refine⟨trivial,?_⟩;gi_at_call 204;refine(aI hha).mono ?_;rintro e w9 ⟨rfl,U1⟩;rw[U1];clear U1 w9)
   ·gi_region
    all_goals gi_wp2
    all_goals
     rw[Pu zac,hwa]at Zj;exact⟨((Su W').trans (Qz _ _ _)).from _,Y.KpT.of (((Pq w W').drew).setCell (p:=↑(w.heap.size+1)) zad _) hg,⟨Boxed.kept (W:=W'.drew) (show Boxed W'.drew _ _ _ from hp2) (grownBy_setCell' _ _ _) zad,by rw[Zj];exact VX W'.drew Zi⟩,(XP.trans ((Pq _ W').drew)).setCell (p:=↑(w.heap.size+1)) zad _,hKF.trans (((Su W').trans (Qz _ _ _)).from _)⟩
   ·rw[PC (by trivial)]at Zj;exact⟨QP _ _,(fun h=>h),⟨hp2,by rw[Zj];exact Zi⟩,XP,hKF⟩
  case done2=>
   rintro ys W' WT ⟨⟨hp2,Zi⟩,XP,hKF⟩;rw[WT]at Zi;gi_wp2;exact⟨hKF,Y.KpT.of XP hg,⟨hp2,by rw[Wh];exact Zi⟩,hB.trans XP⟩
  case stop2=>
   rintro c pre' W' _ h;exact h.elim
 case done=>
  rintro D ys W hD WT ⟨⟨_,hc⟩,hB⟩ hK;have hc:=hc.cell;rw[WT]at hc;gi_wp2;refine⟨zad,.inl ⟨_,_,rfl,Qn hK,?_⟩⟩;exact⟨_,TX rfl _ _ _,rfl,hB.trans (R3 (w:=w) (Po _) W D _ _ zaa hK rfl rfl)⟩
 case stop=>
  exact zfm
end
section
open Go.RowKit
structure Mo(P:Nat->Prop)(w w':World):Prop where
 os:w'.os=w.os
 tape:w'.tape=w.tape
 output:w'.output=w.output
 size:w.heap.size<=w'.heap.size
 block:∀k,k<w.heap.size->¬P k->w'.heap[k]?=w.heap[k]?
theorem Mo.refl(P:Nat->Prop)(w:World):Mo P w w:=⟨rfl,rfl,rfl,Po _,fun _ _ _=>rfl⟩
theorem Mo.trans(h:Mo P a b)(k:Mo P b c):Mo P a c:=
 ⟨k.os.trans h.os,k.tape.trans h.tape,k.output.trans h.output,Pr h.size k.size,fun i hi hn=>by rw[k.block i (PY hi h.size) hn,h.block i hi hn]⟩
theorem Mo.trans'{Q:Nat->Prop}(h:Mo P a b)(k:Mo Q b c)(hQ:∀i,i<a.heap.size->Q i->P i):Mo P a c:=
 ⟨k.os.trans h.os,k.tape.trans h.tape,k.output.trans h.output,Pr h.size k.size,fun i hi hn=>by rw[k.block i (PY hi h.size) (fun q=>hn (hQ i hi q)),h.block i hi hn]⟩
theorem Mo.mono{Q:Nat->Prop}(h:Mo P a b)(hQ:∀i,i<a.heap.size->P i->Q i):Mo Q a b:=
 ⟨h.os,h.tape,h.output,h.size,fun i hi hn=>h.block i hi (fun p=>hn (hQ i hi p))⟩
theorem az(h:Below a a b):Mo P a b:=⟨h.os,h.tape,h.output,h.size,fun i hi _=>h.block i hi⟩
theorem EW{g:Nat}(h:iT g a b):Mo (·=g) a b:=⟨h.os,h.tape,h.output,zbk,fun i _ hn=>h.block i hn⟩
theorem Mo.below{B:Nat}{o:World}(h:Mo P a b)(hb:Below B o a)(hB:B<=a.heap.size)(hP:∀i,i<B->¬P i):Below B o b:=
 hb.trans ⟨h.os,h.tape,h.output,h.size,fun k hk=>h.block k zaa (hP k hk)⟩
theorem Mo.cell(h:Mo P a b)(hp:p.block<a.heap.size)(hn:¬P p.block):b.cell? p=a.cell? p:=PN (w:=a) (h.block p.block hp hn)
theorem Mo.own{base size:Nat}{e:TypeId}{xs:List Value}(h:Mo P a b)(ho:a.ownsRow base e size v n xs)(hn:∀g,v.ownBlock=some g->¬P g):b.ownsRow base e size v n xs:=by
 refine⟨ho.1,?_⟩
 rcases ho.2 with h'|⟨k,cap,cur,hv,hb,VB,r⟩
 ·exact .inl h'
 ·refine .inr ⟨k,cap,cur,hv,hb,?_,r⟩;rw[h.block k (Pn.1 VB).1 (hn k (by rw[hv];rfl))];exact VB
end
section
open Go.RowKit Go.Proofs Go.Shelf
attribute [local go_sem] Qu
theorem Mo.bel{A A':World}(hm:Mo P W0 A)(hb:Below W0 A A'):Mo P W0 A':=⟨hb.os.trans hm.os,hb.tape.trans hm.tape,hb.output.trans hm.output,Pr hm.size hb.size,fun k hk hn=>(hb.block k hk).trans (hm.block k hk hn)⟩
theorem JW{β:Type}{J:β->World->Prop}(hJ:∀s A A',J s A->Below W0 A A'->J s A'):OwnFrom W0.heap.size (fun s W=>J s W/\Mo P W0 W):=fun s A A' row h hg hr=>by
 have hb:Below W0 A A':=(Pq _ A).grown hg h.2.size (fun k e=>(hr k e).1);exact⟨hJ s A A' h.1 hb,h.2.bel hb⟩
theorem Mo.set(h:Mo P a b)(p:Addr)(v:Value)(hp:P p.block):Mo P a (b.setCell p v):=⟨h.os,h.tape,h.output,Pr h.size zad,fun k hk hn=>(Qg b p v k (fun e=>hn (e▸hp))).trans (h.block k hk hn)⟩
theorem Mo.kpT(h:Mo P a b)(hg:1<a.heap.size)(hn:¬P 1):Y.KpT a b:=fun x j hj=>(h.cell (p:=⟨1,j,none⟩) hg hn).trans (x j hj)
theorem Boxed.mo{B:Nat}(h:Boxed a B t v)(hm:Mo P a b)(hn:¬P B):Boxed b B t v:=(hm.block B h.lt hn).trans h
theorem aA{a b:Addr}(h:a≠b):(w.setCell a v).cell? b=w.cell? b:=World.cell?_setCell_other w a b v h
theorem jY(h:Mo P a b):Mo P a b.drew:=⟨h.os,h.tape,h.output,h.size,h.block⟩
theorem bD{B:Nat}(h:Boxed W B t v)(hn:B≠p.block)(u:Value):Boxed (W.setCell p u) B t v:=(Qg W p u B hn).trans h
theorem aD{B:Nat}(h:Boxed W B t v)(hB:Below n W W')(hb:B<n):Boxed W' B t v:=(hB.block B hb).trans h
namespace Y
def PS.cells(p:PS):List Value:=[(p.kind:Int),p.name,p.done,(p.owner:Int),.int .u32 p.parts,.int .u32 p.inside,.int .u32 p.around,.int .u32 p.wth,p.enter.v,p.leave.v]
structure bH(W:World)(pb b cap:Nat)(ps:List PS):Prop where
 row:W.cell? pb=some (.slice b ps.length cap)
 at':∀(i:Nat) (p:PS),ps[i]?=some p->∀(k:Nat) (v:Value),p.cells[k]?=some v->W.cell? (b,i*10+k)=some v/\W.frozen? (b,i*10+k)=false
 len:ps.length<=24
 ne:pb≠b
theorem bH.ps{b:Nat}{ps:List PS}{p:PS}(h:bH W pb b cap ps)(hi:ps[i]?=some p):uY W b i p where
 c0:=(h.at' i p hi 0 _ rfl).1
 c1:=(h.at' i p hi 1 _ rfl).1
 c2:=(h.at' i p hi 2 _ rfl).1
 c3:=(h.at' i p hi 3 _ rfl).1
 c4:=(h.at' i p hi 4 _ rfl).1
 c5:=(h.at' i p hi 5 _ rfl).1
 c6:=(h.at' i p hi 6 _ rfl).1
 c7:=(h.at' i p hi 7 _ rfl).1
 c8:=(h.at' i p hi 8 _ rfl).1
 c9:=(h.at' i p hi 9 _ rfl).1
theorem bH.bJ{b:Nat}{ps:List PS}(h:bH W pb b cap ps)(hs:Sms ps):cJ W pb b cap ps where
 row:=h.row
 at':=fun _ _ hi=>h.ps hi
 sm:=hs
 len:=h.len
theorem bH.below{B b:Nat}{ps:List PS}(h:bH W pb b cap ps)(hB:Below B W W')(h1:pb<B)(h2:b<B):bH W' pb b cap ps where
 row:=(hB.cell (p:=pb) h1).trans h.row
 at':=fun i p hi k v hv=>by
  have:=h.at' i p hi k v hv;exact⟨(hB.cell (p:=⟨b,_,none⟩) h2).trans this.1,(hB.frozen (p:=⟨b,_,none⟩) h2).trans this.2⟩
 len:=h.len
 ne:=h.ne
theorem bH.set{b:Nat}{ps:List PS}{p:PS}(h:bH W pb b cap ps)(hi:ps[i]?=some p)(k:Nat)(v:Value)(p':PS)(hk:k<10)(hc:∀j,p'.cells[j]?=if j=k then some v else p.cells[j]?):bH (W.setCell (b,i*10+k) v) pb b cap (ps.set i p') where
 row:=by
  rw[aA (by intro e;injection e with e1;exact h.ne e1.symm),PO];exact h.row
 at':=fun i' q hq k' v' hv=>by
  have WU:i<ps.length:=(Ps.1 hi).1;rw[R8];have VB:k'<10:=zcu;obtain⟨v0,hv0⟩:∃v0,p.cells[k]?=some v0:=⟨_,Pp (by simpa[PS.cells] using hk)⟩;by_cases e:i'=i
  ·subst e;rw[P4 WU]at hq;cases hq
   rw[hc]at hv;by_cases e2:k'=k
   ·subst e2;rw[PC rfl]at hv;cases hv
    have:=h.at' i' p hi k' v0 hv0;exact⟨Sg _ _ _ this.1,this.2⟩
   ·rw[Pu e2]at hv;have:=h.at' i' p hi k' v' hv;exact⟨(aA zbH).trans this.1,this.2⟩
  ·rw[Qb (fun x=>e x.symm)]at hq;have:=h.at' i' q hq k' v' hv;exact⟨(aA zbH).trans this.1,this.2⟩
 len:=by rw[PO];exact h.len
 ne:=h.ne
def orW(ps:List PS)(o:Nat)(l:List Nat):Nat:=l.foldl (fun o k=>o|||gn ps k) o
theorem JV(ps:List PS)(o:Nat)(l:List Nat)(k:Nat):orW ps o (l++[k])=orW ps o l|||gn ps k:=by
 unfold orW;rw[QQ];rfl
theorem JU{ps:List PS}(h:Sms ps):∀(l:List Nat) (o:Nat),o<4294967296->orW ps o l<4294967296
 |[],_,ho=>ho
 |k::l,_,ho=>JU h l _ (rh ho (r9 h k))
def lU(ps:List PS)(i:Nat)(p:PS):Nat:=orW ps (2 ^ i) (if p.kind == 0 then(els p.parts).take 1 else els p.parts)
def bT(ps:List PS)(i:Nat):List PS:=match ps[i]? with
 |none=>ps
 |some p=>if p.owner == -1 then ps.set i { p with wth:=lU ps i p } else match ps[p.owner.toNat]? with
  |none=>ps.set i { p with wth:=lU ps i p }
  |some q=>(ps.set i { p with wth:=lU ps i p }).set p.owner.toNat { q with inside:=q.inside|||(p.inside|||2 ^ i) }
theorem Hd{s:Nat}{pre:List (In s)}(h:bn pre <+: els s){x:Nat}(he:bn pre=[x]):(els s).take 1=[x]:=by
 obtain⟨t,ht⟩:=h;rw[<- ht,he];rfl
def stay{s:Nat}(p:PS)(pre:List (In s)):Prop:=p.kind=0->pre=[]
def brk{s:Nat}(p:PS)(pre:List (In s)):Prop:=p.kind=0/\∃x,bn pre=[x]
end Y
theorem uP(h:i<32):2 ^ i<4294967296:=PY (SJ zac h) zac
theorem zB(w:World)(pb b cap:Nat)(ps:List Y.PS)(i:Nat)(p:Y.PS)(Wi:ps[i]?=some p)(X3:∀j∈Y.els p.parts,i<j/\j<ps.length)(how:p.owner=-1\/∃o:Nat,p.owner=o/\o<i)(hP:Y.bH w pb b cap ps)(Xz:Y.Sms ps)(Vo:pb<w.heap.size)(hb:b<w.heap.size)
  (hg:1<w.heap.size) (hgb:1≠b) (hT:TabAt 1 Lib.deBruijn32tab w):
  () 68 #[pb,(i:Int)] w fun e w'=>e=.returned (.tuple #[])/\Y.bH w' pb b cap (Y.bT ps i)/\Mo (·=b) w w':=by
 have WU:i<ps.length:=(Ps.1 Wi).1;have hlen:=hP.len;have XB:i<32:=zaa;have U9:=hP.ne;obtain⟨t,ht⟩:∃t,2 ^ i=t:=⟨_,rfl⟩;have Wz:t<4294967296:=by rw[<- ht];exact uP XB
 have Wc:∀V:World,() 101 #[(i:Int)] V fun e w'=>e=.returned (.int .u32 t)/\w'=V:=fun V=>by rw[<- ht];exact jf i V XB
 refine(P8 (n:=6)).1 ?_;refine Qv func68 rfl trivial ?_ rfl;simp only[ntmps68,List.size_toArray,List.length_cons,List.length_nil,Nat.reduceAdd,Nat.reduceSub,Array.replicate_succ,Array.replicate_zero,List.push_toArray,List.append_toArray,List.nil_append,List.cons_append];have c0:=(P9 w 103 pb);have VG:Below w w (w.alloc (.cells #[pb] 103)):=(Pq _ w).alloc (Po _) _;have hr0:=(hP.below VG Vo hb).row;gi_wp2;have c0:=c0.alloc (.cells #[(b,i*10)] 258);have c1:=P9 (w.alloc (.cells #[pb] 103)) 258 (b,i*10);simp only[World.size_alloc]at c1;have Vh:=VG.alloc zad (.cells #[(b,i*10)] 258);have Xp:=hP.below Vh Vo hb;obtain⟨W1,Vj⟩:∃W1,(w.alloc (.cells #[pb] 103)).alloc (.cells #[(b,i*10)] 258)=W1:=⟨_,rfl⟩;have Vf:W1.heap.size=w.heap.size+1+1:=by rw[<- Vj];simp
 rw[Vj]at c0 c1 Vh Xp⊢;clear Vj VG hr0;have k7f:=(Xp.at' i p Wi 7 _ rfl).2;have k7c:=(Xp.at' i p Wi 7 _ rfl).1;refine UG.2 (kX ?_);refine PJ (S:=(fun V=>V.cell? ↑(w.heap.size+1)=some ↑(b,i*10))) zab c1.cell (fun Pm=>?_);refine tH 0 (b,i*10) rfl Pm ?_;refine tH 1 (.int .i64 i) rfl Pm ?_;refine zH 2 rfl fun K hK=>?_;go_simp;refine(Wc _).mono ?_;rintro e w9 ⟨rfl,rfl⟩;refine hK.out _ _ Pm (fun Pm=>?_);clear hK K;refine tH 3 (b,i*10) rfl Pm ?_;refine tH 4 (b,i*10+7) rfl Pm ?_;refine zH 5 rfl fun K hK=>?_;go_simp;refine hK.out _ _ (by
  have e:∀(a:Addr),a≠⟨b,i*10+7,none⟩->∀v,(W1.setCell (b,i*10+7) v).drew.cell? a=W1.drew.cell? a:=fun a ha v=>aA (fun h=>ha h.symm)
  (try dsimp only at Pm);(try dsimp only)
  rw[e _ zak];exact Pm) (fun Pm=>?_)
 clear hK K;refine PX zab ?_ _;unfold pQ;have Xh:=Xp.set Wi 7 (.int .u32 t) { p with wth:=t } zac (fun j=>by
  match j with
  |0|1|2|3|4|5|6|7|8|9=>rfl
  |j+10=>rfl)
 have Xh:Y.bH (W1.setCell (b,i*10+7) (.int .u32 t)).drew pb b cap (ps.set i { p with wth:=t }):=⟨Xh.row,Xh.at',Xh.len,Xh.ne⟩;have c0:Boxed (W1.setCell (b,i*10+7) (.int .u32 t)).drew w.heap.size 103 pb:=bD c0 (p:=(b,i*10+7)) zaf _;have c1:Boxed (W1.setCell (b,i*10+7) (.int .u32 t)).drew (w.heap.size+1) 258 (b,i*10):=bD c1 (p:=(b,i*10+7)) zaf _;have Ws:Mo (·=b) w (W1.setCell (b,i*10+7) (.int .u32 t)).drew:=jY ((az Vh).set ⟨b,i*10+7,none⟩ _ rfl);obtain⟨W2,Yh⟩:∃W2,(W1.setCell (b,i*10+7) (.int .u32 t)).drew=W2:=⟨_,rfl⟩;have Yi:W2.heap.size=w.heap.size+1+1:=by rw[<- Yh];simp[World.drew,Vf]
 rw[Yh]at c0 c1 Xh Ws⊢;clear Yh k7f k7c;have hpi2:(ps.set i { p with wth:=t })[i]?=some { p with wth:=t }:=P4 WU;have d1:=c1.cell;have d4:=(Xh.ps hpi2).c4;gi_wp2_with(refine⟨trivial,?_⟩;gi_at_call 100;refine(P8.2 (dI p.parts _)).mono ?_;rintro e w9 ⟨rfl,U1⟩;rw[U1];clear U1 w9);have Xi:=(Pq W2 W2).alloc (Po _) (.cells #[.int .u32 p.parts] 167);have c2:=P9 W2 167 (.int .u32 p.parts);have hP3:=Xh.below Xi zaa zaa;have c0:=aD c0 Xi c0.lt;have c1:=aD c1 Xi c1.lt;have Wt:Mo (·=b) w (W2.alloc (.cells #[.int .u32 p.parts] 167)):=Ws.trans (az Xi);obtain⟨W3,hW3⟩:∃W3,W2.alloc (.cells #[.int .u32 p.parts] 167)=W3:=⟨_,rfl⟩;have hsz3:W3.heap.size=w.heap.size+1+1+1:=by rw[<- hW3];simp[Yi]
 rw[Yi]at c2;rw[hW3]at c0 c1 c2 hP3 Wt⊢;clear hW3 Xi Xh Ws d1 d4 hpi2 Xp Vh;have Zk:TabAt 1 Lib.deBruijn32tab W3:=Wt.kpT hg hgb hT;have hs:=(Xz i p Wi).hp;have VA:b<W3.heap.size:=zaa;refine pr zaa (w.heap.size+1+1) p.parts hs rfl zaa zaa c2.cell Zk rfl
  (fun pre W=>(Y.stay p pre/\Boxed W w 103 pb/\Boxed W (w.heap.size+1) 258 (b,i*10)/\Y.bH W pb b cap (ps.set i { p with wth:=Y.orW ps t (Y.bn pre) }))/\Mo (·=b) W3 W)
  (fun c pre W=>((c=.exit 0/\Y.brk p pre)/\Boxed W w 103 pb/\Boxed W (w.heap.size+1) 258 (b,i*10)/\Y.bH W pb b cap (ps.set i { p with wth:=Y.orW ps t (Y.bn pre) }))/\Mo (·=b) W3 W)
  (JW (fun s A A' h hb=>⟨h.1,aD h.2.1 hb zaa,aD h.2.2.1 hb zaa,h.2.2.2.below hb zaa zaa⟩))
  (fun c=>JW (fun s A A' h hb=>⟨h.1,aD h.2.1 hb zaa,aD h.2.2.1 hb zaa,h.2.2.2.below hb zaa zaa⟩))
  ⟨⟨fun _=>rfl,c0,c1,hP3⟩,Mo.refl _ _⟩
  (fun x a' _=>a'={ tmps:=#[.pointer (some ⟨pb,0,none⟩),.int .i64 i,.pointer (some ⟨w.heap.size,0,none⟩),undef,.pointer (some ⟨w.heap.size+1,0,none⟩),.int .i64 x.1,.pointer (some ⟨pb,0,none⟩),.pointer (some ⟨pb,0,none⟩),.pointer (some ⟨pb,0,none⟩),.slice (some ⟨b,0,none⟩) ps.length cap,.int .i64 i,.pointer (some ⟨b,i*10,none⟩),.pointer (some ⟨b,i*10,none⟩),.int .i64 i,.int .u32 t,.pointer (some ⟨b,i*10,none⟩),.pointer (some ⟨b,i*10+7,none⟩),.pointer (some ⟨b,i*10,none⟩),.pointer (some ⟨b,i*10,none⟩),.pointer (some ⟨b,i*10+4,none⟩),.int .u32 p.parts,.func (.func 151) #[] #[.pointer (some ⟨w.heap.size+1+1,0,none⟩)],.int .i64 x.1,undef,undef,undef,undef,undef,undef,undef,undef,undef,undef,undef,undef,undef,undef,undef,undef,undef,undef,undef,undef,undef,undef,undef,undef,undef,undef,undef,undef,undef,undef,undef,undef,undef,undef,undef,undef,undef,undef,undef,undef,undef,undef,undef,undef,undef,undef],defers:=[] })
  (fun _ _ _ _ _ _ hs _ _=>hs)
  ?assign ?body ?done ?stop
 case assign=>
  exact zeq
 case body=>
  rintro l pre x a' W _ _ ⟨⟨hk0,h0,h1,Vz⟩,hM⟩ rfl _;obtain⟨hx1,Y9⟩:=X3 x.1 x.2;obtain⟨q,hqx⟩:∃q,ps[x.1]?=some q:=⟨_,Pp Y9⟩;obtain⟨o,ho⟩:∃o,Y.orW ps t (Y.bn pre)=o:=⟨_,rfl⟩;have holt:=Y.JU Xz (Y.bn pre) _ Wz;have Wh:=Y.JV ps t (Y.bn pre) x.1;have hwa:Y.gn ps x.1=q.wth:=by unfold Y.gn;rw[hqx]
  rw[<- Y.eu,hwa,ho]at Wh;rw[ho]at holt Vz;have hpi':(ps.set i { p with wth:=o })[i]?=some { p with wth:=o }:=P4 WU;have hqx':(ps.set i { p with wth:=o })[x.1]?=some q:=by rw[Qb zaa];exact hqx
  have h0c:=h0.cell;have h1c:=h1.cell;have U5:=Vz.row;rw[PO]at U5;have hq7:=(Vz.ps hqx').c7;have k7:=Vz.at' i _ hpi' 7 _ rfl;have k7c:=k7.1;have k7f:=k7.2;have ha:=Se _ _ holt (Xz x.1 q hqx).hw;have hx10:x.1*10+7≠i*10+7:=zaa;have Xu:=Vz.set hpi' 7 (.int .u32 ((o|||q.wth:Nat):Int)) { p with wth:=o|||q.wth } zac (fun j=>by
   match j with
   |0|1|2|3|4|5|6|7|8|9=>rfl
   |j+10=>rfl)
  rw[S1,<- Wh]at Xu;gi_wp2;refine dr (S:=(fun V=>V.cell? w=some ↑pb/\V.cell? ↑(w.heap.size+1)=some ↑(b,i*10)/\V.cell? pb=some (.slice b ps.length cap)/\V.cell? (b,x.1*10+7)=some (.int .u32 q.wth))) zab zab zbl ⟨h0c,h1c,U5,hq7⟩ (fun Pm=>?_);refine tH 0 (b,i*10) rfl Pm ?_;refine tH 1 (b,i*10) rfl Pm ?_;refine tH 2 (b,i*10+7) rfl Pm ?_;refine tH 4 pb rfl Pm ?_;refine tH 5 pb rfl Pm ?_;refine tH 6 pb rfl Pm ?_;refine tH 7 (.slice b ps.length cap) rfl Pm ?_;refine tH 8 (.int .i64 x.1) rfl Pm ?_;refine tH 9 (b,x.1*10) rfl Pm ?_;refine tH 10 (b,x.1*10+7) rfl Pm ?_;refine tH 11 (.int .u32 q.wth) rfl Pm ?_;refine zH 3 rfl fun K hK=>?_;go_simp;refine hK.out _ _ Pm (fun Pm=>?_);clear hK K;refine tH 12 (.int .u32 ((o|||q.wth:Nat):Int)) rfl Pm ?_;refine tH 13 (b,i*10) rfl Pm ?_;refine tH 14 (b,i*10+7) rfl Pm ?_;refine zH 15 rfl fun K hK=>?_;go_simp;refine hK.out _ _ (by
   have e:∀(a:Addr),a≠⟨b,i*10+7,none⟩->∀v,(W.setCell (b,i*10+7) v).drew.cell? a=W.drew.cell? a:=fun a ha v=>aA (fun h=>ha h.symm)
   (try dsimp only at Pm);(try dsimp only)
   rw[e _ zak,e _ zak,e _ zak,e _ zak];exact Pm) (fun Pm=>?_)
  clear hK K;refine PX zab ?_ _;clear Pm;have Xu:Y.bH (W.setCell (b,i*10+7) (.int .u32 ((o|||q.wth:Nat):Int))).drew pb b cap (ps.set i { p with wth:=Y.orW ps t (Y.bn (pre++[x])) }):=by
   rw[Wh]at Xu⊢;exact⟨Xu.row,Xu.at',Xu.len,Xu.ne⟩
  have g0:Boxed (W.setCell (b,i*10+7) (.int .u32 ((o|||q.wth:Nat):Int))).drew w.heap.size 103 pb:=bD h0 (p:=(b,i*10+7)) zaf _;have g1:Boxed (W.setCell (b,i*10+7) (.int .u32 ((o|||q.wth:Nat):Int))).drew (w.heap.size+1) 258 (b,i*10):=bD h1 (p:=(b,i*10+7)) zaf _;have gM:Mo (·=b) W (W.setCell (b,i*10+7) (.int .u32 ((o|||q.wth:Nat):Int))).drew:=jY ((Mo.refl _ W).set ⟨b,i*10+7,none⟩ _ rfl);have gK:KeepsOthers W (W.setCell (b,i*10+7) (.int .u32 ((o|||q.wth:Nat):Int))).drew:=(Qz _ _ _).trans (Su _);have gT:=gM.kpT (by have:=hM.size;omega) hgb;obtain⟨W5,hW5⟩:∃W5,(W.setCell (b,i*10+7) (.int .u32 ((o|||q.wth:Nat):Int))).drew=W5:=⟨_,rfl⟩;rw[hW5]at Xu g0 g1 gM gK gT⊢;clear hW5 Vz h0 h1 h0c h1c U5 hq7 k7 k7c k7f;have hpi5:(ps.set i { p with wth:=Y.orW ps t (Y.bn (pre++[x])) })[i]?=some { p with wth:=Y.orW ps t (Y.bn (pre++[x])) }:=P4 WU;have e1:=g1.cell;have e0:=(Xu.ps hpi5).c0;by_cases hk:p.kind=0
  ·have VR:Y.brk p (pre++[x]):=⟨hk,x.1,by rw[hk0 hk];rfl⟩;have VB:(p.kind == 0)=true:=za7;clear hk hk0;gi_wp2;exact⟨gK.from _,⟨⟨rfl,VR⟩,g0,g1,Xu⟩,hM.trans gM⟩
  ·have hst:Y.stay p (pre++[x]):=fun h=>absurd h hk;have VB:(p.kind == 0)=false:=za3;clear hk hk0;gi_wp2;exact⟨gK.from _,gT,⟨hst,g0,g1,Xu⟩,hM.trans gM⟩
 case' done=>
  rintro D ys W hD WT ⟨⟨hk0,h0,h1,Vz⟩,hM⟩ hK;have hsw:Y.orW ps t (Y.bn ys)=Y.lU ps i p:=by
   unfold Y.lU;rw[ht];by_cases hk:p.kind=0
   ·rw[PC za7,<- WT,hk0 hk];rfl
   ·rw[Pu za3,WT]
  rw[hsw]at Vz;clear hsw hk0 WT ys
 case' stop=>
  rintro D c pre W hD Xq ⟨⟨⟨rfl,⟨hk,x,hx⟩⟩,h0,h1,Vz⟩,hM⟩ hK;have hsw:Y.orW ps t (Y.bn pre)=Y.lU ps i p:=by
   unfold Y.lU;rw[ht];rw[PC za7,Y.Hd Xq hx,hx]
  rw[hsw]at Vz;clear hsw Xq hk hx x pre
 all_goals
  have hpi4:(ps.set i { p with wth:=Y.lU ps i p })[i]?=some { p with wth:=Y.lU ps i p }:=P4 WU;have h0c:=h0.cell;have h1c:=h1.cell;have U5:=Vz.row;rw[PO]at U5;have k3:W.cell? (b,i*10+3)=some ↑(p.owner:Int):=(Vz.ps hpi4).c3;have k5:W.cell? (b,i*10+5)=some (.int .u32 p.inside):=(Vz.ps hpi4).c5;have WW:∀V:World,Y.bH V pb b cap (Y.bT ps i)->Mo (·=b) W V->V.heap[D]?=some (.deferred (some []))->Y.bH (V.putObj D (.deferred none)) pb b cap (Y.bT ps i)/\Mo (·=b) w (V.putObj D (.deferred none)):=by
   intro V hV hMV Za;have Wl:=R3 (w:=W3) (n₀:=W3.heap.size) (Po _) V D _ (.deferred none) hD Za rfl rfl;exact⟨hV.below Wl zaa zaa,Wt.trans ((hM.trans hMV).bel Wl)⟩
  rcases how with ho|⟨ow,ho,howi⟩
  ·have hsr:Y.bT ps i=ps.set i { p with wth:=Y.lU ps i p }:=by unfold Y.bT;rw[Wi];simp only[ho];rfl
   have VH:=WW W (by rw[hsr];exact Vz) (Mo.refl _ _) hK;rw[ho]at k3;clear hsr WW ho;gi_wp2;refine⟨zad,.inl ⟨_,_,rfl,Qn hK,?_⟩⟩;exact⟨_,QD rfl _ _ _,rfl,VH⟩
  ·have YR:ow<ps.length:=zaa;obtain⟨q,hq⟩:∃q,ps[ow]?=some q:=⟨_,Pp YR⟩;have hq4:(ps.set i { p with wth:=Y.lU ps i p })[ow]?=some q:=by rw[Qb zaa];exact hq
   have hsr:Y.bT ps i=(ps.set i { p with wth:=Y.lU ps i p }).set ow { q with inside:=q.inside|||(p.inside|||t) }:=by
    unfold Y.bT;rw[Wi];simp only[ho,Int.toNat_natCast,hq,ht];rw[Pu zad]
   have kq:=Vz.at' ow q hq4 5 _ rfl;have kqc:=kq.1;have kqf:=kq.2;rw[ho]at k3;have hon:((ow:Int) != -1)=true:=zad;have o1:=Se _ _ (Xz i p Wi).hi Wz;have o2:=Se _ _ (Xz ow q hq).hi (Y.rh (Xz i p Wi).hi Wz);have hP8:=Vz.set hq4 5 (.int .u32 ((q.inside|||(p.inside|||t):Nat):Int)) { q with inside:=q.inside|||(p.inside|||t) } zac (fun j=>by
    match j with
    |0|1|2|3|4|5|6|7|8|9=>rfl
    |j+10=>rfl)
   rw[<- hsr]at hP8;have hP8:Y.bH (W.setCell (b,ow*10+5) (.int .u32 ((q.inside|||(p.inside|||t):Nat):Int))).drew pb b cap (Y.bT ps i):=⟨hP8.row,hP8.at',hP8.len,hP8.ne⟩;have hK8:(W.setCell (b,ow*10+5) (.int .u32 ((q.inside|||(p.inside|||t):Nat):Int))).drew.heap[D]?=some (.deferred (some [])):=((Qz W ⟨b,ow*10+5,none⟩ (.int .u32 ((q.inside|||(p.inside|||t):Nat):Int))).trans (Su _)).same D _ hK rfl;have VH:=WW _ hP8 (jY ((Mo.refl _ W).set ⟨b,ow*10+5,none⟩ _ rfl)) hK8;clear hP8 hsr WW hq4 hpi4 Vz kq;gi_wp2;refine UG.2 (kX ?_);refine PJ (S:=(fun V=>V.cell? w=some ↑pb/\V.cell? ↑(w.heap.size+1)=some ↑(b,i*10)/\V.cell? pb=some (.slice b ps.length cap)/\V.cell? (b,i*10+3)=some ↑(ow:Int)/\V.cell? (b,i*10+5)=some (.int .u32 p.inside))) zab ⟨h0c,h1c,U5,k3,k5⟩ (fun Pm=>?_);refine tH 0 pb rfl Pm ?_;refine tH 1 pb rfl Pm ?_;refine tH 2 pb rfl Pm ?_;refine tH 3 (.slice b ps.length cap) rfl Pm ?_;refine tH 4 (b,i*10) rfl Pm ?_;refine tH 5 (b,i*10) rfl Pm ?_;refine tH 6 (b,i*10+3) rfl Pm ?_;refine tH 7 (.int .i64 ow) rfl Pm ?_;refine tH 8 (b,ow*10) rfl Pm ?_;refine tH 9 (b,ow*10+5) rfl Pm ?_;refine tH 11 (b,i*10) rfl Pm ?_;refine tH 12 (b,i*10) rfl Pm ?_;refine tH 13 (b,i*10+5) rfl Pm ?_;refine tH 14 (.int .u32 p.inside) rfl Pm ?_;refine tH 15 (.int .i64 i) rfl Pm ?_;refine yH [10,16] ?_;refine Qk rfl (fun K hK=>?_) (Qk rfl (fun K hK=>?_) QX)
   ·skip
    go_simp;refine hK.out _ _ Pm (fun Pm=>?_);clear hK K;refine zH 16 rfl fun K hK=>?_;go_simp;refine(Wc _).mono ?_;rintro e w9 ⟨rfl,rfl⟩;refine hK.out _ _ Pm (fun Pm=>?_);clear hK K;refine tH 17 (.int .u32 ((p.inside|||t:Nat):Int)) rfl Pm ?_;exact zcK
   ·skip
    go_simp;refine(Wc _).mono ?_;rintro e w9 ⟨rfl,rfl⟩;refine hK.out _ _ Pm (fun Pm=>?_);clear hK K;refine tH 17 (.int .u32 ((p.inside|||t:Nat):Int)) rfl Pm ?_;refine zH 10 rfl fun K hK=>?_;go_simp;refine hK.out _ _ Pm (fun Pm=>?_);clear hK K;exact zcK
namespace Y
structure Tn where
 t:Nat
 ev:()
 nm:()
abbrev Nd:Type:=Nat×Tn
def ndP(b:Nat):Value:=.pointer (some ⟨b,0,none⟩)
def aN(l:List Nd):Value:=match l.getLast? with|none=>.pointer none|some z=>ndP z.1
def nxt(l:List Nd)(i:Nat):Value:=match l[i+1]? with|some y=>ndP y.1|none=>match l[0]? with|some y=>ndP y.1|none=>.pointer none
def eU(x:Tn)(v:Value):Array Value:=#[.int .u64 x.t,x.ev,x.nm,v]
def cV(W:World)(l:List Nd):Prop:=∀(i:Nat) (x:Nd),l[i]?=some x->W.heap[x.1]?=some (.cells (eU x.2 (nxt l i)) 302 (0,0))
def eL(w:World)(p:Addr)(l:List Nd)(n:Nat):World:=match l.getLast? with
 |none=>(w.setCell ⟨n,3,none⟩ (ndP n)).setCell p (ndP n)
 |some z=>((w.setCell ⟨n,3,none⟩ (nxt l (l.length-1))).setCell ⟨z.1,3,none⟩ (ndP n)).setCell p (ndP n)
theorem cV.nil(W:World):cV W []:=fun i x h=>by simp at h
theorem cV.mo{l:List Nd}(h:cV W l)(hm:Mo P W W')(hn:∀x∈l,¬P x.1):cV W' l:=fun i x hx=>
 (hm.block x.1 (Pn.1 (h i x hx)).1 (hn x (PD hx))).trans (h i x hx)
theorem jG{l:List Nd}{f:Nd}(h:l[0]?=some f):nxt l (l.length-1)=ndP f.1:=by
 unfold nxt;rw[P6 zaa,h]
theorem JR{l:List Nd}{x:Nd}(hi:i+1<l.length):nxt (l++[x]) i=nxt l i:=by
 unfold nxt;rw[Qo hi,Pp hi]
theorem vD{l:List Nd}{x:Nd}(h:l≠[]):nxt (l++[x]) (l.length-1)=ndP x.1:=by
 unfold nxt;have:0<l.length:=Ry.2 h;rw[show l.length-1+1=l.length by omega,Qr (Po _)];simp
theorem za{l:List Nd}{x f:Nd}(h:l[0]?=some f):nxt (l++[x]) l.length=ndP f.1:=by
 unfold nxt;have:0<l.length:=(Ps.1 h).1;rw[P6 zad,Qo this,h]
theorem cV.push{w:World}{p:Addr}{l:List Nd}{n:Nat}{x:Tn}{v:Value}(h:cV w l)(Vi:(l.map (·.1)).Nodup)(hn:w.heap[n]?=some (.cells (eU x v) 302 (0,0)))(WC:n ∉ l.map (·.1))(hpn:p.block≠n)(VI:p.block ∉ l.map (·.1)):
  cV (eL w p l n) (l++[(n,x)])/\Mo (fun k=>k=p.block\/k=n\/∃z,l.getLast?=some z/\k=z.1) w (eL w p l n):=by
 unfold eL;cases hz:l.getLast? with
 |none=>
  have hl:l=[]:=R7.1 hz;subst hl;refine⟨fun i y hy=>?_,((Mo.refl _ w).set _ _ (.inr (.inl rfl))).set _ _ (.inl rfl)⟩;have:i=0/\y=(n,x):=by
   rcases i with _|i
   ·simp at hy;exact⟨rfl,hy.symm⟩
   ·simp at hy
  obtain⟨rfl,rfl⟩:=this;exact(Qg _ p _ n (fun e=>hpn e.symm)).trans (PR w n 3 _ _ _ hn)
 |some z=>
  have U9:l≠[]:=fun e=>zaZ;have hlen:0<l.length:=Ry.2 U9;have Xa:l[l.length-1]?=some z:=zaA;obtain⟨f,hf⟩:∃f,l[0]?=some f:=⟨_,Pp hlen⟩;have Zb:z.1∈l.map (·.1):=P0.2 ⟨z,PD Xa,rfl⟩;have hzn:n≠z.1:=fun e=>WC (e▸Zb);have hzp:p.block≠z.1:=fun e=>VI (e▸Zb);rw[jG hf];refine⟨fun i y hy=>?_,(((Mo.refl _ w).set _ _ (.inr (.inl rfl))).set _ _ (.inr (.inr ⟨z,rfl,rfl⟩))).set _ _ (.inl rfl)⟩;have hn1:(w.setCell (n,3) (ndP f.1)).heap[n]?=some (.cells (eU x (ndP f.1)) 302 (0,0)):=PR w n 3 _ _ _ hn
  rcases Rr i l.length with hi|hi
  ·rw[Qo hi]at hy;have hyl:y.1∈l.map (·.1):=P0.2 ⟨y,PD hy,rfl⟩;have hyn:y.1≠n:=fun e=>WC (e▸hyl);have hyp:y.1≠p.block:=fun e=>VI (e▸hyl);have h1:(w.setCell (n,3) (ndP f.1)).heap[y.1]?=some (.cells (eU y.2 (nxt l i)) 302 (0,0)):=(Qg _ _ _ y.1 hyn).trans (h i y hy);by_cases e:i=l.length-1
   ·subst e;rw[Xa]at hy;cases hy
    rw[vD U9];exact(Qg _ p _ z.1 hyp).trans (PR _ z.1 3 _ _ _ h1)
   ·rw[JR zaa];refine(Qg _ p _ y.1 hyp).trans ((Qg _ _ _ y.1 (fun e2=>e ?_)).trans h1);have e3:y.1=z.1:=e2;have a1:(l.map (·.1))[i]?=some y.1:=by rw[Pv,hy];rfl
    have a2:(l.map (·.1))[l.length-1]?=some y.1:=by rw[Pv,Xa,e3];rfl
    exact(TI zaf Vi).1 (a1.trans a2.symm)
  ·have:i=l.length/\y=(n,x):=by
    rw[Qr hi]at hy;obtain⟨k,rfl⟩:∃k,i=l.length+k:=⟨i-l.length,zaa⟩
    rcases k with _|k
    ·simp at hy;exact⟨rfl,hy.symm⟩
    ·simp at hy
   obtain⟨rfl,rfl⟩:=this;rw[za hf];exact(Qg _ p _ n (fun e=>hpn e.symm)).trans ((Qg _ _ _ n hzn).trans hn1)
theorem oT(l:List Nd)(x:Nd):aN (l++[x])=ndP x.1:=by unfold aN;simp
end Y
theorem mE(w:World)(c o:Nat)(l:List Y.Nd)(hc:w.cell? (c,o)=some (Y.aN l)):
  () 229 #[(c,o)] w fun e w'=>e=.returned l.isEmpty/\w'=w:=by
 unfold Y.aN at hc;cases hz:l.getLast? with
 |none=>
  have hl:l=[]:=R7.1 hz;subst hl;simp only[List.getLast?_nil]at hc;exact zeN
 |some z=>
  rw[hz]at hc;unfold Y.ndP at hc;have hl:l.isEmpty=false:=by
   cases l with
   |nil=>simp at hz
   |cons a l=>rfl
  rw[hl];clear hz hl;dsimp only at hc;exact zeN
theorem nN(w:World)(c o:Nat)(l:List Y.Nd)(n:Nat)(x:Y.Tn)(v:Value)(hc:w.cell? (c,o)=some (Y.aN l))(Xj:w.frozen? (c,o)=false)(hR:Y.cV w l)(hn:w.heap[n]?=some (.cells (Y.eU x v) 302 (0,0)))(WC:n ∉ l.map (·.1))(ZZ:c≠n)(Vu:c ∉ l.map (·.1)):
  () 230 #[(c,o),n] w fun e w'=>e=.returned (.tuple #[])/\w'=Y.eL w ⟨c,o,none⟩ l n:=by
 have he:=mE w c o l hc;have n3:w.cell? (n,3)=some v:=zaX;have f3:w.frozen? (n,3)=false:=by simp[World.frozen?,hn]
 unfold Y.eL;cases hz:l.getLast? with
 |none=>
  have hl:l=[]:=R7.1 hz;subst hl;unfold Y.aN at hc;simp only[List.getLast?_nil]at hc;have c1:(w.setCell (n,3) n).cell? (c,o)=_:=(aA (w:=w) zcv).trans hc;have f1:(w.setCell (n,3) n).frozen? (c,o)=false:=by rw[R8];exact Xj
  simp only[List.isEmpty_nil]at he;clear hR hn hz;unfold Y.ndP;exact zdt
 |some z=>
  have U9:l≠[]:=fun e=>zaZ;have hlen:0<l.length:=Ry.2 U9;have Xa:l[l.length-1]?=some z:=zaA;obtain⟨f,hf⟩:∃f,l[0]?=some f:=⟨_,Pp hlen⟩;have Zb:z.1∈l.map (·.1):=P0.2 ⟨z,PD Xa,rfl⟩;have hzn:n≠z.1:=fun e=>WC (e▸Zb);have hcz:c≠z.1:=fun e=>Vu (e▸Zb);rw[Y.jG hf];have hez:l.isEmpty=false:=by cases l with|nil=>simp at hz|cons a l=>rfl
  rw[hez]at he;have Z0:=hR _ z Xa;rw[Y.jG hf]at Z0;unfold Y.aN at hc;rw[hz]at hc;unfold Y.ndP at hc Z0⊢;obtain⟨zb,zt⟩:=z;obtain⟨fb,ft⟩:=f;dsimp only at hc Z0 hzn hcz⊢;have z3:w.cell? (zb,3)=some ↑fb:=by rw[Pt w _ _ _ _ _ Z0];rfl
  have fz3:w.frozen? (zb,3)=false:=by simp[World.frozen?,Z0]
  have c1:(w.setCell (n,3) fb).cell? (c,o)=_:=(aA (w:=w) zcv).trans hc;have z31:(w.setCell (n,3) fb).cell? (zb,3)=_:=(aA (w:=w) (by intro h;injection h with h1;exact hzn h1)).trans z3;have fz31:(w.setCell (n,3) fb).frozen? (zb,3)=false:=by rw[R8];exact fz3
  have c2:((w.setCell (n,3) fb).setCell (zb,3) n).cell? (c,o)=_:=(aA (w:=_) (by intro h;injection h with h1;exact hcz h1.symm)).trans c1;have f2:((w.setCell (n,3) fb).setCell (zb,3) n).frozen? (c,o)=false:=by rw[R8,R8];exact Xj
  clear hR hn hz Xa hf Zb Z0 hez hlen U9 WC Vu;exact zdt
end
section
open Go.RowKit
def Hz{α:Type}(F:Fence)(n:Nat)(P:Program)(g:Nat)(lb:Array Value)(encs:α->Array Value)(Kp:World->World->Prop)(Rd:List α->World->Prop)(Nx:List α->α->Prop)(S:List α->Prop)(w:World):Prop:=
 ∀(l:Nat) (J:List α->World->Prop) (W:World),Below w w W->w.heap.size+2<=W.heap.size->OwnFrom W.heap.size J->(∀xs V,J xs V->Rd xs V) ->
  (∀xs x V,J xs V->Nx xs x->YieldAt F (n-1) P l (encs x) V fun e V'=>e=.returned true/\J (xs++[x]) V'/\Kp V V')->J [] W ->
  CallsIn F n P g (#[.func (.yield l) #[] #[]]++lb) W fun e V=>(∃v,e=.returned v)/\∃xs,S xs/\J xs V
theorem uj{α:Type}{F:Fence}{P:Program}{ps:Array Tmp}{a:Act}(hro:F.round=none)(h1:1<=n){gf:Nat}{lb:Array Value}
  (hg:a.eval g=.func (.func gf) #[] lb) (hF:F.fn gf) (eg:∀args w,(callFunc gf args).run P w=.ok (.enter gf args) w) {encs:α->Array Value} {Kp:World->World->Prop} {Rd:List α->World->Prop} {Nx:List α->α->Prop} {S:List α->Prop}
  (hseq:Hz F (n-1) P gf lb encs Kp Rd Nx S w)
  (hKt:∀{A B C:World},Kp A B->Kp B C->Kp A C) (hKb:∀(W:World) (o o':Obj),W.heap[w.heap.size+1]?=some o->o.isCells=false->Kp W (W.putObj (w.heap.size+1) o')) (hps:∀x,(encs x).size=ps.size) (I:List α->World->Prop) (hI:OwnFrom w.heap.size I) (Zl:∀xs V,I xs V->Rd xs V) (h0:I [] w)
  (Ax:α->Act->World->Prop) (hAx:∀x a',OwnFrom w (fun(_:Unit) W=>Ax x a' W))
  (VC:∀(l:Nat) (xs:List α) (x:α) (W:World) (K:Act->World->Prop),I xs W->(∀a' W',KeepsFrom w W W'->Kp W W'->I xs W'->Ax x a' W'->K a' W')->assign.wpIn (F.inRound l) (n-1-1) P (Exit.then K (fun _ _ _=>False)) { tmps:=(ps.zip (encs x)).foldl (fun t (p,v)=>t.setIfInBounds p v) a.tmps,defers:=[] } W)
  (Wp:∀(l:Nat) (xs:List α) (x:α) (a':Act) (W:World),w.heap.size<=l->(∃r,W.heap[l]?=some (.loop r))->Nx xs x->I xs W->Ax x a' W->body.wpIn (F.inRound l) (n-1-1) P (Exit.then (fun _ V=>KeepsFrom w.heap.size W V/\Kp W V/\I (xs++[x]) V) (fun _ _ _=>False)) a' W)
  (Wx:∀(D:Nat) (xs:List α) (W:World),w.heap.size<=D->S xs->I xs W->W.heap[D]?=some (.deferred (some []))->Q .normal { a with defers:={ target:=.collected D,args:=#[] }::a.defers } W):
  (Code.rangeFunc g ps assign body).wpIn F n P Q a w:=by
 refine wpIn_rangeFunc fun fn YA=>?_;rw[hro];obtain⟨lp,Yg⟩:∃lp:LoopState->Loop,lp=fun st=>{ state:=st,pending:=none,fn,tmps:=a.tmps,params:=ps,assign,body,defers:=w.heap.size }:=⟨_,rfl⟩;have XO:=Uh (P:=P) (w:=w) fn a.tmps ps assign body;obtain⟨V,hV⟩:∃V,(w.alloc (.deferred (some []))).alloc (.loop (lp .ready))=V:=⟨_,rfl⟩;have hb:Below w w V:=hV▸(((Pq _ w).alloc (Po _) _).alloc zad _);have hj:I [] V/\V.heap[w.heap.size+1]?=some (.loop (lp .ready))/\V.heap[w.heap.size]?=some (.deferred (some [])):=by
  rw[<- hV];exact⟨hI.alloc _ (hI.alloc _ h0),by have:=PG (w.alloc (.deferred (some []))) (.loop (lp .ready));simpa using this,(QS _ _ _ zad).trans (PG w _)⟩
 refine⟨w.heap.size+1,[{ target:=.collected w.heap.size,args:=#[] }],V,{ target:=.fn (.func gf) lb,args:=#[.func (.yield (w.heap.size+1)) #[] #[]] },V,gf,#[.func (.yield (w.heap.size+1)) #[] #[]]++lb,V,
  zbV,zbI,fun f' hf'=>zbE,zbX,fun _=>h1,?_⟩
 have hvs:V.heap.size=w.heap.size+2:=by rw[<- hV];simp
 refine(hseq (w.heap.size+1) (fun xs W=>I xs W/\W.heap[w.heap.size+1]?=some (.loop (lp .ready))/\W.heap[w.heap.size]?=some (.deferred (some []))) V hb zaa (fun xs A B row h Xb hr=>?_) (fun xs W h=>Zl xs W h.1) ?_ hj).mono ?_
 ·obtain⟨hi,hl,hd⟩:=h;refine⟨hI xs A B row hi Xb (fun r e=>⟨zas,(hr r e).2⟩),(Xb.block _ (Pn.1 hl).1 (fun e=>?_)).trans hl,(Xb.block _ (Pn.1 hd).1 (fun e=>?_)).trans hd⟩
  ·exact zfv
  ·exact zfv
 ·intro xs x W ⟨hi,hl,hd⟩ hnx;have hy:=run_yield (P:=P) (args:=encs x) hl (by rw[Yg];exact hps x);rw[Yg]at hy;refine⟨fn,_,assign,body,hy,roundIn_of_wpIn YA (VC _ xs x W _ hi fun a' Wa X4 hkp hia hax=>⟨_,run_beginRound (X4.same _ _ zaa hl rfl) (by rw[Yg]),?_⟩)⟩;have hl:=X4.same _ _ zaa hl rfl;have hd:=X4.same _ _ (Po _) hd rfl;have Vd:=(Pn.1 hl).1;have k1:=hKb Wa _ (.loop { lp .ready with state:=LoopState.busy }) hl rfl;refine wpIn_mono (Wp _ xs x a' _ zaa ⟨_,Rs Vd⟩ hnx (hI.putObj _ hia zaa hl rfl) ((hAx x a').putObj (s:=()) _ hax zaa hl rfl)) ?_;intro e a' W' hp;cases e with
  |normal=>
   obtain⟨hk,k2,XJ⟩:=hp;have YS:=hk.same _ _ zaa (Rs Vd) rfl;have hd':=hk.same _ _ (Po _) ((Qs zaa).trans hd) rfl;have hr:=run_endRound (P:=P) none YS;have Xv:({ { lp .ready with state:=LoopState.busy } with state:=LoopState.ready,pending:=none }:Loop)=lp .ready:=by rw[Yg]
   refine⟨_,_,hr,rfl,⟨hI.putObj _ XJ zaa YS rfl,?_,(Qs zaa).trans hd'⟩,hKt hkp (hKt k1 (hKt k2 (hKb _ _ _ YS rfl)))⟩;rw[Rs (Pn.1 YS).1];exact congrArg (fun r=>some (Obj.loop r)) Xv
  |_=>exact hp.elim
 ·intro e W ⟨⟨v,hv⟩,xs,hS,hi,hl,hd⟩;exact zdR
def KpM(B:Nat->TypeId->Prop)(W W':World):Prop:=W.heap.size<=W'.heap.size/\∀(k:Nat) (c:Array Value) (t:TypeId) (f:Nat×Nat),W.heap[k]?=some (.cells c t f)->¬B k t->W'.heap[k]?=some (.cells c t f)
theorem KpM.refl(B:Nat->TypeId->Prop)(W:World):KpM B W W:=⟨Po _,fun _ _ _ _ h _=>h⟩
theorem KpM.tr(h:KpM B X V)(k:KpM B V Z):KpM B X Z:=⟨Pr h.1 k.1,fun i c t f hi hn=>k.2 i c t f (h.2 i c t f hi hn) hn⟩
theorem KpM.put(W:World)(l:Nat)(o o':Obj)(h:W.heap[l]?=some o)(ho:o.isCells=false):KpM B W (W.putObj l o'):=⟨by simp[World.putObj],fun k c t f hk _=>by
 by_cases e:l=k
 ·subst e;rw[h]at hk;cases hk
  cases ho
 ·exact(Qs zaa).trans hk⟩
theorem KpM.below(h:Below W W W'):KpM B W W':=⟨h.size,fun k _ _ _ hk _=>(h.block k (Pn.1 hk).1).trans hk⟩
theorem KpM.set(W:World)(p:Addr)(v:Value)(hp:∀t,B p.block t):KpM B W (W.setCell p v):=⟨zad,fun k _ t _ hk hn=>(Qg W p v k (fun e=>hn (e▸hp t))).trans hk⟩
theorem KpM.cell(h:KpM B W W')(hc:W.cell? p=some v)(hn:∀t,¬B p.block t):W'.cell? p=some v:=by
 have:∃c t f,W.heap[p.block]?=some (.cells c t f):=by
  unfold World.cell? at hc;split at hc
  ·rename_i c e f hb;exact⟨_,_,_,hb⟩
  ·cases hc
 obtain⟨c,t,f,hb⟩:=this;rw[<- hc];exact PN (w:=W) ((h.2 _ _ _ _ hb (hn _)).trans hb.symm)
theorem o8(h:Below W W W')(hc:W.cell? p=some v):W'.cell? p=some v:=(KpM.below (B:=fun _ _=>False) h).cell hc (fun _ h=>h)
theorem KpM.own{β:Type}:OwnFrom n (fun(_:β) W=>KpM B W0 W):=fun _ X V row h hg hr=>h.tr ⟨hg.size,fun k c t f hk _=>(hg.block k (Pn.1 hk).1 (fun e=>by
 obtain⟨_,o,ho,hc⟩:=hr k e.symm;rw[hk]at ho;cases ho
 cases hc)).trans hk⟩
def KpN(B:Nat->TypeId->Prop)(lo:Nat)(W W':World):Prop:=KpM B W W'/\KeepsFrom lo W W'
theorem KpN.refl(B:Nat->TypeId->Prop)(lo:Nat)(W:World):KpN B lo W W:=⟨KpM.refl _ _,QP _ _⟩
theorem KpN.tr(h:KpN B lo X V)(k:KpN B lo V Z):KpN B lo X Z:=⟨h.1.tr k.1,h.2.trans k.2⟩
theorem KpN.put{l:Nat}(hl:l<lo)(W:World)(o o':Obj)(h:W.heap[l]?=some o)(ho:o.isCells=false):KpN B lo W (W.putObj l o'):=⟨KpM.put W l o o' h ho,KeepsFrom.of_grownBy (Q4 W l o') (fun j e=>by cases e;exact hl)⟩
theorem KpN.below(h:Below W W W'):KpN B lo W W':=⟨KpM.below h,⟨h.size,fun k _ _ hk _=>(h.block k (Pn.1 hk).1).trans hk⟩⟩
theorem KpN.set(W:World)(p:Addr)(v:Value)(hp:∀t,B p.block t):KpN B lo W (W.setCell p v):=⟨KpM.set W p v hp,(Qz W p v).from lo⟩
theorem KpN.own{β:Type}(hn:W0.heap.size<=n):OwnFrom n (fun(_:β) W=>KpN B lo W0 W):=(KpM.own).and (Uy hn)
def marks(Ds:List Nat):List Deferred:=Ds.map fun D=>{ target:=.collected D,args:=#[] }
theorem jb{F:Fence}{n:Nat}{P:Program}{fn:Func}{tmps:Array Value}{R:Ending->World->Prop}(Inv:World->Prop):∀(Ds:List Nat) (W:World),Ds.Nodup->(∀D∈Ds,W.heap[D]?=some (.deferred (some [])))->(∀D V,D∈Ds->Inv V->V.heap[D]?=some (.deferred (some []))->Inv (V.putObj D (.deferred none)))->(∀V,Inv V->LeavesIn F n P fn tmps R [] .returning V)->Inv W->LeavesInM F n P fn tmps R (marks Ds) .returning W
 |[],W,_,_,_,hR,hI=>hR W hI
 |D::Ds,W,hn,hD,hp,hR,hI=>by
  have h0:=hD D (PZ ..);obtain⟨hn1,hn2⟩:=Ta.1 hn;refine⟨zad,.inl ⟨D,_,rfl,Qn h0,?_⟩⟩;refine jb Inv Ds _ hn2 (fun E hE=>(Qs (r:=D) (k:=E) (fun e=>hn1 (e▸hE))).trans (hD E (P3 _ hE))) (fun E V hE=>hp E V (P3 _ hE)) hR (hp D W (PZ ..) hI h0)
