import Derived.Test.YtobhbhmjajobjaaGreatDoorM00
set_option maxRecDepth 100000
set_option maxHeartbeats 8000000
namespace Go.Proofs.YtobhbhmjajobjaaGreatDoor
variable {zp:Prop}
theorem zcV (h:zp:=by
 refine tH 18 (.int .u32 ((q.inside|||(p.inside|||t):Nat):Int)) rfl u0 ?_;refine tH 19 (.pointer (some ⟨b,ow*10,none⟩)) rfl u0 ?_;refine tH 20 (.pointer (some ⟨b,ow*10+5,none⟩)) rfl u0 ?_;refine zH 21 rfl fun K hK => ?_;go_simp;refine hK.out _ _ (by
  have e:∀ (a:Addr),a≠⟨b,ow*10+5,none⟩->∀ v,(W.setCell ⟨b,ow*10+5,none⟩ v).drew.cell? a=W.drew.cell? a:=fun a ha v=>az (fun h=>ha h.symm)
  (try dsimp only at u0);(try dsimp only)
  rw [e _ zak,e _ zak,e _ zak,e _ zak,e _ zak];exact u0) (fun u0 => ?_)
 clear hK K;refine MY zab ?_ _;unfold og;gi_wp2;refine ⟨zad,.inl ⟨_,_,rfl,Nq hK8,?_⟩⟩;exact ⟨_,NF rfl _ _ _,rfl,hfin⟩):zp:=h
theorem zdG (h:zp:=by
 go_enter func203,ntmps203;go_wp2_with (go_at_call 202;refine he.mono ?_;rintro e w9 ⟨rfl,hw9⟩;rw [hw9];clear hw9 w9);go_end0;exact ⟨rfl,rfl⟩):zp:=h
theorem zd3 (h:zp:=by
 subst hv;exact ⟨none,_,zaT,hdone _ xs _ (Mt _) hS (hI.putObj _ hi zaa hl rfl) ((Nu zaa).trans hd)⟩):zp:=h
theorem zet (h:zp:=by
 intro l pre x W K hI hK;gi_wp2;exact hK _ _ (NR _ _) (fun h=>h) hI rfl):zp:=h
theorem zeJ (h:zp:=by
 go_enter func202,ntmps202;go_wp2;go_ret;exact ⟨rfl,rfl⟩):zp:=h
theorem zfk (h:zp:=by
 simp [results,Tryz.f147,go_sem,hc5]):zp:=h
theorem zfp (h:zp:=by
 have:=(hr _ e.symm).1;omega):zp:=h
theorem zak (h:zp:=by intro h;injection h with h1 h2;omega):zp:=h
theorem zat (h:zp:=by have:=(hr r e).1;omega):zp:=h
theorem zaA (h:zp:=by rw [<- Od];exact hz):zp:=h
theorem zaL (h:zp:=by rw [Pg.cd];exact hS):zp:=h
theorem zaT (h:zp:=by have:=Q9 (P:=P) hl (by rw [hlp];simp);rw [hlp] at this;exact this):zp:=h
theorem zaV (h:zp:=by rw [My w _ _ _ _ _ hn];rfl):zp:=h
theorem zaX (h:zp:=by rw [e] at hz;simp at hz):zp:=h
theorem za4 (h:zp:=by rw [hk];rfl):zp:=h
theorem zbq (h:zp:=by simpa using hk):zp:=h
theorem zby (h:zp:=by simp [Target.leads] at hf';exact hf' ▸ hF):zp:=h
theorem zbB (h:zp:=by intro x;injection x with x1 x2;omega):zp:=h
theorem zbC (h:zp:=by simp only [resolve,hg];simp [go_sem]):zp:=h
theorem zbO (h:zp:=by rw [<- hV,hlp];exact hent):zp:=h
theorem zbQ (h:zp:=by simp [invoke,go_sem,eg]):zp:=h
theorem zcm (h:zp:=by have:=(Mx.1 hv).1;simpa [PS.cells] using this):zp:=h
theorem zcn (h:zp:=by intro h;injection h with h1;exact hcn h1.symm):zp:=h
open Tryz
variable {c a w W W' b W0 X Y Z:World} {P:Nat->Prop} {Q:Exit->Act->World->Prop} {i n pb cap lo:Nat} {B:Nat->TypeId->Prop} {t:TypeId} {v:Value} {g:Operand} {assign body:Code} {p:Addr}
section
open Go.RowKit Go.Proofs Go.Shelf
attribute [local go_sem] Nw
def og (Q:Exit->Act->World->Prop):Exit->Act->World->Prop
 | .normal,a,w=>Q .normal a w
 | .ret,_,_=>False
 | .exit _,_,_=>False
 | .goto _,_,_=>False
 | .panic _,_,_=>False
 | .outgrown,_,_=>False
theorem jQ {c:Code} {P:Program} {a:Act} (h:c.wp P (og Q) a w):c.wp P Q a w:=fun b k cs=>by
 obtain ⟨e,a',w',q,r⟩:=h b k cs;cases e <;> first | exact q.elim | exact ⟨_,_,_,q,r⟩
namespace Pg
def lh (ps:List PS) (i:Nat):Int:=match ps[i]? with | some p=>p.kind | none=>1
def dom (ps:List PS) (i j:Nat):Nat:=match (els (je ps i&&&je ps j)).reverse.find? (fun k=>lh ps k == 0) with | some k=>jh ps k | none=>2 ^ ps.length-1
theorem I3 {f:Nat->Bool} {l q:List Nat} (h:q++[i] <+: l) (hq:∀ j∈q,f j=false) (hi:f i=true):l.find? f=some i:=by
 obtain ⟨t,rfl⟩:=h;rw [On,List.find?_append];have:q.find? f=none:=List.find?_eq_none.2 fun x hx=>by rw [hq x hx];decide
 rw [this];simp [hi]
end Pg
theorem DH (n:Nat) (hn:3<=n) (w:World) (pb b cap:Nat) (ps:List Pg.PS) (i j:Nat) (p q:Pg.PS) (hpi:ps[i]?=some p) (hqj:ps[j]?=some q) (hin:∀ i,i∈Pg.els (p.around&&&q.around)->i<ps.length) (hP:Pg.bW w pb b cap ps) (hpb:pb<w.heap.size) (hb:b<w.heap.size) :
  CallsIn Fence.wide n prog 153 #[pb,(i:Int),(j:Int)] w fun e w'=>e = .returned (.int .u32 (Pg.dom ps i j))/\Below w w w':=by
 have h1:1<=n:=zaa;have hil:i<ps.length:=(Mx.1 hpi).1;have hjl:j<ps.length:=(Mx.1 hqj).1;have hlen:=hP.len;have sp:=(hP.sm i p hpi).ha;have sq:=(hP.sm j q hqj).ha;have ha1:=PI _ _ sp sq;have hs:p.around&&&q.around<4294967296:=Pg.jW sp;refine Nz func153 rfl trivial ?_ rfl;simp only [ntmps153,List.size_toArray,List.length_cons,List.length_nil,Nat.reduceAdd,Nat.reduceSub,Array.replicate_succ,Array.replicate_zero,List.push_toArray,List.append_toArray,List.nil_append,List.cons_append];gi_wp2;have c0:=M7 w 74 pb;have c1:=M7 (w.alloc (.cells #[pb] 74)) 76 (.int .u32 0);simp only [World.size_alloc] at c1;have c0:=c0.alloc (.cells #[.int .u32 0] 76);have hB0:Below w w ((w.alloc (.cells #[pb] 74)).alloc (.cells #[.int .u32 0] 76)):=((Mw _ w).alloc (Mt _) _).alloc zad _;obtain ⟨W0,hW0⟩:∃ W0,(w.alloc (.cells #[pb] 74)).alloc (.cells #[.int .u32 0] 76)=W0:=⟨_,rfl⟩;have hsz:W0.heap.size=w.heap.size+1+1:=by rw [<- hW0];simp
 rw [hW0] at c0 c1 hB0 ⊢;have hP0:=hP.below hB0 hpb hb;refine Rj.2 (jQ ?_);refine MP (S:=(fun V=>V.cell? w=some ↑pb/\V.cell? pb=some (.slice b ps.length cap)/\V.cell? ⟨b,i*10+6,none⟩=some (.int .u32 p.around)/\V.cell? ⟨b,j*10+6,none⟩=some (.int .u32 q.around))) zab ⟨c0.cell,hP0.row,(hP0.at' i p hpi).c6,(hP0.at' j q hqj).c6⟩ (fun u0 => ?_);refine tH 0 pb rfl u0 ?_;refine tH 1 pb rfl u0 ?_;refine tH 2 pb rfl u0 ?_;refine tH 3 (.slice b ps.length cap) rfl u0 ?_;refine tH 4 (.int .i64 i) rfl u0 ?_;refine tH 5 (.pointer (some ⟨b,i*10,none⟩)) rfl u0 ?_;refine tH 6 (.pointer (some ⟨b,i*10+6,none⟩)) rfl u0 ?_;refine tH 7 (.int .u32 p.around) rfl u0 ?_;refine tH 8 pb rfl u0 ?_;refine tH 9 pb rfl u0 ?_;refine tH 10 pb rfl u0 ?_;refine tH 11 (.slice b ps.length cap) rfl u0 ?_;refine tH 12 (.int .i64 j) rfl u0 ?_;refine tH 13 (.pointer (some ⟨b,j*10,none⟩)) rfl u0 ?_;refine tH 14 (.pointer (some ⟨b,j*10+6,none⟩)) rfl u0 ?_;refine tH 15 (.int .u32 q.around) rfl u0 ?_;refine tH 16 (.int .u32 ((p.around&&&q.around:Nat):Int)) rfl u0 ?_;refine zH 17 rfl fun K hK => ?_;go_simp;refine (nF _ _).mono ?_;rintro e w9 ⟨rfl,rfl⟩;have hB1:Below w w (W0.drew.alloc (.cells #[.int .u32 ((p.around&&&q.around:Nat):Int)] 76)):=(hB0.trans (Mw _ W0).drew).alloc (by simp [hsz];omega) _;have d0:=Boxed.alloc (W:=W0.drew) (show Boxed W0.drew _ _ _ from c0) (.cells #[.int .u32 ((p.around&&&q.around:Nat):Int)] 76);have d1:=Boxed.alloc (W:=W0.drew) (show Boxed W0.drew _ _ _ from c1) (.cells #[.int .u32 ((p.around&&&q.around:Nat):Int)] 76);have d2:=M7 W0.drew 76 (.int .u32 ((p.around&&&q.around:Nat):Int));have hsz':W0.drew.heap.size=w.heap.size+1+1:=hsz;rw [hsz'] at d2 ⊢;have hP1:=hP.below hB1 hpb hb;refine hK.out _ _ ⟨d0.cell,hP1.row,(hP1.at' i p hpi).c6,(hP1.at' j q hqj).c6⟩ (fun u0 => ?_);clear hK K u0;refine MY zab ?_ _;unfold og;gi_wp2;obtain ⟨W1,hW1⟩:∃ W1,(W0.alloc (.cells #[.int .u32 ((p.around&&&q.around:Nat):Int)] 76)).drew=W1:=⟨_,rfl⟩;have hW1':W0.drew.alloc (.cells #[.int .u32 ((p.around&&&q.around:Nat):Int)] 76)=W1:=hW1;have hsz1:W1.heap.size=w.heap.size+1+1+1:=by rw [<- hW1',NH,hsz']
 rw [hW1'] at d0 d1 d2 hB1 hP1;rw [hW1];clear hW1 hW1' hW0 hB0 hP0 c0 c1 hsz hsz';have hdm:Pg.dom ps i j=match (Pg.els (p.around&&&q.around)).reverse.find? (fun k=>Pg.lh ps k == 0) with | some k=>Pg.jh ps k | none=>2 ^ ps.length-1:=by
  unfold Pg.dom Pg.je;rw [hpi,hqj]
 generalize hsd:p.around&&&q.around=s at *;refine Qf rfl h1 (gf:=232) (lb:=#[↑(w.heap.size+1+1)]) rfl trivial (ON func232 zab rfl)
  (kV (n-1) zaa (w.heap.size+1+1) s hs _ zaa d2.cell) (fun _ _=>trivial) (fun _ _ _ _ _ _ _ _=>trivial) (Mw _ _) (fun _=>rfl)
  (fun pre W=>((∀ k∈Pg.aX pre,(Pg.lh ps k == 0)=false)/\Boxed W w 74 pb/\Boxed W (w.heap.size+1) 76 (.int .u32 0))/\Below w w W)
  (fun c pre W=>((c = .ret/\∃ (l:List Nat) (k:Nat),Pg.aX pre=l++[k]/\(∀ k∈l,(Pg.lh ps k == 0)=false)/\(Pg.lh ps k == 0)=true)/\∃ k,(Pg.aX pre).getLast?=some k/\Boxed W (w.heap.size+1) 76 (.int .u32 (Pg.jh ps k)))/\Below w w W)
  (Nh (Nh (fun _ _ _ _ h _ _=>h) (Nh (NX (NN _ _ _) _) (NX (NN _ _ _) _))) (Oq (Mt _) zaa))
  (fun c=>Nh (Nh (fun _ _ _ _ h _ _=>h) (fun s0 A B row h hg hr=>by
   obtain ⟨k,hk,hb⟩:=h;exact ⟨k,hk,(NX (NN (w.heap.size+1) 76 (fun _:Unit => .int .u32 (Pg.jh ps k))) _) () A B row hb hg hr⟩)) (Oq (Mt _) zaa))
  ⟨⟨fun k hk=>(by cases hk),d0,d1⟩,hB1⟩
  (fun x=>{ tmps:=#[.pointer (some ⟨pb,0,none⟩),.int .i64 i,.int .i64 j,.pointer (some ⟨w.heap.size,0,none⟩),undef,undef,.pointer (some ⟨w.heap.size+1,0,none⟩),.int .i64 x.1,.pointer (some ⟨pb,0,none⟩),.pointer (some ⟨pb,0,none⟩),.pointer (some ⟨pb,0,none⟩),.slice (some ⟨b,0,none⟩) ps.length cap,.int .i64 i,.pointer (some ⟨b,i*10,none⟩),.pointer (some ⟨b,i*10+6,none⟩),.int .u32 p.around,.pointer (some ⟨pb,0,none⟩),.pointer (some ⟨pb,0,none⟩),.pointer (some ⟨pb,0,none⟩),.slice (some ⟨b,0,none⟩) ps.length cap,.int .i64 j,.pointer (some ⟨b,j*10,none⟩),.pointer (some ⟨b,j*10+6,none⟩),.int .u32 q.around,.int .u32 s,.func (.func 232) #[] #[.pointer (some ⟨w.heap.size+1+1,0,none⟩)],.int .i64 x.1,undef,undef,undef,undef,undef,undef,undef,undef,undef,undef,undef,undef,undef,undef,undef,undef,undef,undef,undef,undef,undef,undef,undef,undef],defers:=[] }) ?assign ?body ?done ?stop
 case assign =>
  exact zfn
 case body =>
  rintro l pre x W ⟨⟨hne,hp,hr⟩,hB⟩ _;have hxl:=hin x.1 x.2;obtain ⟨px,hpx⟩:∃ p,ps[x.1]?=some p:=⟨_,Mu hxl⟩;have hPW:=hP.below hB hpb hb;have hpc:=hp.cell;have hrc:=hr.cell;have hrf:=hr.frozen;have hrow:=hPW.row;have k0:=(hPW.at' x.1 px hpx).c0;have k5:=(hPW.at' x.1 px hpx).c5;have hkA:Pg.lh ps x.1=px.kind:=by unfold Pg.lh;rw [hpx]
  have hiA:Pg.jh ps x.1=px.inside:=by unfold Pg.jh;rw [hpx]
  have hv:=Pg.dS pre x;have hset:Boxed (W.setCell ⟨w.heap.size+1,0,none⟩ (.int .u32 px.inside)) (w.heap.size+1) 76 (.int .u32 (Pg.jh ps x.1)):=by
   rw [hiA];exact QX _ hr
  have hBs:∀ v,Below w w (W.setCell ⟨w.heap.size+1,0,none⟩ v):=fun v=>hB.setCell (p:=⟨w.heap.size+1,0,none⟩) zad _;gi_wp2
  ·rename_i hk;exact ⟨NB _ _ _,⟨⟨rfl,Pg.aX pre,x.1,hv,hne,by rw [hkA];exact hk⟩,x.1,by rw [hv];simp,hset⟩,hBs _⟩
  ·rename_i hk;refine ⟨KeepsOthers.refl _,trivial,⟨?_,hp,hr⟩,hB⟩;intro k hm;rw [hv] at hm
   rcases MU.1 hm with h | h
   ·exact hne k h
   ·rw [ME.1 h,hkA];exact hk
 case done =>
  rintro D ys W hD hys ⟨⟨hne,hp,hr⟩,hB⟩ hK;rw [Pg.cd,hys] at hne;have hfn:(Pg.els s).reverse.find? (fun k=>Pg.lh ps k == 0)=none:=List.find?_eq_none.2 fun k hk=>by rw [hne k hk];decide
  rw [hfn] at hdm;have hPW:=hP.below hB hpb hb;have hpc:=hp.cell;have hrc:=hr.cell;have hrf:=hr.frozen;have hrow:=hPW.row;have hone:=fun w=>ir ps.length w zaa;have hm1:=N8 ps.length;have hm2:=fZ (i:=ps.length) zaa;generalize 2 ^ ps.length=m at *;have hsub:((m:Int)-1)=((m-1:Nat):Int):=zaa;gi_wp2_with (refine ⟨trivial,?_⟩;gi_at_call 94;refine (M6.2 (hone _)).mono ?_;rintro e w9 ⟨rfl,hw9⟩;rw [hw9];clear hw9 w9);have hK':=(NB W ⟨w.heap.size+1,0,none⟩ (.int .u32 ((m-1:Nat):Int))).same D _ hK rfl;refine ⟨zad,.inl ⟨_,_,rfl,Nq hK',?_⟩⟩;have hc5:=cell_kept (QX (.int .u32 ((m-1:Nat):Int)) hr).cell (N9 _ D (.deferred none)) (fun r e=>by cases e;exact ⟨_,hK',rfl⟩)
  refine ⟨.int .u32 ((m-1:Nat):Int),?_,by rw [hdm],(hB.setCell (p:=⟨w.heap.size+1,0,none⟩) zad _).trans (OV (w:=w) (Mt _) _ D _ _ zaa hK' rfl rfl)⟩;simp [results,Tryz.f153,go_sem,hc5]
 case stop =>
  rintro D c pre W hD hpre ⟨⟨⟨rfl,l,k,hl,hq,hk⟩,k',hk',hr⟩,hB⟩ hK;rw [hl] at hk';have hkk:k=k':=by simpa using hk'
  subst hkk;rw [<- Pg.cd,hl] at hpre;rw [Pg.I3 hpre hq hk] at hdm;gi_wp2;refine ⟨zad,.inl ⟨_,_,rfl,Nq hK,?_⟩⟩;have hc5:=cell_kept hr.cell (N9 _ D (.deferred none)) (fun r e=>by cases e;exact ⟨_,hK,rfl⟩);refine ⟨.int .u32 (Pg.jh ps k),?_,rfl,hB.trans (OV (w:=w) (Mt _) W D _ _ zaa hK rfl rfl)⟩;simp [results,Tryz.f153,go_sem,hc5]
theorem AK (w:World) (pb b cap:Nat) (ps:List Pg.PS) (i:Nat) (p:Pg.PS) (fin act:Nat) (hpi:ps[i]?=some p) (hk:(p.kind != 1)=true) (hfin:w.cell? ⟨pb,2,none⟩=some (.int .u32 fin)) (hf:fin<4294967296) (ha:act<4294967296) (hP:Pg.bW w pb b cap ps) (hpb:pb<w.heap.size) (hb:b<w.heap.size) :
  () 147 #[pb,(i:Int),.int .u32 act] w fun e w'=>e = .returned (.bool (p.parts&&&fin&&&act != 0))/\Below w w w':=by
 have hil:i<ps.length:=(Mx.1 hpi).1;have hlen:=hP.len;have sp:=(hP.sm i p hpi).hp;have ha1:=PI _ _ sp hf;have ha2:=PI _ _ (Pg.jW (b:=fin) sp) ha;obtain ⟨r,hr⟩:∃ r,(p.parts&&&fin&&&act != 0)=r:=⟨_,rfl⟩;have hrI:(((p.parts&&&fin&&&act:Nat):Int) != 0)=r:=by
  rw [<- hr];cases h:(p.parts&&&fin&&&act)
  ·rfl
  ·simp;omega
 rw [hr];have c0:=M7 w 74 pb;have c1:=M7 (w.alloc (.cells #[pb] 74)) 76 (.int .u32 act);have c2:=M7 ((w.alloc (.cells #[pb] 74)).alloc (.cells #[.int .u32 act] 76)) 4 (.bool false);simp only [World.size_alloc] at c1 c2;have c0:=(c0.alloc (.cells #[.int .u32 act] 76)).alloc (.cells #[false] 4);have c1:=c1.alloc (.cells #[false] 4);have hB0:Below w w (((w.alloc (.cells #[pb] 74)).alloc (.cells #[.int .u32 act] 76)).alloc (.cells #[false] 4)):=(((Mw _ w).alloc (Mt _) _).alloc zad _).alloc zaf _;have hP0:=hP.below hB0 hpb hb;have hF0:=(hB0.cell (p:=⟨pb,2,none⟩) hpb).trans hfin;have h0:=hP0.row;have k0:=(hP0.at' i p hpi).c0;have k4:=(hP0.at' i p hpi).c4;have q0:=c0.cell;go_enter func147,ntmps147;go_wp2;obtain ⟨W0,hW0⟩:∃ W0,((w.alloc (.cells #[pb] 74)).alloc (.cells #[.int .u32 act] 76)).alloc (.cells #[false] 4)=W0:=⟨_,rfl⟩;rw [hW0] at c0 c1 c2 hB0 hF0 h0 k0 k4 q0 ⊢;have hrc:=c2.cell;have hrf:=c2.frozen;refine jQ ?_;refine MP (S:=(fun V=>V.cell? w=some ↑pb/\V.cell? ⟨pb,2,none⟩=some (.int .u32 fin)/\V.cell? ⟨b,i*10+4,none⟩=some (.int .u32 p.parts)/\V.cell? ⟨w.heap.size+1,0,none⟩=some (.int .u32 act))) zab ⟨c0.cell,hF0,k4,c1.cell⟩ (fun u0 => ?_);refine tH 0 (.pointer (some ⟨b,i*10,none⟩)) rfl u0 ?_;refine tH 1 (.pointer (some ⟨b,i*10,none⟩)) rfl u0 ?_;refine tH 2 (.pointer (some ⟨b,i*10+4,none⟩)) rfl u0 ?_;refine tH 3 (.int .u32 p.parts) rfl u0 ?_;refine tH 4 pb rfl u0 ?_;refine tH 5 pb rfl u0 ?_;refine tH 6 (.pointer (some ⟨pb,2,none⟩)) rfl u0 ?_;refine tH 7 (.int .u32 fin) rfl u0 ?_;refine tH 8 (.int .u32 ((p.parts&&&fin:Nat):Int)) rfl u0 ?_;refine tH 9 (.int .u32 act) rfl u0 ?_;refine tH 10 (.int .u32 ((p.parts&&&fin&&&act:Nat):Int)) rfl u0 ?_;refine tH 11 (.bool r) rfl u0 ?_;refine zH 12 rfl fun K hK => ?_;go_simp;refine hK.out _ _ (by
  have e:∀ (a:Addr),a.block≠w.heap.size+1+1->∀ v,(W0.setCell ⟨w.heap.size+1+1,0,none⟩ v).drew.cell? a=W0.drew.cell? a:=fun a ha v=>World.cell?_setCell_far W0 _ _ _ (fun h=>ha h.symm)
  (try dsimp only at u0);(try dsimp only)
  rw [e _ zaf,e _ zaf,e _ zaf,e _ zad];exact u0) (fun _ => ?_)
 clear hK K;refine MY zab ?_ _;unfold og;go_wp2;have hc5:((W0.setCell ⟨w.heap.size+1+1,0,none⟩ (.bool r)).drew).cell? ⟨w.heap.size+1+1,0,none⟩=some (.bool r):=(QX (.bool r) c2).cell;refine Ob (v := .bool r) ?_ rfl ?_
 ·exact zfk
 ·exact ⟨rfl,(hB0.setCell (p:=⟨w.heap.size+1+1,0,none⟩) zaf _).trans (Mw _ _).drew⟩
attribute [local go_sem] Nw
namespace Pg
def atEnd (ps:List PS) (fin act:Nat):Nat->Nat->Bool
 | 0,_=>false
 | f+1,i=>match ps[i]? with
  | none=>false
  | some p=>if p.kind != 1 then p.parts&&&fin&&&act != 0 else (els p.parts).all (atEnd ps fin act f)
theorem dZ (h:Below W W W'):KeepsOthers W W':=⟨h.size,fun k _ hk _=>(h.block k (Ms.1 hk).1).trans hk⟩
theorem jy {B:Nat} (h:Boxed W B t v) (hB:Below W W W'):Boxed W' B t v:=(hB.block B h.lt).trans h
end Pg
theorem Dw (pb b cap:Nat) (ps:List Pg.PS) (fin act:Nat) (hf:fin<4294967296) (ha:act<4294967296) (hpt:∀ (i:Nat) (p:Pg.PS),ps[i]?=some p->∀ j∈Pg.els p.parts,i<j/\j<ps.length):∀ (f i:Nat) (p:Pg.PS) (w:World),ps.length-i<=f->ps[i]?=some p->w.cell? ⟨pb,2,none⟩=some (.int .u32 fin)->Pg.bW w pb b cap ps->pb<w.heap.size->b<w.heap.size->1<w.heap.size->TabAt 1 Lib.deBruijn32tab w ->
  () 147 #[pb,(i:Int),.int .u32 act] w fun e w'=>e = .returned (.bool (Pg.atEnd ps fin act f i))/\Below w w w':=by
 intro f
 induction f with
 | zero =>
  intro i p w hfu hpi;have hil:i<ps.length:=(Mx.1 hpi).1;omega
 | succ f ih =>
 intro i p w hfu hpi hfin hP hpb hb hg hT;have hil:i<ps.length:=(Mx.1 hpi).1;have hlen:=hP.len;by_cases hk:(p.kind != 1)=true
 ·have:Pg.atEnd ps fin act (f+1) i=(p.parts&&&fin&&&act != 0):=by
   rw [Pg.atEnd,hpi];simp only [hk,if_true]
  rw [this];exact AK w pb b cap ps i p fin act hpi hk hfin hf ha hP hpb hb
 have hk:(p.kind != 1)=false:=zbq;have hae:Pg.atEnd ps fin act (f+1) i=(Pg.els p.parts).all (Pg.atEnd ps fin act f):=by
  rw [Pg.atEnd,hpi];simp only [hk];rfl
 have hs:=(hP.sm i p hpi).hp;have hin:=hpt i p hpi;refine (M6 (n:=3)).1 ?_;have c0:=M7 w 74 pb;have c1:=M7 (w.alloc (.cells #[pb] 74)) 76 (.int .u32 act);have c2:=M7 ((w.alloc (.cells #[pb] 74)).alloc (.cells #[.int .u32 act] 76)) 4 (.bool false);have c3:=M7 (((w.alloc (.cells #[pb] 74)).alloc (.cells #[.int .u32 act] 76)).alloc (.cells #[false] 4)) 76 (.int .u32 p.parts);simp only [World.size_alloc] at c1 c2 c3;have hB0:Below w w (((w.alloc (.cells #[pb] 74)).alloc (.cells #[.int .u32 act] 76)).alloc (.cells #[false] 4)):=(((Mw _ w).alloc (Mt _) _).alloc zad _).alloc zaf _;have hP0:=hP.below hB0 hpb hb;have h0:=hP0.row;have k0:=(hP0.at' i p hpi).c0;have k4:=(hP0.at' i p hpi).c4;have q0:=((c0.alloc (.cells #[.int .u32 act] 76)).alloc (.cells #[false] 4)).cell;refine Nz func147 rfl trivial ?_ rfl;simp only [ntmps147,List.size_toArray,List.length_cons,List.length_nil,Nat.reduceAdd,Nat.reduceSub,Array.replicate_succ,Array.replicate_zero,List.push_toArray,List.append_toArray,List.nil_append,List.cons_append];gi_wp2_with (refine ⟨trivial,?_⟩;gi_at_call 93;refine (M6.2 (dy p.parts _)).mono ?_;rintro e w9 ⟨rfl,hw9⟩;rw [hw9];clear hw9 w9);have hB1:=hB0.alloc zaf (.cells #[.int .u32 p.parts] 76);refine Qf rfl zaa (gf:=145) (lb:=#[↑(w.heap.size+1+1+1)]) rfl trivial (ON func145 zab rfl)
  (eX 2 zaa (w.heap.size+1+1+1) p.parts hs _ zad zad c3.cell (Pg.KpT.of hB1 hg hT)) Pg.KpT.tr (fun W l o o' hl h hc hw=>Pg.KpT.of (OV (n₀:=w.heap.size) (Mv (PD _ 4) zad) W l o o' hl h hc hw) hg) (Mw _ _) (fun _=>rfl)
  (fun pre W=>((∀ k∈Pg.aX pre,Pg.atEnd ps fin act f k=true)/\Boxed W w 74 pb/\Boxed W (w.heap.size+1) 76 (.int .u32 act)/\Boxed W (w.heap.size+1+1) 4 (.bool false))/\Below w w W)
  (fun c pre W=>((c = .ret/\∃ k∈Pg.aX pre,Pg.atEnd ps fin act f k=false)/\Boxed W (w.heap.size+1+1) 4 (.bool false))/\Below w w W)
  (Nh (Nh (fun _ _ _ _ h _ _=>h) (Nh (NX (NN _ _ _) _) (Nh (NX (NN _ _ _) _) (NX (NN _ _ _) _)))) (Oq (Mt _) zaf))
  (fun c=>Nh (Nh (fun _ _ _ _ h _ _=>h) (NX (NN _ _ _) _)) (Oq (Mt _) zaf))
  ⟨⟨fun k hk=>(by cases hk),((c0.alloc _).alloc _).alloc _,(c1.alloc _).alloc _,c2.alloc _⟩,hB1⟩
  (fun x=>{ tmps:=#[.pointer (some ⟨pb,0,none⟩),.int .i64 i,.int .u32 act,.pointer (some ⟨w.heap.size,0,none⟩),undef,.pointer (some ⟨w.heap.size+1,0,none⟩),.pointer (some ⟨w.heap.size+1+1,0,none⟩),.pointer (some ⟨b,i*10,none⟩),.int .i64 x.1,.pointer (some ⟨pb,0,none⟩),.pointer (some ⟨pb,0,none⟩),.pointer (some ⟨pb,0,none⟩),.slice (some ⟨b,0,none⟩) ps.length cap,.int .i64 i,.pointer (some ⟨b,i*10,none⟩),.pointer (some ⟨b,i*10,none⟩),.pointer (some ⟨b,i*10,none⟩),.pointer (some ⟨b,i*10,none⟩),.int .i64 p.kind,.bool false,undef,undef,undef,undef,undef,undef,undef,undef,undef,undef,undef,undef,.pointer (some ⟨b,i*10,none⟩),.pointer (some ⟨b,i*10,none⟩),.pointer (some ⟨b,i*10+4,none⟩),.int .u32 p.parts,.func (.func 145) #[] #[.pointer (some ⟨w.heap.size+1+1+1,0,none⟩)],.int .i64 x.1,undef,undef,undef,undef,undef],defers:=[] }) ?assign ?body ?done ?stop
 case assign =>
  exact zfn
 case body =>
  rintro l pre x W ⟨⟨hall,hp,hac,hr⟩,hB⟩ _;obtain ⟨hx1,hx2⟩:=hin x.1 x.2;obtain ⟨px,hpx⟩:∃ p,ps[x.1]?=some p:=⟨_,Mu hx2⟩;have hsz:=hB.size;have hih:=ih x.1 px W zaa hpx ((hB.cell (p:=⟨pb,2,none⟩) hpb).trans hfin) (hP.below hB hpb hb) zaa zaa zaa (Pg.KpT.of hB hg hT);have hpc:=hp.cell;have hacc:=hac.cell;have hv:=Pg.dS pre x;obtain ⟨r,hr0⟩:∃ r,Pg.atEnd ps fin act f x.1=r:=⟨_,rfl⟩;rw [hr0] at hih;have hih:() 147 #[pb,(x.1:Int),.int .u32 act] W fun e w'=>e = .returned r/\Below W W w'/\w'.cell? ⟨w.heap.size+1+1,0,none⟩=some (.bool false)/\w'.frozen? ⟨w.heap.size+1+1,0,none⟩=false:=hih.mono fun e w' h=>⟨h.1,h.2,(Pg.jy hr h.2).cell,(Pg.jy hr h.2).frozen⟩;cases r
  all_goals gi_wp2_with (refine ⟨trivial,?_⟩;gi_at_call 147;refine (aH hih).mono ?_;clear hih;rintro e w9 ⟨rfl,hB9,h9c,h9f⟩)
  ·rename_i w9 hB9 h9c h9f;exact ⟨(Pg.dZ hB9).trans (NB _ _ _),⟨⟨rfl,x.1,by rw [hv];simp,hr0⟩,QX _ (Pg.jy hr hB9)⟩,(hB.trans (hB9.mono hsz)).setCell (p:=⟨w.heap.size+1+1,0,none⟩) zaf _⟩
  ·rename_i w9 hB9 h9c h9f;refine ⟨Pg.dZ hB9,Pg.KpT.of hB9 zaa,⟨?_,Pg.jy hp hB9,Pg.jy hac hB9,Pg.jy hr hB9⟩,hB.trans (hB9.mono hsz)⟩;intro k hm;rw [hv] at hm
   rcases MU.1 hm with h | h
   ·exact hall k h
   ·rw [ME.1 h];exact hr0
 case done =>
  rintro D ys W hD hys ⟨⟨hall,hp,hac,hr⟩,hB⟩ hK;rw [Pg.cd,hys] at hall;have hrc:=hr.cell;have hrf:=hr.frozen;gi_wp2;have hK':=(NB W ⟨w.heap.size+1+1,0,none⟩ (.bool true)).same D _ hK rfl;refine ⟨zad,.inl ⟨_,_,rfl,Nq hK',?_⟩⟩;have hc5:=cell_kept (QX (.bool true) hr).cell (N9 _ D (.deferred none)) (fun r e=>by cases e;exact ⟨_,hK',rfl⟩);refine ⟨.bool true,?_,by rw [hae,Pl.2 hall],(hB.setCell (p:=⟨w.heap.size+1+1,0,none⟩) zaf _).trans (OV (w:=w) (Mt _) _ D _ _ zbl hK' rfl rfl)⟩;exact zfk
 case stop =>
  rintro D c pre W hD hpre ⟨⟨⟨rfl,k,hk1,hk2⟩,hr⟩,hB⟩ hK;rw [<- Pg.cd] at hpre;have hfa:(Pg.els p.parts).all (Pg.atEnd ps fin act f)=false:=Qp.2 ⟨k,hpre.subset hk1,by rw [hk2];decide⟩;gi_wp2;refine ⟨zad,.inl ⟨_,_,rfl,Nq hK,?_⟩⟩;have hc5:=cell_kept hr.cell (N9 _ D (.deferred none)) (fun r e=>by cases e;exact ⟨_,hK,rfl⟩);refine ⟨.bool false,?_,by rw [hae,hfa],hB.trans (OV (w:=w) (Mt _) W D _ _ zbl hK rfl rfl)⟩;exact zfk
attribute [local go_sem] Nw
theorem nO (h1:2<=n) {ps:Array Tmp} {a:Act} (Bs s:Nat) (hs:s<4294967296)
  (he:a.eval g = .func (.func 145) #[] #[Bs]) (hBs:Bs<w.heap.size) (hg:1<w.heap.size) (hc:w.cell? Bs=some (.int .u32 s)) (hT:TabAt 1 Lib.deBruijn32tab w) (hps:1=ps.size)
  (I:List (Pg.In s)->World->Prop) (Ix:Code->List (Pg.In s)->World->Prop) (hI:OwnFrom w.heap.size I) (hIx:∀ c,OwnFrom w (Ix c)) (h0:I [] w) (Ax:Pg.In s->Act->World->Prop) (hAx:∀ x a',OwnFrom w (fun (_:Unit) W=>Ax x a' W))
  (hassign:∀ (l:Nat) (pre:List (Pg.In s)) (x:Pg.In s) (W:World) (K:Act->World->Prop),I pre W->(∀ a' W',KeepsFrom w W W'->Pg.KpT W W'->I pre W'->Ax x a' W'->K a' W') ->
   assign.wpIn (Fence.wide.inRound l) (n-1-1) prog (Exit.then K (fun _ _ _=>False)) { tmps:=(ps.zip #[Value.int .i64 (x.1:Int)]).foldl (fun t (p,v)=>t.setIfInBounds p v) a.tmps,defers:=[] } W)
  (hbody:∀ (l:Nat) (pre:List (Pg.In s)) (x:Pg.In s) (a':Act) (W:World),w.heap.size<=l->(∃ r,W.heap[l]?=some (.loop r))->I pre W->Ax x a' W->pre.length<32->body.wpIn (Fence.wide.inRound l) (n-1-1) prog (ownPostG w Pg.KpT I Ix (pre++[x]) W) a' W)
  (hdone:∀ (D:Nat) (xs:List (Pg.In s)) (W:World),w.heap.size<=D->Pg.aX xs=Pg.els s->I xs W->W.heap[D]?=some (.deferred (some []))->Q .normal { a with defers:={ target := .collected D,args:=#[] }::a.defers } W)
  (hstop:∀ (D:Nat) (c:Code) (pre:List (Pg.In s)) (W:World),w.heap.size<=D->Pg.aX pre <+: Pg.els s->Ix c pre W->W.heap[D]?=some (.deferred (some []))->c.wpIn Fence.wide n prog Q { a with defers:={ target := .collected D,args:=#[] }::a.defers } W) :
  (Code.rangeFunc g ps assign body).wpIn Fence.wide n prog Q a w :=
 PC rfl zaa (gf:=145) he trivial (ON func145 zab rfl)
  (eX (n-1) zaa Bs s hs w hBs hg hc hT) Pg.KpT.tr (fun W l o o' hl h hc hw=>Pg.KpT.of (OV (n₀:=w.heap.size) (Mt _) W l o o' hl h hc hw) hg) (Mw _ _) (fun _=>hps)
  I Ix hI hIx h0 Ax hAx hassign hbody (fun D xs W hD hS=>hdone D xs W hD zaL) (fun D c pre W hD hS=>hstop D c pre W hD zaL)
theorem KW (h1:2<=n) {ps:Array Tmp} {a:Act} {l₀:Nat} {r₀:Loop} (hl₀:w.heap[l₀]?=some (.loop r₀)) (Bs s:Nat) (hs:s<4294967296)
  (he:a.eval g = .func (.func 145) #[] #[Bs]) (hBs:Bs<w.heap.size) (hg:1<w.heap.size) (hc:w.cell? Bs=some (.int .u32 s)) (hT:TabAt 1 Lib.deBruijn32tab w) (hps:1=ps.size)
  (I:List (Pg.In s)->World->Prop) (Ix:Code->List (Pg.In s)->World->Prop) (hI:OwnFrom w.heap.size I) (hIx:∀ c,OwnFrom w (Ix c)) (h0:I [] w) (Ax:Pg.In s->Act->World->Prop) (hAx:∀ x a',OwnFrom w (fun (_:Unit) W=>Ax x a' W))
  (hassign:∀ (l:Nat) (pre:List (Pg.In s)) (x:Pg.In s) (W:World) (K:Act->World->Prop),I pre W->(∀ a' W',KeepsFrom w W W'->Pg.KpT W W'->I pre W'->Ax x a' W'->K a' W') ->
   assign.wpIn (Fence.wide.inRound l) (n-1-1) prog (Exit.then K (fun _ _ _=>False)) { tmps:=(ps.zip #[Value.int .i64 (x.1:Int)]).foldl (fun t (p,v)=>t.setIfInBounds p v) a.tmps,defers:=[] } W)
  (hbody:∀ (l:Nat) (pre:List (Pg.In s)) (x:Pg.In s) (a':Act) (W:World),w.heap.size<=l->(∃ r,W.heap[l]?=some (.loop r))->I pre W->Ax x a' W->pre.length<32->body.wpIn (Fence.wide.inRound l) (n-1-1) prog (ownPostG w Pg.KpT I Ix (pre++[x]) W) a' W)
  (hdone:∀ (xs:List (Pg.In s)) (W:World),Pg.aX xs=Pg.els s->I xs W->Q .normal a W)
  (hstop:∀ (c:Code) (pre:List (Pg.In s)) (W:World),Pg.aX pre <+: Pg.els s->Ix c pre W->c.wpIn (Fence.wide.inRound l₀) n prog Q a W) :
  (Code.rangeFunc g ps assign body).wpIn (Fence.wide.inRound l₀) n prog Q a w :=
 wpIn_rangeFunc_ownN (l₀:=l₀) (r₀:=r₀) rfl hl₀ zaa (gf:=145) he trivial (ON func145 zab rfl)
  ((eX (n-1) zaa Bs s hs w hBs hg hc hT).inRound l₀) Pg.KpT.tr (fun W l o o' hl h hc hw=>Pg.KpT.of (OV (n₀:=w.heap.size) (Mt _) W l o o' hl h hc hw) hg) (Mw _ _) (fun _=>hps)
  I Ix hI hIx h0 Ax hAx hassign hbody (fun xs W hS=>hdone xs W zaL) (fun c pre W hS=>hstop c pre W zaL)
namespace Pg
def kM (ps:List PS) (o:Nat) (l:List Nat):Nat:=l.foldl (fun o k=>if o.testBit k then o else o|||fw ps k) o
def nI (ps:List PS) (o:Nat) (l:List Nat):Nat:=l.foldl (fun o i=>match ps[i]? with | some p=>if p.kind != 1 then o else kM ps o (els p.parts) | none=>o) o
def complete (ps:List PS) (s:Nat):Nat:=nI ps s (els s)
theorem DC (ps:List PS) (o:Nat) (l:List Nat) (k:Nat):kM ps o (l++[k])=if (kM ps o l).testBit k then kM ps o l else kM ps o l|||fw ps k:=by
 unfold kM;rw [NZ];rfl
theorem DB (ps:List PS) (o:Nat) (l:List Nat) (i:Nat) {p:PS} (hp:ps[i]?=some p):nI ps o (l++[i])=if p.kind != 1 then nI ps o l else kM ps (nI ps o l) (els p.parts):=by
 unfold nI;rw [NZ];simp only [List.foldl_cons,List.foldl_nil,hp]
def Sms (ps:List PS):Prop:=∀ (i:Nat) (p:PS),ps[i]?=some p->p.Sm
theorem qu {ps:List PS} (h:Sms ps):∀ (l:List Nat) (o:Nat),o<4294967296->kM ps o l<4294967296
 | [],_,ho=>ho
 | k::l,o,ho=>by
  show kM ps (if o.testBit k then o else o|||fw ps k) l<_;split
  ·exact qu h l _ ho
  ·exact qu h l _ (pX ho (qG h k))
theorem CM {ps:List PS} (h:Sms ps):∀ (l:List Nat) (o:Nat),o<4294967296->nI ps o l<4294967296
 | [],_,ho=>ho
 | i::l,o,ho=>by
  show nI ps (match ps[i]? with | some p=>if p.kind != 1 then o else kM ps o (els p.parts) | none=>o) l<_;refine CM h l _ ?_;split
  ·split
   ·exact ho
   ·exact qu h _ _ ho
  ·exact ho
end Pg
theorem nJ (w:World) (pb b cap:Nat) (ps:List Pg.PS) (s:Nat) (hs:s<4294967296) (hin:∀ i,i∈Pg.els s->i<ps.length) (hpt:∀ (i:Nat) (p:Pg.PS),ps[i]?=some p->∀ j∈Pg.els p.parts,j<ps.length) (hP:Pg.bW w pb b cap ps) (hpb:pb<w.heap.size) (hb:b<w.heap.size)
  (hg:1<w.heap.size) (hT:TabAt 1 Lib.deBruijn32tab w) :
  () 155 #[pb,.int .u32 s] w fun e w'=>e = .returned (.int .u32 (Pg.complete ps s))/\Below w w w':=by
 refine (M6 (n:=6)).1 ?_;have hlen:=hP.len;refine Nz func155 rfl trivial ?_ rfl;simp only [ntmps155,List.size_toArray,List.length_cons,List.length_nil,Nat.reduceAdd,Nat.reduceSub,Array.replicate_succ,Array.replicate_zero,List.push_toArray,List.append_toArray,List.nil_append,List.cons_append];gi_wp2_with (refine ⟨trivial,?_⟩;gi_at_call 93;refine (M6.2 (dy s _)).mono ?_;rintro e w9 ⟨rfl,hw9⟩;rw [hw9];clear hw9 w9);have c0:=((M7 w 74 pb).alloc (.cells #[.int .u32 s] 76)).alloc (.cells #[.int .u32 s] 76);have c1:=(M7 (w.alloc (.cells #[pb] 74)) 76 (.int .u32 s)).alloc (.cells #[.int .u32 s] 76);have c2:=M7 ((w.alloc (.cells #[pb] 74)).alloc (.cells #[.int .u32 s] 76)) 76 (.int .u32 s);simp only [World.size_alloc] at c1 c2;have hB0:Below w w (((w.alloc (.cells #[pb] 74)).alloc (.cells #[.int .u32 s] 76)).alloc (.cells #[.int .u32 s] 76)):=(((Mw _ w).alloc (Mt _) _).alloc zad _).alloc zaf _;have hsz:(((w.alloc (.cells #[pb] 74)).alloc (.cells #[.int .u32 s] 76)).alloc (.cells #[.int .u32 s] 76)).heap.size=w.heap.size+3:=zad;obtain ⟨W0,hW0⟩:∃ W0,((w.alloc (.cells #[pb] 74)).alloc (.cells #[.int .u32 s] 76)).alloc (.cells #[.int .u32 s] 76)=W0:=⟨_,rfl⟩;rw [hW0] at c0 c1 c2 hB0 hsz ⊢;clear hW0;refine nO zaa (w.heap.size+1+1) s hs rfl zaa zaa c2.cell (Pg.KpT.of hB0 hg hT) rfl
  (fun pre W=>(Boxed W w 74 pb/\Boxed W (w.heap.size+1) 76 (.int .u32 (Pg.nI ps s (Pg.aX pre))))/\Below w w W)
  (fun _ _ _=>False)
  (Nh (Nh (NX (NN _ _ _) _) (NX (NN _ _ _) _)) (Oq (Mt _) zaa))
  (fun _ _ _ _ _ hs _ _=>hs)
  ⟨⟨c0,c1⟩,hB0⟩
  (fun x a' _=>a'={ tmps:=#[.pointer (some ⟨pb,0,none⟩),.int .u32 s,.pointer (some ⟨w.heap.size,0,none⟩),.pointer (some ⟨w.heap.size+1,0,none⟩),.int .u32 0,.int .i64 x.1,undef,.int .u32 s,.func (.func 145) #[] #[.pointer (some ⟨w.heap.size+1+1,0,none⟩)],.int .i64 x.1,undef,undef,undef,undef,undef,undef,undef,undef,undef,undef,undef,undef,undef,undef,undef,undef,undef,undef,undef,undef,undef,undef,undef,undef,undef,undef,undef,undef,undef,undef,undef,undef,undef,undef],defers:=[] })
  (fun _ _ _ _ _ _ hs _ _=>hs)
  ?assign ?body ?done ?stop
 case assign =>
  exact zet
 case body =>
  rintro l pre x a' W hl ⟨r,hr⟩ ⟨⟨hp,hc⟩,hB⟩ rfl _;have hxl:=hin x.1 x.2;obtain ⟨p,hpx⟩:∃ p,ps[x.1]?=some p:=⟨_,Mu hxl⟩;have hP':=hP.below hB hpb hb;have hsn:=Pg.DB ps s (Pg.aX pre) x.1 hpx;rw [<- Pg.dS] at hsn;have h0:=hP'.row;have k0:=(hP'.at' x.1 p hpx).c0;have k4:=(hP'.at' x.1 p hpx).c4;have hpc:=hp.cell;by_cases hk:(p.kind != 1)=true
  ·rw [MB hk] at hsn;gi_wp2;exact ⟨NR _ _,(fun h=>h),⟨hp,by rw [hsn];exact hc⟩,hB⟩
  have hk:(p.kind != 1)=false:=by simpa using hk
  rw [Mz (by rw [hk];decide)] at hsn;have h1':2<=6-1-1:=zaa;gi_wp2_with (refine ⟨trivial,?_⟩;gi_at_call 93;refine (aH (dy p.parts _)).mono ?_;rintro e w9 ⟨rfl,hw9⟩;rw [hw9];clear hw9 w9);have hsW:=hB.size;have bN:=M7 W 76 (.int .u32 p.parts);have hr':(W.alloc (.cells #[.int .u32 p.parts] 76)).heap[l]?=some (.loop r):=(NI W _ l (Ms.1 hr).1).trans hr;have hBa:=hB.alloc hsW (.cells #[.int .u32 p.parts] 76);refine KW h1' (l₀:=l) (r₀:=r) hr' W p.parts (hP.sm x.1 p hpx).hp rfl zad zaf bN.cell (Pg.KpT.of hBa hg hT) rfl
   (fun pre' W'=>(Boxed W' w 74 pb/\Boxed W' (w.heap.size+1) 76 (.int .u32 (Pg.kM ps (Pg.nI ps s (Pg.aX pre)) (Pg.aX pre'))))/\(Below w W W'/\KeepsFrom W0.heap.size W W'))
   (fun _ _ _=>False)
   (Nh (Nh (NX (NN _ _ _) _) (NX (NN _ _ _) _)) (Nh (Oq hsW zaf) (Q7 zad)))
   (fun _ _ _ _ _ hs _ _=>hs)
   ⟨⟨hp.alloc _,hc.alloc _⟩,(Mw _ W).alloc hsW _,(Q8 _ _).from _⟩
   (fun y a'' _=>a''={ tmps:=#[.pointer (some ⟨pb,0,none⟩),.int .u32 s,.pointer (some ⟨w.heap.size,0,none⟩),.pointer (some ⟨w.heap.size+1,0,none⟩),.int .u32 0,.int .i64 x.1,.int .i64 y.1,.int .u32 s,.func (.func 145) #[] #[.pointer (some ⟨w.heap.size+1+1,0,none⟩)],.int .i64 x.1,.pointer (some ⟨pb,0,none⟩),.pointer (some ⟨pb,0,none⟩),.pointer (some ⟨pb,0,none⟩),.slice (some ⟨b,0,none⟩) ps.length cap,.int .i64 x.1,.pointer (some ⟨b,x.1*10,none⟩),.pointer (some ⟨b,x.1*10,none⟩),.int .i64 p.kind,.bool false,.pointer (some ⟨pb,0,none⟩),.pointer (some ⟨pb,0,none⟩),.pointer (some ⟨pb,0,none⟩),.slice (some ⟨b,0,none⟩) ps.length cap,.int .i64 x.1,.pointer (some ⟨b,x.1*10,none⟩),.pointer (some ⟨b,x.1*10+4,none⟩),.int .u32 p.parts,.func (.func 145) #[] #[.pointer (some ⟨W.heap.size,0,none⟩)],.int .i64 y.1,undef,undef,undef,undef,undef,undef,undef,undef,undef,undef,undef,undef,undef,undef,undef],defers:=[] })
   (fun _ _ _ _ _ _ hs _ _=>hs)
   ?assign2 ?body2 ?done2 ?stop2
  case assign2 =>
   rintro l2 pre' y W' K hi hK;gi_wp2;exact hK _ _ (NR _ _) (fun h=>h) hi rfl
  case body2 =>
   rintro l2 pre' y a'' W' _ _ ⟨⟨hp2,hc2⟩,hBW,hKF⟩ rfl _;have hyl:=hpt x.1 p hpx y.1 y.2;obtain ⟨q,hqy⟩:∃ q,ps[y.1]?=some q:=⟨_,Mu hyl⟩;have hP2:=hP'.below hBW hpb hb;have hsn2:=Pg.DC ps (Pg.nI ps s (Pg.aX pre)) (Pg.aX pre') y.1;rw [<- Pg.dS] at hsn2;have hlt:=Pg.qu hP.sm (Pg.aX pre') _ (Pg.CM hP.sm (Pg.aX pre) s hs);have cS:=hc2.cell;have fS:=hc2.frozen;have cP:=hp2.cell;have r0:=hP2.row;have r7:=(hP2.at' y.1 q hqy).c7;have hw7:=(hP.sm y.1 q hqy).hw;have hwa:Pg.fw ps y.1=q.wth:=by unfold Pg.fw;rw [hqy]
   obtain ⟨o,ho⟩:∃ o,Pg.kM ps (Pg.nI ps s (Pg.aX pre)) (Pg.aX pre')=o:=⟨_,rfl⟩;rw [ho] at hsn2 hlt cS hc2;have h32:y.1<32:=zaa;obtain ⟨t,ht⟩:∃ t,o.testBit y.1=t:=⟨_,rfl⟩;have hha:=wH o y.1 W' h32 hlt;rw [ht] at hha hsn2;have ha:=O1 _ _ hlt hw7;have hbc:∀ V:World,Boxed V (w.heap.size+1) 76 (.int .u32 (o:Nat))->Boxed (V.setCell ⟨w.heap.size+1,0,none⟩ (.int .u32 ((o|||q.wth:Nat):Int))) (w.heap.size+1) 76 (.int .u32 ((o|||q.wth:Nat):Int)):=fun V h=>h.set _;cases t
   all_goals gi_wp2_with (refine ⟨trivial,?_⟩;gi_at_call 195;refine (aH hha).mono ?_;rintro e w9 ⟨rfl,hw9⟩;rw [hw9];clear hw9 w9)
   ·gi_region
    all_goals gi_wp2
    all_goals
     rw [Mz zac,hwa] at hsn2;exact ⟨((Pn W').trans (NB _ _ _)).from _,Pg.KpT.of (((Mw w W').drew).setCell (p:=⟨w.heap.size+1,0,none⟩) zad _) hg,⟨Boxed.kept (W:=W'.drew) (show Boxed W'.drew _ _ _ from hp2) (grownBy_setCell' _ _ _) zad,by rw [hsn2];exact hbc W'.drew hc2⟩,(hBW.trans ((Mw _ W').drew)).setCell (p:=⟨w.heap.size+1,0,none⟩) zad _,hKF.trans (((Pn W').trans (NB _ _ _)).from _)⟩
   ·rw [MB (by trivial)] at hsn2;exact ⟨NR _ _,(fun h=>h),⟨hp2,by rw [hsn2];exact hc2⟩,hBW,hKF⟩
  case done2 =>
   rintro ys W' hys ⟨⟨hp2,hc2⟩,hBW,hKF⟩;rw [hys] at hc2;gi_wp2;exact ⟨hKF,Pg.KpT.of hBW hg,⟨hp2,by rw [hsn];exact hc2⟩,hB.trans hBW⟩
  case stop2 =>
   rintro c pre' W' _ h;exact h.elim
 case done =>
  rintro D ys W hD hys ⟨⟨_,hc⟩,hB⟩ hK;have hc:=hc.cell;rw [hys] at hc;gi_wp2;refine ⟨zad,.inl ⟨_,_,rfl,Nq hK,?_⟩⟩;exact ⟨_,QG rfl _ _ _,rfl,hB.trans (OV (w:=w) (Mt _) W D _ _ zaa hK rfl rfl)⟩
 case stop =>
  exact zfg
end
section
open Go.RowKit
structure Mo (P:Nat->Prop) (w w':World):Prop where
 os:w'.os=w.os
 tape:w'.tape=w.tape
 output:w'.output=w.output
 size:w.heap.size<=w'.heap.size
 block:∀ k,k<w.heap.size->¬ P k->w'.heap[k]?=w.heap[k]?
theorem Mo.refl (P:Nat->Prop) (w:World):Mo P w w:=⟨rfl,rfl,rfl,Mt _,fun _ _ _=>rfl⟩
theorem Mo.trans (h:Mo P a b) (k:Mo P b c):Mo P a c :=
 ⟨k.os.trans h.os,k.tape.trans h.tape,k.output.trans h.output,Mv h.size k.size,fun i hi hn=>by rw [k.block i (MR hi h.size) hn,h.block i hi hn]⟩
theorem Mo.trans' {Q:Nat->Prop} (h:Mo P a b) (k:Mo Q b c) (hQ:∀ i,i<a.heap.size->Q i->P i):Mo P a c :=
 ⟨k.os.trans h.os,k.tape.trans h.tape,k.output.trans h.output,Mv h.size k.size,fun i hi hn=>by rw [k.block i (MR hi h.size) (fun q=>hn (hQ i hi q)),h.block i hi hn]⟩
theorem Mo.mono {Q:Nat->Prop} (h:Mo P a b) (hQ:∀ i,i<a.heap.size->P i->Q i):Mo Q a b :=
 ⟨h.os,h.tape,h.output,h.size,fun i hi hn=>h.block i hi (fun p=>hn (hQ i hi p))⟩
theorem ay (h:Below a a b):Mo P a b:=⟨h.os,h.tape,h.output,h.size,fun i hi _=>h.block i hi⟩
theorem CT {g:Nat} (h:gV g a b):Mo (· = g) a b:=⟨h.os,h.tape,h.output,zbg,fun i _ hn=>h.block i hn⟩
theorem Mo.below {B:Nat} {o:World} (h:Mo P a b) (hb:Below B o a) (hB:B<=a.heap.size) (hP:∀ i,i<B->¬ P i):Below B o b :=
 hb.trans ⟨h.os,h.tape,h.output,h.size,fun k hk=>h.block k zaa (hP k hk)⟩
theorem Mo.cell (h:Mo P a b) (hp:p.block<a.heap.size) (hn:¬ P p.block):b.cell? p=a.cell? p:=MK (w:=a) (h.block p.block hp hn)
theorem Mo.own {base size:Nat} {e:TypeId} {xs:List Value} (h:Mo P a b) (ho:a.ownsRow base e size v n xs) (hn:∀ g,v.ownBlock=some g->¬ P g):b.ownsRow base e size v n xs:=by
 refine ⟨ho.1,?_⟩
 rcases ho.2 with h' | ⟨k,cap,cur,hv,hb,hk',r⟩
 ·exact .inl h'
 ·refine .inr ⟨k,cap,cur,hv,hb,?_,r⟩;rw [h.block k (Ms.1 hk').1 (hn k (by rw [hv];rfl))];exact hk'
end
section
open Go.RowKit Go.Proofs Go.Shelf
attribute [local go_sem] Nw
theorem Mo.bel {A A':World} (hm:Mo P W0 A) (hb:Below W0 A A'):Mo P W0 A':=⟨hb.os.trans hm.os,hb.tape.trans hm.tape,hb.output.trans hm.output,Mv hm.size hb.size,fun k hk hn=>(hb.block k hk).trans (hm.block k hk hn)⟩
theorem GM {β:Type} {J:β->World->Prop} (hJ:∀ s A A',J s A->Below W0 A A'->J s A'):OwnFrom W0.heap.size (fun s W=>J s W/\Mo P W0 W):=fun s A A' row h hg hr=>by
 have hb:Below W0 A A':=(Mw _ A).grown hg h.2.size (fun k e=>(hr k e).1);exact ⟨hJ s A A' h.1 hb,h.2.bel hb⟩
theorem Mo.set (h:Mo P a b) (p:Addr) (v:Value) (hp:P p.block):Mo P a (b.setCell p v):=⟨h.os,h.tape,h.output,Mv h.size zad,fun k hk hn=>(Nf b p v k (fun e=>hn (e ▸ hp))).trans (h.block k hk hn)⟩
theorem Mo.kpT (h:Mo P a b) (hg:1<a.heap.size) (hn:¬ P 1):Pg.KpT a b:=fun x j hj=>(h.cell (p:=⟨1,j,none⟩) hg hn).trans (x j hj)
theorem Boxed.mo {B:Nat} (h:Boxed a B t v) (hm:Mo P a b) (hn:¬ P B):Boxed b B t v:=(hm.block B h.lt hn).trans h
theorem az {a b:Addr} (h:a≠b):(w.setCell a v).cell? b=w.cell? b:=World.cell?_setCell_other w a b v h
theorem iZ (h:Mo P a b):Mo P a b.drew:=⟨h.os,h.tape,h.output,h.size,h.block⟩
theorem bn {B:Nat} (h:Boxed W B t v) (hn:B≠p.block) (u:Value):Boxed (W.setCell p u) B t v:=(Nf W p u B hn).trans h
theorem aB {B:Nat} (h:Boxed W B t v) (hB:Below n W W') (hb:B<n):Boxed W' B t v:=(hB.block B hb).trans h
namespace Pg
def PS.cells (p:PS):List Value:=[(p.kind:Int),p.name,p.done,(p.owner:Int),.int .u32 p.parts,.int .u32 p.inside,.int .u32 p.around,.int .u32 p.wth,p.enter.v,p.leave.v]
structure bz (W:World) (pb b cap:Nat) (ps:List PS):Prop where
 row:W.cell? pb=some (.slice b ps.length cap)
 at':∀ (i:Nat) (p:PS),ps[i]?=some p->∀ (k:Nat) (v:Value),p.cells[k]?=some v->W.cell? ⟨b,i*10+k,none⟩=some v/\W.frozen? ⟨b,i*10+k,none⟩=false
 len:ps.length<=24
 ne:pb≠b
theorem bz.ps {b:Nat} {ps:List PS} {p:PS} (h:bz W pb b cap ps) (hi:ps[i]?=some p):tu W b i p where
 c0:=(h.at' i p hi 0 _ rfl).1
 c1:=(h.at' i p hi 1 _ rfl).1
 c2:=(h.at' i p hi 2 _ rfl).1
 c3:=(h.at' i p hi 3 _ rfl).1
 c4:=(h.at' i p hi 4 _ rfl).1
 c5:=(h.at' i p hi 5 _ rfl).1
 c6:=(h.at' i p hi 6 _ rfl).1
 c7:=(h.at' i p hi 7 _ rfl).1
 c8:=(h.at' i p hi 8 _ rfl).1
 c9:=(h.at' i p hi 9 _ rfl).1
theorem bz.bD {b:Nat} {ps:List PS} (h:bz W pb b cap ps) (hs:Sms ps):bW W pb b cap ps where
 row:=h.row
 at':=fun _ _ hi=>h.ps hi
 sm:=hs
 len:=h.len
theorem bz.below {B b:Nat} {ps:List PS} (h:bz W pb b cap ps) (hB:Below B W W') (h1:pb<B) (h2:b<B):bz W' pb b cap ps where
 row:=(hB.cell (p:=⟨pb,0,none⟩) h1).trans h.row
 at':=fun i p hi k v hv=>by
  have:=h.at' i p hi k v hv;exact ⟨(hB.cell (p:=⟨b,_,none⟩) h2).trans this.1,(hB.frozen (p:=⟨b,_,none⟩) h2).trans this.2⟩
 len:=h.len
 ne:=h.ne
theorem bz.set {b:Nat} {ps:List PS} {p:PS} (h:bz W pb b cap ps) (hi:ps[i]?=some p) (k:Nat) (v:Value) (p':PS) (hk:k<10) (hc:∀ j,p'.cells[j]?=if j=k then some v else p.cells[j]?):bz (W.setCell ⟨b,i*10+k,none⟩ v) pb b cap (ps.set i p') where
 row:=by
  rw [az (by intro e;injection e with e1;exact h.ne e1.symm),ML];exact h.row
 at':=fun i' q hq k' v' hv=>by
  have hil:i<ps.length:=(Mx.1 hi).1;rw [OY];have hk':k'<10:=zcm;obtain ⟨v0,hv0⟩:∃ v0,p.cells[k]?=some v0:=⟨_,Mu (by simpa [PS.cells] using hk)⟩;by_cases e:i'=i
  ·subst e;rw [M0 hil] at hq;cases hq
   rw [hc] at hv;by_cases e2:k'=k
   ·subst e2;rw [MB rfl] at hv;cases hv
    have:=h.at' i' p hi k' v0 hv0;exact ⟨O4 _ _ _ this.1,this.2⟩
   ·rw [Mz e2] at hv;have:=h.at' i' p hi k' v' hv;exact ⟨(az zbB).trans this.1,this.2⟩
  ·rw [Ng (fun x=>e x.symm)] at hq;have:=h.at' i' q hq k' v' hv;exact ⟨(az zbB).trans this.1,this.2⟩
 len:=by rw [ML];exact h.len
 ne:=h.ne
def orW (ps:List PS) (o:Nat) (l:List Nat):Nat:=l.foldl (fun o k=>o|||fw ps k) o
theorem GL (ps:List PS) (o:Nat) (l:List Nat) (k:Nat):orW ps o (l++[k])=orW ps o l|||fw ps k:=by
 unfold orW;rw [NZ];rfl
theorem GK {ps:List PS} (h:Sms ps):∀ (l:List Nat) (o:Nat),o<4294967296->orW ps o l<4294967296
 | [],_,ho=>ho
 | k::l,_,ho=>GK h l _ (pX ho (qG h k))
def kB (ps:List PS) (i:Nat) (p:PS):Nat:=orW ps (2 ^ i) (if p.kind == 0 then (els p.parts).take 1 else els p.parts)
def bJ (ps:List PS) (i:Nat):List PS:=match ps[i]? with
 | none=>ps
 | some p=>if p.owner == -1 then ps.set i { p with wth:=kB ps i p } else match ps[p.owner.toNat]? with
  | none=>ps.set i { p with wth:=kB ps i p }
  | some q=>(ps.set i { p with wth:=kB ps i p }).set p.owner.toNat { q with inside:=q.inside|||(p.inside|||2 ^ i) }
theorem EK {s:Nat} {pre:List (In s)} (h:aX pre <+: els s) {x:Nat} (he:aX pre=[x]):(els s).take 1=[x]:=by
 obtain ⟨t,ht⟩:=h;rw [<- ht,he];rfl
def stay {s:Nat} (p:PS) (pre:List (In s)):Prop:=p.kind=0->pre=[]
def brk {s:Nat} (p:PS) (pre:List (In s)):Prop:=p.kind=0/\∃ x,aX pre=[x]
end Pg
theorem th (h:i<32):2 ^ i<4294967296:=MR (Pv zac h) zac
theorem xG (w:World) (pb b cap:Nat) (ps:List Pg.PS) (i:Nat) (p:Pg.PS) (hpi:ps[i]?=some p) (hpt:∀ j∈Pg.els p.parts,i<j/\j<ps.length) (how:p.owner = -1\/∃ o:Nat,p.owner=o/\o<i) (hP:Pg.bz w pb b cap ps) (hsm:Pg.Sms ps) (hpb:pb<w.heap.size) (hb:b<w.heap.size)
  (hg:1<w.heap.size) (hgb:1≠b) (hT:TabAt 1 Lib.deBruijn32tab w) :
  () 63 #[pb,(i:Int)] w fun e w'=>e = .returned (.tuple #[])/\Pg.bz w' pb b cap (Pg.bJ ps i)/\Mo (· = b) w w':=by
 have hil:i<ps.length:=(Mx.1 hpi).1;have hlen:=hP.len;have hi32:i<32:=by omega
 have hne:=hP.ne;obtain ⟨t,ht⟩:∃ t,2 ^ i=t:=⟨_,rfl⟩;have htl:t<4294967296:=by rw [<- ht];exact th hi32
 have hone:∀ V:World,() 94 #[(i:Int)] V fun e w'=>e = .returned (.int .u32 t)/\w'=V:=fun V=>by rw [<- ht];exact ir i V hi32
 refine (M6 (n:=6)).1 ?_;refine Nz func63 rfl trivial ?_ rfl;simp only [ntmps63,List.size_toArray,List.length_cons,List.length_nil,Nat.reduceAdd,Nat.reduceSub,Array.replicate_succ,Array.replicate_zero,List.push_toArray,List.append_toArray,List.nil_append,List.cons_append];have c0:=(M7 w 74 pb);have hB0:Below w w (w.alloc (.cells #[pb] 74)):=(Mw _ w).alloc (Mt _) _;have hr0:=(hP.below hB0 hpb hb).row;gi_wp2;have c0:=c0.alloc (.cells #[.pointer (some ⟨b,i*10,none⟩)] 232);have c1:=M7 (w.alloc (.cells #[pb] 74)) 232 (.pointer (some ⟨b,i*10,none⟩));simp only [World.size_alloc] at c1;have hB1:=hB0.alloc zad (.cells #[.pointer (some ⟨b,i*10,none⟩)] 232);have hP1:=hP.below hB1 hpb hb;obtain ⟨W1,hW1⟩:∃ W1,(w.alloc (.cells #[pb] 74)).alloc (.cells #[.pointer (some ⟨b,i*10,none⟩)] 232)=W1:=⟨_,rfl⟩;have hsz:W1.heap.size=w.heap.size+1+1:=by rw [<- hW1];simp
 rw [hW1] at c0 c1 hB1 hP1 ⊢;clear hW1 hB0 hr0;have k7f:=(hP1.at' i p hpi 7 _ rfl).2;have k7c:=(hP1.at' i p hpi 7 _ rfl).1;refine Rj.2 (jQ ?_);refine MP (S:=(fun V=>V.cell? ⟨w.heap.size+1,0,none⟩=some (.pointer (some ⟨b,i*10,none⟩)))) zab c1.cell (fun u0 => ?_);refine tH 0 (.pointer (some ⟨b,i*10,none⟩)) rfl u0 ?_;refine tH 1 (.int .i64 i) rfl u0 ?_;refine zH 2 rfl fun K hK => ?_;go_simp;refine (hone _).mono ?_;rintro e w9 ⟨rfl,rfl⟩;refine hK.out _ _ u0 (fun u0 => ?_);clear hK K;refine tH 3 (.pointer (some ⟨b,i*10,none⟩)) rfl u0 ?_;refine tH 4 (.pointer (some ⟨b,i*10+7,none⟩)) rfl u0 ?_;refine zH 5 rfl fun K hK => ?_;go_simp;refine hK.out _ _ (by
  have e:∀ (a:Addr),a≠⟨b,i*10+7,none⟩->∀ v,(W1.setCell ⟨b,i*10+7,none⟩ v).drew.cell? a=W1.drew.cell? a:=fun a ha v=>az (fun h=>ha h.symm)
  (try dsimp only at u0);(try dsimp only)
  rw [e _ zak];exact u0) (fun u0 => ?_)
 clear hK K;refine MY zab ?_ _;unfold og;have hP2:=hP1.set hpi 7 (.int .u32 t) { p with wth:=t } zac (fun j=>by
  match j with
  | 0 | 1 | 2 | 3 | 4 | 5 | 6 | 7 | 8 | 9=>rfl
  | j+10=>rfl)
 have hP2:Pg.bz (W1.setCell ⟨b,i*10+7,none⟩ (.int .u32 t)).drew pb b cap (ps.set i { p with wth:=t }):=⟨hP2.row,hP2.at',hP2.len,hP2.ne⟩;have c0:Boxed (W1.setCell ⟨b,i*10+7,none⟩ (.int .u32 t)).drew w.heap.size 74 pb:=bn c0 (p:=⟨b,i*10+7,none⟩) zaf _;have c1:Boxed (W1.setCell ⟨b,i*10+7,none⟩ (.int .u32 t)).drew (w.heap.size+1) 232 (.pointer (some ⟨b,i*10,none⟩)):=bn c1 (p:=⟨b,i*10+7,none⟩) zaf _;have hM2:Mo (· = b) w (W1.setCell ⟨b,i*10+7,none⟩ (.int .u32 t)).drew:=iZ ((ay hB1).set ⟨b,i*10+7,none⟩ _ rfl);obtain ⟨W2,hW2⟩:∃ W2,(W1.setCell ⟨b,i*10+7,none⟩ (.int .u32 t)).drew=W2:=⟨_,rfl⟩;have hsz2:W2.heap.size=w.heap.size+1+1:=by rw [<- hW2];simp [World.drew,hsz]
 rw [hW2] at c0 c1 hP2 hM2 ⊢;clear hW2 k7f k7c;have hpi2:(ps.set i { p with wth:=t })[i]?=some { p with wth:=t }:=M0 hil;have d1:=c1.cell;have d4:=(hP2.ps hpi2).c4;gi_wp2_with (refine ⟨trivial,?_⟩;gi_at_call 93;refine (M6.2 (dy p.parts _)).mono ?_;rintro e w9 ⟨rfl,hw9⟩;rw [hw9];clear hw9 w9);have hB3:=(Mw W2 W2).alloc (Mt _) (.cells #[.int .u32 p.parts] 76);have c2:=M7 W2 76 (.int .u32 p.parts);have hP3:=hP2.below hB3 zaa zaa;have c0:=aB c0 hB3 c0.lt;have c1:=aB c1 hB3 c1.lt;have hM3:Mo (· = b) w (W2.alloc (.cells #[.int .u32 p.parts] 76)):=hM2.trans (ay hB3);obtain ⟨W3,hW3⟩:∃ W3,W2.alloc (.cells #[.int .u32 p.parts] 76)=W3:=⟨_,rfl⟩;have hsz3:W3.heap.size=w.heap.size+1+1+1:=by rw [<- hW3];simp [hsz2]
 rw [hsz2] at c2;rw [hW3] at c0 c1 c2 hP3 hM3 ⊢;clear hW3 hB3 hP2 hM2 d1 d4 hpi2 hP1 hB1;have hT3:TabAt 1 Lib.deBruijn32tab W3:=hM3.kpT hg hgb hT;have hs:=(hsm i p hpi).hp;have hb3:b<W3.heap.size:=zaa;refine nO zaa (w.heap.size+1+1) p.parts hs rfl zaa zaa c2.cell hT3 rfl
  (fun pre W=>(Pg.stay p pre/\Boxed W w 74 pb/\Boxed W (w.heap.size+1) 232 (.pointer (some ⟨b,i*10,none⟩))/\Pg.bz W pb b cap (ps.set i { p with wth:=Pg.orW ps t (Pg.aX pre) }))/\Mo (· = b) W3 W)
  (fun c pre W=>((c = .exit 0/\Pg.brk p pre)/\Boxed W w 74 pb/\Boxed W (w.heap.size+1) 232 (.pointer (some ⟨b,i*10,none⟩))/\Pg.bz W pb b cap (ps.set i { p with wth:=Pg.orW ps t (Pg.aX pre) }))/\Mo (· = b) W3 W)
  (GM (fun s A A' h hb=>⟨h.1,aB h.2.1 hb zaa,aB h.2.2.1 hb zaa,h.2.2.2.below hb zaa zaa⟩))
  (fun c=>GM (fun s A A' h hb=>⟨h.1,aB h.2.1 hb zaa,aB h.2.2.1 hb zaa,h.2.2.2.below hb zaa zaa⟩))
  ⟨⟨fun _=>rfl,c0,c1,hP3⟩,Mo.refl _ _⟩
  (fun x a' _=>a'={ tmps:=#[.pointer (some ⟨pb,0,none⟩),.int .i64 i,.pointer (some ⟨w.heap.size,0,none⟩),undef,.pointer (some ⟨w.heap.size+1,0,none⟩),.int .i64 x.1,.pointer (some ⟨pb,0,none⟩),.pointer (some ⟨pb,0,none⟩),.pointer (some ⟨pb,0,none⟩),.slice (some ⟨b,0,none⟩) ps.length cap,.int .i64 i,.pointer (some ⟨b,i*10,none⟩),.pointer (some ⟨b,i*10,none⟩),.int .i64 i,.int .u32 t,.pointer (some ⟨b,i*10,none⟩),.pointer (some ⟨b,i*10+7,none⟩),.pointer (some ⟨b,i*10,none⟩),.pointer (some ⟨b,i*10,none⟩),.pointer (some ⟨b,i*10+4,none⟩),.int .u32 p.parts,.func (.func 145) #[] #[.pointer (some ⟨w.heap.size+1+1,0,none⟩)],.int .i64 x.1,undef,undef,undef,undef,undef,undef,undef,undef,undef,undef,undef,undef,undef,undef,undef,undef,undef,undef,undef,undef,undef,undef,undef,undef,undef,undef,undef,undef,undef,undef,undef,undef,undef,undef,undef,undef,undef,undef,undef,undef,undef,undef,undef,undef,undef,undef],defers:=[] })
  (fun _ _ _ _ _ _ hs _ _=>hs)
  ?assign ?body ?done ?stop
 case assign =>
  exact zet
 case body =>
  rintro l pre x a' W _ _ ⟨⟨hk0,h0,h1,hPW⟩,hM⟩ rfl _;obtain ⟨hx1,hx2⟩:=hpt x.1 x.2;obtain ⟨q,hqx⟩:∃ q,ps[x.1]?=some q:=⟨_,Mu hx2⟩;obtain ⟨o,ho⟩:∃ o,Pg.orW ps t (Pg.aX pre)=o:=⟨_,rfl⟩;have holt:=Pg.GK hsm (Pg.aX pre) _ htl;have hsn:=Pg.GL ps t (Pg.aX pre) x.1;have hwa:Pg.fw ps x.1=q.wth:=by unfold Pg.fw;rw [hqx]
  rw [<- Pg.dS,hwa,ho] at hsn;rw [ho] at holt hPW;have hpi':(ps.set i { p with wth:=o })[i]?=some { p with wth:=o }:=M0 hil;have hqx':(ps.set i { p with wth:=o })[x.1]?=some q:=by rw [Ng zaa];exact hqx
  have h0c:=h0.cell;have h1c:=h1.cell;have hrow:=hPW.row;rw [ML] at hrow;have hq7:=(hPW.ps hqx').c7;have k7:=hPW.at' i _ hpi' 7 _ rfl;have k7c:=k7.1;have k7f:=k7.2;have ha:=O1 _ _ holt (hsm x.1 q hqx).hw;have hx10:x.1*10+7≠i*10+7:=zaa;have hP4:=hPW.set hpi' 7 (.int .u32 ((o|||q.wth:Nat):Int)) { p with wth:=o|||q.wth } zac (fun j=>by
   match j with
   | 0 | 1 | 2 | 3 | 4 | 5 | 6 | 7 | 8 | 9=>rfl
   | j+10=>rfl)
  rw [PO,<- hsn] at hP4;gi_wp2;refine cU (S:=(fun V=>V.cell? w=some ↑pb/\V.cell? ⟨w.heap.size+1,0,none⟩=some (.pointer (some ⟨b,i*10,none⟩))/\V.cell? pb=some (.slice b ps.length cap)/\V.cell? ⟨b,x.1*10+7,none⟩=some (.int .u32 q.wth))) zab zab zbh ⟨h0c,h1c,hrow,hq7⟩ (fun u0 => ?_);refine tH 0 (.pointer (some ⟨b,i*10,none⟩)) rfl u0 ?_;refine tH 1 (.pointer (some ⟨b,i*10,none⟩)) rfl u0 ?_;refine tH 2 (.pointer (some ⟨b,i*10+7,none⟩)) rfl u0 ?_;refine tH 4 pb rfl u0 ?_;refine tH 5 pb rfl u0 ?_;refine tH 6 pb rfl u0 ?_;refine tH 7 (.slice b ps.length cap) rfl u0 ?_;refine tH 8 (.int .i64 x.1) rfl u0 ?_;refine tH 9 (.pointer (some ⟨b,x.1*10,none⟩)) rfl u0 ?_;refine tH 10 (.pointer (some ⟨b,x.1*10+7,none⟩)) rfl u0 ?_;refine tH 11 (.int .u32 q.wth) rfl u0 ?_;refine zH 3 rfl fun K hK => ?_;go_simp;refine hK.out _ _ u0 (fun u0 => ?_);clear hK K;refine tH 12 (.int .u32 ((o|||q.wth:Nat):Int)) rfl u0 ?_;refine tH 13 (.pointer (some ⟨b,i*10,none⟩)) rfl u0 ?_;refine tH 14 (.pointer (some ⟨b,i*10+7,none⟩)) rfl u0 ?_;refine zH 15 rfl fun K hK => ?_;go_simp;refine hK.out _ _ (by
   have e:∀ (a:Addr),a≠⟨b,i*10+7,none⟩->∀ v,(W.setCell ⟨b,i*10+7,none⟩ v).drew.cell? a=W.drew.cell? a:=fun a ha v=>az (fun h=>ha h.symm)
   (try dsimp only at u0);(try dsimp only)
   rw [e _ zak,e _ zak,e _ zak,e _ zak];exact u0) (fun u0 => ?_)
  clear hK K;refine MY zab ?_ _;clear u0;have hP4:Pg.bz (W.setCell ⟨b,i*10+7,none⟩ (.int .u32 ((o|||q.wth:Nat):Int))).drew pb b cap (ps.set i { p with wth:=Pg.orW ps t (Pg.aX (pre++[x])) }):=by
   rw [hsn] at hP4 ⊢;exact ⟨hP4.row,hP4.at',hP4.len,hP4.ne⟩
  have g0:Boxed (W.setCell ⟨b,i*10+7,none⟩ (.int .u32 ((o|||q.wth:Nat):Int))).drew w.heap.size 74 pb:=bn h0 (p:=⟨b,i*10+7,none⟩) zaf _;have g1:Boxed (W.setCell ⟨b,i*10+7,none⟩ (.int .u32 ((o|||q.wth:Nat):Int))).drew (w.heap.size+1) 232 (.pointer (some ⟨b,i*10,none⟩)):=bn h1 (p:=⟨b,i*10+7,none⟩) zaf _;have gM:Mo (· = b) W (W.setCell ⟨b,i*10+7,none⟩ (.int .u32 ((o|||q.wth:Nat):Int))).drew:=iZ ((Mo.refl _ W).set ⟨b,i*10+7,none⟩ _ rfl);have gK:KeepsOthers W (W.setCell ⟨b,i*10+7,none⟩ (.int .u32 ((o|||q.wth:Nat):Int))).drew:=(NB _ _ _).trans (Pn _);have gT:=gM.kpT (by have:=hM.size;omega) hgb;obtain ⟨W5,hW5⟩:∃ W5,(W.setCell ⟨b,i*10+7,none⟩ (.int .u32 ((o|||q.wth:Nat):Int))).drew=W5:=⟨_,rfl⟩;rw [hW5] at hP4 g0 g1 gM gK gT ⊢;clear hW5 hPW h0 h1 h0c h1c hrow hq7 k7 k7c k7f;have hpi5:(ps.set i { p with wth:=Pg.orW ps t (Pg.aX (pre++[x])) })[i]?=some { p with wth:=Pg.orW ps t (Pg.aX (pre++[x])) }:=M0 hil;have e1:=g1.cell;have e0:=(hP4.ps hpi5).c0;by_cases hk:p.kind=0
  ·have hbr:Pg.brk p (pre++[x]):=⟨hk,x.1,by rw [hk0 hk];rfl⟩;have hk':(p.kind == 0)=true:=za4;clear hk hk0;gi_wp2;exact ⟨gK.from _,⟨⟨rfl,hbr⟩,g0,g1,hP4⟩,hM.trans gM⟩
  ·have hst:Pg.stay p (pre++[x]):=fun h=>absurd h hk;have hk':(p.kind == 0)=false:=zbq;clear hk hk0;gi_wp2;exact ⟨gK.from _,gT,⟨hst,g0,g1,hP4⟩,hM.trans gM⟩
 case' done =>
  rintro D ys W hD hys ⟨⟨hk0,h0,h1,hPW⟩,hM⟩ hK;have hsw:Pg.orW ps t (Pg.aX ys)=Pg.kB ps i p:=by
   unfold Pg.kB;rw [ht];by_cases hk:p.kind=0
   ·rw [MB za4,<- hys,hk0 hk];rfl
   ·rw [Mz zbq,hys]
  rw [hsw] at hPW;clear hsw hk0 hys ys
 case' stop =>
  rintro D c pre W hD hpre ⟨⟨⟨rfl,⟨hk,x,hx⟩⟩,h0,h1,hPW⟩,hM⟩ hK;have hsw:Pg.orW ps t (Pg.aX pre)=Pg.kB ps i p:=by
   unfold Pg.kB;rw [ht];rw [MB za4,Pg.EK hpre hx,hx]
  rw [hsw] at hPW;clear hsw hpre hk hx x pre
 all_goals
  have hpi4:(ps.set i { p with wth:=Pg.kB ps i p })[i]?=some { p with wth:=Pg.kB ps i p }:=M0 hil;have h0c:=h0.cell;have h1c:=h1.cell;have hrow:=hPW.row;rw [ML] at hrow;have k3:W.cell? ⟨b,i*10+3,none⟩=some ↑(p.owner:Int):=(hPW.ps hpi4).c3;have k5:W.cell? ⟨b,i*10+5,none⟩=some (.int .u32 p.inside):=(hPW.ps hpi4).c5;have hend:∀ V:World,Pg.bz V pb b cap (Pg.bJ ps i)->Mo (· = b) W V->V.heap[D]?=some (.deferred (some []))->Pg.bz (V.putObj D (.deferred none)) pb b cap (Pg.bJ ps i)/\Mo (· = b) w (V.putObj D (.deferred none)):=by
   intro V hV hMV hKV;have hbk:=OV (w:=W3) (n₀:=W3.heap.size) (Mt _) V D _ (.deferred none) hD hKV rfl rfl;exact ⟨hV.below hbk zaa zaa,hM3.trans ((hM.trans hMV).bel hbk)⟩
  rcases how with ho | ⟨ow,ho,howi⟩
  ·have hsr:Pg.bJ ps i=ps.set i { p with wth:=Pg.kB ps i p }:=by unfold Pg.bJ;rw [hpi];simp only [ho];rfl
   have hfin:=hend W (by rw [hsr];exact hPW) (Mo.refl _ _) hK;rw [ho] at k3;clear hsr hend ho;gi_wp2;refine ⟨zad,.inl ⟨_,_,rfl,Nq hK,?_⟩⟩;exact ⟨_,NF rfl _ _ _,rfl,hfin⟩
  ·have hol:ow<ps.length:=zaa;obtain ⟨q,hq⟩:∃ q,ps[ow]?=some q:=⟨_,Mu hol⟩;have hq4:(ps.set i { p with wth:=Pg.kB ps i p })[ow]?=some q:=by rw [Ng zaa];exact hq
   have hsr:Pg.bJ ps i=(ps.set i { p with wth:=Pg.kB ps i p }).set ow { q with inside:=q.inside|||(p.inside|||t) }:=by
    unfold Pg.bJ;rw [hpi];simp only [ho,Int.toNat_natCast,hq,ht];rw [Mz zad]
   have kq:=hPW.at' ow q hq4 5 _ rfl;have kqc:=kq.1;have kqf:=kq.2;rw [ho] at k3;have hon:((ow:Int) != -1)=true:=zad;have o1:=O1 _ _ (hsm i p hpi).hi htl;have o2:=O1 _ _ (hsm ow q hq).hi (Pg.pX (hsm i p hpi).hi htl);have hP8:=hPW.set hq4 5 (.int .u32 ((q.inside|||(p.inside|||t):Nat):Int)) { q with inside:=q.inside|||(p.inside|||t) } zac (fun j=>by
    match j with
    | 0 | 1 | 2 | 3 | 4 | 5 | 6 | 7 | 8 | 9=>rfl
    | j+10=>rfl)
   rw [<- hsr] at hP8;have hP8:Pg.bz (W.setCell ⟨b,ow*10+5,none⟩ (.int .u32 ((q.inside|||(p.inside|||t):Nat):Int))).drew pb b cap (Pg.bJ ps i):=⟨hP8.row,hP8.at',hP8.len,hP8.ne⟩;have hK8:(W.setCell ⟨b,ow*10+5,none⟩ (.int .u32 ((q.inside|||(p.inside|||t):Nat):Int))).drew.heap[D]?=some (.deferred (some [])):=((NB W ⟨b,ow*10+5,none⟩ (.int .u32 ((q.inside|||(p.inside|||t):Nat):Int))).trans (Pn _)).same D _ hK rfl;have hfin:=hend _ hP8 (iZ ((Mo.refl _ W).set ⟨b,ow*10+5,none⟩ _ rfl)) hK8;clear hP8 hsr hend hq4 hpi4 hPW kq;gi_wp2;refine Rj.2 (jQ ?_);refine MP (S:=(fun V=>V.cell? w=some ↑pb/\V.cell? ⟨w.heap.size+1,0,none⟩=some (.pointer (some ⟨b,i*10,none⟩))/\V.cell? pb=some (.slice b ps.length cap)/\V.cell? ⟨b,i*10+3,none⟩=some ↑(ow:Int)/\V.cell? ⟨b,i*10+5,none⟩=some (.int .u32 p.inside))) zab ⟨h0c,h1c,hrow,k3,k5⟩ (fun u0 => ?_);refine tH 0 pb rfl u0 ?_;refine tH 1 pb rfl u0 ?_;refine tH 2 pb rfl u0 ?_;refine tH 3 (.slice b ps.length cap) rfl u0 ?_;refine tH 4 (.pointer (some ⟨b,i*10,none⟩)) rfl u0 ?_;refine tH 5 (.pointer (some ⟨b,i*10,none⟩)) rfl u0 ?_;refine tH 6 (.pointer (some ⟨b,i*10+3,none⟩)) rfl u0 ?_;refine tH 7 (.int .i64 ow) rfl u0 ?_;refine tH 8 (.pointer (some ⟨b,ow*10,none⟩)) rfl u0 ?_;refine tH 9 (.pointer (some ⟨b,ow*10+5,none⟩)) rfl u0 ?_;refine tH 11 (.pointer (some ⟨b,i*10,none⟩)) rfl u0 ?_;refine tH 12 (.pointer (some ⟨b,i*10,none⟩)) rfl u0 ?_;refine tH 13 (.pointer (some ⟨b,i*10+5,none⟩)) rfl u0 ?_;refine tH 14 (.int .u32 p.inside) rfl u0 ?_;refine tH 15 (.int .i64 i) rfl u0 ?_;refine yH [10,16] ?_;refine Nj rfl (fun K hK => ?_) (Nj rfl (fun K hK => ?_) N0)
   ·skip
    go_simp;refine hK.out _ _ u0 (fun u0 => ?_);clear hK K;refine zH 16 rfl fun K hK => ?_;go_simp;refine (hone _).mono ?_;rintro e w9 ⟨rfl,rfl⟩;refine hK.out _ _ u0 (fun u0 => ?_);clear hK K;refine tH 17 (.int .u32 ((p.inside|||t:Nat):Int)) rfl u0 ?_;exact zcV
   ·skip
    go_simp;refine (hone _).mono ?_;rintro e w9 ⟨rfl,rfl⟩;refine hK.out _ _ u0 (fun u0 => ?_);clear hK K;refine tH 17 (.int .u32 ((p.inside|||t:Nat):Int)) rfl u0 ?_;refine zH 10 rfl fun K hK => ?_;go_simp;refine hK.out _ _ u0 (fun u0 => ?_);clear hK K;exact zcV
namespace Pg
structure Tn where
 t:Nat
 ev:ByteArray
 nm:ByteArray
abbrev Nd:Type:=Nat×Tn
def ndP (b:Nat):Value := .pointer (some ⟨b,0,none⟩)
def aK (l:List Nd):Value:=match l.getLast? with | none => .pointer none | some z=>ndP z.1
def nxt (l:List Nd) (i:Nat):Value:=match l[i+1]? with | some y=>ndP y.1 | none=>match l[0]? with | some y=>ndP y.1 | none => .pointer none
def ep (x:Tn) (v:Value):Array Value:=#[.int .u64 x.t,x.ev,x.nm,v]
def cn (W:World) (l:List Nd):Prop:=∀ (i:Nat) (x:Nd),l[i]?=some x->W.heap[x.1]?=some (.cells (ep x.2 (nxt l i)) 279 (0,0))
def ee (w:World) (p:Addr) (l:List Nd) (n:Nat):World:=match l.getLast? with
 | none=>(w.setCell ⟨n,3,none⟩ (ndP n)).setCell p (ndP n)
 | some z=>((w.setCell ⟨n,3,none⟩ (nxt l (l.length-1))).setCell ⟨z.1,3,none⟩ (ndP n)).setCell p (ndP n)
theorem cn.nil (W:World):cn W []:=fun i x h=>by simp at h
theorem cn.mo {l:List Nd} (h:cn W l) (hm:Mo P W W') (hn:∀ x∈l,¬ P x.1):cn W' l:=fun i x hx =>
 (hm.block x.1 (Ms.1 (h i x hx)).1 (hn x (MG hx))).trans (h i x hx)
theorem iL {l:List Nd} {f:Nd} (h:l[0]?=some f):nxt l (l.length-1)=ndP f.1:=by
 unfold nxt;rw [M4 zaa,h]
theorem GH {l:List Nd} {x:Nd} (hi:i+1<l.length):nxt (l++[x]) i=nxt l i:=by
 unfold nxt;rw [NG hi,Mu hi]
theorem tQ {l:List Nd} {x:Nd} (h:l≠[]):nxt (l++[x]) (l.length-1)=ndP x.1:=by
 unfold nxt;have:0<l.length:=Ou.2 h;rw [show l.length-1+1=l.length by omega,NM (Mt _)];simp
theorem xk {l:List Nd} {x f:Nd} (h:l[0]?=some f):nxt (l++[x]) l.length=ndP f.1:=by
 unfold nxt;have:0<l.length:=(Mx.1 h).1;rw [M4 zad,NG this,h]
theorem cn.push {w:World} {p:Addr} {l:List Nd} {n:Nat} {x:Tn} {v:Value} (h:cn w l) (hnd:(l.map (·.1)).Nodup) (hn:w.heap[n]?=some (.cells (ep x v) 279 (0,0))) (hnl:n ∉ l.map (·.1)) (hpn:p.block≠n) (hpl:p.block ∉ l.map (·.1)) :
  cn (ee w p l n) (l++[(n,x)])/\Mo (fun k=>k=p.block\/k=n\/∃ z,l.getLast?=some z/\k=z.1) w (ee w p l n):=by
 unfold ee;cases hz:l.getLast? with
 | none =>
  have hl:l=[]:=OX.1 hz;subst hl;refine ⟨fun i y hy => ?_,((Mo.refl _ w).set _ _ (.inr (.inl rfl))).set _ _ (.inl rfl)⟩;have:i=0/\y=(n,x):=by
   rcases i with _ | i
   ·simp at hy;exact ⟨rfl,hy.symm⟩
   ·simp at hy
  obtain ⟨rfl,rfl⟩:=this;exact (Nf _ p _ n (fun e=>hpn e.symm)).trans (MO w n 3 _ _ _ hn)
 | some z =>
  have hne:l≠[]:=fun e=>zaX;have hlen:0<l.length:=Ou.2 hne;have hlz:l[l.length-1]?=some z:=zaA;obtain ⟨f,hf⟩:∃ f,l[0]?=some f:=⟨_,Mu hlen⟩;have hzl:z.1∈l.map (·.1):=Ni.2 ⟨z,MG hlz,rfl⟩;have hzn:n≠z.1:=fun e=>hnl (e ▸ hzl);have hzp:p.block≠z.1:=fun e=>hpl (e ▸ hzl);rw [iL hf];refine ⟨fun i y hy => ?_,(((Mo.refl _ w).set _ _ (.inr (.inl rfl))).set _ _ (.inr (.inr ⟨z,rfl,rfl⟩))).set _ _ (.inl rfl)⟩;have hn1:(w.setCell ⟨n,3,none⟩ (ndP f.1)).heap[n]?=some (.cells (ep x (ndP f.1)) 279 (0,0)):=MO w n 3 _ _ _ hn
  rcases OF i l.length with hi | hi
  ·rw [NG hi] at hy;have hyl:y.1∈l.map (·.1):=Ni.2 ⟨y,MG hy,rfl⟩;have hyn:y.1≠n:=fun e=>hnl (e ▸ hyl);have hyp:y.1≠p.block:=fun e=>hpl (e ▸ hyl);have h1:(w.setCell ⟨n,3,none⟩ (ndP f.1)).heap[y.1]?=some (.cells (ep y.2 (nxt l i)) 279 (0,0)):=(Nf _ _ _ y.1 hyn).trans (h i y hy);by_cases e:i=l.length-1
   ·subst e;rw [hlz] at hy;cases hy
    rw [tQ hne];exact (Nf _ p _ z.1 hyp).trans (MO _ z.1 3 _ _ _ h1)
   ·rw [GH zaa];refine (Nf _ p _ y.1 hyp).trans ((Nf _ _ _ y.1 (fun e2=>e ?_)).trans h1);have e3:y.1=z.1:=e2;have a1:(l.map (·.1))[i]?=some y.1:=by rw [MF,hy];rfl
    have a2:(l.map (·.1))[l.length-1]?=some y.1:=by rw [MF,hlz,e3];rfl
    exact (Qs zaf hnd).1 (a1.trans a2.symm)
  ·have:i=l.length/\y=(n,x):=by
    rw [NM hi] at hy;obtain ⟨k,rfl⟩:∃ k,i=l.length+k:=⟨i-l.length,zaa⟩
    rcases k with _ | k
    ·simp at hy;exact ⟨rfl,hy.symm⟩
    ·simp at hy
   obtain ⟨rfl,rfl⟩:=this;rw [xk hf];exact (Nf _ p _ n (fun e=>hpn e.symm)).trans ((Nf _ _ _ n hzn).trans hn1)
theorem nw (l:List Nd) (x:Nd):aK (l++[x])=ndP x.1:=by unfold aK;simp
end Pg
theorem lf (w:World) (c o:Nat) (l:List Pg.Nd) (hc:w.cell? ⟨c,o,none⟩=some (Pg.aK l)) :
  () 202 #[.pointer (some ⟨c,o,none⟩)] w fun e w'=>e = .returned l.isEmpty/\w'=w:=by
 unfold Pg.aK at hc;cases hz:l.getLast? with
 | none =>
  have hl:l=[]:=OX.1 hz;subst hl;simp only [List.getLast?_nil] at hc;exact zeJ
 | some z =>
  rw [hz] at hc;unfold Pg.ndP at hc;have hl:l.isEmpty=false:=by
   cases l with
   | nil=>simp at hz
   | cons a l=>rfl
  rw [hl];clear hz hl;dsimp only at hc;exact zeJ
theorem mi (w:World) (c o:Nat) (l:List Pg.Nd) (n:Nat) (x:Pg.Tn) (v:Value) (hc:w.cell? ⟨c,o,none⟩=some (Pg.aK l)) (hfz:w.frozen? ⟨c,o,none⟩=false) (hR:Pg.cn w l) (hn:w.heap[n]?=some (.cells (Pg.ep x v) 279 (0,0))) (hnl:n ∉ l.map (·.1)) (hcn:c≠n) (hcl:c ∉ l.map (·.1)) :
  () 203 #[.pointer (some ⟨c,o,none⟩),n] w fun e w'=>e = .returned (.tuple #[])/\w'=Pg.ee w ⟨c,o,none⟩ l n:=by
 have he:=lf w c o l hc;have n3:w.cell? ⟨n,3,none⟩=some v:=zaV;have f3:w.frozen? ⟨n,3,none⟩=false:=by simp [World.frozen?,hn]
 unfold Pg.ee;cases hz:l.getLast? with
 | none =>
  have hl:l=[]:=OX.1 hz;subst hl;unfold Pg.aK at hc;simp only [List.getLast?_nil] at hc;have c1:(w.setCell ⟨n,3,none⟩ n).cell? ⟨c,o,none⟩=_:=(az (w:=w) zcn).trans hc;have f1:(w.setCell ⟨n,3,none⟩ n).frozen? ⟨c,o,none⟩=false:=by rw [OY];exact hfz
  simp only [List.isEmpty_nil] at he;clear hR hn hz;unfold Pg.ndP;exact zdG
 | some z =>
  have hne:l≠[]:=fun e=>zaX;have hlen:0<l.length:=Ou.2 hne;have hlz:l[l.length-1]?=some z:=zaA;obtain ⟨f,hf⟩:∃ f,l[0]?=some f:=⟨_,Mu hlen⟩;have hzl:z.1∈l.map (·.1):=Ni.2 ⟨z,MG hlz,rfl⟩;have hzn:n≠z.1:=fun e=>hnl (e ▸ hzl);have hcz:c≠z.1:=fun e=>hcl (e ▸ hzl);rw [Pg.iL hf];have hez:l.isEmpty=false:=by cases l with | nil=>simp at hz | cons a l=>rfl
  rw [hez] at he;have hzr:=hR _ z hlz;rw [Pg.iL hf] at hzr;unfold Pg.aK at hc;rw [hz] at hc;unfold Pg.ndP at hc hzr ⊢;obtain ⟨zb,zt⟩:=z;obtain ⟨fb,ft⟩:=f;dsimp only at hc hzr hzn hcz ⊢;have z3:w.cell? ⟨zb,3,none⟩=some ↑fb:=by rw [My w _ _ _ _ _ hzr];rfl
  have fz3:w.frozen? ⟨zb,3,none⟩=false:=by simp [World.frozen?,hzr]
  have c1:(w.setCell ⟨n,3,none⟩ fb).cell? ⟨c,o,none⟩=_:=(az (w:=w) zcn).trans hc;have z31:(w.setCell ⟨n,3,none⟩ fb).cell? ⟨zb,3,none⟩=_:=(az (w:=w) (by intro h;injection h with h1;exact hzn h1)).trans z3;have fz31:(w.setCell ⟨n,3,none⟩ fb).frozen? ⟨zb,3,none⟩=false:=by rw [OY];exact fz3
  have c2:((w.setCell ⟨n,3,none⟩ fb).setCell ⟨zb,3,none⟩ n).cell? ⟨c,o,none⟩=_:=(az (w:=_) (by intro h;injection h with h1;exact hcz h1.symm)).trans c1;have f2:((w.setCell ⟨n,3,none⟩ fb).setCell ⟨zb,3,none⟩ n).frozen? ⟨c,o,none⟩=false:=by rw [OY,OY];exact hfz
  clear hR hn hz hlz hf hzl hzr hez hlen hne hnl hcl;exact zdG
end
section
open Go.RowKit
def E7 {α:Type} (F:Fence) (n:Nat) (P:Program) (g:Nat) (lb:Array Value) (encs:α->Array Value) (Kp:World->World->Prop) (Rd:List α->World->Prop) (Nx:List α->α->Prop) (S:List α->Prop) (w:World):Prop :=
 ∀ (l:Nat) (J:List α->World->Prop) (W:World),Below w w W->w.heap.size+2<=W.heap.size->OwnFrom W.heap.size J->(∀ xs V,J xs V->Rd xs V) ->
  (∀ xs x V,J xs V->Nx xs x->YieldAt F (n-1) P l (encs x) V fun e V'=>e = .returned true/\J (xs++[x]) V'/\Kp V V')->J [] W ->
  CallsIn F n P g (#[.func (.yield l) #[] #[]]++lb) W fun e V=>(∃ v,e = .returned v)/\∃ xs,S xs/\J xs V
theorem sE {α:Type} {F:Fence} {P:Program} {ps:Array Tmp} {a:Act} (hro:F.round=none) (h1:1<=n) {gf:Nat} {lb:Array Value}
  (hg:a.eval g = .func (.func gf) #[] lb) (hF:F.fn gf) (eg:∀ args w,(callFunc gf args).run P w = .ok (.enter gf args) w) {encs:α->Array Value} {Kp:World->World->Prop} {Rd:List α->World->Prop} {Nx:List α->α->Prop} {S:List α->Prop}
  (hseq:E7 F (n-1) P gf lb encs Kp Rd Nx S w)
  (hKt:∀ {A B C:World},Kp A B->Kp B C->Kp A C) (hKb:∀ (W:World) (o o':Obj),W.heap[w.heap.size+1]?=some o->o.isCells=false->Kp W (W.putObj (w.heap.size+1) o')) (hps:∀ x,(encs x).size=ps.size) (I:List α->World->Prop) (hI:OwnFrom w.heap.size I) (hRd:∀ xs V,I xs V->Rd xs V) (h0:I [] w)
  (Ax:α->Act->World->Prop) (hAx:∀ x a',OwnFrom w (fun (_:Unit) W=>Ax x a' W))
  (hassign:∀ (l:Nat) (xs:List α) (x:α) (W:World) (K:Act->World->Prop),I xs W->(∀ a' W',KeepsFrom w W W'->Kp W W'->I xs W'->Ax x a' W'->K a' W')->assign.wpIn (F.inRound l) (n-1-1) P (Exit.then K (fun _ _ _=>False)) { tmps:=(ps.zip (encs x)).foldl (fun t (p,v)=>t.setIfInBounds p v) a.tmps,defers:=[] } W)
  (hbody:∀ (l:Nat) (xs:List α) (x:α) (a':Act) (W:World),w.heap.size<=l->(∃ r,W.heap[l]?=some (.loop r))->Nx xs x->I xs W->Ax x a' W->body.wpIn (F.inRound l) (n-1-1) P (Exit.then (fun _ V=>KeepsFrom w.heap.size W V/\Kp W V/\I (xs++[x]) V) (fun _ _ _=>False)) a' W)
  (hdone:∀ (D:Nat) (xs:List α) (W:World),w.heap.size<=D->S xs->I xs W->W.heap[D]?=some (.deferred (some []))->Q .normal { a with defers:={ target := .collected D,args:=#[] }::a.defers } W) :
  (Code.rangeFunc g ps assign body).wpIn F n P Q a w:=by
 refine wpIn_rangeFunc fun fn hfn => ?_;rw [hro];obtain ⟨lp,hlp⟩:∃ lp:LoopState->Loop,lp=fun st=>{ state:=st,pending:=none,fn,tmps:=a.tmps,params:=ps,assign,body,defers:=w.heap.size }:=⟨_,rfl⟩;have hent:=QR (P:=P) (w:=w) fn a.tmps ps assign body;obtain ⟨V,hV⟩:∃ V,(w.alloc (.deferred (some []))).alloc (.loop (lp .ready))=V:=⟨_,rfl⟩;have hb:Below w w V:=hV ▸ (((Mw _ w).alloc (Mt _) _).alloc zad _);have hj:I [] V/\V.heap[w.heap.size+1]?=some (.loop (lp .ready))/\V.heap[w.heap.size]?=some (.deferred (some [])):=by
  rw [<- hV];exact ⟨hI.alloc _ (hI.alloc _ h0),by have:=MD (w.alloc (.deferred (some []))) (.loop (lp .ready));simpa using this,(NI _ _ _ zad).trans (MD w _)⟩
 refine ⟨w.heap.size+1,[{ target := .collected w.heap.size,args:=#[] }],V,{ target := .fn (.func gf) lb,args:=#[.func (.yield (w.heap.size+1)) #[] #[]] },V,gf,#[.func (.yield (w.heap.size+1)) #[] #[]]++lb,V,
  zbO,zbC,fun f' hf'=>zby,zbQ,fun _=>h1,?_⟩
 have hvs:V.heap.size=w.heap.size+2:=by rw [<- hV];simp
 refine (hseq (w.heap.size+1) (fun xs W=>I xs W/\W.heap[w.heap.size+1]?=some (.loop (lp .ready))/\W.heap[w.heap.size]?=some (.deferred (some []))) V hb zaa (fun xs A B row h hg' hr => ?_) (fun xs W h=>hRd xs W h.1) ?_ hj).mono ?_
 ·obtain ⟨hi,hl,hd⟩:=h;refine ⟨hI xs A B row hi hg' (fun r e=>⟨zat,(hr r e).2⟩),(hg'.block _ (Ms.1 hl).1 (fun e => ?_)).trans hl,(hg'.block _ (Ms.1 hd).1 (fun e => ?_)).trans hd⟩
  ·exact zfp
  ·exact zfp
 ·intro xs x W ⟨hi,hl,hd⟩ hnx;have hy:=run_yield (P:=P) (args:=encs x) hl (by rw [hlp];exact hps x);rw [hlp] at hy;refine ⟨fn,_,assign,body,hy,roundIn_of_wpIn hfn (hassign _ xs x W _ hi fun a' Wa hka hkp hia hax=>⟨_,run_beginRound (hka.same _ _ zaa hl rfl) (by rw [hlp]),?_⟩)⟩;have hl:=hka.same _ _ zaa hl rfl;have hd:=hka.same _ _ (Mt _) hd rfl;have hlt:=(Ms.1 hl).1;have k1:=hKb Wa _ (.loop { lp .ready with state:=LoopState.busy }) hl rfl;refine wpIn_mono (hbody _ xs x a' _ zaa ⟨_,Oo hlt⟩ hnx (hI.putObj _ hia zaa hl rfl) ((hAx x a').putObj (s:=()) _ hax zaa hl rfl)) ?_;intro e a' W' hp;cases e with
  | normal =>
   obtain ⟨hk,k2,hi'⟩:=hp;have hl':=hk.same _ _ zaa (Oo hlt) rfl;have hd':=hk.same _ _ (Mt _) ((Nu zaa).trans hd) rfl;have hr:=run_endRound (P:=P) none hl';have hrl:({ { lp .ready with state:=LoopState.busy } with state:=LoopState.ready,pending:=none }:Loop)=lp .ready:=by rw [hlp]
   refine ⟨_,_,hr,rfl,⟨hI.putObj _ hi' zaa hl' rfl,?_,(Nu zaa).trans hd'⟩,hKt hkp (hKt k1 (hKt k2 (hKb _ _ _ hl' rfl)))⟩;rw [Oo (Ms.1 hl').1];exact congrArg (fun r=>some (Obj.loop r)) hrl
  | _=>exact hp.elim
 ·intro e W ⟨⟨v,hv⟩,xs,hS,hi,hl,hd⟩;exact zd3
def KpM (B:Nat->TypeId->Prop) (W W':World):Prop:=W.heap.size<=W'.heap.size/\∀ (k:Nat) (c:Array Value) (t:TypeId) (f:Nat×Nat),W.heap[k]?=some (.cells c t f)->¬ B k t->W'.heap[k]?=some (.cells c t f)
theorem KpM.refl (B:Nat->TypeId->Prop) (W:World):KpM B W W:=⟨Mt _,fun _ _ _ _ h _=>h⟩
theorem KpM.tr (h:KpM B X Y) (k:KpM B Y Z):KpM B X Z:=⟨Mv h.1 k.1,fun i c t f hi hn=>k.2 i c t f (h.2 i c t f hi hn) hn⟩
theorem KpM.put (W:World) (l:Nat) (o o':Obj) (h:W.heap[l]?=some o) (ho:o.isCells=false):KpM B W (W.putObj l o'):=⟨by simp [World.putObj],fun k c t f hk _=>by
 by_cases e:l=k
 ·subst e;rw [h] at hk;cases hk
  cases ho
 ·exact (Nu zaa).trans hk⟩
theorem KpM.below (h:Below W W W'):KpM B W W':=⟨h.size,fun k _ _ _ hk _=>(h.block k (Ms.1 hk).1).trans hk⟩
theorem KpM.set (W:World) (p:Addr) (v:Value) (hp:∀ t,B p.block t):KpM B W (W.setCell p v):=⟨zad,fun k _ t _ hk hn=>(Nf W p v k (fun e=>hn (e ▸ hp t))).trans hk⟩
theorem KpM.cell (h:KpM B W W') (hc:W.cell? p=some v) (hn:∀ t,¬ B p.block t):W'.cell? p=some v:=by
 have:∃ c t f,W.heap[p.block]?=some (.cells c t f):=by
  unfold World.cell? at hc;split at hc
  ·rename_i c e f hb;exact ⟨_,_,_,hb⟩
  ·cases hc
 obtain ⟨c,t,f,hb⟩:=this;rw [<- hc];exact MK (w:=W) ((h.2 _ _ _ _ hb (hn _)).trans hb.symm)
theorem nH (h:Below W W W') (hc:W.cell? p=some v):W'.cell? p=some v:=(KpM.below (B:=fun _ _=>False) h).cell hc (fun _ h=>h)
theorem KpM.own {β:Type}:OwnFrom n (fun (_:β) W=>KpM B W0 W):=fun _ X Y row h hg hr=>h.tr ⟨hg.size,fun k c t f hk _=>(hg.block k (Ms.1 hk).1 (fun e=>by
 obtain ⟨_,o,ho,hc⟩:=hr k e.symm;rw [hk] at ho;cases ho
 cases hc)).trans hk⟩
def KpN (B:Nat->TypeId->Prop) (lo:Nat) (W W':World):Prop:=KpM B W W'/\KeepsFrom lo W W'
theorem KpN.refl (B:Nat->TypeId->Prop) (lo:Nat) (W:World):KpN B lo W W:=⟨KpM.refl _ _,NR _ _⟩
theorem KpN.tr (h:KpN B lo X Y) (k:KpN B lo Y Z):KpN B lo X Z:=⟨h.1.tr k.1,h.2.trans k.2⟩
theorem KpN.put {l:Nat} (hl:l<lo) (W:World) (o o':Obj) (h:W.heap[l]?=some o) (ho:o.isCells=false):KpN B lo W (W.putObj l o'):=⟨KpM.put W l o o' h ho,KeepsFrom.of_grownBy (N9 W l o') (fun j e=>by cases e;exact hl)⟩
theorem KpN.below (h:Below W W W'):KpN B lo W W':=⟨KpM.below h,⟨h.size,fun k _ _ hk _=>(h.block k (Ms.1 hk).1).trans hk⟩⟩
theorem KpN.set (W:World) (p:Addr) (v:Value) (hp:∀ t,B p.block t):KpN B lo W (W.setCell p v):=⟨KpM.set W p v hp,(NB W p v).from lo⟩
theorem KpN.own {β:Type} (hn:W0.heap.size<=n):OwnFrom n (fun (_:β) W=>KpN B lo W0 W):=(KpM.own).and (Q7 hn)
def marks (Ds:List Nat):List Deferred:=Ds.map fun D=>{ target := .collected D,args:=#[] }
theorem iq {F:Fence} {n:Nat} {P:Program} {fn:Func} {tmps:Array Value} {R:Ending->World->Prop} (Inv:World->Prop):∀ (Ds:List Nat) (W:World),Ds.Nodup->(∀ D∈Ds,W.heap[D]?=some (.deferred (some [])))->(∀ D V,D∈Ds->Inv V->V.heap[D]?=some (.deferred (some []))->Inv (V.putObj D (.deferred none)))->(∀ V,Inv V->LeavesIn F n P fn tmps R [] .returning V)->Inv W->LeavesInM F n P fn tmps R (marks Ds) .returning W
 | [],W,_,_,_,hR,hI=>hR W hI
 | D::Ds,W,hn,hD,hp,hR,hI=>by
  have h0:=hD D (Nk ..);obtain ⟨hn1,hn2⟩:=P1.1 hn;refine ⟨zad,.inl ⟨D,_,rfl,Nq h0,?_⟩⟩;refine iq Inv Ds _ hn2 (fun E hE=>(Nu (r:=D) (k:=E) (fun e=>hn1 (e ▸ hE))).trans (hD E (Nl _ hE))) (fun E V hE=>hp E V (Nl _ hE)) hR (hp D W (Nk ..) hI h0)
