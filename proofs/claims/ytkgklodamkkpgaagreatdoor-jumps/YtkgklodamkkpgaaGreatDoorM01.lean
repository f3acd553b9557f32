import Derived.Test.YtkgklodamkkpgaaGreatDoorM00
set_option maxRecDepth 100000
set_option maxHeartbeats 8000000
namespace Go.Proofs.YtkgklodamkkpgaaGreatDoor
variable {zp:Prop}
theorem zcX (h:zp:=by
 refine tH 18 (.int .u32 ((q.inside|||(p.inside|||t):Nat):Int)) rfl u0 ?_;refine tH 19 (.pointer (some ⟨b,ow*10,none⟩)) rfl u0 ?_;refine tH 20 (.pointer (some ⟨b,ow*10+5,none⟩)) rfl u0 ?_;refine zH 21 rfl fun K hK => ?_;go_simp;refine hK.out _ _ (by
  have e:∀ (a:Addr),a≠⟨b,ow*10+5,none⟩->∀ v,(W.setCell ⟨b,ow*10+5,none⟩ v).drew.cell? a=W.drew.cell? a:=fun a ha v=>az (fun h=>ha h.symm)
  (try dsimp only at u0);(try dsimp only)
  rw [e _ zak,e _ zak,e _ zak,e _ zak,e _ zak];exact u0) (fun u0 => ?_)
 clear hK K;refine Nt zab ?_ _;unfold oq;gi_wp2;refine ⟨zad,.inl ⟨_,_,rfl,NP hK8,?_⟩⟩;exact ⟨_,N5 rfl _ _ _,rfl,hfin⟩):zp:=h
theorem zdJ (h:zp:=by
 go_enter func202,ntmps202;go_wp2_with (go_at_call 201;refine he.mono ?_;rintro e w9 ⟨rfl,hw9⟩;rw [hw9];clear hw9 w9);go_end0;exact ⟨rfl,rfl⟩):zp:=h
theorem zd6 (h:zp:=by
 subst hv;exact ⟨none,_,zaV,hdone _ xs _ (MR _) hS (hI.putObj _ hi zaa hl rfl) ((NU zaa).trans hd)⟩):zp:=h
theorem zex (h:zp:=by
 intro l pre x W K hI hK;gi_wp2;exact hK _ _ (Oj _ _) (fun h=>h) hI rfl):zp:=h
theorem zeN (h:zp:=by
 go_enter func201,ntmps201;go_wp2;go_ret;exact ⟨rfl,rfl⟩):zp:=h
theorem zfo (h:zp:=by
 simp [results,Tryz.f146,go_sem,hc5]):zp:=h
theorem zfu (h:zp:=by
 have:=(hr _ e.symm).1;omega):zp:=h
theorem zak (h:zp:=by intro h;injection h with h1 h2;omega):zp:=h
theorem zas (h:zp:=by have:=(hr r e).1;omega):zp:=h
theorem zaA (h:zp:=by rw [<- OL];exact hz):zp:=h
theorem zaM (h:zp:=by rw [Pg.cy];exact hS):zp:=h
theorem zaV (h:zp:=by have:=RN (P:=P) hl (by rw [hlp];simp);rw [hlp] at this;exact this):zp:=h
theorem zaX (h:zp:=by rw [M0 w _ _ _ _ _ hn];rfl):zp:=h
theorem zaZ (h:zp:=by rw [e] at hz;simp at hz):zp:=h
theorem za6 (h:zp:=by rw [hk];rfl):zp:=h
theorem zbs (h:zp:=by simpa using hk):zp:=h
theorem zbA (h:zp:=by simp [Target.leads] at hf';exact hf' ▸ hF):zp:=h
theorem zbD (h:zp:=by intro x;injection x with x1 x2;omega):zp:=h
theorem zbE (h:zp:=by simp only [resolve,hg];simp [go_sem]):zp:=h
theorem zbQ (h:zp:=by rw [<- hV,hlp];exact hent):zp:=h
theorem zbS (h:zp:=by simp [invoke,go_sem,eg]):zp:=h
theorem zco (h:zp:=by have:=(MZ.1 hv).1;simpa [PS.cells] using this):zp:=h
theorem zcp (h:zp:=by intro h;injection h with h1;exact hcn h1.symm):zp:=h
open Tryz
variable {c a w W W' b W0 X Y Z:World} {P:Nat->Prop} {Q:Exit->Act->World->Prop} {i n pb cap lo:Nat} {B:Nat->TypeId->Prop} {t:TypeId} {v:Value} {g:Operand} {assign body:Code} {p:Addr}
section
open Go.RowKit Go.Proofs Go.Shelf
attribute [local go_sem] NR
def oq (Q:Exit->Act->World->Prop):Exit->Act->World->Prop
 | .normal,a,w=>Q .normal a w
 | .ret,_,_=>False
 | .exit _,_,_=>False
 | .goto _,_,_=>False
 | .panic _,_,_=>False
 | .outgrown,_,_=>False
theorem jV {c:Code} {P:Program} {a:Act} (h:c.wp P (oq Q) a w):c.wp P Q a w:=fun b k cs=>by
 obtain ⟨e,a',w',q,r⟩:=h b k cs;cases e <;> first | exact q.elim | exact ⟨_,_,_,q,r⟩
namespace Pg
def lu (ps:List PS) (i:Nat):Int:=match ps[i]? with | some p=>p.kind | none=>1
def dom (ps:List PS) (i j:Nat):Nat:=match (els (ji ps i&&&ji ps j)).reverse.find? (fun k=>lu ps k == 0) with | some k=>jn ps k | none=>2 ^ ps.length-1
theorem Jq {f:Nat->Bool} {l q:List Nat} (h:q++[i] <+: l) (hq:∀ j∈q,f j=false) (hi:f i=true):l.find? f=some i:=by
 obtain ⟨t,rfl⟩:=h;rw [OV,List.find?_append];have:q.find? f=none:=List.find?_eq_none.2 fun x hx=>by rw [hq x hx];decide
 rw [this];simp [hi]
end Pg
theorem D5 (n:Nat) (hn:3<=n) (w:World) (pb b cap:Nat) (ps:List Pg.PS) (i j:Nat) (p q:Pg.PS) (hpi:ps[i]?=some p) (hqj:ps[j]?=some q) (hin:∀ i,i∈Pg.els (p.around&&&q.around)->i<ps.length) (hP:Pg.bZ w pb b cap ps) (hpb:pb<w.heap.size) (hb:b<w.heap.size) :
  CallsIn Fence.wide n prog 152 #[pb,(i:Int),(j:Int)] w fun e w'=>e = .returned (.int .u32 (Pg.dom ps i j))/\Below w w w':=by
 have h1:1<=n:=zaa;have hil:i<ps.length:=(MZ.1 hpi).1;have hjl:j<ps.length:=(MZ.1 hqj).1;have hlen:=hP.len;have sp:=(hP.sm i p hpi).ha;have sq:=(hP.sm j q hqj).ha;have ha1:=Qg _ _ sp sq;have hs:p.around&&&q.around<4294967296:=Pg.j6 sp;refine NX func152 rfl trivial ?_ rfl;simp only [ntmps152,List.size_toArray,List.length_cons,List.length_nil,Nat.reduceAdd,Nat.reduceSub,Array.replicate_succ,Array.replicate_zero,List.push_toArray,List.append_toArray,List.nil_append,List.cons_append];gi_wp2;have c0:=NA w 73 pb;have c1:=NA (w.alloc (.cells #[pb] 73)) 75 (.int .u32 0);simp only [World.size_alloc] at c1;have c0:=c0.alloc (.cells #[.int .u32 0] 75);have hB0:Below w w ((w.alloc (.cells #[pb] 73)).alloc (.cells #[.int .u32 0] 75)):=((MY _ w).alloc (MR _) _).alloc zad _;obtain ⟨W0,hW0⟩:∃ W0,(w.alloc (.cells #[pb] 73)).alloc (.cells #[.int .u32 0] 75)=W0:=⟨_,rfl⟩;have hsz:W0.heap.size=w.heap.size+1+1:=by rw [<- hW0];simp
 rw [hW0] at c0 c1 hB0 ⊢;have hP0:=hP.below hB0 hpb hb;refine RU.2 (jV ?_);refine No (S:=(fun V=>V.cell? w=some ↑pb/\V.cell? pb=some (.slice b ps.length cap)/\V.cell? ⟨b,i*10+6,none⟩=some (.int .u32 p.around)/\V.cell? ⟨b,j*10+6,none⟩=some (.int .u32 q.around))) zab ⟨c0.cell,hP0.row,(hP0.at' i p hpi).c6,(hP0.at' j q hqj).c6⟩ (fun u0 => ?_);refine tH 0 pb rfl u0 ?_;refine tH 1 pb rfl u0 ?_;refine tH 2 pb rfl u0 ?_;refine tH 3 (.slice b ps.length cap) rfl u0 ?_;refine tH 4 (.int .i64 i) rfl u0 ?_;refine tH 5 (.pointer (some ⟨b,i*10,none⟩)) rfl u0 ?_;refine tH 6 (.pointer (some ⟨b,i*10+6,none⟩)) rfl u0 ?_;refine tH 7 (.int .u32 p.around) rfl u0 ?_;refine tH 8 pb rfl u0 ?_;refine tH 9 pb rfl u0 ?_;refine tH 10 pb rfl u0 ?_;refine tH 11 (.slice b ps.length cap) rfl u0 ?_;refine tH 12 (.int .i64 j) rfl u0 ?_;refine tH 13 (.pointer (some ⟨b,j*10,none⟩)) rfl u0 ?_;refine tH 14 (.pointer (some ⟨b,j*10+6,none⟩)) rfl u0 ?_;refine tH 15 (.int .u32 q.around) rfl u0 ?_;refine tH 16 (.int .u32 ((p.around&&&q.around:Nat):Int)) rfl u0 ?_;refine zH 17 rfl fun K hK => ?_;go_simp;refine (nJ _ _).mono ?_;rintro e w9 ⟨rfl,rfl⟩;have hB1:Below w w (W0.drew.alloc (.cells #[.int .u32 ((p.around&&&q.around:Nat):Int)] 75)):=(hB0.trans (MY _ W0).drew).alloc (by simp [hsz];omega) _;have d0:=Boxed.alloc (W:=W0.drew) (show Boxed W0.drew _ _ _ from c0) (.cells #[.int .u32 ((p.around&&&q.around:Nat):Int)] 75);have d1:=Boxed.alloc (W:=W0.drew) (show Boxed W0.drew _ _ _ from c1) (.cells #[.int .u32 ((p.around&&&q.around:Nat):Int)] 75);have d2:=NA W0.drew 75 (.int .u32 ((p.around&&&q.around:Nat):Int));have hsz':W0.drew.heap.size=w.heap.size+1+1:=hsz;rw [hsz'] at d2 ⊢;have hP1:=hP.below hB1 hpb hb;refine hK.out _ _ ⟨d0.cell,hP1.row,(hP1.at' i p hpi).c6,(hP1.at' j q hqj).c6⟩ (fun u0 => ?_);clear hK K u0;refine Nt zab ?_ _;unfold oq;gi_wp2;obtain ⟨W1,hW1⟩:∃ W1,(W0.alloc (.cells #[.int .u32 ((p.around&&&q.around:Nat):Int)] 75)).drew=W1:=⟨_,rfl⟩;have hW1':W0.drew.alloc (.cells #[.int .u32 ((p.around&&&q.around:Nat):Int)] 75)=W1:=hW1;have hsz1:W1.heap.size=w.heap.size+1+1+1:=by rw [<- hW1',Of,hsz']
 rw [hW1'] at d0 d1 d2 hB1 hP1;rw [hW1];clear hW1 hW1' hW0 hB0 hP0 c0 c1 hsz hsz';have hdm:Pg.dom ps i j=match (Pg.els (p.around&&&q.around)).reverse.find? (fun k=>Pg.lu ps k == 0) with | some k=>Pg.jn ps k | none=>2 ^ ps.length-1:=by
  unfold Pg.dom Pg.ji;rw [hpi,hqj]
 generalize hsd:p.around&&&q.around=s at *;refine QI rfl h1 (gf:=231) (lb:=#[↑(w.heap.size+1+1)]) rfl trivial (Pe func231 zab rfl)
  (kY (n-1) zaa (w.heap.size+1+1) s hs _ zaa d2.cell) (fun _ _=>trivial) (fun _ _ _ _ _ _ _ _=>trivial) (MY _ _) (fun _=>rfl)
  (fun pre W=>((∀ k∈Pg.aX pre,(Pg.lu ps k == 0)=false)/\Boxed W w 73 pb/\Boxed W (w.heap.size+1) 75 (.int .u32 0))/\Below w w W)
  (fun c pre W=>((c = .ret/\∃ (l:List Nat) (k:Nat),Pg.aX pre=l++[k]/\(∀ k∈l,(Pg.lu ps k == 0)=false)/\(Pg.lu ps k == 0)=true)/\∃ k,(Pg.aX pre).getLast?=some k/\Boxed W (w.heap.size+1) 75 (.int .u32 (Pg.jn ps k)))/\Below w w W)
  (NH (NH (fun _ _ _ _ h _ _=>h) (NH (Oo (Og _ _ _) _) (Oo (Og _ _ _) _))) (OX (MR _) zaa))
  (fun c=>NH (NH (fun _ _ _ _ h _ _=>h) (fun s0 A B row h hg hr=>by
   obtain ⟨k,hk,hb⟩:=h;exact ⟨k,hk,(Oo (Og (w.heap.size+1) 75 (fun _:Unit => .int .u32 (Pg.jn ps k))) _) () A B row hb hg hr⟩)) (OX (MR _) zaa))
  ⟨⟨fun k hk=>(by cases hk),d0,d1⟩,hB1⟩
  (fun x=>{ tmps:=#[.pointer (some ⟨pb,0,none⟩),.int .i64 i,.int .i64 j,.pointer (some ⟨w.heap.size,0,none⟩),undef,undef,.pointer (some ⟨w.heap.size+1,0,none⟩),.int .i64 x.1,.pointer (some ⟨pb,0,none⟩),.pointer (some ⟨pb,0,none⟩),.pointer (some ⟨pb,0,none⟩),.slice (some ⟨b,0,none⟩) ps.length cap,.int .i64 i,.pointer (some ⟨b,i*10,none⟩),.pointer (some ⟨b,i*10+6,none⟩),.int .u32 p.around,.pointer (some ⟨pb,0,none⟩),.pointer (some ⟨pb,0,none⟩),.pointer (some ⟨pb,0,none⟩),.slice (some ⟨b,0,none⟩) ps.length cap,.int .i64 j,.pointer (some ⟨b,j*10,none⟩),.pointer (some ⟨b,j*10+6,none⟩),.int .u32 q.around,.int .u32 s,.func (.func 231) #[] #[.pointer (some ⟨w.heap.size+1+1,0,none⟩)],.int .i64 x.1,undef,undef,undef,undef,undef,undef,undef,undef,undef,undef,undef,undef,undef,undef,undef,undef,undef,undef,undef,undef,undef,undef,undef,undef],defers:=[] }) ?assign ?body ?done ?stop
 case assign =>
  exact zfs
 case body =>
  rintro l pre x W ⟨⟨hne,hp,hr⟩,hB⟩ _;have hxl:=hin x.1 x.2;obtain ⟨px,hpx⟩:∃ p,ps[x.1]?=some p:=⟨_,MU hxl⟩;have hPW:=hP.below hB hpb hb;have hpc:=hp.cell;have hrc:=hr.cell;have hrf:=hr.frozen;have hrow:=hPW.row;have k0:=(hPW.at' x.1 px hpx).c0;have k5:=(hPW.at' x.1 px hpx).c5;have hkA:Pg.lu ps x.1=px.kind:=by unfold Pg.lu;rw [hpx]
  have hiA:Pg.jn ps x.1=px.inside:=by unfold Pg.jn;rw [hpx]
  have hv:=Pg.dS pre x;have hset:Boxed (W.setCell ⟨w.heap.size+1,0,none⟩ (.int .u32 px.inside)) (w.heap.size+1) 75 (.int .u32 (Pg.jn ps x.1)):=by
   rw [hiA];exact RA _ hr
  have hBs:∀ v,Below w w (W.setCell ⟨w.heap.size+1,0,none⟩ v):=fun v=>hB.setCell (p:=⟨w.heap.size+1,0,none⟩) zad _;gi_wp2
  ·rename_i hk;exact ⟨N0 _ _ _,⟨⟨rfl,Pg.aX pre,x.1,hv,hne,by rw [hkA];exact hk⟩,x.1,by rw [hv];simp,hset⟩,hBs _⟩
  ·rename_i hk;refine ⟨KeepsOthers.refl _,trivial,⟨?_,hp,hr⟩,hB⟩;intro k hm;rw [hv] at hm
   rcases Nr.1 hm with h | h
   ·exact hne k h
   ·rw [M8.1 h,hkA];exact hk
 case done =>
  rintro D ys W hD hys ⟨⟨hne,hp,hr⟩,hB⟩ hK;rw [Pg.cy,hys] at hne;have hfn:(Pg.els s).reverse.find? (fun k=>Pg.lu ps k == 0)=none:=List.find?_eq_none.2 fun k hk=>by rw [hne k hk];decide
  rw [hfn] at hdm;have hPW:=hP.below hB hpb hb;have hpc:=hp.cell;have hrc:=hr.cell;have hrf:=hr.frozen;have hrow:=hPW.row;have hone:=fun w=>iz ps.length w zaa;have hm1:=OF ps.length;have hm2:=gb (i:=ps.length) zaa;generalize 2 ^ ps.length=m at *;have hsub:((m:Int)-1)=((m-1:Nat):Int):=zaa;gi_wp2_with (refine ⟨trivial,?_⟩;gi_at_call 93;refine (Nz.2 (hone _)).mono ?_;rintro e w9 ⟨rfl,hw9⟩;rw [hw9];clear hw9 w9);have hK':=(N0 W ⟨w.heap.size+1,0,none⟩ (.int .u32 ((m-1:Nat):Int))).same D _ hK rfl;refine ⟨zad,.inl ⟨_,_,rfl,NP hK',?_⟩⟩;have hc5:=cell_kept (RA (.int .u32 ((m-1:Nat):Int)) hr).cell (OG _ D (.deferred none)) (fun r e=>by cases e;exact ⟨_,hK',rfl⟩)
  refine ⟨.int .u32 ((m-1:Nat):Int),?_,by rw [hdm],(hB.setCell (p:=⟨w.heap.size+1,0,none⟩) zad _).trans (Po (w:=w) (MR _) _ D _ _ zaa hK' rfl rfl)⟩;simp [results,Tryz.f152,go_sem,hc5]
 case stop =>
  rintro D c pre W hD hpre ⟨⟨⟨rfl,l,k,hl,hq,hk⟩,k',hk',hr⟩,hB⟩ hK;rw [hl] at hk';have hkk:k=k':=by simpa using hk'
  subst hkk;rw [<- Pg.cy,hl] at hpre;rw [Pg.Jq hpre hq hk] at hdm;gi_wp2;refine ⟨zad,.inl ⟨_,_,rfl,NP hK,?_⟩⟩;have hc5:=cell_kept hr.cell (OG _ D (.deferred none)) (fun r e=>by cases e;exact ⟨_,hK,rfl⟩);refine ⟨.int .u32 (Pg.jn ps k),?_,rfl,hB.trans (Po (w:=w) (MR _) W D _ _ zaa hK rfl rfl)⟩;simp [results,Tryz.f152,go_sem,hc5]
theorem AZ (w:World) (pb b cap:Nat) (ps:List Pg.PS) (i:Nat) (p:Pg.PS) (fin act:Nat) (hpi:ps[i]?=some p) (hk:(p.kind != 1)=true) (hfin:w.cell? ⟨pb,2,none⟩=some (.int .u32 fin)) (hf:fin<4294967296) (ha:act<4294967296) (hP:Pg.bZ w pb b cap ps) (hpb:pb<w.heap.size) (hb:b<w.heap.size) :
  () 146 #[pb,(i:Int),.int .u32 act] w fun e w'=>e = .returned (.bool (p.parts&&&fin&&&act != 0))/\Below w w w':=by
 have hil:i<ps.length:=(MZ.1 hpi).1;have hlen:=hP.len;have sp:=(hP.sm i p hpi).hp;have ha1:=Qg _ _ sp hf;have ha2:=Qg _ _ (Pg.j6 (b:=fin) sp) ha;obtain ⟨r,hr⟩:∃ r,(p.parts&&&fin&&&act != 0)=r:=⟨_,rfl⟩;have hrI:(((p.parts&&&fin&&&act:Nat):Int) != 0)=r:=by
  rw [<- hr];cases h:(p.parts&&&fin&&&act)
  ·rfl
  ·simp;omega
 rw [hr];have c0:=NA w 73 pb;have c1:=NA (w.alloc (.cells #[pb] 73)) 75 (.int .u32 act);have c2:=NA ((w.alloc (.cells #[pb] 73)).alloc (.cells #[.int .u32 act] 75)) 4 (.bool false);simp only [World.size_alloc] at c1 c2;have c0:=(c0.alloc (.cells #[.int .u32 act] 75)).alloc (.cells #[false] 4);have c1:=c1.alloc (.cells #[false] 4);have hB0:Below w w (((w.alloc (.cells #[pb] 73)).alloc (.cells #[.int .u32 act] 75)).alloc (.cells #[false] 4)):=(((MY _ w).alloc (MR _) _).alloc zad _).alloc zae _;have hP0:=hP.below hB0 hpb hb;have hF0:=(hB0.cell (p:=⟨pb,2,none⟩) hpb).trans hfin;have h0:=hP0.row;have k0:=(hP0.at' i p hpi).c0;have k4:=(hP0.at' i p hpi).c4;have q0:=c0.cell;go_enter func146,ntmps146;go_wp2;obtain ⟨W0,hW0⟩:∃ W0,((w.alloc (.cells #[pb] 73)).alloc (.cells #[.int .u32 act] 75)).alloc (.cells #[false] 4)=W0:=⟨_,rfl⟩;rw [hW0] at c0 c1 c2 hB0 hF0 h0 k0 k4 q0 ⊢;have hrc:=c2.cell;have hrf:=c2.frozen;refine jV ?_;refine No (S:=(fun V=>V.cell? w=some ↑pb/\V.cell? ⟨pb,2,none⟩=some (.int .u32 fin)/\V.cell? ⟨b,i*10+4,none⟩=some (.int .u32 p.parts)/\V.cell? ⟨w.heap.size+1,0,none⟩=some (.int .u32 act))) zab ⟨c0.cell,hF0,k4,c1.cell⟩ (fun u0 => ?_);refine tH 0 (.pointer (some ⟨b,i*10,none⟩)) rfl u0 ?_;refine tH 1 (.pointer (some ⟨b,i*10,none⟩)) rfl u0 ?_;refine tH 2 (.pointer (some ⟨b,i*10+4,none⟩)) rfl u0 ?_;refine tH 3 (.int .u32 p.parts) rfl u0 ?_;refine tH 4 pb rfl u0 ?_;refine tH 5 pb rfl u0 ?_;refine tH 6 (.pointer (some ⟨pb,2,none⟩)) rfl u0 ?_;refine tH 7 (.int .u32 fin) rfl u0 ?_;refine tH 8 (.int .u32 ((p.parts&&&fin:Nat):Int)) rfl u0 ?_;refine tH 9 (.int .u32 act) rfl u0 ?_;refine tH 10 (.int .u32 ((p.parts&&&fin&&&act:Nat):Int)) rfl u0 ?_;refine tH 11 (.bool r) rfl u0 ?_;refine zH 12 rfl fun K hK => ?_;go_simp;refine hK.out _ _ (by
  have e:∀ (a:Addr),a.block≠w.heap.size+1+1->∀ v,(W0.setCell ⟨w.heap.size+1+1,0,none⟩ v).drew.cell? a=W0.drew.cell? a:=fun a ha v=>World.cell?_setCell_far W0 _ _ _ (fun h=>ha h.symm)
  (try dsimp only at u0);(try dsimp only)
  rw [e _ zae,e _ zae,e _ zae,e _ zad];exact u0) (fun _ => ?_)
 clear hK K;refine Nt zab ?_ _;unfold oq;go_wp2;have hc5:((W0.setCell ⟨w.heap.size+1+1,0,none⟩ (.bool r)).drew).cell? ⟨w.heap.size+1+1,0,none⟩=some (.bool r):=(RA (.bool r) c2).cell;refine OI (v := .bool r) ?_ rfl ?_
 ·exact zfo
 ·exact ⟨rfl,(hB0.setCell (p:=⟨w.heap.size+1+1,0,none⟩) zae _).trans (MY _ _).drew⟩
attribute [local go_sem] NR
namespace Pg
def atEnd (ps:List PS) (fin act:Nat):Nat->Nat->Bool
 | 0,_=>false
 | f+1,i=>match ps[i]? with
  | none=>false
  | some p=>if p.kind != 1 then p.parts&&&fin&&&act != 0 else (els p.parts).all (atEnd ps fin act f)
theorem ed (h:Below W W W'):KeepsOthers W W':=⟨h.size,fun k _ hk _=>(h.block k (MQ.1 hk).1).trans hk⟩
theorem jC {B:Nat} (h:Boxed W B t v) (hB:Below W W W'):Boxed W' B t v:=(hB.block B h.lt).trans h
end Pg
theorem DU (pb b cap:Nat) (ps:List Pg.PS) (fin act:Nat) (hf:fin<4294967296) (ha:act<4294967296) (hpt:∀ (i:Nat) (p:Pg.PS),ps[i]?=some p->∀ j∈Pg.els p.parts,i<j/\j<ps.length):∀ (f i:Nat) (p:Pg.PS) (w:World),ps.length-i<=f->ps[i]?=some p->w.cell? ⟨pb,2,none⟩=some (.int .u32 fin)->Pg.bZ w pb b cap ps->pb<w.heap.size->b<w.heap.size->1<w.heap.size->TabAt 1 Lib.deBruijn32tab w ->
  () 146 #[pb,(i:Int),.int .u32 act] w fun e w'=>e = .returned (.bool (Pg.atEnd ps fin act f i))/\Below w w w':=by
 intro f
 induction f with
 | zero =>
  intro i p w hfu hpi;have hil:i<ps.length:=(MZ.1 hpi).1;omega
 | succ f ih =>
 intro i p w hfu hpi hfin hP hpb hb hg hT;have hil:i<ps.length:=(MZ.1 hpi).1;have hlen:=hP.len;by_cases hk:(p.kind != 1)=true
 ·have:Pg.atEnd ps fin act (f+1) i=(p.parts&&&fin&&&act != 0):=by
   rw [Pg.atEnd,hpi];simp only [hk,if_true]
  rw [this];exact AZ w pb b cap ps i p fin act hpi hk hfin hf ha hP hpb hb
 have hk:(p.kind != 1)=false:=zbs;have hae:Pg.atEnd ps fin act (f+1) i=(Pg.els p.parts).all (Pg.atEnd ps fin act f):=by
  rw [Pg.atEnd,hpi];simp only [hk];rfl
 have hs:=(hP.sm i p hpi).hp;have hin:=hpt i p hpi;refine (Nz (n:=3)).1 ?_;have c0:=NA w 73 pb;have c1:=NA (w.alloc (.cells #[pb] 73)) 75 (.int .u32 act);have c2:=NA ((w.alloc (.cells #[pb] 73)).alloc (.cells #[.int .u32 act] 75)) 4 (.bool false);have c3:=NA (((w.alloc (.cells #[pb] 73)).alloc (.cells #[.int .u32 act] 75)).alloc (.cells #[false] 4)) 75 (.int .u32 p.parts);simp only [World.size_alloc] at c1 c2 c3;have hB0:Below w w (((w.alloc (.cells #[pb] 73)).alloc (.cells #[.int .u32 act] 75)).alloc (.cells #[false] 4)):=(((MY _ w).alloc (MR _) _).alloc zad _).alloc zae _;have hP0:=hP.below hB0 hpb hb;have h0:=hP0.row;have k0:=(hP0.at' i p hpi).c0;have k4:=(hP0.at' i p hpi).c4;have q0:=((c0.alloc (.cells #[.int .u32 act] 75)).alloc (.cells #[false] 4)).cell;refine NX func146 rfl trivial ?_ rfl;simp only [ntmps146,List.size_toArray,List.length_cons,List.length_nil,Nat.reduceAdd,Nat.reduceSub,Array.replicate_succ,Array.replicate_zero,List.push_toArray,List.append_toArray,List.nil_append,List.cons_append];gi_wp2_with (refine ⟨trivial,?_⟩;gi_at_call 92;refine (Nz.2 (dy p.parts _)).mono ?_;rintro e w9 ⟨rfl,hw9⟩;rw [hw9];clear hw9 w9);have hB1:=hB0.alloc zae (.cells #[.int .u32 p.parts] 75);refine QI rfl zaa (gf:=144) (lb:=#[↑(w.heap.size+1+1+1)]) rfl trivial (Pe func144 zab rfl)
  (eY 2 zaa (w.heap.size+1+1+1) p.parts hs _ zad zad c3.cell (Pg.KpT.of hB1 hg hT)) Pg.KpT.tr (fun W l o o' hl h hc hw=>Pg.KpT.of (Po (n₀:=w.heap.size) (MX (Qc _ 4) zad) W l o o' hl h hc hw) hg) (MY _ _) (fun _=>rfl)
  (fun pre W=>((∀ k∈Pg.aX pre,Pg.atEnd ps fin act f k=true)/\Boxed W w 73 pb/\Boxed W (w.heap.size+1) 75 (.int .u32 act)/\Boxed W (w.heap.size+1+1) 4 (.bool false))/\Below w w W)
  (fun c pre W=>((c = .ret/\∃ k∈Pg.aX pre,Pg.atEnd ps fin act f k=false)/\Boxed W (w.heap.size+1+1) 4 (.bool false))/\Below w w W)
  (NH (NH (fun _ _ _ _ h _ _=>h) (NH (Oo (Og _ _ _) _) (NH (Oo (Og _ _ _) _) (Oo (Og _ _ _) _)))) (OX (MR _) zae))
  (fun c=>NH (NH (fun _ _ _ _ h _ _=>h) (Oo (Og _ _ _) _)) (OX (MR _) zae))
  ⟨⟨fun k hk=>(by cases hk),((c0.alloc _).alloc _).alloc _,(c1.alloc _).alloc _,c2.alloc _⟩,hB1⟩
  (fun x=>{ tmps:=#[.pointer (some ⟨pb,0,none⟩),.int .i64 i,.int .u32 act,.pointer (some ⟨w.heap.size,0,none⟩),undef,.pointer (some ⟨w.heap.size+1,0,none⟩),.pointer (some ⟨w.heap.size+1+1,0,none⟩),.pointer (some ⟨b,i*10,none⟩),.int .i64 x.1,.pointer (some ⟨pb,0,none⟩),.pointer (some ⟨pb,0,none⟩),.pointer (some ⟨pb,0,none⟩),.slice (some ⟨b,0,none⟩) ps.length cap,.int .i64 i,.pointer (some ⟨b,i*10,none⟩),.pointer (some ⟨b,i*10,none⟩),.pointer (some ⟨b,i*10,none⟩),.pointer (some ⟨b,i*10,none⟩),.int .i64 p.kind,.bool false,undef,undef,undef,undef,undef,undef,undef,undef,undef,undef,undef,undef,.pointer (some ⟨b,i*10,none⟩),.pointer (some ⟨b,i*10,none⟩),.pointer (some ⟨b,i*10+4,none⟩),.int .u32 p.parts,.func (.func 144) #[] #[.pointer (some ⟨w.heap.size+1+1+1,0,none⟩)],.int .i64 x.1,undef,undef,undef,undef,undef],defers:=[] }) ?assign ?body ?done ?stop
 case assign =>
  exact zfs
 case body =>
  rintro l pre x W ⟨⟨hall,hp,hac,hr⟩,hB⟩ _;obtain ⟨hx1,hx2⟩:=hin x.1 x.2;obtain ⟨px,hpx⟩:∃ p,ps[x.1]?=some p:=⟨_,MU hx2⟩;have hsz:=hB.size;have hih:=ih x.1 px W zaa hpx ((hB.cell (p:=⟨pb,2,none⟩) hpb).trans hfin) (hP.below hB hpb hb) zaa zaa zaa (Pg.KpT.of hB hg hT);have hpc:=hp.cell;have hacc:=hac.cell;have hv:=Pg.dS pre x;obtain ⟨r,hr0⟩:∃ r,Pg.atEnd ps fin act f x.1=r:=⟨_,rfl⟩;rw [hr0] at hih;have hih:() 146 #[pb,(x.1:Int),.int .u32 act] W fun e w'=>e = .returned r/\Below W W w'/\w'.cell? ⟨w.heap.size+1+1,0,none⟩=some (.bool false)/\w'.frozen? ⟨w.heap.size+1+1,0,none⟩=false:=hih.mono fun e w' h=>⟨h.1,h.2,(Pg.jC hr h.2).cell,(Pg.jC hr h.2).frozen⟩;cases r
  all_goals gi_wp2_with (refine ⟨trivial,?_⟩;gi_at_call 146;refine (aH hih).mono ?_;clear hih;rintro e w9 ⟨rfl,hB9,h9c,h9f⟩)
  ·rename_i w9 hB9 h9c h9f;exact ⟨(Pg.ed hB9).trans (N0 _ _ _),⟨⟨rfl,x.1,by rw [hv];simp,hr0⟩,RA _ (Pg.jC hr hB9)⟩,(hB.trans (hB9.mono hsz)).setCell (p:=⟨w.heap.size+1+1,0,none⟩) zae _⟩
  ·rename_i w9 hB9 h9c h9f;refine ⟨Pg.ed hB9,Pg.KpT.of hB9 zaa,⟨?_,Pg.jC hp hB9,Pg.jC hac hB9,Pg.jC hr hB9⟩,hB.trans (hB9.mono hsz)⟩;intro k hm;rw [hv] at hm
   rcases Nr.1 hm with h | h
   ·exact hall k h
   ·rw [M8.1 h];exact hr0
 case done =>
  rintro D ys W hD hys ⟨⟨hall,hp,hac,hr⟩,hB⟩ hK;rw [Pg.cy,hys] at hall;have hrc:=hr.cell;have hrf:=hr.frozen;gi_wp2;have hK':=(N0 W ⟨w.heap.size+1+1,0,none⟩ (.bool true)).same D _ hK rfl;refine ⟨zad,.inl ⟨_,_,rfl,NP hK',?_⟩⟩;have hc5:=cell_kept (RA (.bool true) hr).cell (OG _ D (.deferred none)) (fun r e=>by cases e;exact ⟨_,hK',rfl⟩);refine ⟨.bool true,?_,by rw [hae,PX.2 hall],(hB.setCell (p:=⟨w.heap.size+1+1,0,none⟩) zae _).trans (Po (w:=w) (MR _) _ D _ _ zbn hK' rfl rfl)⟩;exact zfo
 case stop =>
  rintro D c pre W hD hpre ⟨⟨⟨rfl,k,hk1,hk2⟩,hr⟩,hB⟩ hK;rw [<- Pg.cy] at hpre;have hfa:(Pg.els p.parts).all (Pg.atEnd ps fin act f)=false:=QT.2 ⟨k,hpre.subset hk1,by rw [hk2];decide⟩;gi_wp2;refine ⟨zad,.inl ⟨_,_,rfl,NP hK,?_⟩⟩;have hc5:=cell_kept hr.cell (OG _ D (.deferred none)) (fun r e=>by cases e;exact ⟨_,hK,rfl⟩);refine ⟨.bool false,?_,by rw [hae,hfa],hB.trans (Po (w:=w) (MR _) W D _ _ zbn hK rfl rfl)⟩;exact zfo
attribute [local go_sem] NR
theorem nS (h1:2<=n) {ps:Array Tmp} {a:Act} (Bs s:Nat) (hs:s<4294967296)
  (he:a.eval g = .func (.func 144) #[] #[Bs]) (hBs:Bs<w.heap.size) (hg:1<w.heap.size) (hc:w.cell? Bs=some (.int .u32 s)) (hT:TabAt 1 Lib.deBruijn32tab w) (hps:1=ps.size)
  (I:List (Pg.In s)->World->Prop) (Ix:Code->List (Pg.In s)->World->Prop) (hI:OwnFrom w.heap.size I) (hIx:∀ c,OwnFrom w (Ix c)) (h0:I [] w) (Ax:Pg.In s->Act->World->Prop) (hAx:∀ x a',OwnFrom w (fun (_:Unit) W=>Ax x a' W))
  (hassign:∀ (l:Nat) (pre:List (Pg.In s)) (x:Pg.In s) (W:World) (K:Act->World->Prop),I pre W->(∀ a' W',KeepsFrom w W W'->Pg.KpT W W'->I pre W'->Ax x a' W'->K a' W') ->
   assign.wpIn (Fence.wide.inRound l) (n-1-1) prog (Exit.then K (fun _ _ _=>False)) { tmps:=(ps.zip #[Value.int .i64 (x.1:Int)]).foldl (fun t (p,v)=>t.setIfInBounds p v) a.tmps,defers:=[] } W)
  (hbody:∀ (l:Nat) (pre:List (Pg.In s)) (x:Pg.In s) (a':Act) (W:World),w.heap.size<=l->(∃ r,W.heap[l]?=some (.loop r))->I pre W->Ax x a' W->pre.length<32->body.wpIn (Fence.wide.inRound l) (n-1-1) prog (ownPostG w Pg.KpT I Ix (pre++[x]) W) a' W)
  (hdone:∀ (D:Nat) (xs:List (Pg.In s)) (W:World),w.heap.size<=D->Pg.aX xs=Pg.els s->I xs W->W.heap[D]?=some (.deferred (some []))->Q .normal { a with defers:={ target := .collected D,args:=#[] }::a.defers } W)
  (hstop:∀ (D:Nat) (c:Code) (pre:List (Pg.In s)) (W:World),w.heap.size<=D->Pg.aX pre <+: Pg.els s->Ix c pre W->W.heap[D]?=some (.deferred (some []))->c.wpIn Fence.wide n prog Q { a with defers:={ target := .collected D,args:=#[] }::a.defers } W) :
  (Code.rangeFunc g ps assign body).wpIn Fence.wide n prog Q a w :=
 Qb rfl zaa (gf:=144) he trivial (Pe func144 zab rfl)
  (eY (n-1) zaa Bs s hs w hBs hg hc hT) Pg.KpT.tr (fun W l o o' hl h hc hw=>Pg.KpT.of (Po (n₀:=w.heap.size) (MR _) W l o o' hl h hc hw) hg) (MY _ _) (fun _=>hps)
  I Ix hI hIx h0 Ax hAx hassign hbody (fun D xs W hD hS=>hdone D xs W hD zaM) (fun D c pre W hD hS=>hstop D c pre W hD zaM)
theorem Lk (h1:2<=n) {ps:Array Tmp} {a:Act} {l₀:Nat} {r₀:Loop} (hl₀:w.heap[l₀]?=some (.loop r₀)) (Bs s:Nat) (hs:s<4294967296)
  (he:a.eval g = .func (.func 144) #[] #[Bs]) (hBs:Bs<w.heap.size) (hg:1<w.heap.size) (hc:w.cell? Bs=some (.int .u32 s)) (hT:TabAt 1 Lib.deBruijn32tab w) (hps:1=ps.size)
  (I:List (Pg.In s)->World->Prop) (Ix:Code->List (Pg.In s)->World->Prop) (hI:OwnFrom w.heap.size I) (hIx:∀ c,OwnFrom w (Ix c)) (h0:I [] w) (Ax:Pg.In s->Act->World->Prop) (hAx:∀ x a',OwnFrom w (fun (_:Unit) W=>Ax x a' W))
  (hassign:∀ (l:Nat) (pre:List (Pg.In s)) (x:Pg.In s) (W:World) (K:Act->World->Prop),I pre W->(∀ a' W',KeepsFrom w W W'->Pg.KpT W W'->I pre W'->Ax x a' W'->K a' W') ->
   assign.wpIn (Fence.wide.inRound l) (n-1-1) prog (Exit.then K (fun _ _ _=>False)) { tmps:=(ps.zip #[Value.int .i64 (x.1:Int)]).foldl (fun t (p,v)=>t.setIfInBounds p v) a.tmps,defers:=[] } W)
  (hbody:∀ (l:Nat) (pre:List (Pg.In s)) (x:Pg.In s) (a':Act) (W:World),w.heap.size<=l->(∃ r,W.heap[l]?=some (.loop r))->I pre W->Ax x a' W->pre.length<32->body.wpIn (Fence.wide.inRound l) (n-1-1) prog (ownPostG w Pg.KpT I Ix (pre++[x]) W) a' W)
  (hdone:∀ (xs:List (Pg.In s)) (W:World),Pg.aX xs=Pg.els s->I xs W->Q .normal a W)
  (hstop:∀ (c:Code) (pre:List (Pg.In s)) (W:World),Pg.aX pre <+: Pg.els s->Ix c pre W->c.wpIn (Fence.wide.inRound l₀) n prog Q a W) :
  (Code.rangeFunc g ps assign body).wpIn (Fence.wide.inRound l₀) n prog Q a w :=
 wpIn_rangeFunc_ownN (l₀:=l₀) (r₀:=r₀) rfl hl₀ zaa (gf:=144) he trivial (Pe func144 zab rfl)
  ((eY (n-1) zaa Bs s hs w hBs hg hc hT).inRound l₀) Pg.KpT.tr (fun W l o o' hl h hc hw=>Pg.KpT.of (Po (n₀:=w.heap.size) (MR _) W l o o' hl h hc hw) hg) (MY _ _) (fun _=>hps)
  I Ix hI hIx h0 Ax hAx hassign hbody (fun xs W hS=>hdone xs W zaM) (fun c pre W hS=>hstop c pre W zaM)
namespace Pg
def kQ (ps:List PS) (o:Nat) (l:List Nat):Nat:=l.foldl (fun o k=>if o.testBit k then o else o|||fy ps k) o
def nM (ps:List PS) (o:Nat) (l:List Nat):Nat:=l.foldl (fun o i=>match ps[i]? with | some p=>if p.kind != 1 then o else kQ ps o (els p.parts) | none=>o) o
def complete (ps:List PS) (s:Nat):Nat:=nM ps s (els s)
theorem DY (ps:List PS) (o:Nat) (l:List Nat) (k:Nat):kQ ps o (l++[k])=if (kQ ps o l).testBit k then kQ ps o l else kQ ps o l|||fy ps k:=by
 unfold kQ;rw [Ot];rfl
theorem DX (ps:List PS) (o:Nat) (l:List Nat) (i:Nat) {p:PS} (hp:ps[i]?=some p):nM ps o (l++[i])=if p.kind != 1 then nM ps o l else kQ ps (nM ps o l) (els p.parts):=by
 unfold nM;rw [Ot];simp only [List.foldl_cons,List.foldl_nil,hp]
def Sms (ps:List PS):Prop:=∀ (i:Nat) (p:PS),ps[i]?=some p->p.Sm
theorem qE {ps:List PS} (h:Sms ps):∀ (l:List Nat) (o:Nat),o<4294967296->kQ ps o l<4294967296
 | [],_,ho=>ho
 | k::l,o,ho=>by
  show kQ ps (if o.testBit k then o else o|||fy ps k) l<_;split
  ·exact qE h l _ ho
  ·exact qE h l _ (qb ho (qO h k))
theorem C4 {ps:List PS} (h:Sms ps):∀ (l:List Nat) (o:Nat),o<4294967296->nM ps o l<4294967296
 | [],_,ho=>ho
 | i::l,o,ho=>by
  show nM ps (match ps[i]? with | some p=>if p.kind != 1 then o else kQ ps o (els p.parts) | none=>o) l<_;refine C4 h l _ ?_;split
  ·split
   ·exact ho
   ·exact qE h _ _ ho
  ·exact ho
end Pg
theorem nN (w:World) (pb b cap:Nat) (ps:List Pg.PS) (s:Nat) (hs:s<4294967296) (hin:∀ i,i∈Pg.els s->i<ps.length) (hpt:∀ (i:Nat) (p:Pg.PS),ps[i]?=some p->∀ j∈Pg.els p.parts,j<ps.length) (hP:Pg.bZ w pb b cap ps) (hpb:pb<w.heap.size) (hb:b<w.heap.size)
  (hg:1<w.heap.size) (hT:TabAt 1 Lib.deBruijn32tab w) :
  () 154 #[pb,.int .u32 s] w fun e w'=>e = .returned (.int .u32 (Pg.complete ps s))/\Below w w w':=by
 refine (Nz (n:=6)).1 ?_;have hlen:=hP.len;refine NX func154 rfl trivial ?_ rfl;simp only [ntmps154,List.size_toArray,List.length_cons,List.length_nil,Nat.reduceAdd,Nat.reduceSub,Array.replicate_succ,Array.replicate_zero,List.push_toArray,List.append_toArray,List.nil_append,List.cons_append];gi_wp2_with (refine ⟨trivial,?_⟩;gi_at_call 92;refine (Nz.2 (dy s _)).mono ?_;rintro e w9 ⟨rfl,hw9⟩;rw [hw9];clear hw9 w9);have c0:=((NA w 73 pb).alloc (.cells #[.int .u32 s] 75)).alloc (.cells #[.int .u32 s] 75);have c1:=(NA (w.alloc (.cells #[pb] 73)) 75 (.int .u32 s)).alloc (.cells #[.int .u32 s] 75);have c2:=NA ((w.alloc (.cells #[pb] 73)).alloc (.cells #[.int .u32 s] 75)) 75 (.int .u32 s);simp only [World.size_alloc] at c1 c2;have hB0:Below w w (((w.alloc (.cells #[pb] 73)).alloc (.cells #[.int .u32 s] 75)).alloc (.cells #[.int .u32 s] 75)):=(((MY _ w).alloc (MR _) _).alloc zad _).alloc zae _;have hsz:(((w.alloc (.cells #[pb] 73)).alloc (.cells #[.int .u32 s] 75)).alloc (.cells #[.int .u32 s] 75)).heap.size=w.heap.size+3:=zad;obtain ⟨W0,hW0⟩:∃ W0,((w.alloc (.cells #[pb] 73)).alloc (.cells #[.int .u32 s] 75)).alloc (.cells #[.int .u32 s] 75)=W0:=⟨_,rfl⟩;rw [hW0] at c0 c1 c2 hB0 hsz ⊢;clear hW0;refine nS zaa (w.heap.size+1+1) s hs rfl zaa zaa c2.cell (Pg.KpT.of hB0 hg hT) rfl
  (fun pre W=>(Boxed W w 73 pb/\Boxed W (w.heap.size+1) 75 (.int .u32 (Pg.nM ps s (Pg.aX pre))))/\Below w w W)
  (fun _ _ _=>False)
  (NH (NH (Oo (Og _ _ _) _) (Oo (Og _ _ _) _)) (OX (MR _) zaa))
  (fun _ _ _ _ _ hs _ _=>hs)
  ⟨⟨c0,c1⟩,hB0⟩
  (fun x a' _=>a'={ tmps:=#[.pointer (some ⟨pb,0,none⟩),.int .u32 s,.pointer (some ⟨w.heap.size,0,none⟩),.pointer (some ⟨w.heap.size+1,0,none⟩),.int .u32 0,.int .i64 x.1,undef,.int .u32 s,.func (.func 144) #[] #[.pointer (some ⟨w.heap.size+1+1,0,none⟩)],.int .i64 x.1,undef,undef,undef,undef,undef,undef,undef,undef,undef,undef,undef,undef,undef,undef,undef,undef,undef,undef,undef,undef,undef,undef,undef,undef,undef,undef,undef,undef,undef,undef,undef,undef,undef,undef],defers:=[] })
  (fun _ _ _ _ _ _ hs _ _=>hs)
  ?assign ?body ?done ?stop
 case assign =>
  exact zex
 case body =>
  rintro l pre x a' W hl ⟨r,hr⟩ ⟨⟨hp,hc⟩,hB⟩ rfl _;have hxl:=hin x.1 x.2;obtain ⟨p,hpx⟩:∃ p,ps[x.1]?=some p:=⟨_,MU hxl⟩;have hP':=hP.below hB hpb hb;have hsn:=Pg.DX ps s (Pg.aX pre) x.1 hpx;rw [<- Pg.dS] at hsn;have h0:=hP'.row;have k0:=(hP'.at' x.1 p hpx).c0;have k4:=(hP'.at' x.1 p hpx).c4;have hpc:=hp.cell;by_cases hk:(p.kind != 1)=true
  ·rw [M6 hk] at hsn;gi_wp2;exact ⟨Oj _ _,(fun h=>h),⟨hp,by rw [hsn];exact hc⟩,hB⟩
  have hk:(p.kind != 1)=false:=by simpa using hk
  rw [M4 (by rw [hk];decide)] at hsn;have h1':2<=6-1-1:=zaa;gi_wp2_with (refine ⟨trivial,?_⟩;gi_at_call 92;refine (aH (dy p.parts _)).mono ?_;rintro e w9 ⟨rfl,hw9⟩;rw [hw9];clear hw9 w9);have hsW:=hB.size;have bN:=NA W 75 (.int .u32 p.parts);have hr':(W.alloc (.cells #[.int .u32 p.parts] 75)).heap[l]?=some (.loop r):=(N9 W _ l (MQ.1 hr).1).trans hr;have hBa:=hB.alloc hsW (.cells #[.int .u32 p.parts] 75);refine Lk h1' (l₀:=l) (r₀:=r) hr' W p.parts (hP.sm x.1 p hpx).hp rfl zad zae bN.cell (Pg.KpT.of hBa hg hT) rfl
   (fun pre' W'=>(Boxed W' w 73 pb/\Boxed W' (w.heap.size+1) 75 (.int .u32 (Pg.kQ ps (Pg.nM ps s (Pg.aX pre)) (Pg.aX pre'))))/\(Below w W W'/\KeepsFrom W0.heap.size W W'))
   (fun _ _ _=>False)
   (NH (NH (Oo (Og _ _ _) _) (Oo (Og _ _ _) _)) (NH (OX hsW zae) (RL zad)))
   (fun _ _ _ _ _ hs _ _=>hs)
   ⟨⟨hp.alloc _,hc.alloc _⟩,(MY _ W).alloc hsW _,(RM _ _).from _⟩
   (fun y a'' _=>a''={ tmps:=#[.pointer (some ⟨pb,0,none⟩),.int .u32 s,.pointer (some ⟨w.heap.size,0,none⟩),.pointer (some ⟨w.heap.size+1,0,none⟩),.int .u32 0,.int .i64 x.1,.int .i64 y.1,.int .u32 s,.func (.func 144) #[] #[.pointer (some ⟨w.heap.size+1+1,0,none⟩)],.int .i64 x.1,.pointer (some ⟨pb,0,none⟩),.pointer (some ⟨pb,0,none⟩),.pointer (some ⟨pb,0,none⟩),.slice (some ⟨b,0,none⟩) ps.length cap,.int .i64 x.1,.pointer (some ⟨b,x.1*10,none⟩),.pointer (some ⟨b,x.1*10,none⟩),.int .i64 p.kind,.bool false,.pointer (some ⟨pb,0,none⟩),.pointer (some ⟨pb,0,none⟩),.pointer (some ⟨pb,0,none⟩),.slice (some ⟨b,0,none⟩) ps.length cap,.int .i64 x.1,.pointer (some ⟨b,x.1*10,none⟩),.pointer (some ⟨b,x.1*10+4,none⟩),.int .u32 p.parts,.func (.func 144) #[] #[.pointer (some ⟨W.heap.size,0,none⟩)],.int .i64 y.1,undef,undef,undef,undef,undef,undef,undef,undef,undef,undef,undef,undef,undef,undef,undef],defers:=[] })
   (fun _ _ _ _ _ _ hs _ _=>hs)
   ?assign2 ?body2 ?done2 ?stop2
  case assign2 =>
   rintro l2 pre' y W' K hi hK;gi_wp2;exact hK _ _ (Oj _ _) (fun h=>h) hi rfl
  case body2 =>
   rintro l2 pre' y a'' W' _ _ ⟨⟨hp2,hc2⟩,hBW,hKF⟩ rfl _;have hyl:=hpt x.1 p hpx y.1 y.2;obtain ⟨q,hqy⟩:∃ q,ps[y.1]?=some q:=⟨_,MU hyl⟩;have hP2:=hP'.below hBW hpb hb;have hsn2:=Pg.DY ps (Pg.nM ps s (Pg.aX pre)) (Pg.aX pre') y.1;rw [<- Pg.dS] at hsn2;have hlt:=Pg.qE hP.sm (Pg.aX pre') _ (Pg.C4 hP.sm (Pg.aX pre) s hs);have cS:=hc2.cell;have fS:=hc2.frozen;have cP:=hp2.cell;have r0:=hP2.row;have r7:=(hP2.at' y.1 q hqy).c7;have hw7:=(hP.sm y.1 q hqy).hw;have hwa:Pg.fy ps y.1=q.wth:=by unfold Pg.fy;rw [hqy]
   obtain ⟨o,ho⟩:∃ o,Pg.kQ ps (Pg.nM ps s (Pg.aX pre)) (Pg.aX pre')=o:=⟨_,rfl⟩;rw [ho] at hsn2 hlt cS hc2;have h32:y.1<32:=zaa;obtain ⟨t,ht⟩:∃ t,o.testBit y.1=t:=⟨_,rfl⟩;have hha:=wU o y.1 W' h32 hlt;rw [ht] at hha hsn2;have ha:=Pu _ _ hlt hw7;have hbc:∀ V:World,Boxed V (w.heap.size+1) 75 (.int .u32 (o:Nat))->Boxed (V.setCell ⟨w.heap.size+1,0,none⟩ (.int .u32 ((o|||q.wth:Nat):Int))) (w.heap.size+1) 75 (.int .u32 ((o|||q.wth:Nat):Int)):=fun V h=>h.set _;cases t
   all_goals gi_wp2_with (refine ⟨trivial,?_⟩;gi_at_call 194;refine (aH hha).mono ?_;rintro e w9 ⟨rfl,hw9⟩;rw [hw9];clear hw9 w9)
   ·gi_region
    all_goals gi_wp2
    all_goals
     rw [M4 zac,hwa] at hsn2;exact ⟨((PZ W').trans (N0 _ _ _)).from _,Pg.KpT.of (((MY w W').drew).setCell (p:=⟨w.heap.size+1,0,none⟩) zad _) hg,⟨Boxed.kept (W:=W'.drew) (show Boxed W'.drew _ _ _ from hp2) (grownBy_setCell' _ _ _) zad,by rw [hsn2];exact hbc W'.drew hc2⟩,(hBW.trans ((MY _ W').drew)).setCell (p:=⟨w.heap.size+1,0,none⟩) zad _,hKF.trans (((PZ W').trans (N0 _ _ _)).from _)⟩
   ·rw [M6 (by trivial)] at hsn2;exact ⟨Oj _ _,(fun h=>h),⟨hp2,by rw [hsn2];exact hc2⟩,hBW,hKF⟩
  case done2 =>
   rintro ys W' hys ⟨⟨hp2,hc2⟩,hBW,hKF⟩;rw [hys] at hc2;gi_wp2;exact ⟨hKF,Pg.KpT.of hBW hg,⟨hp2,by rw [hsn];exact hc2⟩,hB.trans hBW⟩
  case stop2 =>
   rintro c pre' W' _ h;exact h.elim
 case done =>
  rintro D ys W hD hys ⟨⟨_,hc⟩,hB⟩ hK;have hc:=hc.cell;rw [hys] at hc;gi_wp2;refine ⟨zad,.inl ⟨_,_,rfl,NP hK,?_⟩⟩;exact ⟨_,Ra rfl _ _ _,rfl,hB.trans (Po (w:=w) (MR _) W D _ _ zaa hK rfl rfl)⟩
 case stop =>
  exact zfk
end
section
open Go.RowKit
structure Mo (P:Nat->Prop) (w w':World):Prop where
 os:w'.os=w.os
 tape:w'.tape=w.tape
 output:w'.output=w.output
 size:w.heap.size<=w'.heap.size
 block:∀ k,k<w.heap.size->¬ P k->w'.heap[k]?=w.heap[k]?
theorem Mo.refl (P:Nat->Prop) (w:World):Mo P w w:=⟨rfl,rfl,rfl,MR _,fun _ _ _=>rfl⟩
theorem Mo.trans (h:Mo P a b) (k:Mo P b c):Mo P a c :=
 ⟨k.os.trans h.os,k.tape.trans h.tape,k.output.trans h.output,MX h.size k.size,fun i hi hn=>by rw [k.block i (Nq hi h.size) hn,h.block i hi hn]⟩
theorem Mo.trans' {Q:Nat->Prop} (h:Mo P a b) (k:Mo Q b c) (hQ:∀ i,i<a.heap.size->Q i->P i):Mo P a c :=
 ⟨k.os.trans h.os,k.tape.trans h.tape,k.output.trans h.output,MX h.size k.size,fun i hi hn=>by rw [k.block i (Nq hi h.size) (fun q=>hn (hQ i hi q)),h.block i hi hn]⟩
theorem Mo.mono {Q:Nat->Prop} (h:Mo P a b) (hQ:∀ i,i<a.heap.size->P i->Q i):Mo Q a b :=
 ⟨h.os,h.tape,h.output,h.size,fun i hi hn=>h.block i hi (fun p=>hn (hQ i hi p))⟩
theorem ay (h:Below a a b):Mo P a b:=⟨h.os,h.tape,h.output,h.size,fun i hi _=>h.block i hi⟩
theorem Dd {g:Nat} (h:gY g a b):Mo (· = g) a b:=⟨h.os,h.tape,h.output,zbi,fun i _ hn=>h.block i hn⟩
theorem Mo.below {B:Nat} {o:World} (h:Mo P a b) (hb:Below B o a) (hB:B<=a.heap.size) (hP:∀ i,i<B->¬ P i):Below B o b :=
 hb.trans ⟨h.os,h.tape,h.output,h.size,fun k hk=>h.block k zaa (hP k hk)⟩
theorem Mo.cell (h:Mo P a b) (hp:p.block<a.heap.size) (hn:¬ P p.block):b.cell? p=a.cell? p:=Nk (w:=a) (h.block p.block hp hn)
theorem Mo.own {base size:Nat} {e:TypeId} {xs:List Value} (h:Mo P a b) (ho:a.ownsRow base e size v n xs) (hn:∀ g,v.ownBlock=some g->¬ P g):b.ownsRow base e size v n xs:=by
 refine ⟨ho.1,?_⟩
 rcases ho.2 with h' | ⟨k,cap,cur,hv,hb,hk',r⟩
 ·exact .inl h'
 ·refine .inr ⟨k,cap,cur,hv,hb,?_,r⟩;rw [h.block k (MQ.1 hk').1 (hn k (by rw [hv];rfl))];exact hk'
end
section
open Go.RowKit Go.Proofs Go.Shelf
attribute [local go_sem] NR
theorem Mo.bel {A A':World} (hm:Mo P W0 A) (hb:Below W0 A A'):Mo P W0 A':=⟨hb.os.trans hm.os,hb.tape.trans hm.tape,hb.output.trans hm.output,MX hm.size hb.size,fun k hk hn=>(hb.block k hk).trans (hm.block k hk hn)⟩
theorem Hj {β:Type} {J:β->World->Prop} (hJ:∀ s A A',J s A->Below W0 A A'->J s A'):OwnFrom W0.heap.size (fun s W=>J s W/\Mo P W0 W):=fun s A A' row h hg hr=>by
 have hb:Below W0 A A':=(MY _ A).grown hg h.2.size (fun k e=>(hr k e).1);exact ⟨hJ s A A' h.1 hb,h.2.bel hb⟩
theorem Mo.set (h:Mo P a b) (p:Addr) (v:Value) (hp:P p.block):Mo P a (b.setCell p v):=⟨h.os,h.tape,h.output,MX h.size zad,fun k hk hn=>(NF b p v k (fun e=>hn (e ▸ hp))).trans (h.block k hk hn)⟩
theorem Mo.kpT (h:Mo P a b) (hg:1<a.heap.size) (hn:¬ P 1):Pg.KpT a b:=fun x j hj=>(h.cell (p:=⟨1,j,none⟩) hg hn).trans (x j hj)
theorem Boxed.mo {B:Nat} (h:Boxed a B t v) (hm:Mo P a b) (hn:¬ P B):Boxed b B t v:=(hm.block B h.lt hn).trans h
theorem az {a b:Addr} (h:a≠b):(w.setCell a v).cell? b=w.cell? b:=World.cell?_setCell_other w a b v h
theorem ja (h:Mo P a b):Mo P a b.drew:=⟨h.os,h.tape,h.output,h.size,h.block⟩
theorem bm {B:Nat} (h:Boxed W B t v) (hn:B≠p.block) (u:Value):Boxed (W.setCell p u) B t v:=(NF W p u B hn).trans h
theorem aB {B:Nat} (h:Boxed W B t v) (hB:Below n W W') (hb:B<n):Boxed W' B t v:=(hB.block B hb).trans h
namespace Pg
def PS.cells (p:PS):List Value:=[(p.kind:Int),p.name,p.done,(p.owner:Int),.int .u32 p.parts,.int .u32 p.inside,.int .u32 p.around,.int .u32 p.wth,p.enter.v,p.leave.v]
structure bu (W:World) (pb b cap:Nat) (ps:List PS):Prop where
 row:W.cell? pb=some (.slice b ps.length cap)
 at':∀ (i:Nat) (p:PS),ps[i]?=some p->∀ (k:Nat) (v:Value),p.cells[k]?=some v->W.cell? ⟨b,i*10+k,none⟩=some v/\W.frozen? ⟨b,i*10+k,none⟩=false
 len:ps.length<=24
 ne:pb≠b
theorem bu.ps {b:Nat} {ps:List PS} {p:PS} (h:bu W pb b cap ps) (hi:ps[i]?=some p):tK W b i p where
 c0:=(h.at' i p hi 0 _ rfl).1
 c1:=(h.at' i p hi 1 _ rfl).1
 c2:=(h.at' i p hi 2 _ rfl).1
 c3:=(h.at' i p hi 3 _ rfl).1
 c4:=(h.at' i p hi 4 _ rfl).1
 c5:=(h.at' i p hi 5 _ rfl).1
 c6:=(h.at' i p hi 6 _ rfl).1
 c7:=(h.at' i p hi 7 _ rfl).1
 c8:=(h.at' i p hi 8 _ rfl).1
 c9:=(h.at' i p hi 9 _ rfl).1
theorem bu.bC {b:Nat} {ps:List PS} (h:bu W pb b cap ps) (hs:Sms ps):bZ W pb b cap ps where
 row:=h.row
 at':=fun _ _ hi=>h.ps hi
 sm:=hs
 len:=h.len
theorem bu.below {B b:Nat} {ps:List PS} (h:bu W pb b cap ps) (hB:Below B W W') (h1:pb<B) (h2:b<B):bu W' pb b cap ps where
 row:=(hB.cell (p:=⟨pb,0,none⟩) h1).trans h.row
 at':=fun i p hi k v hv=>by
  have:=h.at' i p hi k v hv;exact ⟨(hB.cell (p:=⟨b,_,none⟩) h2).trans this.1,(hB.frozen (p:=⟨b,_,none⟩) h2).trans this.2⟩
 len:=h.len
 ne:=h.ne
theorem bu.set {b:Nat} {ps:List PS} {p:PS} (h:bu W pb b cap ps) (hi:ps[i]?=some p) (k:Nat) (v:Value) (p':PS) (hk:k<10) (hc:∀ j,p'.cells[j]?=if j=k then some v else p.cells[j]?):bu (W.setCell ⟨b,i*10+k,none⟩ v) pb b cap (ps.set i p') where
 row:=by
  rw [az (by intro e;injection e with e1;exact h.ne e1.symm),Nl];exact h.row
 at':=fun i' q hq k' v' hv=>by
  have hil:i<ps.length:=(MZ.1 hi).1;rw [Pr];have hk':k'<10:=zco;obtain ⟨v0,hv0⟩:∃ v0,p.cells[k]?=some v0:=⟨_,MU (by simpa [PS.cells] using hk)⟩;by_cases e:i'=i
  ·subst e;rw [Nw hil] at hq;cases hq
   rw [hc] at hv;by_cases e2:k'=k
   ·subst e2;rw [M6 rfl] at hv;cases hv
    have:=h.at' i' p hi k' v0 hv0;exact ⟨PB _ _ _ this.1,this.2⟩
   ·rw [M4 e2] at hv;have:=h.at' i' p hi k' v' hv;exact ⟨(az zbD).trans this.1,this.2⟩
  ·rw [NG (fun x=>e x.symm)] at hq;have:=h.at' i' q hq k' v' hv;exact ⟨(az zbD).trans this.1,this.2⟩
 len:=by rw [Nl];exact h.len
 ne:=h.ne
def orW (ps:List PS) (o:Nat) (l:List Nat):Nat:=l.foldl (fun o k=>o|||fy ps k) o
theorem Hi (ps:List PS) (o:Nat) (l:List Nat) (k:Nat):orW ps o (l++[k])=orW ps o l|||fy ps k:=by
 unfold orW;rw [Ot];rfl
theorem Hh {ps:List PS} (h:Sms ps):∀ (l:List Nat) (o:Nat),o<4294967296->orW ps o l<4294967296
 | [],_,ho=>ho
 | k::l,_,ho=>Hh h l _ (qb ho (qO h k))
def kG (ps:List PS) (i:Nat) (p:PS):Nat:=orW ps (2 ^ i) (if p.kind == 0 then (els p.parts).take 1 else els p.parts)
def bK (ps:List PS) (i:Nat):List PS:=match ps[i]? with
 | none=>ps
 | some p=>if p.owner == -1 then ps.set i { p with wth:=kG ps i p } else match ps[p.owner.toNat]? with
  | none=>ps.set i { p with wth:=kG ps i p }
  | some q=>(ps.set i { p with wth:=kG ps i p }).set p.owner.toNat { q with inside:=q.inside|||(p.inside|||2 ^ i) }
theorem Fa {s:Nat} {pre:List (In s)} (h:aX pre <+: els s) {x:Nat} (he:aX pre=[x]):(els s).take 1=[x]:=by
 obtain ⟨t,ht⟩:=h;rw [<- ht,he];rfl
def stay {s:Nat} (p:PS) (pre:List (In s)):Prop:=p.kind=0->pre=[]
def brk {s:Nat} (p:PS) (pre:List (In s)):Prop:=p.kind=0/\∃ x,aX pre=[x]
end Pg
theorem tw (h:i<32):2 ^ i<4294967296:=Nq (P8 zac h) zac
theorem xU (w:World) (pb b cap:Nat) (ps:List Pg.PS) (i:Nat) (p:Pg.PS) (hpi:ps[i]?=some p) (hpt:∀ j∈Pg.els p.parts,i<j/\j<ps.length) (how:p.owner = -1\/∃ o:Nat,p.owner=o/\o<i) (hP:Pg.bu w pb b cap ps) (hsm:Pg.Sms ps) (hpb:pb<w.heap.size) (hb:b<w.heap.size)
  (hg:1<w.heap.size) (hgb:1≠b) (hT:TabAt 1 Lib.deBruijn32tab w) :
  () 62 #[pb,(i:Int)] w fun e w'=>e = .returned (.tuple #[])/\Pg.bu w' pb b cap (Pg.bK ps i)/\Mo (· = b) w w':=by
 have hil:i<ps.length:=(MZ.1 hpi).1;have hlen:=hP.len;have hi32:i<32:=by omega
 have hne:=hP.ne;obtain ⟨t,ht⟩:∃ t,2 ^ i=t:=⟨_,rfl⟩;have htl:t<4294967296:=by rw [<- ht];exact tw hi32
 have hone:∀ V:World,() 93 #[(i:Int)] V fun e w'=>e = .returned (.int .u32 t)/\w'=V:=fun V=>by rw [<- ht];exact iz i V hi32
 refine (Nz (n:=6)).1 ?_;refine NX func62 rfl trivial ?_ rfl;simp only [ntmps62,List.size_toArray,List.length_cons,List.length_nil,Nat.reduceAdd,Nat.reduceSub,Array.replicate_succ,Array.replicate_zero,List.push_toArray,List.append_toArray,List.nil_append,List.cons_append];have c0:=(NA w 73 pb);have hB0:Below w w (w.alloc (.cells #[pb] 73)):=(MY _ w).alloc (MR _) _;have hr0:=(hP.below hB0 hpb hb).row;gi_wp2;have c0:=c0.alloc (.cells #[.pointer (some ⟨b,i*10,none⟩)] 231);have c1:=NA (w.alloc (.cells #[pb] 73)) 231 (.pointer (some ⟨b,i*10,none⟩));simp only [World.size_alloc] at c1;have hB1:=hB0.alloc zad (.cells #[.pointer (some ⟨b,i*10,none⟩)] 231);have hP1:=hP.below hB1 hpb hb;obtain ⟨W1,hW1⟩:∃ W1,(w.alloc (.cells #[pb] 73)).alloc (.cells #[.pointer (some ⟨b,i*10,none⟩)] 231)=W1:=⟨_,rfl⟩;have hsz:W1.heap.size=w.heap.size+1+1:=by rw [<- hW1];simp
 rw [hW1] at c0 c1 hB1 hP1 ⊢;clear hW1 hB0 hr0;have k7f:=(hP1.at' i p hpi 7 _ rfl).2;have k7c:=(hP1.at' i p hpi 7 _ rfl).1;refine RU.2 (jV ?_);refine No (S:=(fun V=>V.cell? ⟨w.heap.size+1,0,none⟩=some (.pointer (some ⟨b,i*10,none⟩)))) zab c1.cell (fun u0 => ?_);refine tH 0 (.pointer (some ⟨b,i*10,none⟩)) rfl u0 ?_;refine tH 1 (.int .i64 i) rfl u0 ?_;refine zH 2 rfl fun K hK => ?_;go_simp;refine (hone _).mono ?_;rintro e w9 ⟨rfl,rfl⟩;refine hK.out _ _ u0 (fun u0 => ?_);clear hK K;refine tH 3 (.pointer (some ⟨b,i*10,none⟩)) rfl u0 ?_;refine tH 4 (.pointer (some ⟨b,i*10+7,none⟩)) rfl u0 ?_;refine zH 5 rfl fun K hK => ?_;go_simp;refine hK.out _ _ (by
  have e:∀ (a:Addr),a≠⟨b,i*10+7,none⟩->∀ v,(W1.setCell ⟨b,i*10+7,none⟩ v).drew.cell? a=W1.drew.cell? a:=fun a ha v=>az (fun h=>ha h.symm)
  (try dsimp only at u0);(try dsimp only)
  rw [e _ zak];exact u0) (fun u0 => ?_)
 clear hK K;refine Nt zab ?_ _;unfold oq;have hP2:=hP1.set hpi 7 (.int .u32 t) { p with wth:=t } zac (fun j=>by
  match j with
  | 0 | 1 | 2 | 3 | 4 | 5 | 6 | 7 | 8 | 9=>rfl
  | j+10=>rfl)
 have hP2:Pg.bu (W1.setCell ⟨b,i*10+7,none⟩ (.int .u32 t)).drew pb b cap (ps.set i { p with wth:=t }):=⟨hP2.row,hP2.at',hP2.len,hP2.ne⟩;have c0:Boxed (W1.setCell ⟨b,i*10+7,none⟩ (.int .u32 t)).drew w.heap.size 73 pb:=bm c0 (p:=⟨b,i*10+7,none⟩) zae _;have c1:Boxed (W1.setCell ⟨b,i*10+7,none⟩ (.int .u32 t)).drew (w.heap.size+1) 231 (.pointer (some ⟨b,i*10,none⟩)):=bm c1 (p:=⟨b,i*10+7,none⟩) zae _;have hM2:Mo (· = b) w (W1.setCell ⟨b,i*10+7,none⟩ (.int .u32 t)).drew:=ja ((ay hB1).set ⟨b,i*10+7,none⟩ _ rfl);obtain ⟨W2,hW2⟩:∃ W2,(W1.setCell ⟨b,i*10+7,none⟩ (.int .u32 t)).drew=W2:=⟨_,rfl⟩;have hsz2:W2.heap.size=w.heap.size+1+1:=by rw [<- hW2];simp [World.drew,hsz]
 rw [hW2] at c0 c1 hP2 hM2 ⊢;clear hW2 k7f k7c;have hpi2:(ps.set i { p with wth:=t })[i]?=some { p with wth:=t }:=Nw hil;have d1:=c1.cell;have d4:=(hP2.ps hpi2).c4;gi_wp2_with (refine ⟨trivial,?_⟩;gi_at_call 92;refine (Nz.2 (dy p.parts _)).mono ?_;rintro e w9 ⟨rfl,hw9⟩;rw [hw9];clear hw9 w9);have hB3:=(MY W2 W2).alloc (MR _) (.cells #[.int .u32 p.parts] 75);have c2:=NA W2 75 (.int .u32 p.parts);have hP3:=hP2.below hB3 zaa zaa;have c0:=aB c0 hB3 c0.lt;have c1:=aB c1 hB3 c1.lt;have hM3:Mo (· = b) w (W2.alloc (.cells #[.int .u32 p.parts] 75)):=hM2.trans (ay hB3);obtain ⟨W3,hW3⟩:∃ W3,W2.alloc (.cells #[.int .u32 p.parts] 75)=W3:=⟨_,rfl⟩;have hsz3:W3.heap.size=w.heap.size+1+1+1:=by rw [<- hW3];simp [hsz2]
 rw [hsz2] at c2;rw [hW3] at c0 c1 c2 hP3 hM3 ⊢;clear hW3 hB3 hP2 hM2 d1 d4 hpi2 hP1 hB1;have hT3:TabAt 1 Lib.deBruijn32tab W3:=hM3.kpT hg hgb hT;have hs:=(hsm i p hpi).hp;have hb3:b<W3.heap.size:=zaa;refine nS zaa (w.heap.size+1+1) p.parts hs rfl zaa zaa c2.cell hT3 rfl
  (fun pre W=>(Pg.stay p pre/\Boxed W w 73 pb/\Boxed W (w.heap.size+1) 231 (.pointer (some ⟨b,i*10,none⟩))/\Pg.bu W pb b cap (ps.set i { p with wth:=Pg.orW ps t (Pg.aX pre) }))/\Mo (· = b) W3 W)
  (fun c pre W=>((c = .exit 0/\Pg.brk p pre)/\Boxed W w 73 pb/\Boxed W (w.heap.size+1) 231 (.pointer (some ⟨b,i*10,none⟩))/\Pg.bu W pb b cap (ps.set i { p with wth:=Pg.orW ps t (Pg.aX pre) }))/\Mo (· = b) W3 W)
  (Hj (fun s A A' h hb=>⟨h.1,aB h.2.1 hb zaa,aB h.2.2.1 hb zaa,h.2.2.2.below hb zaa zaa⟩))
  (fun c=>Hj (fun s A A' h hb=>⟨h.1,aB h.2.1 hb zaa,aB h.2.2.1 hb zaa,h.2.2.2.below hb zaa zaa⟩))
  ⟨⟨fun _=>rfl,c0,c1,hP3⟩,Mo.refl _ _⟩
  (fun x a' _=>a'={ tmps:=#[.pointer (some ⟨pb,0,none⟩),.int .i64 i,.pointer (some ⟨w.heap.size,0,none⟩),undef,.pointer (some ⟨w.heap.size+1,0,none⟩),.int .i64 x.1,.pointer (some ⟨pb,0,none⟩),.pointer (some ⟨pb,0,none⟩),.pointer (some ⟨pb,0,none⟩),.slice (some ⟨b,0,none⟩) ps.length cap,.int .i64 i,.pointer (some ⟨b,i*10,none⟩),.pointer (some ⟨b,i*10,none⟩),.int .i64 i,.int .u32 t,.pointer (some ⟨b,i*10,none⟩),.pointer (some ⟨b,i*10+7,none⟩),.pointer (some ⟨b,i*10,none⟩),.pointer (some ⟨b,i*10,none⟩),.pointer (some ⟨b,i*10+4,none⟩),.int .u32 p.parts,.func (.func 144) #[] #[.pointer (some ⟨w.heap.size+1+1,0,none⟩)],.int .i64 x.1,undef,undef,undef,undef,undef,undef,undef,undef,undef,undef,undef,undef,undef,undef,undef,undef,undef,undef,undef,undef,undef,undef,undef,undef,undef,undef,undef,undef,undef,undef,undef,undef,undef,undef,undef,undef,undef,undef,undef,undef,undef,undef,undef,undef,undef,undef],defers:=[] })
  (fun _ _ _ _ _ _ hs _ _=>hs)
  ?assign ?body ?done ?stop
 case assign =>
  exact zex
 case body =>
  rintro l pre x a' W _ _ ⟨⟨hk0,h0,h1,hPW⟩,hM⟩ rfl _;obtain ⟨hx1,hx2⟩:=hpt x.1 x.2;obtain ⟨q,hqx⟩:∃ q,ps[x.1]?=some q:=⟨_,MU hx2⟩;obtain ⟨o,ho⟩:∃ o,Pg.orW ps t (Pg.aX pre)=o:=⟨_,rfl⟩;have holt:=Pg.Hh hsm (Pg.aX pre) _ htl;have hsn:=Pg.Hi ps t (Pg.aX pre) x.1;have hwa:Pg.fy ps x.1=q.wth:=by unfold Pg.fy;rw [hqx]
  rw [<- Pg.dS,hwa,ho] at hsn;rw [ho] at holt hPW;have hpi':(ps.set i { p with wth:=o })[i]?=some { p with wth:=o }:=Nw hil;have hqx':(ps.set i { p with wth:=o })[x.1]?=some q:=by rw [NG zaa];exact hqx
  have h0c:=h0.cell;have h1c:=h1.cell;have hrow:=hPW.row;rw [Nl] at hrow;have hq7:=(hPW.ps hqx').c7;have k7:=hPW.at' i _ hpi' 7 _ rfl;have k7c:=k7.1;have k7f:=k7.2;have ha:=Pu _ _ holt (hsm x.1 q hqx).hw;have hx10:x.1*10+7≠i*10+7:=zaa;have hP4:=hPW.set hpi' 7 (.int .u32 ((o|||q.wth:Nat):Int)) { p with wth:=o|||q.wth } zac (fun j=>by
   match j with
   | 0 | 1 | 2 | 3 | 4 | 5 | 6 | 7 | 8 | 9=>rfl
   | j+10=>rfl)
  rw [Ql,<- hsn] at hP4;gi_wp2;refine cV (S:=(fun V=>V.cell? w=some ↑pb/\V.cell? ⟨w.heap.size+1,0,none⟩=some (.pointer (some ⟨b,i*10,none⟩))/\V.cell? pb=some (.slice b ps.length cap)/\V.cell? ⟨b,x.1*10+7,none⟩=some (.int .u32 q.wth))) zab zab zbj ⟨h0c,h1c,hrow,hq7⟩ (fun u0 => ?_);refine tH 0 (.pointer (some ⟨b,i*10,none⟩)) rfl u0 ?_;refine tH 1 (.pointer (some ⟨b,i*10,none⟩)) rfl u0 ?_;refine tH 2 (.pointer (some ⟨b,i*10+7,none⟩)) rfl u0 ?_;refine tH 4 pb rfl u0 ?_;refine tH 5 pb rfl u0 ?_;refine tH 6 pb rfl u0 ?_;refine tH 7 (.slice b ps.length cap) rfl u0 ?_;refine tH 8 (.int .i64 x.1) rfl u0 ?_;refine tH 9 (.pointer (some ⟨b,x.1*10,none⟩)) rfl u0 ?_;refine tH 10 (.pointer (some ⟨b,x.1*10+7,none⟩)) rfl u0 ?_;refine tH 11 (.int .u32 q.wth) rfl u0 ?_;refine zH 3 rfl fun K hK => ?_;go_simp;refine hK.out _ _ u0 (fun u0 => ?_);clear hK K;refine tH 12 (.int .u32 ((o|||q.wth:Nat):Int)) rfl u0 ?_;refine tH 13 (.pointer (some ⟨b,i*10,none⟩)) rfl u0 ?_;refine tH 14 (.pointer (some ⟨b,i*10+7,none⟩)) rfl u0 ?_;refine zH 15 rfl fun K hK => ?_;go_simp;refine hK.out _ _ (by
   have e:∀ (a:Addr),a≠⟨b,i*10+7,none⟩->∀ v,(W.setCell ⟨b,i*10+7,none⟩ v).drew.cell? a=W.drew.cell? a:=fun a ha v=>az (fun h=>ha h.symm)
   (try dsimp only at u0);(try dsimp only)
   rw [e _ zak,e _ zak,e _ zak,e _ zak];exact u0) (fun u0 => ?_)
  clear hK K;refine Nt zab ?_ _;clear u0;have hP4:Pg.bu (W.setCell ⟨b,i*10+7,none⟩ (.int .u32 ((o|||q.wth:Nat):Int))).drew pb b cap (ps.set i { p with wth:=Pg.orW ps t (Pg.aX (pre++[x])) }):=by
   rw [hsn] at hP4 ⊢;exact ⟨hP4.row,hP4.at',hP4.len,hP4.ne⟩
  have g0:Boxed (W.setCell ⟨b,i*10+7,none⟩ (.int .u32 ((o|||q.wth:Nat):Int))).drew w.heap.size 73 pb:=bm h0 (p:=⟨b,i*10+7,none⟩) zae _;have g1:Boxed (W.setCell ⟨b,i*10+7,none⟩ (.int .u32 ((o|||q.wth:Nat):Int))).drew (w.heap.size+1) 231 (.pointer (some ⟨b,i*10,none⟩)):=bm h1 (p:=⟨b,i*10+7,none⟩) zae _;have gM:Mo (· = b) W (W.setCell ⟨b,i*10+7,none⟩ (.int .u32 ((o|||q.wth:Nat):Int))).drew:=ja ((Mo.refl _ W).set ⟨b,i*10+7,none⟩ _ rfl);have gK:KeepsOthers W (W.setCell ⟨b,i*10+7,none⟩ (.int .u32 ((o|||q.wth:Nat):Int))).drew:=(N0 _ _ _).trans (PZ _);have gT:=gM.kpT (by have:=hM.size;omega) hgb;obtain ⟨W5,hW5⟩:∃ W5,(W.setCell ⟨b,i*10+7,none⟩ (.int .u32 ((o|||q.wth:Nat):Int))).drew=W5:=⟨_,rfl⟩;rw [hW5] at hP4 g0 g1 gM gK gT ⊢;clear hW5 hPW h0 h1 h0c h1c hrow hq7 k7 k7c k7f;have hpi5:(ps.set i { p with wth:=Pg.orW ps t (Pg.aX (pre++[x])) })[i]?=some { p with wth:=Pg.orW ps t (Pg.aX (pre++[x])) }:=Nw hil;have e1:=g1.cell;have e0:=(hP4.ps hpi5).c0;by_cases hk:p.kind=0
  ·have hbr:Pg.brk p (pre++[x]):=⟨hk,x.1,by rw [hk0 hk];rfl⟩;have hk':(p.kind == 0)=true:=za6;clear hk hk0;gi_wp2;exact ⟨gK.from _,⟨⟨rfl,hbr⟩,g0,g1,hP4⟩,hM.trans gM⟩
  ·have hst:Pg.stay p (pre++[x]):=fun h=>absurd h hk;have hk':(p.kind == 0)=false:=zbs;clear hk hk0;gi_wp2;exact ⟨gK.from _,gT,⟨hst,g0,g1,hP4⟩,hM.trans gM⟩
 case' done =>
  rintro D ys W hD hys ⟨⟨hk0,h0,h1,hPW⟩,hM⟩ hK;have hsw:Pg.orW ps t (Pg.aX ys)=Pg.kG ps i p:=by
   unfold Pg.kG;rw [ht];by_cases hk:p.kind=0
   ·rw [M6 za6,<- hys,hk0 hk];rfl
   ·rw [M4 zbs,hys]
  rw [hsw] at hPW;clear hsw hk0 hys ys
 case' stop =>
  rintro D c pre W hD hpre ⟨⟨⟨rfl,⟨hk,x,hx⟩⟩,h0,h1,hPW⟩,hM⟩ hK;have hsw:Pg.orW ps t (Pg.aX pre)=Pg.kG ps i p:=by
   unfold Pg.kG;rw [ht];rw [M6 za6,Pg.Fa hpre hx,hx]
  rw [hsw] at hPW;clear hsw hpre hk hx x pre
 all_goals
  have hpi4:(ps.set i { p with wth:=Pg.kG ps i p })[i]?=some { p with wth:=Pg.kG ps i p }:=Nw hil;have h0c:=h0.cell;have h1c:=h1.cell;have hrow:=hPW.row;rw [Nl] at hrow;have k3:W.cell? ⟨b,i*10+3,none⟩=some ↑(p.owner:Int):=(hPW.ps hpi4).c3;have k5:W.cell? ⟨b,i*10+5,none⟩=some (.int .u32 p.inside):=(hPW.ps hpi4).c5;have hend:∀ V:World,Pg.bu V pb b cap (Pg.bK ps i)->Mo (· = b) W V->V.heap[D]?=some (.deferred (some []))->Pg.bu (V.putObj D (.deferred none)) pb b cap (Pg.bK ps i)/\Mo (· = b) w (V.putObj D (.deferred none)):=by
   intro V hV hMV hKV;have hbk:=Po (w:=W3) (n₀:=W3.heap.size) (MR _) V D _ (.deferred none) hD hKV rfl rfl;exact ⟨hV.below hbk zaa zaa,hM3.trans ((hM.trans hMV).bel hbk)⟩
  rcases how with ho | ⟨ow,ho,howi⟩
  ·have hsr:Pg.bK ps i=ps.set i { p with wth:=Pg.kG ps i p }:=by unfold Pg.bK;rw [hpi];simp only [ho];rfl
   have hfin:=hend W (by rw [hsr];exact hPW) (Mo.refl _ _) hK;rw [ho] at k3;clear hsr hend ho;gi_wp2;refine ⟨zad,.inl ⟨_,_,rfl,NP hK,?_⟩⟩;exact ⟨_,N5 rfl _ _ _,rfl,hfin⟩
  ·have hol:ow<ps.length:=zaa;obtain ⟨q,hq⟩:∃ q,ps[ow]?=some q:=⟨_,MU hol⟩;have hq4:(ps.set i { p with wth:=Pg.kG ps i p })[ow]?=some q:=by rw [NG zaa];exact hq
   have hsr:Pg.bK ps i=(ps.set i { p with wth:=Pg.kG ps i p }).set ow { q with inside:=q.inside|||(p.inside|||t) }:=by
    unfold Pg.bK;rw [hpi];simp only [ho,Int.toNat_natCast,hq,ht];rw [M4 zad]
   have kq:=hPW.at' ow q hq4 5 _ rfl;have kqc:=kq.1;have kqf:=kq.2;rw [ho] at k3;have hon:((ow:Int) != -1)=true:=zad;have o1:=Pu _ _ (hsm i p hpi).hi htl;have o2:=Pu _ _ (hsm ow q hq).hi (Pg.qb (hsm i p hpi).hi htl);have hP8:=hPW.set hq4 5 (.int .u32 ((q.inside|||(p.inside|||t):Nat):Int)) { q with inside:=q.inside|||(p.inside|||t) } zac (fun j=>by
    match j with
    | 0 | 1 | 2 | 3 | 4 | 5 | 6 | 7 | 8 | 9=>rfl
    | j+10=>rfl)
   rw [<- hsr] at hP8;have hP8:Pg.bu (W.setCell ⟨b,ow*10+5,none⟩ (.int .u32 ((q.inside|||(p.inside|||t):Nat):Int))).drew pb b cap (Pg.bK ps i):=⟨hP8.row,hP8.at',hP8.len,hP8.ne⟩;have hK8:(W.setCell ⟨b,ow*10+5,none⟩ (.int .u32 ((q.inside|||(p.inside|||t):Nat):Int))).drew.heap[D]?=some (.deferred (some [])):=((N0 W ⟨b,ow*10+5,none⟩ (.int .u32 ((q.inside|||(p.inside|||t):Nat):Int))).trans (PZ _)).same D _ hK rfl;have hfin:=hend _ hP8 (ja ((Mo.refl _ W).set ⟨b,ow*10+5,none⟩ _ rfl)) hK8;clear hP8 hsr hend hq4 hpi4 hPW kq;gi_wp2;refine RU.2 (jV ?_);refine No (S:=(fun V=>V.cell? w=some ↑pb/\V.cell? ⟨w.heap.size+1,0,none⟩=some (.pointer (some ⟨b,i*10,none⟩))/\V.cell? pb=some (.slice b ps.length cap)/\V.cell? ⟨b,i*10+3,none⟩=some ↑(ow:Int)/\V.cell? ⟨b,i*10+5,none⟩=some (.int .u32 p.inside))) zab ⟨h0c,h1c,hrow,k3,k5⟩ (fun u0 => ?_);refine tH 0 pb rfl u0 ?_;refine tH 1 pb rfl u0 ?_;refine tH 2 pb rfl u0 ?_;refine tH 3 (.slice b ps.length cap) rfl u0 ?_;refine tH 4 (.pointer (some ⟨b,i*10,none⟩)) rfl u0 ?_;refine tH 5 (.pointer (some ⟨b,i*10,none⟩)) rfl u0 ?_;refine tH 6 (.pointer (some ⟨b,i*10+3,none⟩)) rfl u0 ?_;refine tH 7 (.int .i64 ow) rfl u0 ?_;refine tH 8 (.pointer (some ⟨b,ow*10,none⟩)) rfl u0 ?_;refine tH 9 (.pointer (some ⟨b,ow*10+5,none⟩)) rfl u0 ?_;refine tH 11 (.pointer (some ⟨b,i*10,none⟩)) rfl u0 ?_;refine tH 12 (.pointer (some ⟨b,i*10,none⟩)) rfl u0 ?_;refine tH 13 (.pointer (some ⟨b,i*10+5,none⟩)) rfl u0 ?_;refine tH 14 (.int .u32 p.inside) rfl u0 ?_;refine tH 15 (.int .i64 i) rfl u0 ?_;refine yH [10,16] ?_;refine NJ rfl (fun K hK => ?_) (NJ rfl (fun K hK => ?_) Ou)
   ·skip
    go_simp;refine hK.out _ _ u0 (fun u0 => ?_);clear hK K;refine zH 16 rfl fun K hK => ?_;go_simp;refine (hone _).mono ?_;rintro e w9 ⟨rfl,rfl⟩;refine hK.out _ _ u0 (fun u0 => ?_);clear hK K;refine tH 17 (.int .u32 ((p.inside|||t:Nat):Int)) rfl u0 ?_;exact zcX
   ·skip
    go_simp;refine (hone _).mono ?_;rintro e w9 ⟨rfl,rfl⟩;refine hK.out _ _ u0 (fun u0 => ?_);clear hK K;refine tH 17 (.int .u32 ((p.inside|||t:Nat):Int)) rfl u0 ?_;refine zH 10 rfl fun K hK => ?_;go_simp;refine hK.out _ _ u0 (fun u0 => ?_);clear hK K;exact zcX
namespace Pg
structure Tn where
 t:Nat
 ev:ByteArray
 nm:ByteArray
abbrev Nd:Type:=Nat×Tn
def ndP (b:Nat):Value := .pointer (some ⟨b,0,none⟩)
def aK (l:List Nd):Value:=match l.getLast? with | none => .pointer none | some z=>ndP z.1
def nxt (l:List Nd) (i:Nat):Value:=match l[i+1]? with | some y=>ndP y.1 | none=>match l[0]? with | some y=>ndP y.1 | none => .pointer none
def et (x:Tn) (v:Value):Array Value:=#[.int .u64 x.t,x.ev,x.nm,v]
def cA (W:World) (l:List Nd):Prop:=∀ (i:Nat) (x:Nd),l[i]?=some x->W.heap[x.1]?=some (.cells (et x.2 (nxt l i)) 278 (0,0))
def ef (w:World) (p:Addr) (l:List Nd) (n:Nat):World:=match l.getLast? with
 | none=>(w.setCell ⟨n,3,none⟩ (ndP n)).setCell p (ndP n)
 | some z=>((w.setCell ⟨n,3,none⟩ (nxt l (l.length-1))).setCell ⟨z.1,3,none⟩ (ndP n)).setCell p (ndP n)
theorem cA.nil (W:World):cA W []:=fun i x h=>by simp at h
theorem cA.mo {l:List Nd} (h:cA W l) (hm:Mo P W W') (hn:∀ x∈l,¬ P x.1):cA W' l:=fun i x hx =>
 (hm.block x.1 (MQ.1 (h i x hx)).1 (hn x (Nc hx))).trans (h i x hx)
theorem iP {l:List Nd} {f:Nd} (h:l[0]?=some f):nxt l (l.length-1)=ndP f.1:=by
 unfold nxt;rw [Ny zaa,h]
theorem He {l:List Nd} {x:Nd} (hi:i+1<l.length):nxt (l++[x]) i=nxt l i:=by
 unfold nxt;rw [N7 hi,MU hi]
theorem ud {l:List Nd} {x:Nd} (h:l≠[]):nxt (l++[x]) (l.length-1)=ndP x.1:=by
 unfold nxt;have:0<l.length:=OJ.2 h;rw [show l.length-1+1=l.length by omega,Oe (MR _)];simp
theorem xA {l:List Nd} {x f:Nd} (h:l[0]?=some f):nxt (l++[x]) l.length=ndP f.1:=by
 unfold nxt;have:0<l.length:=(MZ.1 h).1;rw [Ny zad,N7 this,h]
theorem cA.push {w:World} {p:Addr} {l:List Nd} {n:Nat} {x:Tn} {v:Value} (h:cA w l) (hnd:(l.map (·.1)).Nodup) (hn:w.heap[n]?=some (.cells (et x v) 278 (0,0))) (hnl:n ∉ l.map (·.1)) (hpn:p.block≠n) (hpl:p.block ∉ l.map (·.1)) :
  cA (ef w p l n) (l++[(n,x)])/\Mo (fun k=>k=p.block\/k=n\/∃ z,l.getLast?=some z/\k=z.1) w (ef w p l n):=by
 unfold ef;cases hz:l.getLast? with
 | none =>
  have hl:l=[]:=Pq.1 hz;subst hl;refine ⟨fun i y hy => ?_,((Mo.refl _ w).set _ _ (.inr (.inl rfl))).set _ _ (.inl rfl)⟩;have:i=0/\y=(n,x):=by
   rcases i with _ | i
   ·simp at hy;exact ⟨rfl,hy.symm⟩
   ·simp at hy
  obtain ⟨rfl,rfl⟩:=this;exact (NF _ p _ n (fun e=>hpn e.symm)).trans (Nn w n 3 _ _ _ hn)
 | some z =>
  have hne:l≠[]:=fun e=>zaZ;have hlen:0<l.length:=OJ.2 hne;have hlz:l[l.length-1]?=some z:=zaA;obtain ⟨f,hf⟩:∃ f,l[0]?=some f:=⟨_,MU hlen⟩;have hzl:z.1∈l.map (·.1):=NI.2 ⟨z,Nc hlz,rfl⟩;have hzn:n≠z.1:=fun e=>hnl (e ▸ hzl);have hzp:p.block≠z.1:=fun e=>hpl (e ▸ hzl);rw [iP hf];refine ⟨fun i y hy => ?_,(((Mo.refl _ w).set _ _ (.inr (.inl rfl))).set _ _ (.inr (.inr ⟨z,rfl,rfl⟩))).set _ _ (.inl rfl)⟩;have hn1:(w.setCell ⟨n,3,none⟩ (ndP f.1)).heap[n]?=some (.cells (et x (ndP f.1)) 278 (0,0)):=Nn w n 3 _ _ _ hn
  rcases O6 i l.length with hi | hi
  ·rw [N7 hi] at hy;have hyl:y.1∈l.map (·.1):=NI.2 ⟨y,Nc hy,rfl⟩;have hyn:y.1≠n:=fun e=>hnl (e ▸ hyl);have hyp:y.1≠p.block:=fun e=>hpl (e ▸ hyl);have h1:(w.setCell ⟨n,3,none⟩ (ndP f.1)).heap[y.1]?=some (.cells (et y.2 (nxt l i)) 278 (0,0)):=(NF _ _ _ y.1 hyn).trans (h i y hy);by_cases e:i=l.length-1
   ·subst e;rw [hlz] at hy;cases hy
    rw [ud hne];exact (NF _ p _ z.1 hyp).trans (Nn _ z.1 3 _ _ _ h1)
   ·rw [He zaa];refine (NF _ p _ y.1 hyp).trans ((NF _ _ _ y.1 (fun e2=>e ?_)).trans h1);have e3:y.1=z.1:=e2;have a1:(l.map (·.1))[i]?=some y.1:=by rw [Nf,hy];rfl
    have a2:(l.map (·.1))[l.length-1]?=some y.1:=by rw [Nf,hlz,e3];rfl
    exact (QW zae hnd).1 (a1.trans a2.symm)
  ·have:i=l.length/\y=(n,x):=by
    rw [Oe hi] at hy;obtain ⟨k,rfl⟩:∃ k,i=l.length+k:=⟨i-l.length,zaa⟩
    rcases k with _ | k
    ·simp at hy;exact ⟨rfl,hy.symm⟩
    ·simp at hy
   obtain ⟨rfl,rfl⟩:=this;rw [xA hf];exact (NF _ p _ n (fun e=>hpn e.symm)).trans ((NF _ _ _ n hzn).trans hn1)
theorem nA (l:List Nd) (x:Nd):aK (l++[x])=ndP x.1:=by unfold aK;simp
end Pg
theorem lj (w:World) (c o:Nat) (l:List Pg.Nd) (hc:w.cell? ⟨c,o,none⟩=some (Pg.aK l)) :
  () 201 #[.pointer (some ⟨c,o,none⟩)] w fun e w'=>e = .returned l.isEmpty/\w'=w:=by
 unfold Pg.aK at hc;cases hz:l.getLast? with
 | none =>
  have hl:l=[]:=Pq.1 hz;subst hl;simp only [List.getLast?_nil] at hc;exact zeN
 | some z =>
  rw [hz] at hc;unfold Pg.ndP at hc;have hl:l.isEmpty=false:=by
   cases l with
   | nil=>simp at hz
   | cons a l=>rfl
  rw [hl];clear hz hl;dsimp only at hc;exact zeN
theorem mq (w:World) (c o:Nat) (l:List Pg.Nd) (n:Nat) (x:Pg.Tn) (v:Value) (hc:w.cell? ⟨c,o,none⟩=some (Pg.aK l)) (hfz:w.frozen? ⟨c,o,none⟩=false) (hR:Pg.cA w l) (hn:w.heap[n]?=some (.cells (Pg.et x v) 278 (0,0))) (hnl:n ∉ l.map (·.1)) (hcn:c≠n) (hcl:c ∉ l.map (·.1)) :
  () 202 #[.pointer (some ⟨c,o,none⟩),n] w fun e w'=>e = .returned (.tuple #[])/\w'=Pg.ef w ⟨c,o,none⟩ l n:=by
 have he:=lj w c o l hc;have n3:w.cell? ⟨n,3,none⟩=some v:=zaX;have f3:w.frozen? ⟨n,3,none⟩=false:=by simp [World.frozen?,hn]
 unfold Pg.ef;cases hz:l.getLast? with
 | none =>
  have hl:l=[]:=Pq.1 hz;subst hl;unfold Pg.aK at hc;simp only [List.getLast?_nil] at hc;have c1:(w.setCell ⟨n,3,none⟩ n).cell? ⟨c,o,none⟩=_:=(az (w:=w) zcp).trans hc;have f1:(w.setCell ⟨n,3,none⟩ n).frozen? ⟨c,o,none⟩=false:=by rw [Pr];exact hfz
  simp only [List.isEmpty_nil] at he;clear hR hn hz;unfold Pg.ndP;exact zdJ
 | some z =>
  have hne:l≠[]:=fun e=>zaZ;have hlen:0<l.length:=OJ.2 hne;have hlz:l[l.length-1]?=some z:=zaA;obtain ⟨f,hf⟩:∃ f,l[0]?=some f:=⟨_,MU hlen⟩;have hzl:z.1∈l.map (·.1):=NI.2 ⟨z,Nc hlz,rfl⟩;have hzn:n≠z.1:=fun e=>hnl (e ▸ hzl);have hcz:c≠z.1:=fun e=>hcl (e ▸ hzl);rw [Pg.iP hf];have hez:l.isEmpty=false:=by cases l with | nil=>simp at hz | cons a l=>rfl
  rw [hez] at he;have hzr:=hR _ z hlz;rw [Pg.iP hf] at hzr;unfold Pg.aK at hc;rw [hz] at hc;unfold Pg.ndP at hc hzr ⊢;obtain ⟨zb,zt⟩:=z;obtain ⟨fb,ft⟩:=f;dsimp only at hc hzr hzn hcz ⊢;have z3:w.cell? ⟨zb,3,none⟩=some ↑fb:=by rw [M0 w _ _ _ _ _ hzr];rfl
  have fz3:w.frozen? ⟨zb,3,none⟩=false:=by simp [World.frozen?,hzr]
  have c1:(w.setCell ⟨n,3,none⟩ fb).cell? ⟨c,o,none⟩=_:=(az (w:=w) zcp).trans hc;have z31:(w.setCell ⟨n,3,none⟩ fb).cell? ⟨zb,3,none⟩=_:=(az (w:=w) (by intro h;injection h with h1;exact hzn h1)).trans z3;have fz31:(w.setCell ⟨n,3,none⟩ fb).frozen? ⟨zb,3,none⟩=false:=by rw [Pr];exact fz3
  have c2:((w.setCell ⟨n,3,none⟩ fb).setCell ⟨zb,3,none⟩ n).cell? ⟨c,o,none⟩=_:=(az (w:=_) (by intro h;injection h with h1;exact hcz h1.symm)).trans c1;have f2:((w.setCell ⟨n,3,none⟩ fb).setCell ⟨zb,3,none⟩ n).frozen? ⟨c,o,none⟩=false:=by rw [Pr,Pr];exact hfz
  clear hR hn hz hlz hf hzl hzr hez hlen hne hnl hcl;exact zdJ
end
section
open Go.RowKit
def Fv {α:Type} (F:Fence) (n:Nat) (P:Program) (g:Nat) (lb:Array Value) (encs:α->Array Value) (Kp:World->World->Prop) (Rd:List α->World->Prop) (Nx:List α->α->Prop) (S:List α->Prop) (w:World):Prop :=
 ∀ (l:Nat) (J:List α->World->Prop) (W:World),Below w w W->w.heap.size+2<=W.heap.size->OwnFrom W.heap.size J->(∀ xs V,J xs V->Rd xs V) ->
  (∀ xs x V,J xs V->Nx xs x->YieldAt F (n-1) P l (encs x) V fun e V'=>e = .returned true/\J (xs++[x]) V'/\Kp V V')->J [] W ->
  CallsIn F n P g (#[.func (.yield l) #[] #[]]++lb) W fun e V=>(∃ v,e = .returned v)/\∃ xs,S xs/\J xs V
theorem sM {α:Type} {F:Fence} {P:Program} {ps:Array Tmp} {a:Act} (hro:F.round=none) (h1:1<=n) {gf:Nat} {lb:Array Value}
  (hg:a.eval g = .func (.func gf) #[] lb) (hF:F.fn gf) (eg:∀ args w,(callFunc gf args).run P w = .ok (.enter gf args) w) {encs:α->Array Value} {Kp:World->World->Prop} {Rd:List α->World->Prop} {Nx:List α->α->Prop} {S:List α->Prop}
  (hseq:Fv F (n-1) P gf lb encs Kp Rd Nx S w)
  (hKt:∀ {A B C:World},Kp A B->Kp B C->Kp A C) (hKb:∀ (W:World) (o o':Obj),W.heap[w.heap.size+1]?=some o->o.isCells=false->Kp W (W.putObj (w.heap.size+1) o')) (hps:∀ x,(encs x).size=ps.size) (I:List α->World->Prop) (hI:OwnFrom w.heap.size I) (hRd:∀ xs V,I xs V->Rd xs V) (h0:I [] w)
  (Ax:α->Act->World->Prop) (hAx:∀ x a',OwnFrom w (fun (_:Unit) W=>Ax x a' W))
  (hassign:∀ (l:Nat) (xs:List α) (x:α) (W:World) (K:Act->World->Prop),I xs W->(∀ a' W',KeepsFrom w W W'->Kp W W'->I xs W'->Ax x a' W'->K a' W')->assign.wpIn (F.inRound l) (n-1-1) P (Exit.then K (fun _ _ _=>False)) { tmps:=(ps.zip (encs x)).foldl (fun t (p,v)=>t.setIfInBounds p v) a.tmps,defers:=[] } W)
  (hbody:∀ (l:Nat) (xs:List α) (x:α) (a':Act) (W:World),w.heap.size<=l->(∃ r,W.heap[l]?=some (.loop r))->Nx xs x->I xs W->Ax x a' W->body.wpIn (F.inRound l) (n-1-1) P (Exit.then (fun _ V=>KeepsFrom w.heap.size W V/\Kp W V/\I (xs++[x]) V) (fun _ _ _=>False)) a' W)
  (hdone:∀ (D:Nat) (xs:List α) (W:World),w.heap.size<=D->S xs->I xs W->W.heap[D]?=some (.deferred (some []))->Q .normal { a with defers:={ target := .collected D,args:=#[] }::a.defers } W) :
  (Code.rangeFunc g ps assign body).wpIn F n P Q a w:=by
 refine wpIn_rangeFunc fun fn hfn => ?_;rw [hro];obtain ⟨lp,hlp⟩:∃ lp:LoopState->Loop,lp=fun st=>{ state:=st,pending:=none,fn,tmps:=a.tmps,params:=ps,assign,body,defers:=w.heap.size }:=⟨_,rfl⟩;have hent:=Rr (P:=P) (w:=w) fn a.tmps ps assign body;obtain ⟨V,hV⟩:∃ V,(w.alloc (.deferred (some []))).alloc (.loop (lp .ready))=V:=⟨_,rfl⟩;have hb:Below w w V:=hV ▸ (((MY _ w).alloc (MR _) _).alloc zad _);have hj:I [] V/\V.heap[w.heap.size+1]?=some (.loop (lp .ready))/\V.heap[w.heap.size]?=some (.deferred (some [])):=by
  rw [<- hV];exact ⟨hI.alloc _ (hI.alloc _ h0),by have:=Na (w.alloc (.deferred (some []))) (.loop (lp .ready));simpa using this,(N9 _ _ _ zad).trans (Na w _)⟩
 refine ⟨w.heap.size+1,[{ target := .collected w.heap.size,args:=#[] }],V,{ target := .fn (.func gf) lb,args:=#[.func (.yield (w.heap.size+1)) #[] #[]] },V,gf,#[.func (.yield (w.heap.size+1)) #[] #[]]++lb,V,
  zbQ,zbE,fun f' hf'=>zbA,zbS,fun _=>h1,?_⟩
 have hvs:V.heap.size=w.heap.size+2:=by rw [<- hV];simp
 refine (hseq (w.heap.size+1) (fun xs W=>I xs W/\W.heap[w.heap.size+1]?=some (.loop (lp .ready))/\W.heap[w.heap.size]?=some (.deferred (some []))) V hb zaa (fun xs A B row h hg' hr => ?_) (fun xs W h=>hRd xs W h.1) ?_ hj).mono ?_
 ·obtain ⟨hi,hl,hd⟩:=h;refine ⟨hI xs A B row hi hg' (fun r e=>⟨zas,(hr r e).2⟩),(hg'.block _ (MQ.1 hl).1 (fun e => ?_)).trans hl,(hg'.block _ (MQ.1 hd).1 (fun e => ?_)).trans hd⟩
  ·exact zfu
  ·exact zfu
 ·intro xs x W ⟨hi,hl,hd⟩ hnx;have hy:=run_yield (P:=P) (args:=encs x) hl (by rw [hlp];exact hps x);rw [hlp] at hy;refine ⟨fn,_,assign,body,hy,roundIn_of_wpIn hfn (hassign _ xs x W _ hi fun a' Wa hka hkp hia hax=>⟨_,run_beginRound (hka.same _ _ zaa hl rfl) (by rw [hlp]),?_⟩)⟩;have hl:=hka.same _ _ zaa hl rfl;have hd:=hka.same _ _ (MR _) hd rfl;have hlt:=(MQ.1 hl).1;have k1:=hKb Wa _ (.loop { lp .ready with state:=LoopState.busy }) hl rfl;refine wpIn_mono (hbody _ xs x a' _ zaa ⟨_,OW hlt⟩ hnx (hI.putObj _ hia zaa hl rfl) ((hAx x a').putObj (s:=()) _ hax zaa hl rfl)) ?_;intro e a' W' hp;cases e with
  | normal =>
   obtain ⟨hk,k2,hi'⟩:=hp;have hl':=hk.same _ _ zaa (OW hlt) rfl;have hd':=hk.same _ _ (MR _) ((NU zaa).trans hd) rfl;have hr:=run_endRound (P:=P) none hl';have hrl:({ { lp .ready with state:=LoopState.busy } with state:=LoopState.ready,pending:=none }:Loop)=lp .ready:=by rw [hlp]
   refine ⟨_,_,hr,rfl,⟨hI.putObj _ hi' zaa hl' rfl,?_,(NU zaa).trans hd'⟩,hKt hkp (hKt k1 (hKt k2 (hKb _ _ _ hl' rfl)))⟩;rw [OW (MQ.1 hl').1];exact congrArg (fun r=>some (Obj.loop r)) hrl
  | _=>exact hp.elim
 ·intro e W ⟨⟨v,hv⟩,xs,hS,hi,hl,hd⟩;exact zd6
def KpM (B:Nat->TypeId->Prop) (W W':World):Prop:=W.heap.size<=W'.heap.size/\∀ (k:Nat) (c:Array Value) (t:TypeId) (f:Nat×Nat),W.heap[k]?=some (.cells c t f)->¬ B k t->W'.heap[k]?=some (.cells c t f)
theorem KpM.refl (B:Nat->TypeId->Prop) (W:World):KpM B W W:=⟨MR _,fun _ _ _ _ h _=>h⟩
theorem KpM.tr (h:KpM B X Y) (k:KpM B Y Z):KpM B X Z:=⟨MX h.1 k.1,fun i c t f hi hn=>k.2 i c t f (h.2 i c t f hi hn) hn⟩
theorem KpM.put (W:World) (l:Nat) (o o':Obj) (h:W.heap[l]?=some o) (ho:o.isCells=false):KpM B W (W.putObj l o'):=⟨by simp [World.putObj],fun k c t f hk _=>by
 by_cases e:l=k
 ·subst e;rw [h] at hk;cases hk
  cases ho
 ·exact (NU zaa).trans hk⟩
theorem KpM.below (h:Below W W W'):KpM B W W':=⟨h.size,fun k _ _ _ hk _=>(h.block k (MQ.1 hk).1).trans hk⟩
theorem KpM.set (W:World) (p:Addr) (v:Value) (hp:∀ t,B p.block t):KpM B W (W.setCell p v):=⟨zad,fun k _ t _ hk hn=>(NF W p v k (fun e=>hn (e ▸ hp t))).trans hk⟩
theorem KpM.cell (h:KpM B W W') (hc:W.cell? p=some v) (hn:∀ t,¬ B p.block t):W'.cell? p=some v:=by
 have:∃ c t f,W.heap[p.block]?=some (.cells c t f):=by
  unfold World.cell? at hc;split at hc
  ·rename_i c e f hb;exact ⟨_,_,_,hb⟩
  ·cases hc
 obtain ⟨c,t,f,hb⟩:=this;rw [<- hc];exact Nk (w:=W) ((h.2 _ _ _ _ hb (hn _)).trans hb.symm)
theorem nL (h:Below W W W') (hc:W.cell? p=some v):W'.cell? p=some v:=(KpM.below (B:=fun _ _=>False) h).cell hc (fun _ h=>h)
theorem KpM.own {β:Type}:OwnFrom n (fun (_:β) W=>KpM B W0 W):=fun _ X Y row h hg hr=>h.tr ⟨hg.size,fun k c t f hk _=>(hg.block k (MQ.1 hk).1 (fun e=>by
 obtain ⟨_,o,ho,hc⟩:=hr k e.symm;rw [hk] at ho;cases ho
 cases hc)).trans hk⟩
def KpN (B:Nat->TypeId->Prop) (lo:Nat) (W W':World):Prop:=KpM B W W'/\KeepsFrom lo W W'
theorem KpN.refl (B:Nat->TypeId->Prop) (lo:Nat) (W:World):KpN B lo W W:=⟨KpM.refl _ _,Oj _ _⟩
theorem KpN.tr (h:KpN B lo X Y) (k:KpN B lo Y Z):KpN B lo X Z:=⟨h.1.tr k.1,h.2.trans k.2⟩
theorem KpN.put {l:Nat} (hl:l<lo) (W:World) (o o':Obj) (h:W.heap[l]?=some o) (ho:o.isCells=false):KpN B lo W (W.putObj l o'):=⟨KpM.put W l o o' h ho,KeepsFrom.of_grownBy (OG W l o') (fun j e=>by cases e;exact hl)⟩
theorem KpN.below (h:Below W W W'):KpN B lo W W':=⟨KpM.below h,⟨h.size,fun k _ _ hk _=>(h.block k (MQ.1 hk).1).trans hk⟩⟩
theorem KpN.set (W:World) (p:Addr) (v:Value) (hp:∀ t,B p.block t):KpN B lo W (W.setCell p v):=⟨KpM.set W p v hp,(N0 W p v).from lo⟩
theorem KpN.own {β:Type} (hn:W0.heap.size<=n):OwnFrom n (fun (_:β) W=>KpN B lo W0 W):=(KpM.own).and (RL hn)
def marks (Ds:List Nat):List Deferred:=Ds.map fun D=>{ target := .collected D,args:=#[] }
theorem iy {F:Fence} {n:Nat} {P:Program} {fn:Func} {tmps:Array Value} {R:Ending->World->Prop} (Inv:World->Prop):∀ (Ds:List Nat) (W:World),Ds.Nodup->(∀ D∈Ds,W.heap[D]?=some (.deferred (some [])))->(∀ D V,D∈Ds->Inv V->V.heap[D]?=some (.deferred (some []))->Inv (V.putObj D (.deferred none)))->(∀ V,Inv V->LeavesIn F n P fn tmps R [] .returning V)->Inv W->LeavesInM F n P fn tmps R (marks Ds) .returning W
 | [],W,_,_,_,hR,hI=>hR W hI
 | D::Ds,W,hn,hD,hp,hR,hI=>by
  have h0:=hD D (NK ..);obtain ⟨hn1,hn2⟩:=Qt.1 hn;refine ⟨zad,.inl ⟨D,_,rfl,NP h0,?_⟩⟩;refine iy Inv Ds _ hn2 (fun E hE=>(NU (r:=D) (k:=E) (fun e=>hn1 (e ▸ hE))).trans (hD E (NL _ hE))) (fun E V hE=>hp E V (NL _ hE)) hR (hp D W (NK ..) hI h0)
