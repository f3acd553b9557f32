import Derived.Test.YtegmoddppafkfaaGreatDoorM22
import Derived.Laws.AppendOwnNone
set_option maxRecDepth 100000
set_option maxHeartbeats 8000000
namespace Go.Proofs.YtegmoddppafkfaaGreatDoor
theorem zd9 {zp:Prop} (h:zp:=by
 clear hf;dsimp only;go_wp2;go_ret3;exact ⟨hb1,.inr ⟨xb,sb,p,r,rfl,H1.out,H2.out⟩⟩):zp:=h
open Tryz
variable {W':World} {L:List ByteArray} {n k size b:Nat} {s:ByteArray} {v:Ref.Sl} {xs:List Value} {P:List Pg.Tn}
section
open Go.RowKit Go.Proofs Go.Shelf
namespace Fr
structure wY (W:World) (a:Option Addr) (L:List ByteArray):Prop where
 at':∀ (i:Nat) (s:ByteArray),L[i]?=some s->∃ b off,a=some ⟨b,off,none⟩/\W.cell? ⟨b,off+i,none⟩=some ↑s
theorem wY.bel {W:World} {a:Option Addr} (h:wY W a L) (hb:Below n W W') (hn:W.heap.size<=n):wY W' a L:=⟨fun i s hs=>by
 obtain ⟨b,off,e,hc⟩:=h.at' i s hs;exact ⟨b,off,e,(hb.cell (p:=⟨b,off+i,none⟩) (Lu (LC _ _ hc) hn)).trans hc⟩⟩
def tot (L:List ByteArray):Nat:=(L.map ByteArray.size).sum
theorem zu (h:L[k]?=some s):tot (L.take (k+1))=tot (L.take k)+s.size:=by
 unfold tot;rw [ML,h,Mc,P4];simp
theorem Gu (L:List ByteArray) (k:Nat):tot (L.take k)<=tot L:=by
 have h:tot L=tot (L.take k)+tot (L.drop k):=by unfold tot;rw [<- P4,<- Mc,List.take_append_drop]
 omega
theorem I8 (h:L[k]?=some s):s.size<=tot L:=by
 have h1:=zu h;have h2:=Gu L (k+1);omega
def KJ (w:World) (e:Ending) (w':World):Prop:=Below w w w'/\(e = .returned (.tuple #[.pointer none,.slice none 0 0,true])\/∃ xb sb p r,e = .returned (.tuple #[.pointer (some ⟨xb,0,none⟩),.slice (some ⟨sb,0,none⟩) 1 1,true])/\Pg.Ses w' w xb p r/\r.now=0)
end Fr
theorem CR (s:ByteArray) (w:World) (hv:uW w) (hs:s.size<=1000000):() 23 #[s] w (Fr.KJ w):=by
 have HP:Hid _:=ku s w hv zaa;have HST:Hid (∀ V,Below w w V->() 47 #[(s.size:Int)] V fun e w'=>e = .returned true/\Hid (Below w w w')):=fun V hb=>(vV s.size V (hv.aq hb) hs).mono (fun e w' x=>⟨x.1,hb.trans (x.2.mono hb.size)⟩);clear hv;go_enter func23,ntmps23;go_wp2_with fail;refine Lh HP.out ?_;rintro e w1 ⟨hb1,hp⟩;cases hR:Pro.read s with
 | fault c l =>
  rw [hR] at hp;subst hp;have hc:=Pro.FZ hR;clear hR;dsimp only;go_wp2_with (go_at_call 47;refine Lh (HST.out _ hb1) ?_;rintro e w2 ⟨rfl,hb2⟩);go_ret3;exact ⟨hb2.out,.inl rfl⟩
 | fF S =>
  rw [hR] at hp;obtain ⟨xb,sb,p,r,rfl,h1,h2,_⟩:=hp;have H1:Hid _:=h1;have H2:Hid _:=h2;clear hR h1 h2;by_cases hf:r.fin=6
  ·rw [show Pg.fuelN r.fin=6 by rw [hf];rfl];exact zd9
  ·rw [show Pg.fuelN r.fin=0 by unfold Pg.fuelN;rw [Ld hf]];exact zd9
theorem Hs (s:ByteArray) (a:Option Addr) (c:Nat) (L:List ByteArray) (w:World) (hE:Fr.wY w a L) (hbd:s.size+L.length+Fr.tot L<=4194304) :
  () 22 #[s,.slice a L.length c,.slice none 0 0] w fun e w'=>e = .returned (.bool (decide (8192<s.size+L.length+Fr.tot L)))/\w'=w:=by
 have HE:Hid _:=hE;clear hE;have hs1:=hbd;go_enter func22,ntmps22;go_wp2
 go_loopw [7,8] (fun n i wr=>∃ k:Nat,k<=L.length/\i = .int .i64 k/\n = .int .i64 ((s.size+L.length+Fr.tot (L.take k):Nat):Int)/\wr=w) (fun _ i _=>L.length-(intOf i).toNat)
 case atStart=>exact ⟨0,Lk _,rfl,by simp [Fr.tot],rfl⟩
 case round =>
  obtain ⟨k,hk,rfl,rfl,rfl⟩:=hrel;by_cases hlt:k<L.length
  ·obtain ⟨x,hx⟩:∃ x,L[k]?=some x:=⟨_,K8 hlt⟩;obtain ⟨b,off,rfl,hc⟩:=HE.out.at' k x hx;have hlt':((k:Int)<(L.length:Int)):=zaa;have h1:=Fr.zu hx;have h2:=Fr.Gu L (k+1);have HT:Hid _:=h1;generalize Fr.tot (L.take k)=T at *;clear h1;go_wp2
   go_round
   case rel =>
    refine ⟨k+1,zaa,zah,?_,by first | trivial | rfl⟩;have h3:=HT.out;rw [Go.IntWalk.wrap64_in _ zaa,h3]
    go_num
   case measure=>simp [intOf];omega
  ·obtain rfl:k=L.length:=zaa;rw [Mt];go_wp2;go_ret;exact ⟨by congr 2;simp;omega,rfl⟩
namespace Fr
theorem A0 {W:World} {base e:Nat} {v:Value} (h:W.ownsRow base e size v n xs):∃ sl:Ref.Sl,v = .slice sl.a sl.n sl.c:=by
 rcases h.2 with ⟨h0,_⟩ | ⟨g,cap,cur,h0,_⟩
 ·exact ⟨⟨none,0,0⟩,h0⟩
 ·exact ⟨⟨some ⟨g,0,none⟩,n,cap⟩,h0⟩
theorem CI {w:World} {ops:Array Oper} {rest:List Oper} {o:Oper} {a:Act} {Q:Exit->Act->World->Prop} (hgd:o.guard=none) (s x:Operand) (ho:o.op = .call { callee := .builtin .append,args:=#[s,x],argTypes:=#[53,53] })
  (base:Nat) (v:Value) (n:Nat) (xs:List Value) (hs:a.eval s=v) (hown:w.ownsRow base 63 3 v n xs) (u:Value) (hx:a.eval x=u) {n0:Nat} (hu:Pg.EvS w n0 u) (hn:n<=100000) (hbase:base<=w.heap.size)
  (h:∀ (sl:Ref.Sl) w' m ys,w'.ownsRow base 63 3 (.slice sl.a sl.n sl.c) m ys->m<=n+1->w.grownBy w' v.ownBlock->wpList prog ops Q rest (a.put o.dst (.slice sl.a sl.n sl.c)) w'):wpList prog ops Q (o::rest) a w:=by
 obtain ⟨i0,hi,hz0,hz1,hz2⟩:=MC tZ
 rcases hu with rfl | ⟨sb,c,rfl,_,hc,hcs,h1⟩
 ·refine wpList_append_own_none hgd s x _ ho base _ i0 3 underlying53 hi v n xs hs hown hx ?_;obtain ⟨sl,rfl⟩:=A0 hown;exact h sl w n xs hown (Nat.le_succ _) (World.grownBy.refl w _)
 ·refine wpList_append_own _ hgd s x _ ho base _ i0 _ 3 48 underlying53 hi hz0 hz1 hz2 rfl zac v n xs hs hown ⟨sb,0,none⟩ 1 1 c.toList hx (by rw [Pp,hcs]) (World.news_of_block hc) (fun y hy=>h1 y (Array.mem_toList_iff.1 hy)) zag zaa hbase (fun v' w' a1 a2 _ => ?_);obtain ⟨sl,rfl⟩:=A0 a1;exact h sl w' (n+1) _ a1 (K7 _) a2
end Fr
theorem FT (w:World) (n0 xb:Nat) (p:Pg.Par) (r:Pg.RSt) (t0:Nat) (ht0:r.now=t0) (h:Pg.Ses w n0 xb p r) (hE:Pg.qp w) (hg:0<n0) (hcl:∀ ev:ByteArray,ev.size<=1000000->uU ev) (a:Option Addr) (c:Nat) (L:List ByteArray) (hEv:∀ W,Below n0 w W->Fr.wY W a L) (hL:L.length<=8192) (hT:Fr.tot L<=8192) :
  () 30 #[xb,.slice a L.length c,.slice none 0 0] w fun e w'=>∃ l r',∃ k:Nat,e = .returned (.tuple #[l,(k:Int)])/\Pg.Ses w' n0 xb p r'/\r'.now=t0/\Pg.Rf p.lo w w':=by
 have hl0:=h.lv.mt.lo';have HEV:Hid (∀ W,Hid (Pg.Rf p.lo w W)->Fr.wY W a L):=fun W hf=>hEv W (hf.out.bel.mono h.n0);have HCA:Hid (∀ W (r1:Pg.RSt) (x:ByteArray),x.size<=8192->Hid (Pg.Ses W n0 xb p r1/\r1.now=t0/\Pg.Rf p.lo w W)->() 25 #[xb,.string x] W fun e w'=>∃ l r',∃ k:Nat,e = .returned (.tuple #[l,(k:Int)])/\Hid (Pg.EvS w' n0 l/\Pg.Rf p.lo W w'/\Pg.Ses w' n0 xb p r'/\r'.now=t0/\Pg.Rf p.lo w w')):=fun W r1 x hx hW=>by
  obtain ⟨h1,h2,h3⟩:=hW.out;refine Lh (Hr W n0 xb p r1 h1 ((h3.bel.cell (p:=⟨0,0,none⟩) (Lu hg h.n0)).trans hE) hg hcl x zaa) ?_;rintro e w' ⟨l,k,r',rfl,a1,a2,a3,a4⟩;exact ⟨l,r',k,rfl,a3,a4,a1,a2.trans h2,h3.trans a4⟩
 have HOW:Hid (∀ (W W':World) (r1:Pg.RSt) (v:Value) (m:Nat) (xs:List Value),Hid (Pg.Ses W n0 xb p r1/\r1.now=t0/\Pg.Rf p.lo w W)->W.ownsRow w 63 3 v m xs->W.grownBy W' v.ownBlock->Hid (Pg.Ses W' n0 xb p r1/\r1.now=t0/\Pg.Rf p.lo w W')):=fun W W' r1 v m xs hW ho hgr=>by
  obtain ⟨h1,h2,h3⟩:=hW.out;have hm:Mo (fun k=>v.ownBlock=some k) W W':=⟨hgr.os,hgr.tape,hgr.output,hgr.size,fun k hk hn=>hgr.block k hk (fun e=>hn e.symm)⟩;obtain ⟨a1,a2⟩:=h.own h1 h3 hm (fun k hk=>by
   obtain ⟨c,hc⟩:=bP ho k hk;exact ⟨(LL ho k hk).1,c,_,hc,Pg.oU⟩)
  exact ⟨a1,h2,a2⟩
 have H0:Hid (Pg.Ses w n0 xb p r/\r.now=t0/\Pg.Rf p.lo w w):=⟨h,ht0,Pg.RfE.refl _ _⟩;clear h hE hEv hl0 hcl ht0;go_enter func30,ntmps30;go_wp2
 go_loopw [8,9,10] (fun o q i wr=>∃ (k m z:Nat) (r1:Pg.RSt) (sl:Ref.Sl) (xs:List Value),k<=L.length/\i = .int .i64 k/\q = .int .i64 z/\o = .slice sl.a sl.n sl.c/\m<=k/\wr.ownsRow w 63 3 o m xs/\Hid (Pg.Ses wr n0 xb p r1/\r1.now=t0/\Pg.Rf p.lo w wr)) (fun _ _ i _=>L.length-(intOf i).toNat)
 case atStart=>exact ⟨0,0,0,r,⟨none,0,0⟩,[],Lk _,rfl,rfl,rfl,K7 _,Mf _ _ _ _,H0⟩
 case round =>
  obtain ⟨k,m,z,r1,sl,xs,hk,rfl,rfl,rfl,hm,hown,HS⟩:=hrel;by_cases hlt:k<L.length
  ·obtain ⟨x,hx⟩:∃ x,L[k]?=some x:=⟨_,K8 hlt⟩;obtain ⟨b,off,rfl,hc⟩:=(HEV.out wr HS.out.2.2).at' k x hx;have hlt':((k:Int)<(L.length:Int)):=zaa;have hxs:=Fr.I8 hx;have HC:Hid _:=HCA.out wr r1 x zaa HS;have hnn:¬ (k:Int)<0:=zaa;clear hx hxs;go_wp2_with (first
    | (go_at_call 25;refine Lh HC.out ?_;rintro e w2 ⟨l,r2,z2,rfl,h2⟩;have ho2:=Kd.row h2.out.2.1.kd hown Pg.oU)
    | (at_builtin;refine Fr.CI rfl _ _ rfl w.heap.size _ m xs rfl ho2 l rfl h2.out.1 zaa (La (by exact H0.out.2.2.bel.size) h2.out.2.2.2.2.bel.size) ?_;intro sl3 w3 m3 ys3 ho3 hm3 hg3;have H3:Hid _:=HOW.out w2 w3 r2 _ m xs h2.out.2.2 ho2 hg3))
   go_round
   case rel=>exact ⟨k+1,m3,z2,r2,sl3,ys3,zaa,zah,rfl,rfl,zaa,ho3,H3⟩
   case measure=>simp [intOf];omega
  ·obtain rfl:k=L.length:=zaa;go_wp2;go_ret2;exact ⟨_,r1,z,rfl,HS.out⟩
namespace Fr
def vf (W:World) (v:Ref.Sl) (P:List Pg.Tn):Prop:=v.n=P.length/\P.length<=v.c/\∀ (k:Nat) (x:Pg.Tn),P[k]?=some x->∃ g,v.a=some ⟨g,0,none⟩/\W.cell? ⟨g,k*2,none⟩=some ↑x.ev/\W.cell? ⟨g,k*2+1,none⟩=some (.int .u64 x.t)
def zJ (W:World) (v:Ref.Sl) (L:List (ByteArray×Pg.RSt)):Prop:=v.n=L.length/\L.length<=v.c/\∀ (k:Nat) (x:ByteArray×Pg.RSt),L[k]?=some x->∃ g,v.a=some ⟨g,0,none⟩/\W.cell? ⟨g,k*3,none⟩=some ↑x.1/\W.cell? ⟨g,k*3+1,none⟩=some (.int .u64 x.2.now)
theorem wz {W:World} {e:Nat} (h:W.ownsRow b e size (.slice v.a v.n v.c) n xs):v.n=n/\n<=v.c:=by
 rcases h.2 with ⟨h0,h1⟩ | ⟨g,cap,cur,h0,_,_,h3,_⟩
 ·simp only [Value.slice.injEq] at h0;omega
 ·simp only [Value.slice.injEq] at h0;omega
theorem wW {W:World} (h:Pg.Wts W b (.slice v.a v.n v.c) P):vf W v P:=⟨(wz h).1,(wz h).2,fun k x hx=>by
 obtain ⟨hk,rfl⟩:=Lc.1 hx;obtain ⟨g,cap,e⟩:=Ref.eR h zaa;have h1:=aD h (Lk _);rw [e] at h1;simp only [Value.slice.injEq] at e;exact ⟨g,e.1,Row.cell (f:=Pg.wtC) (n:=2) (fun _=>rfl) h1 (j:=0) zac hk,Row.cell (f:=Pg.wtC) (n:=2) (fun _=>rfl) h1 (j:=1) zac hk⟩⟩
theorem I2 {W:World} {L:List (ByteArray×Pg.RSt)} (h:Pg.pO W b (.slice v.a v.n v.c) L):zJ W v L:=by
 obtain ⟨vs,hl,h⟩:=h;refine ⟨(wz h).1,(wz h).2,fun k x hx => ?_⟩;obtain ⟨hk,rfl⟩:=Lc.1 hx;obtain ⟨g,cap,e⟩:=Ref.eR h zaa;have h0:=aD h (Lk _);rw [e] at h0;simp only [Value.slice.injEq] at e;have hz:(L.zip vs).length=L.length:=by rw [List.length_zip];omega
 have h1:W.ownsRow 0 63 3 (.slice g (L.zip vs).length cap) (L.zip vs).length ((L.zip vs).flatMap Pg.stC):=by rw [hz];exact h0
 have hg:((L.zip vs)[k]'(zaa)).1=L[k]:=by rw [List.getElem_zip]
 refine ⟨g,e.1,(Row.cell (f:=Pg.stC) (n:=3) (fun _=>rfl) h1 (j:=0) zac zaa).trans ?_,(Row.cell (f:=Pg.stC) (n:=3) (fun _=>rfl) h1 (j:=1) zac zaa).trans ?_⟩
 ·rw [<- hg];rfl
 ·rw [<- hg];rfl
theorem vf.aq {W:World} (h:vf W v P) (hb:Below W W W'):vf W' v P:=⟨h.1,h.2.1,fun k x hx=>by
 obtain ⟨g,a,c1,c2⟩:=h.2.2 k x hx;have hg:=LC _ _ c1;exact ⟨g,a,(hb.cell (p:=⟨g,k*2,none⟩) hg).trans c1,(hb.cell (p:=⟨g,k*2+1,none⟩) hg).trans c2⟩⟩
theorem zJ.aq {W:World} {L:List (ByteArray×Pg.RSt)} (h:zJ W v L) (hb:Below W W W'):zJ W' v L:=⟨h.1,h.2.1,fun k x hx=>by
 obtain ⟨g,a,c1,c2⟩:=h.2.2 k x hx;have hg:=LC _ _ c1;exact ⟨g,a,(hb.cell (p:=⟨g,k*3,none⟩) hg).trans c1,(hb.cell (p:=⟨g,k*3+1,none⟩) hg).trans c2⟩⟩
theorem B9 (an:Pg.RSt->ByteArray->Pg.RSt) (t:Nat):∀ (n k:Nat) (r:Pg.RSt),(Pg.dM an t n k r).1.length<=n
 | 0,_,_=>by unfold Pg.dM;exact K7 _
 | n+1,k,r=>by
  have ih:=B9 an t n (k+1);unfold Pg.dM
  repeat' split
  all_goals first | exact Lk _ | exact Nat.succ_le_succ (Lk _) | exact Nat.succ_le_succ (ih _)
structure Sn (w W:World) (xb:Nat) (p:Pg.Par) (r:Pg.RSt):Prop where
 ses:Pg.Ses W w xb p r
 bel:Below w w W
theorem Sn.aq {w W:World} {xb:Nat} {p:Pg.Par} {r:Pg.RSt} (h:Sn w W xb p r) (hb:Below W W W'):Sn w W' xb p r:=⟨h.ses.aq hb,h.bel.trans (hb.mono h.bel.size)⟩
def Ck2 (w:World) (xb:Nat) (t:Nat) (r:Pg.RSt) (W:World):Prop:=() 26 #[xb,.int .u64 t] W fun e W'=>∃ a c,∃ k:Nat,e = .returned (.tuple #[.slice a 0 c,(k:Int)])/\k=r.fin/\Below w w W'
def Ck1 (w:World) (xb:Nat) (p:Pg.Par) (t:Nat) (sl:Ref.Sl) (P:List Pg.Tn) (W:World):Prop:=() 26 #[xb,.int .u64 t] W fun e W' =>
 (∃ k:Nat,e = .returned (.tuple #[.slice none 0 0,(k:Int)])/\(k=5\/k=6)/\Below w w W') \/
 ∃ (l:Ref.Sl) (L:List (ByteArray×Pg.RSt)) (r:Pg.RSt) (k:Nat),e = .returned (.tuple #[.slice l.a l.n l.c,(k:Int)])/\k=(if r.fin=6 then 6 else 0)/\L.length<=201/\zJ W' l L/\vf W' sl P/\Pg.Asc 0 (L.map (·.2.now))/\(∀ x∈L,x.2.now<=t)/\(∀ x,L.head?=some x->∃ f,P.head?=some f/\x.1=f.ev/\x.2.now=f.t)/\(r.fin=0->r.now=t/\∀ x∈r.tm,t<x.t)/\(L=[]->r.fin=0)/\(r.fin=0\/r.fin=5\/r.fin=6)/\Sn w W' xb p r
section
variable {w W:World} {xb:Nat} {p:Pg.Par} {r:Pg.RSt} {t:Nat}
theorem Hg (h:Sn w W xb p r) (hE:Pg.qp w) (hg:0<w.heap.size) (hcl:∀ ev:ByteArray,ev.size<=1000000->uU ev) (ht:t<18446744073709551616) (hn:r.now=0) {sl:Ref.Sl} (hP:Pg.Wts W b (.slice sl.a sl.n sl.c) (Pg.srt (fun x:Pg.Tn=>x.t) r.tm)):Ck1 w xb p t sl (Pg.srt (fun x:Pg.Tn=>x.t) r.tm) W:=by
 refine Lh (B2 W w xb p r h.ses ((h.bel.cell (p:=⟨0,0,none⟩) hg).trans hE) hg hcl t ht) ?_;rintro e W' ⟨l,r',h1,h2,h3 | h3⟩
 ·obtain ⟨hf,⟨k,rfl,hk⟩,rfl,hS⟩:=h3;have hT:=h.ses.told ht hf zaa;obtain ⟨vs,_,ho⟩:=id hS;obtain ⟨l,rfl⟩:=A0 ho;refine .inr ⟨l,_,_,k,rfl,hk,B9 _ _ _ _ _,I2 hS,wW (Kd.row h2.kd hP zaz),hn ▸ hT.asc,hT.le,hT.fst,hT.fin,hT.nil,h1.lv.qk.fin,h1,h.bel.trans (h2.bel.mono h.ses.n0)⟩
 ·obtain ⟨hf,rfl,rfl,rfl⟩:=h3;refine .inl ⟨r'.fin,rfl,?_,h.bel.trans (h2.bel.mono h.ses.n0)⟩;have:=h1.lv.qk.fin;omega
theorem Hh (h:Sn w W xb p r) (hE:Pg.qp w) (hg:0<w.heap.size) (hcl:∀ ev:ByteArray,ev.size<=1000000->uU ev) (ht:t<18446744073709551616) (hf:r.fin=0->r.now=t/\∀ x∈r.tm,t<x.t):Ck2 w xb t r W:=by
 refine Lh (B2 W w xb p r h.ses ((h.bel.cell (p:=⟨0,0,none⟩) hg).trans hE) hg hcl t ht) ?_;rintro e W' ⟨l,r',h1,h2,h3 | h3⟩
 ·obtain ⟨h0,⟨k,rfl,hk⟩,hr,hS⟩:=h3;obtain ⟨hn,hx⟩:=hf h0;have hd:Pg.bA r.now t r.tm=false:=by
   unfold Pg.bA;split
   ·rfl
   ·rename_i f hh;have:=hx f (Pg.eP hh).1;simp;omega
  rw [Pg.lC hd] at hr hS;obtain ⟨a,c,rfl⟩:=hS.n;refine ⟨a,c,k,rfl,?_,h.bel.trans (h2.bel.mono h.ses.n0)⟩;rw [hk,hr];show (if r.fin=6 then 6 else 0)=r.fin;rw [h0];rfl
 ·obtain ⟨_,rfl,rfl,rfl⟩:=h3;exact ⟨none,0,_,rfl,rfl,h.bel.trans (h2.bel.mono h.ses.n0)⟩
theorem FR (h:Sn w W xb p r):() 32 #[xb] W fun e W'=>∃ sl:Ref.Sl,e = .returned (.slice sl.a sl.n sl.c)/\(∃ b,Pg.Wts W' b (.slice sl.a sl.n sl.c) (Pg.srt (fun x:Pg.Tn=>x.t) r.tm))/\Below W W W'/\Sn w W' xb p r :=
 (IJ W w xb p r h.ses).mono fun _ _ ⟨sl,e1,h1,h2⟩=>⟨sl,e1,⟨_,h1⟩,h2,h.aq h2⟩
end
theorem J8 {T:List Pg.Tn} {i j:Nat} {x y:Pg.Tn} (hi:(Pg.srt (fun x:Pg.Tn=>x.t) T)[i]?=some x) (hj:(Pg.srt (fun x:Pg.Tn=>x.t) T)[j]?=some y) (h:i<j):x.t<=y.t:=by
 obtain ⟨h1,rfl⟩:=Lc.1 hi;obtain ⟨h2,rfl⟩:=Lc.1 hj;exact List.pairwise_iff_getElem.1 (Pg.lX (fun x:Pg.Tn=>x.t) T) i j h1 h2 h
theorem zX:∀ (L:List Nat) (a k x:Nat),Pg.Asc a L->L[k]?=some x->a<=x/\∀ y,L[k+1]?=some y->x<=y
 | [],_,_,_,_,h=>by cases h
 | z::L,a,0,x,hA,h=>by
  cases h
  refine ⟨hA.1,fun y hy => ?_⟩;exact (zX L z 0 y hA.2 hy).1
 | z::L,a,k+1,x,hA,h=>by
  obtain ⟨h1,h2⟩:=zX L z k x hA.2 h;exact ⟨La hA.1 h1,h2⟩
end Fr
theorem Ap (s:ByteArray) (a:Option Addr) (c:Nat) (L:List ByteArray) (z:Int) (w:World) (hv:uW w) (hErr:Pg.qp w) (hg:0<w.heap.size) (hcl:∀ ev:ByteArray,ev.size<=1000000->uU ev) (hE:Fr.wY w a L) (hbd:s.size+L.length+Fr.tot L<=4194304) :
  () 11 #[s,.slice a L.length c,(z:Int)] w fun e w'=>e = .returned true/\Below w w w':=by
 obtain ⟨t,ht,ha⟩:∃ t:Nat,t<18446744073709551616/\IntKind.u64.wrap z=(t:Int):=⟨(IntKind.u64.wrap z).toNat,by rw [NY];omega,by rw [NY];omega⟩;have HF:Hid _:=Hs s a c L w hE hbd;by_cases hfar:8192<s.size+L.length+Fr.tot L
 ·rw [Ma hfar] at HF;clear hfar;go_enter func11,ntmps11;go_wp2_with (go_at_call 22;refine Lh HF.out ?_;rintro e w1 ⟨rfl,hw1⟩;rw [hw1];clear hw1 w1);go_ret;exact ⟨rfl,K9 _ _⟩
 rw [LM hfar] at HF;have HB:Hid _:=CR s w hv zaa;have HP:Hid (∀ W xb p r,Below w w W->Pg.Ses W w xb p r->r.now=0->() 30 #[.pointer (some ⟨xb,0,none⟩),.slice a L.length c,.slice none 0 0] W fun e w'=>∃ l r',∃ k:Nat,e = .returned (.tuple #[l,(k:Int)])/\Hid (r'.now=0/\Fr.Sn w w' xb p r')):=fun W xb p r hb hS hn=>by
  refine (FT W w xb p r 0 hn hS ((hb.cell (p:=⟨0,0,none⟩) hg).trans hErr) hg hcl a c L (fun V hV=>hE.bel (hb.trans hV) (K7 _)) zaa zaa).mono ?_;rintro e w' ⟨l,r',k,rfl,h1,h2,h3⟩;exact ⟨l,r',k,rfl,h2,h1,hb.trans (h3.bel.mono hS.n0)⟩
 have HC1:Hid (∀ W xb p r b sl,Fr.Sn w W xb p r->r.now=0->Pg.Wts W b (.slice sl.a sl.n sl.c) (Pg.srt (fun x:Pg.Tn=>x.t) r.tm)->Fr.Ck1 w xb p t sl (Pg.srt (fun x:Pg.Tn=>x.t) r.tm) W):=fun W xb p r b sl h1 h2 h3=>Fr.Hg h1 hErr hg hcl ht h2 h3;have HC2:Hid (∀ W xb p r,Fr.Sn w W xb p r->(r.fin=0->r.now=t/\∀ x∈r.tm,t<x.t)->Fr.Ck2 w xb t r W):=fun W xb p r h1 h2=>Fr.Hh h1 hErr hg hcl ht h2;clear hv hErr hg hcl hE hbd hfar;go_enter func11,ntmps11;go_wp2_with (go_at_call 22;refine Lh HF.out ?_;rintro e w1 ⟨rfl,hw1⟩;rw [hw1];clear hw1 w1);refine Lh HB.out ?_;rintro e w1 ⟨hb1,rfl | ⟨xb,sb,p,r,rfl,hS,hn⟩⟩
 ·dsimp only;go_wp2;go_ret;exact ⟨rfl,hb1⟩
 have HP1:Hid _:=HP.out w1 xb p r hb1 hS hn;clear HP HB HF hS hn hb1;dsimp only;go_wp2_with (go_at_call 30;refine Lh HP1.out ?_;rintro e w2 ⟨l2,r2,k2,rfl,H2⟩);refine Lh (yJ w2 _ xb p r2 H2.out.2.ses) ?_;rintro e w3 ⟨rfl,hw3⟩;rw [hw3,H2.out.1];clear hw3 w3 HP1;go_wp2_with fail;refine Lh (Fr.FR H2.out.2) ?_;rintro e w3 ⟨⟨pa,pn,pc⟩,rfl,⟨b3,h3⟩,_,h3s⟩;have hw3:=Fr.wW h3;obtain rfl:pn=_:=hw3.1;have HS3:Hid (∀ V,Below w3 w3 V->Fr.Ck1 w xb p t ⟨pa,_,pc⟩ (Pg.srt (fun x:Pg.Tn=>x.t) r2.tm) V):=fun V hV=>HC1.out V xb p r2 b3 ⟨pa,_,pc⟩ (h3s.aq hV) H2.out.1 (aY h3 hV);have h12:(Pg.srt (fun x:Pg.Tn=>x.t) r2.tm).length<=12:=by rw [Pg.lW];exact h3s.ses.lv.mt.tml
 have HPS:Hid (∀ (i j:Nat) (x y:Pg.Tn),(Pg.srt (fun x:Pg.Tn=>x.t) r2.tm)[i]?=some x->(Pg.srt (fun x:Pg.Tn=>x.t) r2.tm)[j]?=some y->i<j->x.t<=y.t):=fun i j x y h1 h2 h3=>Fr.J8 h1 h2 h3;have HW3:Hid (∀ V,Below w3 w3 V->Fr.vf V ⟨pa,_,pc⟩ (Pg.srt (fun x:Pg.Tn=>x.t) r2.tm)):=fun V hV=>Fr.vf.aq hw3 hV;clear h3 h3s hw3 H2 HC1;generalize Pg.srt (fun x:Pg.Tn=>x.t) r2.tm=P at *;dsimp only;go_wp2_with fail
 go_loopw [13] (fun i wr=>∃ k:Nat,k<=P.length/\i = .int .i64 k/\Hid (Below w3 w3 wr)) (fun i _=>P.length-(intOf i).toNat)
 case atStart=>exact ⟨0,Lk _,rfl,K9 _ _⟩
 case round =>
  obtain ⟨k,hk,rfl,HB⟩:=hrel;by_cases hlt:k<P.length
  ·obtain ⟨x,hx⟩:∃ x,P[k]?=some x:=⟨_,K8 hlt⟩;obtain ⟨_,hpc,hcc⟩:=HW3.out wr HB.out;dsimp only at hpc;obtain ⟨g,hpa,c1,c2⟩:=hcc k x hx;dsimp only at hpa;subst hpa;have hlt':((k:Int)<(P.length:Int)):=zaa;have hnn:¬ (k:Int)<0:=zaa;have hx0:decide ((x.t:Int)<0)=false:=LM zaa;have h12':decide ((12:Int)<(P.length:Int))=false:=LM zaa;by_cases hk0:k=0
   ·subst hk0;clear hcc hx;go_wp2_with fail
    go_big_quiet (fail)
    go_wp2
    go_round
    case rel=>exact ⟨1,zaa,zah,Ng HB.out _⟩
    case measure=>simp [intOf];omega
   ·obtain ⟨y,hy⟩:∃ y,P[k-1]?=some y:=⟨_,K8 zaa⟩;obtain ⟨g',hpa',c1',c2'⟩:=hcc (k-1) y hy;obtain rfl:g=g':=by simp at hpa';exact hpa'
    have hxy:decide (x.t<y.t)=false:=LM (by have:=HPS.out (k-1) k y x hy hx zaa;omega);have hk1:(k:Int)-1=((k-1:Nat):Int):=zaa;have hk0':(0:Int)<(k:Int):=zaa;have hk0'':0<k:=zaa;have hlt2:((k-1:Nat):Int)<(P.length:Int):=zaa;clear hcc hx hy hpa';go_wp2_with fail
    go_big_quiet (fail)
    go_wp2
    go_round
    case rel=>exact ⟨k+1,zaa,zah,Ng HB.out _⟩
    case measure=>simp [intOf];omega
  ·obtain rfl:k=P.length:=zaa;have HK:Hid _:=HS3.out wr HB.out;clear HS3 HB HPS HW3;go_wp2_with fail;refine Lh HK.out ?_;rintro e w4 (⟨k4,rfl,h5,hb4⟩ | ⟨⟨la,ln,lc⟩,L1,r4,k4,rfl,hk4,hl201,hst,hwt,hasc,hle,hfst,hfin,hnil,hf3,hsn⟩)
   ·rcases h5 with rfl | rfl
    all_goals
     dsimp only;go_wp2;go_ret;exact ⟨rfl,hb4⟩
   ·obtain rfl:ln=L1.length:=hst.1;have hk4':(k4=0/\decide (0<L1.length)=false/\Hid (r4.fin=0\/r4.fin=5))\/∃ (g g':Nat) (ev:ByteArray) (n:Nat),la=some ↑g/\pa=some ↑g'/\w4.cell? g=some ↑ev/\w4.cell? ⟨g,1,none⟩=some (.int .u64 n)/\w4.cell? g'=some ↑ev/\w4.cell? ⟨g',1,none⟩=some (.int .u64 n)/\((L1.length:Int) == 0)=false/\((P.length:Int) == 0)=false/\(0:Int)<(L1.length:Int)/\(0:Int)<(P.length:Int)/\decide (0<L1.length)=true/\(ev.toList != ev.toList)=false/\P.length<=pc/\(k4=0/\Hid (r4.fin=0\/r4.fin=5)\/k4=6/\Hid (r4.fin=6)):=by
     cases L1 with
     | nil=>exact .inl ⟨by rw [hk4,hnil rfl];rfl,rfl,.inl (hnil rfl)⟩
     | cons x L2 =>
      obtain ⟨f,hf,e1,e2⟩:=hfst x rfl;cases P with
      | nil=>cases hf
      | cons f' P2 =>
       cases hf
       obtain ⟨g,hg,c1,c2⟩:=hst.2.2 0 x rfl;obtain ⟨g',hg',c1',c2'⟩:=hwt.2.2 0 f rfl;rw [e1] at c1;rw [e2] at c2;have z1:0<(x::L2).length:=Nat.succ_pos _;have z2:0<(f::P2).length:=Nat.succ_pos _;refine .inr ⟨g,g',f.ev,f.t,hg,hg',c1,c2,c1',c2',MO.2 zaa,MO.2 zaa,zaa,zaa,Ma z1,zad,hwt.2.1,?_⟩
       rcases hf3 with h | h | h
       ·exact .inl ⟨by rw [hk4,h];rfl,.inl h⟩
       ·exact .inl ⟨by rw [hk4,h];rfl,.inr h⟩
       ·exact .inr ⟨by rw [hk4,h];rfl,h⟩
    have HST:Hid (∀ V,Below w4 w4 V->Fr.zJ V ⟨la,L1.length,lc⟩ L1):=fun V hV=>Fr.zJ.aq hst hV;have HL0:Hid (∀ y,L1[0]?=some y->(0:Nat)<=y.2.now):=fun y _=>Lk _;have HL1:Hid (∀ (k:Nat) x,L1[k]?=some x->x.2.now<=t/\∀ y,L1[k+1]?=some y->x.2.now<=y.2.now):=fun k x hx=>⟨hle x (Lj hx),fun y hy=>(Fr.zX _ 0 k _ hasc (by rw [Lv,hx];rfl)).2 _ (by rw [Lv,hy];rfl)⟩;have HSN:Hid _:=hsn;have HFN:Hid _:=hfin;have hlc:L1.length<=lc:=hst.2.1;clear hk4 hst hwt hasc hle hfst hfin hnil hf3 hsn
    rcases hk4' with ⟨rfl,hz5,HF⟩ | ⟨g,g',ev,n,rfl,rfl,c1,c2,c3,c4,hz1,hz2,hz3,hz4,hz5,hs1,hpc,⟨rfl,HF⟩ | ⟨rfl,HF⟩⟩
    all_goals
     dsimp only;go_wp2_with fail
     go_big_quiet (fail)
     have HB5:Hid (Below w4 w4 (w4.drewN nq)):=Ng (K9 _ _) _;go_wp2_with fail
     go_loopw [17,18] (fun last i wr5=>∃ k u:Nat,k<=L1.length/\i = .int .i64 k/\last = .int .u64 u/\Hid (∀ y,L1[k]?=some y->u<=y.2.now)/\Hid (Below w4 w4 wr5)) (fun _ i _=>L1.length-(intOf i).toNat)
     case atStart=>exact ⟨0,0,Lk _,rfl,rfl,HL0,HB5⟩
     case round =>
      obtain ⟨k,u,hk,rfl,rfl,HU,HB6⟩:=hrel;by_cases hlt:k<L1.length
      ·obtain ⟨x,hx⟩:∃ x,L1[k]?=some x:=⟨_,K8 hlt⟩;obtain ⟨_,_,hcc⟩:=HST.out wr HB6.out;obtain ⟨g,hg,c1,c2⟩:=hcc k x hx;cases hg
       have hlt':((k:Int)<(L1.length:Int)):=zaa;have hnn:¬ (k:Int)<0:=zaa;have hu1:=HU.out x hx;obtain ⟨hu2,hu3⟩:=HL1.out k x hx;have HU3:Hid _:=hu3;have hd1:decide (x.2.now<u)=false:=LM zaa;have hd2:decide (t<x.2.now)=false:=LM zaa;clear hcc hx hu3 hu1 hu2;go_wp2_with fail
       go_round
       case rel=>exact ⟨k+1,_,zaa,zah,rfl,HU3,HB6⟩
       case measure=>simp [intOf];omega
      ·obtain rfl:k=L1.length:=zaa;have HS6:Hid _:=Fr.FR (HSN.out.aq HB6.out);clear HU HB6 HB5 HST HL0 HL1 HSN;go_wp2_with fail;refine Lh HS6.out ?_;rintro e w6 ⟨⟨qa,qn,qc⟩,rfl,⟨b6,h6⟩,_,h6s⟩;have hw6:=Fr.wW h6;obtain rfl:qn=_:=hw6.1;have HQT:Hid (∀ x∈Pg.srt (fun x:Pg.Tn=>x.t) r4.tm,r4.fin=0->t<x.t):=fun x hx h0=>(HFN.out h0).2 x (Pg.gW.1 hx);have hq12:(Pg.srt (fun x:Pg.Tn=>x.t) r4.tm).length<=12:=by rw [Pg.lW];exact h6s.ses.lv.mt.tml
       have HC6:Hid (∀ V,Below w6 w6 V->Fr.Sn w V xb p r4):=fun V hV=>h6s.aq hV;have HW6:Hid (∀ V,Below w6 w6 V->Fr.vf V ⟨qa,_,qc⟩ (Pg.srt (fun x:Pg.Tn=>x.t) r4.tm)):=fun V hV=>Fr.vf.aq hw6 hV;clear h6 h6s hw6 HS6;generalize Pg.srt (fun x:Pg.Tn=>x.t) r4.tm=R at *;dsimp only;go_wp2_with fail
       go_loopw [19,20] (fun late i wr7=>∃ (k:Nat) (b:Bool),k<=R.length/\i = .int .i64 k/\late = .bool b/\Hid (r4.fin=0->b=true)/\Hid (Below w6 w6 wr7)) (fun _ i _=>R.length-(intOf i).toNat)
       case atStart=>exact ⟨0,true,Lk _,rfl,rfl,fun _=>rfl,K9 _ _⟩
       case round =>
        obtain ⟨k,b,hk,rfl,rfl,HBT,HB7⟩:=hrel;by_cases hlt:k<R.length
        ·obtain ⟨x,hx⟩:∃ x,R[k]?=some x:=⟨_,K8 hlt⟩;obtain ⟨_,hqc,hcc⟩:=HW6.out wr HB7.out;obtain ⟨g6,hg6,c1,c2⟩:=hcc k x hx;cases hg6
         have hlt':((k:Int)<(R.length:Int)):=zaa;have hnn:¬ (k:Int)<0:=zaa;have HX:Hid (r4.fin=0->decide (t<x.t)=true):=fun h0=>Ma (HQT.out x (Lj hx) h0);clear hcc hx;cases b
         ·go_wp2_with fail
          go_round
          case rel=>exact ⟨k+1,false,zaa,zah,rfl,HBT,HB7⟩
          case measure=>simp [intOf];omega
         ·go_wp2_with fail
          go_round
          case rel=>exact ⟨k+1,_,zaa,zah,rfl,HX,HB7⟩
          case measure=>simp [intOf];omega
        ·obtain rfl:k=R.length:=zaa;have HNW:Hid _:=yJ wr _ xb p r4 (HC6.out wr HB7.out).ses;have HCK:Hid _:=HC2.out wr xb p r4 (HC6.out wr HB7.out) HFN.out;clear HC6 HB7 HW6 HQT;go_wp2_with fail;refine Lh HNW.out ?_;rintro e w8 ⟨rfl,hw8⟩;rw [hw8];clear hw8 w8;go_wp2_with fail;refine Lh HCK.out ?_;rintro e w9 ⟨ma,mc,f9,rfl,hf9,hb9⟩
         first
          | (rcases HF.out with h | h
             ·obtain rfl:f9=0:=hf9.trans h;obtain rfl:b=true:=HBT.out h;rw [(HFN.out h).1];clear hf9;dsimp only;go_wp2;go_ret;exact ⟨rfl,hb9⟩
             ·obtain rfl:f9=5:=hf9.trans h;clear hf9;dsimp only;go_wp2;go_ret;exact ⟨rfl,hb9⟩)
          | (obtain rfl:f9=6:=hf9.trans HF.out
             clear hf9;dsimp only;go_wp2;go_ret;exact ⟨rfl,hb9⟩)
