import Derived.Test.YtegmoddppafkfaaGreatDoorM00
import Derived.Test.YtegmoddppafkfaaGreatDoorM08
import Derived.Test.YtegmoddppafkfaaGreatDoorM10
set_option maxRecDepth 100000
set_option maxHeartbeats 8000000
namespace Go.Proofs.YtegmoddppafkfaaGreatDoor
section
open Go.RowKit Go.Proofs Go.Shelf
namespace Pg
def dkR (nm0:ByteArray) (k:Nat) (R:Nat→List Nd):Nat→List Nd:=fun r=>if r<k*65∧r<390 then aS nm0 (R r) else R r
theorem Bq {nm0:ByteArray} {k:Nat} {R:Nat→List Nd} {r:Nat} (hr:isR r):dkR nm0 (k+1) R r=wdR nm0 k (dkR nm0 k R) r:=by
 unfold wdR dkR
 by_cases h1:r<k*65∧r<390
 ·rw [if_pos h1,if_pos (by omega),if_neg (by omega)]
 ·rw [if_neg h1]
  by_cases h2:r / 65=k∧r<390
  ·rw [if_pos h2,if_pos (by omega)]
  ·rw [if_neg h2,if_neg (by rcases hr with ⟨a,b⟩ | hr <;> omega)]
end Pg
theorem Bv (w:World) (lo mb pb:Nat) (qv:Value) (s:Pg.MSt) (R:Nat→List Pg.Nd) (Nb:Nat) (nm0:ByteArray) (hls:lo≤w.heap.size) (hM:Pg.ak w lo mb pb qv s) (hW:Pg.WhM w lo s R) (hN:Boxed w Nb 9 (.string nm0)) (hg:2<lo) (hG:TabAt 2 Lib.deBruijn64tab w) :
  Calls Tryz.prog 381 #[.pointer (some ⟨mb,27,none⟩),.func (.func 382) #[] #[.pointer (some ⟨Nb,0,none⟩)]] w fun e w'=>e = .returned (.tuple #[])∧Pg.MW w lo mb pb qv s (fun r=>Pg.aS nm0 (R r)) w':=by
 have h0:Pg.MW w lo mb pb qv s (Pg.dkR nm0 0 R) w:=Pg.MW.congr ⟨s.wh,hM,hW,Pg.RfE.refl _ _⟩ (fun r _=>by unfold Pg.dkR;rw [if_neg (by omega)])
 have HN:Hid (∀ V,Pg.Rw lo w V→Boxed V Nb 9 (.string nm0)∧TabAt 2 Lib.deBruijn64tab V∧lo≤V.heap.size):=fun V hV=>⟨Kd.boxed hV.kd hN (by unfold Pg.lZ;decide),fun j hj=>(hV.bel.cell (p:=⟨2,j,none⟩) hg).trans (hG j hj),Nat.le_trans hls hV.bel.size⟩
 have HW:Hid (∀ V k,k<6→Pg.MW w lo mb pb qv s (Pg.dkR nm0 k R) V→Calls Tryz.prog 384 #[.pointer (some ⟨mb,28+k*65,none⟩),.func (.func 382) #[] #[.pointer (some ⟨Nb,0,none⟩)]] V fun e w'=>e = .returned (.tuple #[])∧Pg.MW w lo mb pb qv s (Pg.dkR nm0 (k+1) R) w'):=fun V k hk hV=>by
  obtain ⟨wh',a,b,c⟩:=hV
  obtain ⟨n1,n2,n3⟩:=HN.out V c
  refine (AQ V lo mb pb qv _ _ k Nb nm0 hk n3 a b n1 hg n2).mono ?_
  rintro e w' ⟨rfl,wh2,a2,b2,c2⟩
  exact ⟨rfl,Pg.MW.congr ⟨wh2,a2,b2,c.trans c2⟩ (fun r hr=>Pg.Bq hr)⟩
 have HO:Hid (∀ V,Pg.MW w lo mb pb qv s (Pg.dkR nm0 6 R) V→Calls Tryz.prog 385 #[.pointer (some ⟨mb,418,none⟩),.func (.func 382) #[] #[.pointer (some ⟨Nb,0,none⟩)]] V fun e w'=>e = .returned (.tuple #[])∧Pg.MW w lo mb pb qv s (fun r=>Pg.aS nm0 (R r)) w'):=fun V hV=>by
  have hc:Pg.Rw lo w V:=by obtain ⟨_,_,_,c⟩:=hV;exact c
  obtain ⟨n1,n2,n3⟩:=HN.out V hc
  refine (qS V w lo mb pb qv s _ 390 Nb nm0 (.inr rfl) hls hV n1).mono ?_
  rintro e w' ⟨rfl,wh0,wh',e1,e2,e3,e4,e5,e6⟩
  refine ⟨rfl,Pg.MW.congr (R:=Pg.upd (Pg.dkR nm0 6 R) 390 (Pg.aS nm0 (Pg.dkR nm0 6 R 390))) ⟨wh',e2,⟨e3,fun k hk => ?_⟩,e5⟩ (fun r hr => ?_)⟩
  ·obtain ⟨h,h1,h2,h3⟩:=e1 k hk
   exact ⟨h,h1,(e4 k hk).trans h2,fun j hj=>by rw [Pg.aB _ _ (by omega)];exact h3 j hj⟩
  ·by_cases e:r=390
   ·subst e
    rw [Pg.aw]
    unfold Pg.dkR
    rw [if_neg (by omega)]
   ·rw [Pg.aB _ _ e]
    unfold Pg.dkR
    rw [if_pos (by rcases hr with ⟨a,b⟩ | hr <;> omega)]
 clear hM hW hN hG
 go_enter Tryz.func381,Tryz.ntmps381
 go_wp2
 go_loopw [5] (fun v wr=>∃ k:Nat,v = .int .i64 k∧k≤6∧Pg.MW w lo mb pb qv s (Pg.dkR nm0 k R) wr) (fun v _=>6-(intOf v).toNat)
 case atStart=>exact ⟨0,rfl,by omega,h0⟩
 case round =>
  obtain ⟨k,rfl,hk6,hk⟩:=hrel
  have HK:Hid _:=hk
  clear hk h0
  by_cases e:k=6
  ·subst e
   go_wp2_with (go_at_call 385;refine (HO.out _ HK.out).mono ?_;intro e w9 h9;obtain ⟨rfl,h9⟩:=h9;have H9:Hid _:=h9;clear h9)
   go_end0
   exact ⟨rfl,H9.out⟩
  ·have hk5:k<6:=by omega
   have hk5':((k:Int)<6):=by omega
   go_wp2_with (go_at_call 384;refine (HW.out _ k hk5 HK.out).mono ?_;intro e w9 h9;obtain ⟨rfl,h9⟩:=h9;have H9:Hid _:=h9;clear h9)
   go_roundw
   case rel=>exact ⟨k+1,by simp,by omega,H9.out⟩
   case measure=>simp only [intOf];omega
theorem Ae (nm0:ByteArray) (l:List Pg.Nd):(Pg.aS nm0 l).map (·.2)=(l.map (·.2)).filter (fun t => !(t.nm.toList == nm0.toList)):=by
 unfold Pg.aS
 rw [List.filter_map]
 rfl
theorem wH (w:World) (lo mb pb:Nat) (qv:Value) (s:Pg.MSt) (T:List Pg.Tn) (nm0:ByteArray) (hls:lo≤w.heap.size) (hM:Pg.ak w lo mb pb qv s) (hT:Pg.eI w lo s T) (hg:2<lo) (hG:TabAt 2 Lib.deBruijn64tab w) :
  Calls Tryz.prog 379 #[.pointer (some ⟨mb,0,none⟩),.string nm0] w fun e w'=>e = .returned (.tuple #[])∧∃ wh',Pg.ak w' lo mb pb qv { s with wh:=wh' }∧Pg.eI w' lo { s with wh:=wh' } (T.filter fun t => !(t.nm.toList == nm0.toList))∧Pg.Rf lo w w':=by
 have hb:Below w.heap.size w (w.alloc (.cells #[.string nm0] 9)):=(Below.refl _ w).alloc (Nat.le_refl _) _
 have hD:Calls Tryz.prog 381 #[.pointer (some ⟨mb,27,none⟩),.func (.func 382) #[] #[.pointer (some ⟨w.heap.size,0,none⟩)]] (w.alloc (.cells #[.string nm0] 9)) fun e w'=>e = .returned (.tuple #[])∧∃ wh',Pg.ak w' lo mb pb qv { s with wh:=wh' }∧Pg.eI w' lo { s with wh:=wh' } (T.filter fun t => !(t.nm.toList == nm0.toList))∧Pg.Rf lo w w':=by
  obtain ⟨R,hW,hF,hB⟩:=hT
  refine (Bv _ lo mb pb qv s R w.heap.size nm0 (Nat.le_trans hls hb.size) (hM.below hb) ⟨hW.rgs.below hb,hW.held⟩ (Boxed.new w _ _) hg (fun j hj=>(hb.cell (p:=⟨2,j,none⟩) (Nat.lt_of_lt_of_le hg hls)).trans (hG j hj))).mono ?_
  rintro e w' ⟨rfl,wh',a,b,c⟩
  refine ⟨rfl,wh',a,⟨_,b,fun r hr => ?_,fun t ht=>hB t (List.mem_filter.1 ht).1⟩,(Pg.RfE.of hb hls).trans (Pg.rA c)⟩
  rw [Ae,hF r hr,List.filter_filter,List.filter_filter]
  congr 1
  funext t
  exact Bool.and_comm _ _
 clear hM hT hG
 go_enter Tryz.func379,Tryz.ntmps379
 go_wp2_with (go_at_call 381;refine hD.mono ?_;intro e w9 h9;obtain ⟨rfl,h9⟩:=h9;have H9:Hid _:=h9;clear h9)
 go_end0
 exact ⟨rfl,H9.out⟩
namespace Pg
def zF (ps:List PS) (s:MSt) (i:Nat):MSt:=match ps[i]? with
 | none=>s
 | some p=>if p.owner == -1 then { s with fin:=eJ 5 } else s
end Pg
theorem wU (w:World) (lo mb pb b cap:Nat) (qv:Value) (s:Pg.MSt) (ps:List Pg.PS) (i:Nat) (p:Pg.PS) (hM:Pg.ak w lo mb pb qv s) (hlo:lo≤w.heap.size) (hP:Pg.dh w pb b cap ps) (hpi:ps[i]?=some p) (ho:p.owner = -1) :
  Calls Tryz.prog 153 #[.pointer (some ⟨mb,0,none⟩),.pointer (some ⟨b,i*10,none⟩)] w fun e w'=>e = .returned (.tuple #[])∧∃ qv',Pg.ak w' lo mb pb qv' (Pg.zF ps s i)∧Pg.Rq lo w w':=by
 have hi3:=(hP.at' i p hpi).c3
 obtain ⟨sz,hsz⟩:∃ sz,Pg.zF ps s i=sz:=⟨_,rfl⟩
 rw [hsz]
 have HSZ:Hid (Pg.zF ps s i=sz):=hsz
 clear hsz
 have c9:w.cell? ⟨mb,419,none⟩=some s.fin:=hM.cell 419 (by decide)
 have f9:=hM.frozen 419
 have hS:sz={ s with fin:=Pg.eJ 5 }:=by rw [← HSZ.out];unfold Pg.zF;rw [hpi];dsimp only;rw [ho];rfl
 have hM9:Pg.ak (w.setCell ⟨mb,419,none⟩ (.iface 47 (.int .i64 5))) lo mb pb qv sz:=by
  rw [hS]
  refine hM.set 419 _ _ (by decide) rfl (fun j hj => ?_)
  by_cases e:j=419
  ·subst e;rfl
  ·rw [if_neg e]
   have hj:j<419:=by omega
   simp [Pg.e8,hj]
 have hR9:Pg.Rq lo w (w.setCell ⟨mb,419,none⟩ (.iface 47 (.int .i64 5))):=Pg.RfE.mo (P:=(· = mb)) ((Mo.refl (· = mb) w).set ⟨mb,419,none⟩ _ rfl) (fun k hk=>by
  obtain ⟨arr,a1,_⟩:=hM.blk
  subst hk
  exact ⟨hM.lo',arr,_,_,a1,.inl rfl⟩) hlo
 rw [ho] at hi3
 clear hS ho HSZ hM
 go_enter Tryz.func153,Tryz.ntmps153
 go_wp2
 refine bodyPost_ret (results_none rfl _ _ _) rfl ?_
 exact ⟨rfl,_,hM9,hR9⟩
namespace Pg
structure RSt where
 act:Nat
 kept:Nat→Nat
 q:List ByteArray
 now:Nat
 tm:List Tn
 fin:Nat
def RSt.m (r:RSt) (wh:Nat→Value):MSt:=⟨r.act,r.kept,r.q,r.now,wh,eJ r.fin⟩
structure MT (W:World) (lo mb pb:Nat) (r:RSt):Prop where
 ex:∃ qv wh,ak W lo mb pb qv (r.m wh)∧eI W lo (r.m wh) r.tm
 lo':lo≤W.heap.size
 act:r.act<4294967296
 now:r.now<18446744073709551616
 tml:r.tm.length≤12
 tab:TabAt 2 Lib.deBruijn64tab W
 tab5:TabAt 1 Lib.deBruijn32tab W
structure Lw (lo:Nat):Prop where
 g:2<lo
 g5:1<lo
theorem fc {lo:Nat} {W W':World} (hl:Lw lo) (h:Below lo W W') (hT:TabAt 2 Lib.deBruijn64tab W):TabAt 2 Lib.deBruijn64tab W':=fun j hj=>(h.cell (p:=⟨2,j,none⟩) hl.g).trans (hT j hj)
theorem bM {lo:Nat} {W W':World} (hl:Lw lo) (h:Below lo W W') (hT:TabAt 1 Lib.deBruijn32tab W):TabAt 1 Lib.deBruijn32tab W':=fun j hj=>(h.cell (p:=⟨1,j,none⟩) hl.g5).trans (hT j hj)
theorem MT.rq {W W':World} {lo mb pb:Nat} {r r':RSt} {qv':Value} {wh:Nat→Value} (hl:Lw lo) (h:MT W lo mb pb r) (hT:eI W lo (r.m wh) r.tm) (hM:ak W' lo mb pb qv' (r'.m wh)) (hR:Rq lo W W') (h1:r'.tm=r.tm) (h2:r'.now=r.now) (h3:r'.act<4294967296):MT W' lo mb pb r' :=
 ⟨⟨qv',wh,hM,by rw [h1];exact hT.rq hR rfl h2⟩,Nat.le_trans h.lo' hR.bel.size,h3,by rw [h2];exact h.now,by rw [h1];exact h.tml,fc hl hR.bel h.tab,bM hl hR.bel h.tab5⟩
theorem MT.below {W W':World} {lo mb pb:Nat} {r:RSt} (h:MT W lo mb pb r) (hl:Lw lo) (hb:Below W.heap.size W W'):MT W' lo mb pb r:=by
 obtain ⟨qv,wh,a,b⟩:=h.ex
 have hlo:=h.lo'
 exact ⟨⟨qv,wh,a.below hb,b.below hb⟩,Nat.le_trans hlo hb.size,h.act,h.now,h.tml,fc hl (hb.mono hlo) h.tab,bM hl (hb.mono hlo) h.tab5⟩
theorem MT.lt {W:World} {lo mb pb:Nat} {r:RSt} (h:MT W lo mb pb r):mb<W.heap.size:=by
 obtain ⟨qv,wh,a,b⟩:=h.ex
 exact a.lt
def F1:ByteArray:=⟨#[102,117,108,108]⟩
def iq (r:RSt) (ev nm:ByteArray) (d:Nat):RSt:=if r.tm.length=12 then { r with q:=r.q++[F1] } else { r with tm:=r.tm++[⟨atF r.now d,ev,nm⟩] }
inductive PA where
 | raise (ev:ByteArray)
 | send (ev:ByteArray) (d:Nat)
 | sendAs (ev:ByteArray) (d:Nat) (id:ByteArray)
 | cancel (id:ByteArray)
def PA.v:PA→Value
 | .raise ev => .iface 435 (.agg #[.string ev])
 | .send ev d => .iface 329 (.agg #[.string ev,.int .u64 d])
 | .sendAs ev d id => .iface 331 (.agg #[.string ev,.int .u64 d,.string id])
 | .cancel id => .iface 333 (.agg #[.string id])
def PA.ok:PA→Prop
 | .send _ d=>d<18446744073709551616
 | .sendAs _ d _=>d<18446744073709551616
 | _=>True
def fY (r:RSt):PA→RSt
 | .raise ev=>{ r with q:=r.q++[ev] }
 | .send ev d=>iq r ev ⟨#[]⟩ d
 | .sendAs ev d id=>iq r ev id d
 | .cancel id=>{ r with tm:=r.tm.filter fun t => !(t.nm.toList == id.toList) }
theorem Er (r:RSt) (ev nm:ByteArray) (d:Nat):(iq r ev nm d).q.length≤r.q.length+1:=by
 unfold iq
 split <;> simp
theorem E9 (r:RSt) (a:PA):(fY r a).q.length≤r.q.length+1:=by
 cases a <;> simp only [fY] <;> first | exact Er _ _ _ _ | simp
end Pg
theorem kT (w:World) (lo mb pb:Nat) (r:Pg.RSt) (ev:ByteArray) (hl:Pg.Lw lo) (h:Pg.MT w lo mb pb r) (hql:r.q.length≤4398046511104) :
  Calls Tryz.prog 131 #[.pointer (some ⟨mb,0,none⟩),.string ev] w fun e w'=>e = .returned (.tuple #[])∧Pg.MT w' lo mb pb { r with q:=r.q++[ev] }∧Pg.Rf lo w w':=by
 obtain ⟨qv,wh,a,b⟩:=h.ex
 refine (As w lo mb pb qv (r.m wh) ev a h.lo' hql).mono ?_
 rintro e w' ⟨rfl,qv',a',c⟩
 exact ⟨rfl,h.rq hl b (r':={ r with q:=r.q++[ev] }) a' c rfl rfl h.act,Pg.vL c⟩
theorem uj (w:World) (lo mb pb:Nat) (r:Pg.RSt) (nm0:ByteArray) (hl:Pg.Lw lo) (h:Pg.MT w lo mb pb r) :
  Calls Tryz.prog 379 #[.pointer (some ⟨mb,0,none⟩),.string nm0] w fun e w'=>e = .returned (.tuple #[])∧Pg.MT w' lo mb pb (Pg.fY r (.cancel nm0))∧Pg.Rf lo w w':=by
 obtain ⟨qv,wh,a,b⟩:=h.ex
 refine (wH w lo mb pb qv (r.m wh) r.tm nm0 h.lo' a b hl.g h.tab).mono ?_
 rintro e w' ⟨rfl,wh',a',b',c⟩
 exact ⟨rfl,⟨⟨qv,wh',a',b'⟩,Nat.le_trans h.lo' c.bel.size,h.act,h.now,Nat.le_trans (List.length_filter_le _ _) h.tml,Pg.fc hl c.bel h.tab,Pg.bM hl c.bel h.tab5⟩,c⟩
theorem rB (w:World) (lo mb pb:Nat) (r:Pg.RSt) (ev nm:ByteArray) (d:Nat) (hl:Pg.Lw lo) (h:Pg.MT w lo mb pb r) (hql:r.q.length≤4398046511104) (hd:d<18446744073709551616) :
  Calls Tryz.prog 380 #[.pointer (some ⟨mb,0,none⟩),.string ev,.string nm,.int .u64 d] w fun e w'=>e = .returned (.tuple #[])∧Pg.MT w' lo mb pb (Pg.iq r ev nm d)∧Pg.Rf lo w w':=by
 have hlen:Calls Tryz.prog 332 #[.pointer (some ⟨mb,27,none⟩)] w fun e w'=>e = .returned (.int .i64 r.tm.length)∧Below w.heap.size w w':=by
  obtain ⟨qv,wh,a,b⟩:=h.ex
  exact DY w lo mb pb qv (r.m wh) r.tm a b (by have:=h.tml;omega) (Nat.lt_of_lt_of_le hl.g h.lo') h.tab
 by_cases h12:r.tm.length=12
 ·have HR:Hid (∀ w9,Below w.heap.size w w9→Calls Tryz.prog 131 #[.pointer (some ⟨mb,0,none⟩),.string ⟨#[102,117,108,108]⟩] w9 fun e w'=>e = .returned (.tuple #[])∧Pg.MT w' lo mb pb (Pg.iq r ev nm d)∧Pg.Rf lo w w'):=fun w9 hb=>by
   refine (kT w9 lo mb pb r ⟨#[102,117,108,108]⟩ hl (h.below hl hb) hql).mono ?_
   rintro e w' ⟨rfl,a,c⟩
   refine ⟨rfl,?_,(Pg.RfE.of hb h.lo').trans c⟩
   unfold Pg.iq
   rw [if_pos h12]
   exact a
  rw [h12] at hlen
  clear h
  go_enter Tryz.func380,Tryz.ntmps380
  go_wp2_with (first
   | (go_at_call 332;refine hlen.mono ?_;rintro e w9 ⟨rfl,hb9⟩)
   | (go_at_call 131;refine (HR.out w9 hb9).mono ?_;intro e w8 h8;obtain ⟨rfl,h8⟩:=h8;have H8:Hid _:=h8;clear h8))
  refine bodyPost_ret (results_none rfl _ _ _) rfl ?_
  exact ⟨rfl,H8.out⟩
 ·have HA:Hid (∀ w9,Below w.heap.size w w9→Calls Tryz.prog 383 #[.pointer (some ⟨mb,27,none⟩),.int .u64 d,.agg #[.string ev,.string nm]] w9 fun e w'=>e = .returned (.tuple #[])∧Pg.MT w' lo mb pb (Pg.iq r ev nm d)∧Pg.Rf lo w w'):=fun w9 hb=>by
   have h9:=h.below hl hb
   obtain ⟨qv,wh,a,b⟩:=h9.ex
   refine (Dn w9 lo mb pb qv (r.m wh) r.tm d ev nm a b h9.lo' h.now hd).mono ?_
   rintro e w' ⟨rfl,wh',a',b',c⟩
   refine ⟨rfl,?_,(Pg.RfE.of hb h.lo').trans (Pg.rA c)⟩
   unfold Pg.iq
   rw [if_neg h12]
   exact ⟨⟨qv,wh',a',b'⟩,Nat.le_trans h9.lo' c.bel.size,h.act,h.now,by have:=h.tml;simp;omega,Pg.fc hl c.bel h9.tab,Pg.bM hl c.bel h9.tab5⟩
  have h12':((r.tm.length:Int) == 12)=false:=by simp;omega
  clear h
  go_enter Tryz.func380,Tryz.ntmps380
  go_wp2_with (first
   | (go_at_call 332;refine hlen.mono ?_;rintro e w9 ⟨rfl,hb9⟩)
   | (go_at_call 383;refine (HA.out w9 hb9).mono ?_;intro e w8 h8;obtain ⟨rfl,h8⟩:=h8;have H8:Hid _:=h8;clear h8))
  go_end0
  exact ⟨rfl,H8.out⟩
theorem Tryz.GZ (a:Value) (w:World):(method 599 435 (.agg #[a]) "Do").run Tryz.prog w = .ok (372,.agg #[a]) w:=by kernel_rfl
theorem Tryz.GY (a:Value) (w:World):(method 599 333 (.agg #[a]) "Do").run Tryz.prog w = .ok (356,.agg #[a]) w:=by kernel_rfl
theorem Tryz.G3 (a b:Value) (w:World):(method 599 329 (.agg #[a, b]) "Do").run Tryz.prog w = .ok (349,.agg #[a,b]) w:=by kernel_rfl
theorem Tryz.GX (a b c:Value) (w:World):(method 599 331 (.agg #[a,b, c]) "Do").run Tryz.prog w = .ok (353,.agg #[a,b,c]) w:=by kernel_rfl
theorem Tryz.G7 (p:Option Addr) (w:World):(method 599 92 (.pointer p) "Raise").run Tryz.prog w = .ok (131,.pointer p) w:=by kernel_rfl
theorem Tryz.Gl (p:Option Addr) (w:World):(method 599 92 (.pointer p) "Send").run Tryz.prog w = .ok (380,.pointer p) w:=by kernel_rfl
theorem Tryz.G5 (p:Option Addr) (w:World):(method 599 92 (.pointer p) "Cancel").run Tryz.prog w = .ok (379,.pointer p) w:=by kernel_rfl
theorem uz (w:World) (lo mb pb:Nat) (r:Pg.RSt) (ev:ByteArray) (hl:Pg.Lw lo) (h:Pg.MT w lo mb pb r) (hql:r.q.length≤4398046511104) :
  Calls Tryz.prog 372 #[.agg #[.string ev],.iface 92 (.pointer (some ⟨mb,0,none⟩))] w fun e w'=>e = .returned (.tuple #[])∧Pg.MT w' lo mb pb (Pg.fY r (.raise ev))∧Pg.Rf lo w w':=by
 have hb:Below w.heap.size w (w.alloc (.cells #[.string ev] 435)):=(Below.refl _ w).alloc (Nat.le_refl _) _
 have hra:=(kT _ lo mb pb r ev hl (h.below hl hb) hql).mono (fun e w' x=>(⟨x.1,x.2.1,(Pg.RfE.of hb h.lo').trans x.2.2⟩:e = .returned (.tuple #[])∧Pg.MT w' lo mb pb { r with q:=r.q++[ev] }∧Pg.Rf lo w w'))
 have hm:=Tryz.G7
 clear h hb
 go_enter Tryz.func372,Tryz.ntmps372
 go_wp2_with (go_at_call 131;refine hra.mono ?_;intro e w8 h8;obtain ⟨rfl,h8⟩:=h8;have H8:Hid _:=h8;clear h8)
 go_end0
 exact ⟨rfl,H8.out⟩
theorem sC (w:World) (lo mb pb:Nat) (r:Pg.RSt) (id:ByteArray) (hl:Pg.Lw lo) (h:Pg.MT w lo mb pb r) :
  Calls Tryz.prog 356 #[.agg #[.string id],.iface 92 (.pointer (some ⟨mb,0,none⟩))] w fun e w'=>e = .returned (.tuple #[])∧Pg.MT w' lo mb pb (Pg.fY r (.cancel id))∧Pg.Rf lo w w':=by
 have hb:Below w.heap.size w (w.alloc (.cells #[.string id] 333)):=(Below.refl _ w).alloc (Nat.le_refl _) _
 have hra:=(uj _ lo mb pb r id hl (h.below hl hb)).mono (fun e w' x=>(⟨x.1,x.2.1,(Pg.RfE.of hb h.lo').trans x.2.2⟩:e = .returned (.tuple #[])∧Pg.MT w' lo mb pb (Pg.fY r (.cancel id))∧Pg.Rf lo w w'))
 have hm:=Tryz.G5
 clear h hb
 go_enter Tryz.func356,Tryz.ntmps356
 go_wp2_with (go_at_call 379;refine hra.mono ?_;intro e w8 h8;obtain ⟨rfl,h8⟩:=h8;have H8:Hid _:=h8;clear h8)
 go_end0
 exact ⟨rfl,H8.out⟩
theorem wO (w:World) (lo mb pb:Nat) (r:Pg.RSt) (ev:ByteArray) (d:Nat) (hl:Pg.Lw lo) (h:Pg.MT w lo mb pb r) (hql:r.q.length≤4398046511104) (hd:d<18446744073709551616) :
  Calls Tryz.prog 349 #[.agg #[.string ev,.int .u64 d],.iface 92 (.pointer (some ⟨mb,0,none⟩))] w fun e w'=>e = .returned (.tuple #[])∧Pg.MT w' lo mb pb (Pg.fY r (.send ev d))∧Pg.Rf lo w w':=by
 have hb:Below w.heap.size w (w.alloc (.cells #[.string ev,.int .u64 d] 329)):=(Below.refl _ w).alloc (Nat.le_refl _) _
 have hra:=(rB _ lo mb pb r ev ⟨#[]⟩ d hl (h.below hl hb) hql hd).mono (fun e w' x=>(⟨x.1,x.2.1,(Pg.RfE.of hb h.lo').trans x.2.2⟩:e = .returned (.tuple #[])∧Pg.MT w' lo mb pb (Pg.fY r (.send ev d))∧Pg.Rf lo w w'))
 have hm:=Tryz.Gl
 clear h hb
 go_enter Tryz.func349,Tryz.ntmps349
 go_wp2_with (go_at_call 380;refine hra.mono ?_;intro e w8 h8;obtain ⟨rfl,h8⟩:=h8;have H8:Hid _:=h8;clear h8)
 go_end0
 exact ⟨rfl,H8.out⟩
theorem sF (w:World) (lo mb pb:Nat) (r:Pg.RSt) (ev:ByteArray) (d:Nat) (id:ByteArray) (hl:Pg.Lw lo) (h:Pg.MT w lo mb pb r) (hql:r.q.length≤4398046511104) (hd:d<18446744073709551616) :
  Calls Tryz.prog 353 #[.agg #[.string ev,.int .u64 d,.string id],.iface 92 (.pointer (some ⟨mb,0,none⟩))] w fun e w'=>e = .returned (.tuple #[])∧Pg.MT w' lo mb pb (Pg.fY r (.sendAs ev d id))∧Pg.Rf lo w w':=by
 have hb:Below w.heap.size w (w.alloc (.cells #[.string ev,.int .u64 d,.string id] 331)):=(Below.refl _ w).alloc (Nat.le_refl _) _
 have hra:=(rB _ lo mb pb r ev id d hl (h.below hl hb) hql hd).mono (fun e w' x=>(⟨x.1,x.2.1,(Pg.RfE.of hb h.lo').trans x.2.2⟩:e = .returned (.tuple #[])∧Pg.MT w' lo mb pb (Pg.fY r (.sendAs ev d id))∧Pg.Rf lo w w'))
 have hm:=Tryz.Gl
 clear h hb
 go_enter Tryz.func353,Tryz.ntmps353
 go_wp2_with (go_at_call 380;refine hra.mono ?_;intro e w8 h8;obtain ⟨rfl,h8⟩:=h8;have H8:Hid _:=h8;clear h8)
 go_end0
 exact ⟨rfl,H8.out⟩
namespace Pg
structure du (W:World) (lo:Nat) (v:Ref.Sl) (L:List PA):Prop where
 n:v.n=L.length
 cap:L.length≤v.c
 cell:∀ (k:Nat) (x:PA),L[k]?=some x→∃ ab,v.a=some ⟨ab,0,none⟩∧ab<lo∧W.cell? ⟨ab,k,none⟩=some x.v
 ok:∀ x∈L,x.ok
 len:L.length≤1048576
theorem du.below {W W':World} {lo:Nat} {v:Ref.Sl} {L:List PA} (h:du W lo v L) (hb:Below lo W W'):du W' lo v L:=⟨h.n,h.cap,fun k x hx=>by
 obtain ⟨ab,a,b,c⟩:=h.cell k x hx
 exact ⟨ab,a,b,(hb.cell (p:=⟨ab,k,none⟩) b).trans c⟩,h.ok,h.len⟩
def doL (r:RSt) (L:List PA):RSt:=L.foldl fY r
theorem Br (r:RSt) (L:List PA) (x:PA):doL r (L++[x])=fY (doL r L) x:=by unfold doL;rw [List.foldl_append];rfl
theorem qM (r:RSt):∀ L:List PA,(doL r L).q.length≤r.q.length+L.length:=fun L=>by
 induction L generalizing r with
 | nil=>exact Nat.le_refl _
 | cons x L ih =>
  have h1:=ih (fY r x)
  have h2:=E9 r x
  show (doL (fY r x) L).q.length≤_
  rw [List.length_cons]
  omega
end Pg
theorem wP (w:World) (lo mb pb:Nat) (r:Pg.RSt) (v:Ref.Sl) (L:List Pg.PA) (hl:Pg.Lw lo) (h:Pg.MT w lo mb pb r) (hA:Pg.du w lo v L) (hql:r.q.length≤4398000000000) :
  Calls Tryz.prog 152 #[.pointer (some ⟨mb,0,none⟩),v.v] w fun e w'=>e = .returned (.tuple #[])∧Pg.MT w' lo mb pb (Pg.doL r L)∧Pg.Rf lo w w':=by
 obtain ⟨va,vn,vc⟩:=v
 have hn:vn=L.length:=hA.n
 have hcap:L.length≤vc:=hA.cap
 have hlen:=hA.len
 subst hn
 have HA:Hid _:=hA
 have H0:Hid _:=h
 clear hA h
 unfold Ref.Sl.v
 dsimp only
 go_enter Tryz.func152,Tryz.ntmps152
 go_wp2
 go_loopw [8] (fun i wr=>∃ k:Nat,i = .int .i64 k∧k≤L.length∧Hid (Pg.MT wr lo mb pb (Pg.doL r (L.take k))∧Pg.Rf lo w wr)) (fun i _=>L.length-(intOf i).toNat)
 case atStart=>exact ⟨0,rfl,by omega,H0.out,Pg.RfE.refl _ _⟩
 case round =>
  obtain ⟨k,rfl,hkl,HM⟩:=hrel
  by_cases hk:k<L.length
  ·obtain ⟨x,hx⟩:∃ x,L[k]?=some x:=⟨_,List.getElem?_eq_getElem hk⟩
   have hxok:=HA.out.ok x (List.mem_of_getElem? hx)
   obtain ⟨ab,ha,hab,hc⟩:=(HA.out.below HM.out.2.bel).cell k x hx
   dsimp only at ha
   subst ha
   have hq:=Pg.qM r (L.take k)
   have hq2:(Pg.doL r (L.take k)).q.length≤4398046511104:=by rw [List.length_take] at hq;omega
   have HN:Hid (Pg.doL r (L.take (k+1))=Pg.fY (Pg.doL r (L.take k)) x):=by
    unfold Hid
    rw [List.take_add_one,hx]
    exact Pg.Br _ _ _
   have hres:Hid (∀ w8,Pg.MT w8 lo mb pb (Pg.fY (Pg.doL r (L.take k)) x)→Pg.Rf lo wr w8→Pg.MT w8 lo mb pb (Pg.doL r (L.take (k+1)))∧Pg.Rf lo w w8):=fun w8 a b=>⟨by rw [HN.out];exact a,HM.out.2.trans b⟩
   have hki:((k:Int)<(L.length:Int)):=by omega
   clear hq hx
   cases x with
   | raise ev =>
    have hd:=uz wr lo mb pb _ ev hl HM.out.1 hq2
    have hm:=Tryz.GZ
    unfold Pg.PA.v at hc
    dsimp only at hc
    go_wp2_with (go_at_call 372;refine hd.mono ?_;intro e w8 h8;obtain ⟨rfl,h8,g8⟩:=h8;have H8:Hid _:=hres.out w8 h8 g8;clear h8 g8)
    go_roundw
    case rel=>exact ⟨k+1,by simp,by omega,H8⟩
    case measure=>simp only [intOf];omega
   | send ev d =>
    have hd:=wO wr lo mb pb _ ev d hl HM.out.1 hq2 hxok
    have hm:=Tryz.G3
    unfold Pg.PA.v at hc
    dsimp only at hc
    go_wp2_with (go_at_call 349;refine hd.mono ?_;intro e w8 h8;obtain ⟨rfl,h8,g8⟩:=h8;have H8:Hid _:=hres.out w8 h8 g8;clear h8 g8)
    go_roundw
    case rel=>exact ⟨k+1,by simp,by omega,H8⟩
    case measure=>simp only [intOf];omega
   | sendAs ev d id =>
    have hd:=sF wr lo mb pb _ ev d id hl HM.out.1 hq2 hxok
    have hm:=Tryz.GX
    unfold Pg.PA.v at hc
    dsimp only at hc
    go_wp2_with (go_at_call 353;refine hd.mono ?_;intro e w8 h8;obtain ⟨rfl,h8,g8⟩:=h8;have H8:Hid _:=hres.out w8 h8 g8;clear h8 g8)
    go_roundw
    case rel=>exact ⟨k+1,by simp,by omega,H8⟩
    case measure=>simp only [intOf];omega
   | cancel id =>
    have hd:=sC wr lo mb pb _ id hl HM.out.1
    have hm:=Tryz.GY
    unfold Pg.PA.v at hc
    dsimp only at hc
    go_wp2_with (go_at_call 356;refine hd.mono ?_;intro e w8 h8;obtain ⟨rfl,h8,g8⟩:=h8;have H8:Hid _:=hres.out w8 h8 g8;clear h8 g8)
    go_roundw
    case rel=>exact ⟨k+1,by simp,by omega,H8⟩
    case measure=>simp only [intOf];omega
  ·obtain rfl:k=L.length:=by omega
   have HF:=HM.out
   rw [List.take_length] at HF
   have HF2:Hid _:=HF
   clear HF
   go_wp2
   go_end0
   exact ⟨rfl,HF2.out⟩
attribute [local go_sem] Oper.semAt_some
namespace Pg
def kG (ps:List PS) (_fin:Nat) (s:RSt) (i:Nat):RSt:=match ps[i]? with
 | none=>s
 | some p=>if p.owner == -1 then { s with fin:=5 } else s
theorem Fq (ps:List PS) (fin:Nat) (s:RSt) (i:Nat) (wh:Nat→Value):zF ps (s.m wh) i=(kG ps fin s i).m wh:=by
 unfold zF kG
 cases ps[i]? with
 | none=>rfl
 | some p =>
  dsimp only
  split <;> rfl
theorem mM (ps:List PS) (fin:Nat) (s:RSt) (i:Nat):(kG ps fin s i).act=s.act∧(kG ps fin s i).tm=s.tm∧(kG ps fin s i).now=s.now∧(kG ps fin s i).kept=s.kept∧(kG ps fin s i).q.length≤s.q.length+2:=by
 unfold kG
 cases ps[i]? with
 | none=>simp
 | some p =>
  dsimp only
  split <;> simp
structure fi (w:World) (lo pb b cap:Nat) (ps:List PS) (fin:Nat) (EN LV:Nat→List PA):Prop where
 dc:dh w pb b cap ps
 pb':pb<lo
 b':b<lo
 f2:w.cell? ⟨pb,2,none⟩=some (.int .u32 fin)
 finl:fin<4294967296
 own:∀ (i:Nat) (p:PS),ps[i]?=some p→p.owner = -1∨∃ o:Nat,p.owner=o∧o<i
 pts:∀ (i:Nat) (p:PS),ps[i]?=some p→∀ j∈els p.parts,i<j∧j<ps.length
 en:∀ (i:Nat) (p:PS),ps[i]?=some p→du w lo p.enter (EN i)
 lv:∀ (i:Nat) (p:PS),ps[i]?=some p→du w lo p.leave (LV i)
 lw:Lw lo
 tp:∀ (i:Nat) (p:PS),ps[i]?=some p→p.owner = -1
theorem fi.below {w w':World} {lo pb b cap:Nat} {ps:List PS} {fin:Nat} {EN LV:Nat→List PA} (h:fi w lo pb b cap ps fin EN LV) (hb:Below lo w w'):fi w' lo pb b cap ps fin EN LV :=
 ⟨h.dc.below hb h.pb' h.b',h.pb',h.b',(hb.cell (p:=⟨pb,2,none⟩) h.pb').trans h.f2,h.finl,h.own,h.pts,fun i p hp=>(h.en i p hp).below hb,fun i p hp=>(h.lv i p hp).below hb,h.lw,h.tp⟩
def iM (ps:List PS) (fin:Nat) (EN:Nat→List PA) (r:RSt) (i:Nat):RSt :=
 let r2:=doL { r with act:=r.act|||2 ^ i } (EN i)
 match ps[i]? with
 | some p=>if p.kind == 2 then kG ps fin r2 i else r2
 | none=>r2
def bX (ps:List PS) (fin:Nat) (EN:Nat→List PA) (r:RSt) (l:List Nat):RSt:=l.foldl (iM ps fin EN) r
theorem uB (ps:List PS) (fin:Nat) (EN:Nat→List PA) (r:RSt) (l:List Nat) (i:Nat):bX ps fin EN r (l++[i])=iM ps fin EN (bX ps fin EN r l) i:=by unfold bX;rw [List.foldl_append];rfl
theorem A7 (r:RSt) (a:PA):(fY r a).act=r.act:=by
 cases a <;> simp only [fY,iq] <;> (try split) <;> rfl
theorem nV:∀ (L:List PA) (r:RSt),(doL r L).act=r.act
 | [],_=>rfl
 | x::L,r=>(nV L (fY r x)).trans (A7 r x)
theorem Fo {w:World} {lo pb b cap:Nat} {ps:List PS} {fin:Nat} {EN LV:Nat→List PA} (h:fi w lo pb b cap ps fin EN LV) (r:RSt) {i:Nat} (hi:i<ps.length):(iM ps fin EN r i).q.length≤r.q.length+1048578:=by
 obtain ⟨p,hp⟩:∃ p,ps[i]?=some p:=⟨_,List.getElem?_eq_getElem hi⟩
 have h1:=(h.en i p hp).len
 have h2:=qM { r with act:=r.act|||2 ^ i } (EN i)
 have h3:=(mM ps fin (doL { r with act:=r.act|||2 ^ i } (EN i)) i).2.2.2.2
 have h4:({ r with act:=r.act|||2 ^ i }:RSt).q=r.q:=rfl
 rw [h4] at h2
 unfold iM
 dsimp only
 rw [hp]
 dsimp only
 split <;> omega
theorem lu {w:World} {lo pb b cap:Nat} {ps:List PS} {fin:Nat} {EN LV:Nat→List PA} (h:fi w lo pb b cap ps fin EN LV):∀ (l:List Nat) (r:RSt),(∀ i∈l,i<ps.length)→(bX ps fin EN r l).q.length≤r.q.length+l.length*1048578
 | [],_,_=>by simp [bX]
 | i::l,r,hl=>by
  have h1:=Fo h r (hl i (List.mem_cons_self ..))
  have h2:=lu h l (iM ps fin EN r i) (fun j hj=>hl j (List.mem_cons_of_mem _ hj))
  show (bX ps fin EN (iM ps fin EN r i) l).q.length≤_
  rw [List.length_cons]
  omega
end Pg
theorem Pg.MT.gr {W W':World} {row:Option Nat} {lo mb pb:Nat} {r:Pg.RSt} (h:Pg.MT W lo mb pb r) (hl:Pg.Lw lo) (hg:W.grownBy W' row) (hr:∀ r,row=some r→lo≤r∧∃ o:Obj,W.heap[r]?=some o∧o.isCells=false):Pg.MT W' lo mb pb r:=by
 obtain ⟨qv,wh,a,b⟩:=h.ex
 have hb:Below lo W W':=⟨hg.os,hg.tape,hg.output,hg.size,fun k hk=>hg.block k (by have:=h.lo';omega) (fun e=>by have:=(hr k e.symm).1;omega)⟩
 exact ⟨⟨qv,wh,a.gr hg (fun r e=>(hr r e).2),b.kd (Pg.gD (E:=fun _=>False) hg (fun r e=>(hr r e).2)) (fun h=>h) rfl rfl⟩,Nat.le_trans h.lo' hg.size,h.act,h.now,h.tml,Pg.fc hl hb h.tab,Pg.bM hl hb h.tab5⟩
theorem Pg.MT.CG {W:World} {lo mb pb:Nat} {r:Pg.RSt} (h:Pg.MT W lo mb pb r) (hl:Pg.Lw lo) (a:Nat) (ha:a<4294967296):Pg.MT (W.setCell ⟨mb,1,none⟩ (.int .u32 a)) lo mb pb { r with act:=a }∧Pg.Rf lo W (W.setCell ⟨mb,1,none⟩ (.int .u32 a)):=by
 obtain ⟨qv,wh,m,b⟩:=h.ex
 have hM:Pg.ak (W.setCell ⟨mb,1,none⟩ (.int .u32 a)) lo mb pb qv (({ r with act:=a }:Pg.RSt).m wh):=m.set 1 _ _ (by decide) rfl (fun j hj=>by
  by_cases e:j=1
  ·subst e
   rfl
  ·rw [if_neg e]
   unfold Pg.e8
   split
   ·rfl
   ·rfl)
 have hR:Pg.Rq lo W (W.setCell ⟨mb,1,none⟩ (.int .u32 a)):=Pg.RfE.mo (P:=(· = mb)) ((Mo.refl _ _).set _ _ rfl) (fun k hk=>by
  obtain ⟨arr,a1,_⟩:=m.blk
  subst hk
  exact ⟨m.lo',arr,_,_,a1,.inl rfl⟩) h.lo'
 exact ⟨h.rq hl b hM hR rfl rfl ha,Pg.vL hR⟩
theorem Pg.MT.c0 {W:World} {lo mb pb:Nat} {r:Pg.RSt} (h:Pg.MT W lo mb pb r):W.cell? ⟨mb,0,none⟩=some (.pointer (some ⟨pb,0,none⟩))∧W.cell? ⟨mb,1,none⟩=some (.int .u32 r.act)∧∀ i,W.frozen? ⟨mb,i,none⟩=false:=by
 obtain ⟨qv,wh,m,b⟩:=h.ex
 exact ⟨m.cell 0 (by decide),m.cell 1 (by decide),m.frozen⟩
theorem uD (w:World) (lo mb pb b cap:Nat) (r:Pg.RSt) (ps:List Pg.PS) (fin i:Nat) (EN LV:Nat→List Pg.PA) (hP:Pg.fi w lo pb b cap ps fin EN LV) (h:Pg.MT w lo mb pb r) (hi:i<ps.length) :
  Calls Tryz.prog 153 #[.pointer (some ⟨mb,0,none⟩),.pointer (some ⟨b,i*10,none⟩)] w fun e w'=>e = .returned (.tuple #[])∧Pg.MT w' lo mb pb (Pg.kG ps fin r i)∧Pg.Rf lo w w':=by
 obtain ⟨qv,wh,a,b'⟩:=h.ex
 obtain ⟨p,hp⟩:∃ p,ps[i]?=some p:=⟨_,List.getElem?_eq_getElem hi⟩
 refine (wU w lo mb pb b cap qv (r.m wh) ps i p a h.lo' hP.dc hp (hP.tp i p hp)).mono ?_
 rintro e w' ⟨rfl,qv',a',c⟩
 rw [Pg.Fq] at a'
 obtain ⟨s1,s2,s3,_⟩:=Pg.mM ps fin r i
 exact ⟨rfl,h.rq hP.lw b' a' c s2 s3 (by rw [s1];exact h.act),Pg.vL c⟩
theorem qO (w:World) (lo mb pb b cap:Nat) (r:Pg.RSt) (ps:List Pg.PS) (fin s:Nat) (EN LV:Nat→List Pg.PA) (hP:Pg.fi w lo pb b cap ps fin EN LV) (h:Pg.MT w lo mb pb r) (hs:s<4294967296) (hin:∀ i∈Pg.els s,i<ps.length) (hql:r.q.length≤4397000000000) :
  Calls Tryz.prog 112 #[.pointer (some ⟨mb,0,none⟩),.int .u32 s] w fun e w'=>e = .returned (.tuple #[])∧Pg.MT w' lo mb pb (Pg.bX ps fin EN r (Pg.els s))∧Pg.Rf lo w w':=by
 refine (callsIn_wide (n:=8)).1 ?_
 have hlo:=h.lo'
 refine callsIn_of_wp_marks Tryz.func112 rfl trivial ?_ rfl
 simp only [Tryz.ntmps112,List.size_toArray,List.length_cons,List.length_nil,Nat.reduceAdd,Nat.reduceSub,Array.replicate_succ,Array.replicate_zero,List.push_toArray,List.append_toArray,List.nil_append,List.cons_append]
 gi_wp2_with (refine ⟨trivial,?_⟩;gi_at_call 150;refine (callsIn_wide.2 (dQ s _)).mono ?_;rintro e w9 ⟨rfl,hw9⟩;rw [hw9];clear hw9 w9)
 have b0:=(Boxed.new w 92 (.pointer (some ⟨mb,0,none⟩))).alloc (.cells #[.int .u32 s] 139)
 have b1:=Boxed.new (w.alloc (.cells #[.pointer (some ⟨mb,0,none⟩)] 92)) 139 (.int .u32 s)
 simp only [World.size_alloc] at b1
 have hB0:Below w.heap.size w ((w.alloc (.cells #[.pointer (some ⟨mb,0,none⟩)] 92)).alloc (.cells #[.int .u32 s] 139)):=((Below.refl _ w).alloc (Nat.le_refl _) _).alloc (by simp) _
 have hs0:((w.alloc (.cells #[.pointer (some ⟨mb,0,none⟩)] 92)).alloc (.cells #[.int .u32 s] 139)).heap.size=w.heap.size+2:=by simp
 generalize (w.alloc (.cells #[.pointer (some ⟨mb,0,none⟩)] 92)).alloc (.cells #[.int .u32 s] 139)=W0 at *
 have h0:=h.below hP.lw hB0
 have hlw:=hP.lw
 have hg5:=hP.lw.g5
 have hlen:=hP.dc.len
 have hnty:¬ Pg.cG 92:=by unfold Pg.cG;decide
 refine ly (by omega) (w.heap.size+1) s hs rfl (by omega) (by omega) b1.cell h0.tab5 rfl
  (fun pre V=>Pg.MT V lo mb pb (Pg.bX ps fin EN r (Pg.aQ pre))∧Boxed V w.heap.size 92 (.pointer (some ⟨mb,0,none⟩))∧Pg.Rf lo w V) (fun _ _ _=>False)
  (OwnFrom.and (fun pre A C row h hg hr=>h.gr hlw hg (fun r e=>⟨by have:=(hr r e).1;omega,(hr r e).2⟩)) (OwnFrom.and (Own.from (boxed_own _ _ _) _) (fun pre A C row h hg hr=>h.gr hlo hg (fun r e=>⟨by have:=(hr r e).1;omega,(hr r e).2⟩))))
  (fun _ _ _ _ _ hs _ _=>hs) ⟨h0,b0,Pg.RfE.of hB0 hlo⟩
  (fun x a' _=>a'={ tmps:=#[.pointer (some ⟨mb,0,none⟩),.int .u32 s,.pointer (some ⟨w.heap.size,0,none⟩),undef,.int .i64 x.1,undef,.int .u32 s,.func (.func 187) #[] #[.pointer (some ⟨w.heap.size+1,0,none⟩)],.int .i64 x.1,undef,undef,undef,undef,undef,undef,undef,undef,undef,undef,undef,undef,undef,undef,undef,undef,undef,undef,undef,undef,undef,undef,undef,undef,undef,undef,undef,undef,undef,undef,undef,undef],defers:=[] }) (fun _ _ _ _ _ _ hs _ _=>hs) ?assign ?body ?done ?stop
 case assign =>
  intro l pre x V K hI hK
  gi_wp2
  exact hK _ _ (KeepsFrom.refl _ _) (fun h=>h) hI rfl
 case body =>
  rintro l pre x a' V hl ⟨rl,hrl⟩ ⟨hM,hb,hR⟩ rfl hpl
  have hi:=hin x.1 x.2
  have hi32:=(Pg.lK.1 x.2).1
  obtain ⟨p,hp⟩:∃ p,ps[x.1]?=some p:=⟨_,List.getElem?_eq_getElem hi⟩
  have hq0:=Pg.lu hP (Pg.aQ pre) r (fun i hi=>hin i (by
   rw [Pg.cB] at hi
   obtain ⟨y,_,rfl⟩:=List.mem_map.1 hi
   exact y.2))
  have hvl:(Pg.aQ pre).length=pre.length:=by rw [Pg.cB,List.length_map]
  rw [hvl] at hq0
  obtain ⟨R0,hR0⟩:∃ R0,Pg.bX ps fin EN r (Pg.aQ pre)=R0:=⟨_,rfl⟩
  have HSN:Hid (Pg.bX ps fin EN r (Pg.aQ (pre++[x]))=Pg.iM ps fin EN R0 x.1):=by
   unfold Hid
   rw [Pg.ed,Pg.uB,hR0]
  rw [hR0] at hM hq0
  clear hR0
  have hPV:=hP.below hR.bel
  obtain ⟨m0,m1,mf⟩:=hM.c0
  have hbc:=hb.cell
  have hrow:=hPV.dc.row
  have hlV:=hM.lo'
  have hact:=hM.act
  have h2:=fy hi32
  have hor:=u32_or_nat R0.act (2 ^ x.1) hact h2
  have horl:R0.act|||2 ^ x.1<4294967296:=by
   have:=Nat.or_lt_two_pow (n:=32) (x:=R0.act) (y:=2 ^ x.1) (by omega) (by omega)
   omega
  obtain ⟨A1,hA1⟩:∃ A1,R0.act|||2 ^ x.1=A1:=⟨_,rfl⟩
  rw [hA1] at hor horl
  rw [← jq] at hor
  have hBd:=(Below.refl V.heap.size V).drew
  obtain ⟨hM1,hR1⟩:=(hM.below hlw hBd).CG hlw A1 horl
  have hRV1:Pg.Rf lo V (V.drew.setCell ⟨mb,1,none⟩ (.int .u32 A1)):=(Pg.RfE.of hBd hlV).trans hR1
  have q0:V.drew.cell? ⟨w.heap.size,0,none⟩=_:=hbc
  have q1:V.drew.cell? ⟨mb,1,none⟩=_:=m1
  have qf:V.drew.frozen? ⟨mb,1,none⟩=false:=mf 1
  have hone:=ji x.1 V.drew hi32
  have hxi:((x.1:Int)<(ps.length:Int)):=by omega
  have hd1:1≤8-1-1:=by omega
  gi_wp2
  refine aE (bU l) 9 (by kernel_rfl) (by kernel_rfl) (by kernel_rfl) ?_
  simp only [List.take_succ_cons,List.take_zero,List.drop_succ_cons,List.drop_zero]
  iterate 5 still_step
  still_call hone
  iterate 3 still_step
  refine wpStill_nil ?_
  gi_wp2
  have hM1:Pg.MT (V.setCell ⟨mb,1,none⟩ (.int .u32 A1)).drew lo mb pb { R0 with act:=A1 }:=hM1
  have hRV1:Pg.Rf lo V (V.setCell ⟨mb,1,none⟩ (.int .u32 A1)).drew:=hRV1
  generalize (V.setCell ⟨mb,1,none⟩ (.int .u32 A1)).drew=V1 at *
  have HE:Hid (Pg.iM ps fin EN R0 x.1=if p.kind == 2 then Pg.kG ps fin (Pg.doL { R0 with act:=A1 } (EN x.1)) x.1 else Pg.doL { R0 with act:=A1 } (EN x.1)):=by
   unfold Hid Pg.iM
   dsimp only
   rw [hA1,hp]
  clear q0 q1 qf hone hor hA1 hM m0 m1 mf hbc hrow hR1
  have hb1:Boxed V1 w.heap.size 92 (.pointer (some ⟨mb,0,none⟩)):=Kd.boxed hRV1.kd hb hnty
  have hP1:=hPV.below hRV1.bel
  have hB1:=(Below.refl V1.heap.size V1).drew
  have hl1:=hM1.lo'
  have hdo:=wP V1.drew lo mb pb { R0 with act:=A1 } p.enter (EN x.1) hlw (hM1.below hlw hB1) ((hP1.en x.1 p hp).below (hB1.mono hl1)) (by show R0.q.length≤_;omega)
  have hdq:=Pg.qM { R0 with act:=A1 } (EN x.1)
  have hdq1:=(hP.en x.1 p hp).len
  have hdq2:(Pg.doL { R0 with act:=A1 } (EN x.1)).q.length≤4398046511000:=by
   have:({ R0 with act:=A1 }:Pg.RSt).q=R0.q:=rfl
   rw [this] at hdq
   omega
  clear hdq hdq1
  obtain ⟨R2,hR2⟩:∃ R2,Pg.doL { R0 with act:=A1 } (EN x.1)=R2:=⟨_,rfl⟩
  rw [hR2] at hdo hdq2 HE
  clear hR2
  have q0:V1.drew.cell? ⟨w.heap.size,0,none⟩=_:=hb1.cell
  have q8:V1.drew.cell? ⟨b,x.1*10+8,none⟩=some p.enter.v:=(hP1.dc.at' x.1 p hp).c8
  unfold Ref.Sl.v at q8 hdo
  obtain ⟨ea,en,ec⟩:∃ q:Ref.Sl,q=p.enter:=⟨_,rfl⟩
  have HFIN:Hid (∀ w2,Pg.MT w2 lo mb pb R2→Pg.Rf lo V1.drew w2→w2.cell? ⟨w.heap.size,0,none⟩=some (.pointer (some ⟨mb,0,none⟩))∧w2.cell? ⟨b,x.1*10,none⟩=some (.int .i64 p.kind)∧(p.kind == 2→Calls Tryz.prog 153 #[.pointer (some ⟨mb,0,none⟩),.pointer (some ⟨b,x.1*10,none⟩)] w2 fun e w'=>e = .returned (.tuple #[])∧KeepsFrom W0.heap.size V w'∧Pg.KpT V w'∧Pg.MT w' lo mb pb (Pg.bX ps fin EN r (Pg.aQ (pre++[x])))∧Boxed w' w.heap.size 92 (.pointer (some ⟨mb,0,none⟩))∧Pg.Rf lo w w')∧((p.kind == 2)=false→KeepsFrom W0.heap.size V w2∧Pg.KpT V w2∧Pg.MT w2 lo mb pb (Pg.bX ps fin EN r (Pg.aQ (pre++[x])))∧Boxed w2 w.heap.size 92 (.pointer (some ⟨mb,0,none⟩))∧Pg.Rf lo w w2)):=fun w2 hM2 hR2=>by
   have hRV2:Pg.Rf lo V w2:=hRV1.trans ((Pg.RfE.of hB1 hl1).trans hR2)
   have hP2:=hPV.below hRV2.bel
   have hb2:Boxed w2 w.heap.size 92 (.pointer (some ⟨mb,0,none⟩)):=Kd.boxed hRV2.kd hb hnty
   have fin':∀ w',Pg.MT w' lo mb pb (Pg.iM ps fin EN R0 x.1)→Pg.Rf lo V w'→KeepsFrom W0.heap.size V w'∧Pg.KpT V w'∧Pg.MT w' lo mb pb (Pg.bX ps fin EN r (Pg.aQ (pre++[x])))∧Boxed w' w.heap.size 92 (.pointer (some ⟨mb,0,none⟩))∧Pg.Rf lo w w':=fun w' hM' hR'=>⟨hR'.oth.from _,fun hT=>Pg.bM hlw hR'.bel hT,by rw [HSN.out];exact hM',Kd.boxed hR'.kd hb hnty,hR.trans hR'⟩
   refine ⟨hb2.cell,(hP2.dc.at' x.1 p hp).c0,fun hk => ?_,fun hk => ?_⟩
   ·refine (uD w2 lo mb pb b cap R2 ps fin x.1 EN LV hP2 hM2 hi).mono ?_
    rintro e w' ⟨rfl,a,c⟩
    have:=HE.out
    rw [if_pos hk] at this
    exact ⟨rfl,fin' w' (this ▸ a) (hRV2.trans c)⟩
   ·have:=HE.out
    rw [if_neg (by rw [hk];decide)] at this
    exact fin' w2 (this ▸ hM2) hRV2
  clear hM1 hRV1 hb1 hP1 hPV hb
  refine aE (bU l) 5 (by kernel_rfl) (by kernel_rfl) (by kernel_rfl) ?_
  simp only [List.take_succ_cons,List.take_zero,List.drop_succ_cons,List.drop_zero]
  repeat still_step
  refine wpStill_nil ?_
  obtain ⟨kb,hkb⟩:∃ kb,(p.kind == 2)=kb:=⟨_,rfl⟩
  cases kb
  ·gi_wp2_with (refine ⟨trivial,?_⟩;gi_at_call 152;refine (aC hdo).mono ?_;intro e w2 h8;obtain ⟨rfl,h8,g8⟩:=h8;obtain ⟨f0,f1,_,f3⟩:=HFIN.out w2 h8 g8;have F3:Hid _:=f3 hkb;clear h8 g8 f3)
   exact F3.out
  ·gi_wp2_with (first
    | (refine ⟨trivial,?_⟩;gi_at_call 152;refine (aC hdo).mono ?_;intro e w2 h8;obtain ⟨rfl,h8,g8⟩:=h8;obtain ⟨f0,f1,f2,_⟩:=HFIN.out w2 h8 g8;have F2:Hid _:=f2 hkb;clear h8 g8 f2)
    | (refine ⟨trivial,?_⟩;gi_at_call 153;refine (aC F2.out).mono ?_;intro e w3 h9;obtain ⟨rfl,h9⟩:=h9;have H9:Hid _:=h9;clear h9))
   exact H9.out
 case done =>
  rintro D ys V hD hys ⟨hM,_,hR⟩ hdef
  rw [hys] at hM
  gi_wp2
  refine ⟨by simp,.inl ⟨_,_,rfl,run_takeDeferred hdef,?_⟩⟩
  exact ⟨_,results_none rfl _ _ _,rfl,hM.gr hlw (grownBy_putObj' V D _) (fun r e=>by cases e;exact ⟨by omega,_,hdef,rfl⟩),hR.gr hlo (grownBy_putObj' V D _) (fun r e=>by cases e;exact ⟨by omega,_,hdef,rfl⟩)⟩
 case stop =>
  rintro D c pre V _ _ h _
  exact h.elim
end
end Go.Proofs.YtegmoddppafkfaaGreatDoor
