import Derived.Test.YtibbecdlllchkaaGreatDoorM19
set_option maxRecDepth 100000
set_option maxHeartbeats 8000000
namespace Go.Proofs.YtibbecdlllchkaaGreatDoor
theorem zaS{zp:Prop}(h:zp:=by unfold eM;decide):zp:=h
variable {r2:Y.RSt}{E:TypeId->Prop}{base:Nat}{sv:Value}{L:List (()×Y.RSt)}{row:Option Nat}{P:Nat->Prop}{s:Nat×Y.RSt}{V V':World}
section
open Go.RowKit Go.Proofs Go.Shelf
namespace Y
def fI(an:RSt->()->RSt)(t:Nat):Nat->Nat->RSt->List (()×RSt)×RSt
 |0,_,r=>([],r)
 |n+1,k,r=>if dh r.now t r.tm=true then match (srt (fun x:Tn=>x.t) r.tm).head? with
   |none=>([],r)
   |some f=>if(cR an (lW r f) f.ev).fin=0 then
     if k+1=200/\dh (cR an (lW r f) f.ev).now t (cR an (lW r f) f.ev).tm=true then([(f.ev,cR an (lW r f) f.ev)],{ cR an (lW r f) f.ev with fin:=6 })
     else((f.ev,cR an (lW r f) f.ev)::(fI an t n (k+1) (cR an (lW r f) f.ev)).1,(fI an t n (k+1) (cR an (lW r f) f.ev)).2)
    else([(f.ev,cR an (lW r f) f.ev)],cR an (lW r f) f.ev)
  else([],{ r with now:=max t r.now })
section
variable {an:RSt->()->RSt}{t n k:Nat}{r:RSt}{f:Tn}
theorem FI(h:dh r.now t r.tm=false):fI an t (n+1) k r=([],{ r with now:=max t r.now }):=by
 unfold fI;rw[Pu (by rw[h];decide)]
theorem Lg(h:dh r.now t r.tm=true)(hf:(srt (fun x:Tn=>x.t) r.tm).head?=some f)(h2:cR an (lW r f) f.ev=r2):fI an t (n+1) k r=if r2.fin=0 then(if k+1=200/\dh r2.now t r2.tm=true then([(f.ev,r2)],{ r2 with fin:=6 }) else((f.ev,r2)::(fI an t n (k+1) r2).1,(fI an t n (k+1) r2).2)) else([(f.ev,r2)],r2):=by
 conv=>lhs;unfold fI
 rw[PC h,hf];dsimp only;rw[h2]
end
def stC(x:(()×RSt)×Value):List Value:=[x.1.1,.int .u64 x.1.2.now,x.2]
def xP(W:World)(base:Nat)(sv:Value)(L:List (()×RSt)):Prop:=∃vs:List Value,vs.length=L.length/\W.ownsRow base 50 3 sv L.length ((L.zip vs).flatMap stC)
theorem xP.kd{W W':World}(h:xP W base sv L)(hk:Kd E W W')(hE:¬E 50):xP W' base sv L:=by
 obtain⟨vs,a,b⟩:=h;exact⟨vs,a,Kd.row hk b hE⟩
theorem xP.n{W:World}(h:xP W base sv L):∃a c,sv=.slice a L.length c:=by
 obtain⟨vs,_,h⟩:=h;exact zdV
theorem xP.kind{W:World}(h:xP W base sv L):∀k,sv.ownBlock=some k->base<=k/\∃c,W.heap[k]?=some (.cells c 50 (0,0)):=fun k hk=>by
 obtain⟨vs,_,h⟩:=h
 rcases h.2 with⟨a,b⟩|⟨g,cap,cur,a,b,c,_⟩
 ·subst a;cases hk
 ·subst a;cases hk
  exact⟨b,cur,c⟩
def LN(W:World)(base:Nat)(lo:Nat)(ps:List PS)(sv:Value)(L:List (()×RSt)):Prop:=∃vs:List Value,vs.length=L.length/\W.ownsRow base 50 3 sv L.length ((L.zip vs).flatMap stC)/\∀y∈L.zip vs,Nms W lo y.2 ((els y.1.2.act).map (bR ps))
theorem LN.kd{W W':World}{lo:Nat}{ps:List PS}(h:LN W base lo ps sv L)(hk:Kd E W W')(hE:¬E 50)(hF:¬E 9):LN W' base lo ps sv L:=by
 obtain⟨vs,a,b,c⟩:=h;exact⟨vs,a,Kd.row hk b hE,fun y hy=>Kd.row hk (c y hy) hF⟩
theorem LN.no{W W':World}{lo:Nat}{ps:List PS}(h:LN W base lo ps sv L)(hk:Kd (fun _=>False) W W'):LN W' base lo ps sv L:=h.kd hk (fun h=>h) (fun h=>h)
theorem LN.str{lo':Y.Lo}{W W':World}{lo:Nat}{ps:List PS}(h:LN W base lo ps sv L)(hk:Rf lo' W W')(hs:iU W W'):LN W' base lo ps sv L:=by
 obtain⟨vs,a,b,c⟩:=h;exact⟨vs,a,Kd.row hk.kd b qG,fun y hy=>(c y hy).str hs⟩
theorem Idl.gr{W W':World}{lo:Y.Lo}{mb pb:Nat}{r:RSt}(h:Idl W mb)(hm:MT W lo mb pb r)(hg:W.grownBy W' row)(hr:∀r,row=some r->∃o:Obj,W.heap[r]?=some o/\o.isCells=false):Idl W' mb:=by
 obtain⟨qv,wh,a,_⟩:=hm.ex;exact a.idl (a.gr hg hr) h
theorem Idl.moU{W W':World}{lo:Y.Lo}{mb pb:Nat}{r:RSt}(h:Idl W mb)(hm:MT W lo mb pb r)(m:Mo P W W')(hP:∀k,P k->∃c t,W.heap[k]?=some (.cells c t (0,0))/\¬dc t):Idl W' mb:=by
 obtain⟨qv,wh,a,_⟩:=hm.ex;obtain⟨arr,a1,_⟩:=a.blk;refine(m.cell (p:=⟨mb,26,none⟩) hm.lt (fun e=>?_)).trans h;obtain⟨c,t,hc,ht⟩:=hP _ e;rw[show W.heap[mb]?=_ from a1]at hc;cases hc
 exact ht (.inl rfl)
theorem iU.mo{W W':World}(m:Mo P W W')(hP:∀k,P k->∃c t,W.heap[k]?=some (.cells c t (0,0))/\¬dc t):iU W W':=fun k c f hk=>by
 refine(m.block k (Pn.1 hk).1 (fun e=>?_)).trans hk;obtain⟨c',t,hc,ht⟩:=hP _ e;rw[hk]at hc;cases hc
 exact ht (.inr (.inl rfl))
structure CkS(w W:World)(mb t:Nat)(sv:Value)(L:List (()×RSt)):Prop where
 b0:Boxed W w 100 mb
 b1:Boxed W (w.heap.size+1) 48 (.int .u64 t)
 b2:Boxed W (w.heap.size+2) 26 sv
 b3:Boxed W (w.heap.size+3) 296 (mb,27)
 b4:Boxed W (w.heap.size+4) 48 (.int .u64 t)
 st:xP W w sv L
theorem CkS.kd{w W W':World}{mb t:Nat}(h:CkS w W mb t sv L)(hk:Kd E W W')(h0:¬E 100)(h1:¬E 48)(h2:¬E 26)(h3:¬E 296)(h4:¬E 50):CkS w W' mb t sv L:=
 ⟨hk.boxed h.b0 h0,hk.boxed h.b1 h1,hk.boxed h.b2 h2,hk.boxed h.b3 h3,hk.boxed h.b4 h1,h.st.kd hk h4⟩
theorem CkS.rf{lo:Y.Lo}{w W W':World}{mb t:Nat}(h:CkS w W mb t sv L)(hk:Rf lo W W'):CkS w W' mb t sv L:=h.kd hk.kd zau zau zau zau zau
theorem CkS.no{w W W':World}{mb t:Nat}(h:CkS w W mb t sv L)(hk:Kd (fun _=>False) W W'):CkS w W' mb t sv L:=h.kd hk (fun h=>h) (fun h=>h) (fun h=>h) (fun h=>h) (fun h=>h)
theorem CkS.below{w W W':World}{mb t:Nat}(h:CkS w W mb t sv L)(hb:Below W W W'):CkS w W' mb t sv L:=h.no (bB hb)
structure CkL(w W:World)(lo:Y.Lo)(mb pb:Nat)(ps:List PS)(r:RSt):Prop where
 mt:MT W lo mb pb r
 rf:Rf lo w W
 ok:ROK ps r
 qk:QOK r
 q0:r.q=[]
 idl:Idl W mb
 str:iU w W
section
variable {w W W':World}{lo:Y.Lo}{mb pb:Nat}{ps:List PS}{r:RSt}
theorem CkL.gr(h:CkL w W lo mb pb ps r)(hl:Lw lo)(U8:lo<=w.heap.size)(hg:W.grownBy W' row)(hr:∀r,row=some r->w.heap.size<=r/\∃o:Obj,W.heap[r]?=some o/\o.isCells=false):CkL w W' lo mb pb ps r:=
 ⟨h.mt.gr hl hg (fun r e=>⟨Pr U8 (hr r e).1,(hr r e).2⟩),h.rf.gr U8 hg hr,h.ok,h.qk,h.q0,h.idl.gr h.mt hg (fun r e=>(hr r e).2),h.str.trans (.kd (iJ (E:=fun _=>False) hg (fun r e=>(hr r e).2)) (fun h=>h))⟩
theorem CkL.below(h:CkL w W lo mb pb ps r)(hl:Lw lo)(hb:Below W W W'):CkL w W' lo mb pb ps r:=⟨h.mt.below hl hb,h.rf.trans (RfE.of hb h.mt.lo'),h.ok,h.qk,h.q0,h.idl.bel h.mt.lt hb,h.str.trans (.bel hb)⟩
theorem CkL.take{f:Tn}(h:CkL w W lo mb pb ps r)(hf:(srt (fun x:Tn=>x.t) r.tm).head?=some f)(hm:MT W' lo mb pb (lW r f))(hr:Rw lo W W')(hi:Idl W mb->Idl W' mb):CkL w W' lo mb pb ps (lW r f):=
 ⟨hm,h.rf.trans (xi hr),⟨h.ok.act,h.ok.kept⟩,⟨h.qk.q,h.qk.fin,hm.now,fun x hx=>⟨(mA hf).2.1 x (S6 hx),(h.qk.tm.2 x (S6 hx)).2⟩⟩,h.q0,hi h.idl,h.str.trans (.kd hr.kd zaS)⟩
theorem CkL.al{t:Nat}(h:CkL w W lo mb pb ps r)(hd:dh r.now t r.tm=false)(hm:MT W' lo mb pb { r with now:=max t r.now })(hr:Rw lo W W')(hi:Idl W mb->Idl W' mb):CkL w W' lo mb pb ps { r with now:=max t r.now }:=
 ⟨hm,h.rf.trans (xi hr),⟨h.ok.act,h.ok.kept⟩,⟨h.qk.q,h.qk.fin,hm.now,fun x hx=>⟨qX hd x hx,(h.qk.tm.2 x hx).2⟩⟩,h.q0,hi h.idl,h.str.trans (.kd hr.kd zaS)⟩
theorem CkL.own(h:CkL w W lo mb pb ps r)(hl:Lw lo)(U8:lo<=w.heap.size)(hm:Mo P W W')(hP:∀k,P k->w.heap.size<=k/\∃c t,W.heap[k]?=some (.cells c t (0,0))/\¬dc t):CkL w W' lo mb pb ps r:=
 ⟨h.mt.moU hl hm (fun k hk=>⟨Pr U8 (hP k hk).1,(hP k hk).2⟩),RfE.JK h.rf U8 (hm.mono (fun k _ hk=>(hP k hk).1)),h.ok,h.qk,h.q0,h.idl.moU h.mt hm (fun k hk=>(hP k hk).2),h.str.trans (.mo hm (fun k hk=>(hP k hk).2))⟩
end
section
variable (w:World)(lo:Y.Lo)(mb pb:Nat)(ps:List PS)(an:RSt->()->RSt)(t:Nat)(r0:RSt)
def CkI(s:Nat×RSt)(W:World):Prop:=∃L sv,L.length=s.1/\s.1<=200/\(s.1=200->dh s.2.now t s.2.tm=false)/\s.2.fin=0/\CkL w W lo mb pb ps s.2/\CkS w W mb t sv L/\LN W w lo ps sv L/\fI an t 201 0 r0=(L++(fI an t (201-s.1) s.1 s.2).1,(fI an t (201-s.1) s.1 s.2).2)
def CkT(s:Nat×RSt)(f:Tn)(W:World):Prop:=∃L sv,L.length=s.1/\s.1<200/\f.ev.size<=1000000/\dh s.2.now t s.2.tm=true/\(srt (fun x:Tn=>x.t) s.2.tm).head?=some f/\CkL w W lo mb pb ps (lW s.2 f)/\CkS w W mb t sv L/\LN W w lo ps sv L/\fI an t 201 0 r0=(L++(fI an t (201-s.1) s.1 s.2).1,(fI an t (201-s.1) s.1 s.2).2)
def CkF(W:World):Prop:=∃L sv r,L.length<=200/\CkL w W lo mb pb ps r/\CkS w W mb t sv L/\LN W w lo ps sv L/\fI an t 201 0 r0=(L,r)
variable {w lo mb pb ps an t r0}
theorem CkI.MH{f:Tn}(h:CkI w lo mb pb ps an t r0 s V)(k:Oq lo mb pb t s f V V'):CkT w lo mb pb ps an t r0 s f V':=by
 obtain⟨L,sv,a,b,c,_,d,e,n,g⟩:=h;obtain⟨k1,k2,k3,k4,k5⟩:=k;have hb:s.1<200:=by
  rcases Rr s.1 200 with h|h
  ·exact h
  ·have:=c (Nat.le_antisymm b h);rw[k1]at this;cases this
 exact⟨L,sv,a,hb,(d.qk.tm.2 f (mA k2).1).2,k1,k2,d.take k2 k3 k4 k5,e.rf (xi k4),n.kd k4.kd zaS zaS,g⟩
theorem CkI.Oh(h:CkI w lo mb pb ps an t r0 s V)(k:Oo lo mb pb t s V V'):CkF w lo mb pb ps an t r0 V':=by
 obtain⟨L,sv,a,b,c,_,d,e,n,g⟩:=h;obtain⟨k1,k2,k3,k4⟩:=k;refine⟨L,sv,_,zaa,d.al k1 k2 k3 k4,e.rf (xi k3),n.kd k3.kd zaS zaS,?_⟩;rw[show 201-s.1=(200-s.1)+1 by omega,FI k1,Rb]at g;exact g
theorem CkI.gr(h:CkI w lo mb pb ps an t r0 s V)(hl:Lw lo)(U8:lo<=w.heap.size)(hg:V.grownBy V' row)(hr:∀r,row=some r->w.heap.size<=r/\∃o:Obj,V.heap[r]?=some o/\o.isCells=false):CkI w lo mb pb ps an t r0 s V':=by
 obtain⟨L,sv,a,b,c,i,d,e,n,g⟩:=h;exact⟨L,sv,a,b,c,i,d.gr hl U8 hg hr,e.no (iJ hg (fun r e=>(hr r e).2)),n.no (iJ hg (fun r e=>(hr r e).2)),g⟩
theorem CkT.gr{f:Tn}(h:CkT w lo mb pb ps an t r0 s f V)(hl:Lw lo)(U8:lo<=w.heap.size)(hg:V.grownBy V' row)(hr:∀r,row=some r->w.heap.size<=r/\∃o:Obj,V.heap[r]?=some o/\o.isCells=false):CkT w lo mb pb ps an t r0 s f V':=by
 obtain⟨L,sv,a,b,c,i,j,d,e,n,g⟩:=h;exact⟨L,sv,a,b,c,i,j,d.gr hl U8 hg hr,e.no (iJ hg (fun r e=>(hr r e).2)),n.no (iJ hg (fun r e=>(hr r e).2)),g⟩
theorem CkT.below{f:Tn}(h:CkT w lo mb pb ps an t r0 s f V)(hl:Lw lo)(hb:Below V V V'):CkT w lo mb pb ps an t r0 s f V':=by
 obtain⟨L,sv,a,b,c,i,j,d,e,n,g⟩:=h;exact⟨L,sv,a,b,c,i,j,d.below hl hb,e.below hb,n.no (bB hb),g⟩
theorem CkF.gr(h:CkF w lo mb pb ps an t r0 V)(hl:Lw lo)(U8:lo<=w.heap.size)(hg:V.grownBy V' row)(hr:∀r,row=some r->w.heap.size<=r/\∃o:Obj,V.heap[r]?=some o/\o.isCells=false):CkF w lo mb pb ps an t r0 V':=by
 obtain⟨L,sv,r,a,d,e,n,g⟩:=h;exact⟨L,sv,r,a,d.gr hl U8 hg hr,e.no (iJ hg (fun r e=>(hr r e).2)),n.no (iJ hg (fun r e=>(hr r e).2)),g⟩
theorem IT{k:Nat}{r:RSt}{f:Tn}(hk:k<200)(h:dh r.now t r.tm=true)(hf:(srt (fun x:Tn=>x.t) r.tm).head?=some f)(g:fI an t 201 0 r0=(L++(fI an t (201-k) k r).1,(fI an t (201-k) k r).2))(h2:cR an (lW r f) f.ev=r2):
  (r2.fin≠0->fI an t 201 0 r0=(L++[(f.ev,r2)],r2))/\(r2.fin=0->k+1=200->dh r2.now t r2.tm=true->fI an t 201 0 r0=(L++[(f.ev,r2)],{ r2 with fin:=6 }))/\(r2.fin=0->¬(k+1=200/\dh r2.now t r2.tm=true)->fI an t 201 0 r0=((L++[(f.ev,r2)])++(fI an t (201-(k+1)) (k+1) r2).1,(fI an t (201-(k+1)) (k+1) r2).2)):=by
 rw[show 201-k=(201-(k+1))+1 by omega,Lg h hf h2]at g;refine⟨fun e=>?_,fun e e2 e3=>?_,fun e e2=>?_⟩
 ·rw[Pu e]at g;exact g
 ·rw[PC e,PC ⟨e2,e3⟩]at g;exact g
 ·rw[PC e,Pu e2]at g;rw[g,Qd];rfl
end
theorem jq{α β:Type}(g:β->Nat)(f:β->α->β)(h:∀r x,g (f r x)=g r):∀(l:List α) (r:β),g (l.foldl f r)=g r
 |[],_=>rfl
 |x::l,r=>(jq g f h l (f r x)).trans (h r x)
theorem pj(r:RSt)(L:List PA):(doL r L).now=r.now:=jq RSt.now iH (fun r a=>by cases a<;>simp only[iH,j7]<;>(try split)<;>rfl) L r
theorem I8(ps:List PS)(fin:Nat)(r:RSt)(i:Nat):(lz ps fin r i).now=r.now:=by
 unfold lz
 repeat' split
 all_goals rfl
theorem sX(ps:List PS)(fin:Nat)(EN:Nat->List PA)(l:List Nat)(r:RSt):(de ps fin EN r l).now=r.now:=jq RSt.now _ (fun r i=>by
 unfold kH;dsimp only;split
 ·split
  ·rw[I8,pj]
  ·rw[pj]
 ·rw[pj]) l r
section
variable {ps:List PS}{fin:Nat}{EN LV:Nat->List PA}{H:List HV}{D:Nat->Bool}{M:()->Option Nat}{Lr:Nat->List (Option Nat)}{pmF:Nat->PM}{acF:Nat->List PA}
theorem zY(r:RSt)(ev:()):(aZ ps fin EN LV H D M Lr pmF acF r ev).now=r.now:=by
 unfold aZ l9;dsimp only;rw[sX];refine(jq (fun z:RSt×Nat=>z.1.now) _ (fun z m=>pj _ _) _ _).trans ?_;refine(jq RSt.now (vw LV) (fun r i=>pj r (LV i)) _ _).trans ?_;exact jq RSt.now (nX ps _ D H) (fun r k=>(wF ps _ D H r k).2.2.2.1) _ _
end
theorem wY{an:RSt->()->RSt}(hs:∀r x,(an r x).now=r.now):∀(n:Nat) (r:RSt),(eW an n r).now=r.now
 |0,r=>by
  unfold eW;split
  ·rfl
  ·split<;>rfl
 |n+1,r=>by
  unfold eW;split
  ·rfl
  ·split
   ·exact(wY hs n _).trans (hs _ _)
   ·rfl
