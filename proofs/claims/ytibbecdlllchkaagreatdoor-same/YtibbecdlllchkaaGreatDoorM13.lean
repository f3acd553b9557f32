import Derived.Test.YtibbecdlllchkaaGreatDoorM12
import Derived.Deep.RegionHeldLaw
set_option maxRecDepth 100000
set_option maxHeartbeats 8000000
namespace Go.Proofs.YtibbecdlllchkaaGreatDoor
variable {zp:Prop}
theorem zcD(h:zp:=by
 clear hK K;refine zH 15 rfl fun K hK=>?_;refine step_append_lies _ zae _ _ _ zae w0.heap.size 134 i0 _ 8 136 underlying117 hi Vv Vk Vl rfl zac (.slice sv1.a sv1.n sv1.c) X1.length (X1.flatMap J.aM) zae (cH U2 _) ⟨W2,0,none⟩ 1 1 [(kd:Int),nme,(dep:Int),(ow:Int),.slice none 0 0,.slice none 0 0,.slice none 0 0,.slice none 0 0] zae zae (World.news_of_block (cs:=#[(kd:Int),nme,(dep:Int),(ow:Int),.slice none 0 0,.slice none 0 0,.slice none 0 0,.slice none 0 0]) (t:=134) (fr:=(0,0)) (PG W2 _)) zap zaa zag zaa zaf (W2.heap.size+1) zad ?_;intro g5 cap5 w5 U6 Pg VJ We;have hfz5:=((Pg.frozen_far ⟨db,0,none⟩ zaf Ys.out).trans ((((Pq W2 W2).alloc (Po _) _).drew).frozen (p:=db) V4)).trans f0;have hcc5:=((Pg.cell_far ⟨db,0,none⟩ zaf Ys.out).trans ((((Pq W2 W2).alloc (Po _) _).drew).cell (p:=db) V4)).trans c0;have k1:=((Pg.cell_far ⟨B,1,none⟩ zaf Ye.out).trans ((((Pq W2 W2).alloc (Po _) _).drew).cell (p:=⟨B,1,none⟩) VM)).trans b1;have k2:=((Pg.cell_far ⟨B,2,none⟩ zaf Ye.out).trans ((((Pq W2 W2).alloc (Po _) _).drew).cell (p:=⟨B,2,none⟩) VM)).trans b2;have k3:=((Pg.cell_far ⟨B,3,none⟩ zaf Ye.out).trans ((((Pq W2 W2).alloc (Po _) _).drew).cell (p:=⟨B,3,none⟩) VM)).trans b3;refine hK.out _ _ ⟨k1,k2,k3⟩ (fun Pm=>?_);clear hK K;refine tH 16 db rfl Pm ?_;refine tH 17 db rfl Pm ?_;refine zH 18 rfl fun K hK=>?_;go_simp;refine hK.out _ _ zam (fun Pm=>?_);clear hK K;refine PX zab ?_ _;go_wp2_with fail;go_meet
 case rel=>
  have VX:Below W2 W2 ((W2.alloc (.cells #[(kd:Int),nme,(dep:Int),(ow:Int),.slice none 0 0,.slice none 0 0,.slice none 0 0,.slice none 0 0] 134)).drew):=((Pq _ _).alloc (Po _) _).drew;rw[<- HDS.out]at U6;refine⟨⟨some ⟨g5,0,none⟩,X1.length+1,cap5⟩,A2.G.zT (sv':=⟨some ⟨g5,0,none⟩,X1.length+1,cap5⟩) VX Pg U6 rfl rfl rfl rfl HE.out.2.2.2.2.2.1 HE.out.2.2.2.2.2.2 HE.out.2.2.2.2.1 HPT1.out,?_⟩;rw[(ag w5 db 0 _).block B (fun h=>by
   have b1:=A2.box;have Ve:=A2.G.draft;rw[h,Ve]at b1;simp at b1)]
  exact gQ A2.box VX (cH U2 _) Pg zac):zp:=h
theorem zcE(h:zp:=by
 clear hK K;refine zH 8 rfl fun K hK=>?_;refine step_append_lies _ zae _ _ _ zae w0.heap.size 198 i0 _ 2 16 underlying118 hi Vv Vk Vl rfl zac (.slice pv.a pv.n pv.c) SP.length (SP.flatMap J.jt) zae (cH U2 _) ⟨W3,0,none⟩ 1 1 [(num:Int),(dep:Int)] zae zae (World.news_of_block (cs:=#[(num:Int),(dep:Int)]) (t:=198) (fr:=(0,0)) (PG W3 _)) zap zaa zag zaa zaf (W3.heap.size+1) zad ?_;intro g5 cap5 w5 U6 Pg VJ We;have hfz5:=((Pg.frozen_far ⟨db,1,none⟩ zaf Ys.out).trans ((((Pq W3 W3).alloc (Po _) _).drew).frozen (p:=⟨db,1,none⟩) V4)).trans f1;have hcc5:=((Pg.cell_far ⟨db,1,none⟩ zaf Ys.out).trans ((((Pq W3 W3).alloc (Po _) _).drew).cell (p:=⟨db,1,none⟩) V4)).trans c1;have k0:=((Pg.cell_far ⟨B,0,none⟩ zaf Ye.out).trans ((((Pq W3 W3).alloc (Po _) _).drew).cell (p:=B) VM)).trans b0;have k1:=((Pg.cell_far ⟨B,1,none⟩ zaf Ye.out).trans ((((Pq W3 W3).alloc (Po _) _).drew).cell (p:=⟨B,1,none⟩) VM)).trans b1;refine hK.out _ _ ⟨k0,k1⟩ (fun Pm=>?_);clear hK K;refine tH 9 db rfl Pm ?_;refine tH 10 (db,1) rfl Pm ?_;refine zH 11 rfl fun K hK=>?_;go_simp;refine hK.out _ _ zam (fun Pm=>?_);clear hK K;refine PX zab ?_ _;go_wp2_with fail;go_meet
 case rel=>
  have VX:Below W3 W3 ((W3.alloc (.cells #[(num:Int),(dep:Int)] 198)).drew):=((Pq _ _).alloc (Po _) _).drew;refine⟨⟨some ⟨g5,0,none⟩,SP.length+1,cap5⟩,A3.G.Ev (pv':=⟨some ⟨g5,0,none⟩,SP.length+1,cap5⟩) (q:=(num,(dep:Int))) VX Pg U6,?_⟩;rw[(ag w5 db 1 _).block B ZO];exact gQ A3.box VX (cH U2 _) Pg zac):zp:=h
theorem zcF(h:zp:=by
 refine zH 11 rfl fun K hK=>?_;refine step_append_lies _ zae _ _ _ zae w0.heap.size 3 i0 _ 1 8 underlying23 hi Vv Vk Vl rfl zac (.slice go dep oc) dep ((O.take dep).flatMap eT) zae (cH hownT _) ⟨W4,0,none⟩ 1 1 [(X.length:Int)] zae zae (World.news_of_block (cs:=#[(X.length:Int)]) (t:=3) (fr:=(0,0)) (PG W4 _)) zap zaa zag zaa zaf (W4.heap.size+1) zad ?_;intro g5 cap5 w5 U6 Pg VJ We;have hfz5:=((Pg.frozen_far ⟨db,2,none⟩ zaf Ys.out).trans ((((Pq W4 W4).alloc (Po _) _).drew).frozen (p:=⟨db,2,none⟩) V4)).trans f2;have hcc5:=((Pg.cell_far ⟨db,2,none⟩ zaf Ys.out).trans ((((Pq W4 W4).alloc (Po _) _).drew).cell (p:=⟨db,2,none⟩) V4)).trans c2;have k1:=((Pg.cell_far ⟨B,1,none⟩ zaf Ye.out).trans ((((Pq W4 W4).alloc (Po _) _).drew).cell (p:=⟨B,1,none⟩) VM)).trans b1;refine hK.out _ _ k1 (fun Pm=>?_);clear hK K;refine tH 12 db rfl Pm ?_;refine tH 13 (db,2) rfl Pm ?_;refine zH 14 rfl fun K hK=>?_;go_simp;refine hK.out _ _ zam (fun Pm=>?_);clear hK K;refine PX zab ?_ _;go_wp2_with fail;go_meet
 case rel=>
  have VX:Below W4 W4 ((W4.alloc (.cells #[(X.length:Int)] 3)).drew):=((Pq _ _).alloc (Po _) _).drew;refine⟨⟨some ⟨g5,0,none⟩,dep+1,cap5⟩,A4.G.rX (ov':=⟨some ⟨g5,0,none⟩,dep+1,cap5⟩) (O':=O.take dep++[X.length]) VX Pg (by
   rw[PI,QN,Uc HD.out,Qc];exact U6) (by
   rcases VJ with h|h
   ·exact .inl h.symm
   ·exact .inr zay),?_⟩
  rw[(ag w5 db 2 _).block B ZO];exact gQ A4.box VX (cH hownT _) Pg zac):zp:=h
theorem zcG(h:zp:=by
 refine zH 11 rfl fun K hK=>?_;refine step_append_lies _ zae _ _ _ zae w0.heap.size 3 i0 _ 1 8 underlying23 hi Vv Vk Vl rfl zac (.slice none 0 0) 0 [] zae (cH hownN _) ⟨W4,0,none⟩ 1 1 [(X.length:Int)] zae zae (World.news_of_block (cs:=#[(X.length:Int)]) (t:=3) (fr:=(0,0)) (PG W4 _)) zap zaa zag zaa zaf (W4.heap.size+1) zad ?_;intro g5 cap5 w5 U6 Pg VJ We;have hfz5:=((Pg.frozen_far ⟨db,2,none⟩ zaf Ys.out).trans ((((Pq W4 W4).alloc (Po _) _).drew).frozen (p:=⟨db,2,none⟩) V4)).trans f2;have hcc5:=((Pg.cell_far ⟨db,2,none⟩ zaf Ys.out).trans ((((Pq W4 W4).alloc (Po _) _).drew).cell (p:=⟨db,2,none⟩) V4)).trans c2;have k1:=((Pg.cell_far ⟨B,1,none⟩ zaf Ye.out).trans ((((Pq W4 W4).alloc (Po _) _).drew).cell (p:=⟨B,1,none⟩) VM)).trans b1';refine hK.out _ _ k1 (fun Pm=>?_);clear hK K;refine tH 12 db rfl Pm ?_;refine tH 13 (db,2) rfl Pm ?_;refine zH 14 rfl fun K hK=>?_;go_simp;refine hK.out _ _ zam (fun Pm=>?_);clear hK K;refine PX zab ?_ _;go_wp2_with fail;go_meet
 case rel=>
  have VX:Below W4 W4 ((W4.alloc (.cells #[(X.length:Int)] 3)).drew):=((Pq _ _).alloc (Po _) _).drew;refine⟨⟨some ⟨g5,0,none⟩,0+1,cap5⟩,A4.G.rX (ov':=⟨some ⟨g5,0,none⟩,0+1,cap5⟩) (O':=([]:List Nat).take 0++[X.length]) VX Pg (by
   rw[PI,QN,Uc HD.out,Qc];exact U6) (by
   rcases VJ with h|h
   ·exact .inl h.symm
   ·exact .inr zay),?_⟩
  rw[(ag w5 db 2 _).block B ZO];exact gQ A4.box VX (cH hownN _) Pg zac):zp:=h
theorem zcX(h:zp:=by
 obtain⟨k,h0,h4,hw,hd⟩:=h;rw[eC h0 h4 hw hd,hw];have hk:k=0\/k=1\/k=2\/k=3\/k=4:=zaa
 rcases hk with rfl|rfl|rfl|rfl|rfl
 ·rw[show bm 0=mw from rfl,iA];rfl
 ·rw[show bm 1=gw from rfl,eO];rfl
 ·rw[show bm 2=mu from rfl,ir];rfl
 ·rw[show bm 3=dw from rfl,bV];rfl
 ·rw[show bm 4=dw from rfl,bV];rfl):zp:=h
theorem zc0(h:zp:=by
 simp only[Int.toNat_natCast];rw[Pu zaa,Pu zaa,jw hw];simp only[he];obtain⟨r0,r4⟩:=lC hw;have hk:aj (S.getD u U.st0)=0\/aj (S.getD u U.st0)=1\/aj (S.getD u U.st0)=2\/aj (S.getD u U.st0)=3\/aj (S.getD u U.st0)=4:=zaa
 rcases hk with e|e|e|e|e<;>rw[e]<;>simp[dF,aC]):zp:=h
theorem zc8(h:zp:=by
 rcases hk with rfl|rfl|rfl|rfl|rfl
 ·rw[show bm 0=mw from rfl,iA];rfl
 ·rw[show bm 1=gw from rfl,eO];rfl
 ·rw[show bm 2=mu from rfl,ir];rfl
 ·rw[show bm 3=dw from rfl,bV];rfl
 ·rw[show bm 4=dw from rfl,bV];rfl):zp:=h
theorem zdh(h:zp:=by
 clear Zo;go_wp2_with fail;refine(ba num dep 3 _).mono ?_;rintro e w3 ⟨hb,b,h5,h6,rfl⟩;dsimp only;refine⟨rfl,?_⟩;rw[HF.out];exact⟨Vy.trans (hb.mono VZ),b,Pr VZ h5,h6,rfl⟩):zp:=h
theorem ze2(h:zp:=by
 cases ov
 simp[U.Sl.v]at h;simp[h.1,h.2.1,h.2.2]):zp:=h
theorem zfn(h:zp:=by
 rintro⟨h1,h2⟩;exact⟨zaa,h2⟩):zp:=h
theorem zam(h:zp:=by(try dsimp only);go_keep):zp:=h
theorem zaH(h:zp:=by rw[<- hX,PE]):zp:=h
theorem zbf(h:zp:=by rw[Pt w3 _ _ _ _ _ hbx3];rfl):zp:=h
theorem zbK(h:zp:=by rw[Pt W2 _ _ _ _ _ A2.box];rfl):zp:=h
theorem zbL(h:zp:=by rw[Pt W3 _ _ _ _ _ A3.box];rfl):zp:=h
theorem zbM(h:zp:=by rw[Pt W4 _ _ _ _ _ A4.box];rfl):zp:=h
theorem zbO(h:zp:=by rw[Pt W2 _ _ _ _ _ hbx2];rfl):zp:=h
open Tryz
variable {base n size num i d u:Nat}{e:TypeId}{xs:List Value}{v:Value}{S S':List U.State}{s s':U.State}{k:Int}{A:List U.Act}
section
open Go.RowKit
variable {w0 w:World}{db mb nm:Nat}{sv pv ov:U.Sl}{tm:Bool}{X:List J.DS}{SP:List (Int×Int)}{O:List Nat}{PT:Nat->List Nat}{D:DataW Nat}
theorem C1:(Tryz.prog.info? 134).map (fun i=>(i.zero,i.size,i.bytes))=some (some (.agg #[(0:Int),ByteArray.empty,(0:Int),(0:Int),.slice none 0 0,.slice none 0 0,.slice none 0 0,.slice none 0 0]),8,136):=zab
theorem F8:(Tryz.prog.info? 198).map (fun i=>(i.zero,i.size,i.bytes))=some (some (.agg #[(0:Int),(0:Int)]),2,16):=zab
theorem AO:(Tryz.prog.info? 3).map (fun i=>(i.zero,i.size,i.bytes))=some (some ↑(0:Int),1,8):=zab
theorem GC{n' cap go:Nat}{w:World}(h:w.ownsRow base e 1 (.slice go n cap) n xs)(hn:n'<=n):w.ownsRow base e 1 (.slice go n' cap) n' (xs.take n'):=by
 rcases h.2 with⟨h',_⟩|⟨g,cap',cur,hv,hb,hg,h1,h2,h3,h4⟩
 ·cases h'
 ·simp only[Value.slice.injEq,Option.some.injEq,Addr.mk.injEq,and_true,true_and]at hv;obtain⟨rfl,rfl⟩:=hv;have hl:=h.1;refine⟨by rw[QN,hl];omega,.inr ⟨go,cap,cur,rfl,hb,hg,zaa,h2,h3,?_⟩⟩;rw[<- h4,List.take_take]
  congr 1
  omega
theorem FY(O:List Nat)(d:Nat):(O.flatMap eT).take d=(O.take d).flatMap eT:=by
 induction O generalizing d with
 |nil=>simp
 |cons a O ih=>
  cases d with
  |zero=>simp
  |succ d=>simp only[List.flatMap_cons,List.take_succ_cons];rw[show eT a=[.int .i64 a] from rfl];simp[ih]
def eX(num:Int)(dep:Nat)(kd:Int)(nme:()):Array Value:=#[(num:Int),(dep:Int),(kd:Int),nme]
structure sd(B:Nat)(bx:Array Value)(w0 w:World)(db:Nat)(sv pv ov:U.Sl)(mb:Nat)(tm:Bool)(X:List J.DS)(SP:List (Int×Int))(O:List Nat)(PT:Nat->List Nat)(nm:Nat)(D:DataW Nat):Prop where
 G:ax w0 w db sv pv ov mb tm X SP O PT nm D
 box:w.heap[B]?=some (.cells bx 345 (0,0))
theorem cH{w:World}(h:w.ownsRow base e size v n xs)(o:Obj):((w.alloc o).drew).ownsRow base e size v n xs:=(RK h o).drew
theorem gQ{B:Nat}{bx:Array Value}{w wc w5:World}(hb:w.heap[B]?=some (.cells bx 345 (0,0)))(VX:Below w w wc)(ho:wc.ownsRow base e size v n xs)(hg:wc.grownBy w5 v.ownBlock)(U9:345≠e):w5.heap[B]?=some (.cells bx 345 (0,0)):=
 bZ (bZ hb (cG (e:=e) VX) U9) (dN ho hg) U9
theorem Cr(num:Int)(dep:Nat)(kd ow:Int)(nme:())(ns:U.State)(G:ax w0 w db sv pv ov mb tm X SP O PT nm D)(hX:X.length<=1000)(hSP:SP.length<=1000)(hO:O.length<=1000)(hPTl:∀i,(PT i).length<=1000)(VD:nm<=1000)
  (Wj:J.aj ns=kd) (hnme:ns.name=nme) (Yq:ns.depth=dep) (hup:ns.up=ow) (hm:ns.aa=[]) (he:ns.enter=[]) (hl:ns.leave=[]) (hd:dep<=O.length) (Vf:nme.size<=1000000) (Xs:(Lit.int .i64 num).wf=true)
  (how:ow=-1\/∃u:Nat,ow=u/\u<X.length) (hPT:PT X.length=[]):
  () 352 #[db,.agg (eX num dep kd nme),(ow:Int)] w fun e w'=>e=.returned (.tuple #[])/\∃sv' pv' ov' X',X'.map (·.s)=X.map (·.s)++[ns] /\
   ax w0 w' db sv' pv' ov' mb tm X' (SP++[(num,(dep:Int))]) (O.take dep++[X.length]) (fun i=>if(i:Int)=ow then PT i++[X.length] else PT i) (nm+1) (if Go.Maps.has D (.string nme.data.toList) then D else D.put (.string nme.data.toList) (.lit (.int .i64 num))):=by
 have Wh:=G.M8;have V4:=G.dlt;have U3:Below w w (w.alloc (.cells (eX num dep kd nme) 345)):=(Pq _ _).alloc (Po _) _;have A1:sd w.heap.size (eX num dep kd nme) w0 (w.alloc (.cells (eX num dep kd nme) 345)) db sv pv ov mb tm X SP O PT nm D:=⟨G.aq U3,PG _ _⟩;obtain⟨c0,c1,c2,c3,c4⟩:=A1.G.cells;rw[Wh]at c0;obtain⟨W1,Vj⟩:∃y,y=w.alloc (.cells (eX num dep kd nme) 345):=⟨_,rfl⟩;obtain⟨B,hB⟩:∃B,B=w.heap.size:=⟨_,rfl⟩;obtain⟨i0,hi,Vv,Vk,Vl⟩:=QV AO;have HE:Hid (J.aj ns=kd/\ns.name=nme/\ns.depth=dep/\ns.up=ow/\ns.aa=[]/\ns.enter=[]/\ns.leave=[]):=⟨Wj,hnme,Yq,hup,hm,he,hl⟩;clear Wj hnme Yq hup hm he hl;have HPT:Hid _:=hPT;have HPTl:Hid _:=hPTl;have HD:Hid (dep<=O.length):=hd;clear hPT hPTl hd Wh;unfold eX at A1 c0 c1 c2 c3 c4 Vj⊢;go_enter func352,ntmps352
 go_upto_if 15 with fail
 change Code.wp _ _ _ _ (w.alloc (.cells #[(num:Int),(dep:Int),(kd:Int),nme] 345));rw[<- Vj]at A1 c0 c1 c2 c3 c4⊢;rw[<- hB]at A1⊢;have XP:B<W1.heap.size:=(Pn.1 A1.box).1;clear Vj U3 G V4 hB
 go_cut[] (fun wx=>∃sv1 X1,X1.map (·.s)=X.map (·.s)/\sd B #[(num:Int),(dep:Int),(kd:Int),nme] w0 wx db sv1 pv ov mb tm X1 SP O (fun i=>if(i:Int)=ow then PT i++[X.length] else PT i) nm D)
 case first=>
  rcases how with how|⟨u,how,hu⟩
  ·subst how;go_wp2;go_meet
   case rel=>
    refine⟨sv,X,rfl,?_⟩;have e:(fun i:Nat=>if(i:Int)=-1 then PT i++[X.length] else PT i)=PT:=by
     funext i;rw[Pu zaa]
    rw[e];exact A1
  ·subst how;obtain⟨g,cap,rfl⟩:=A1.G.DV zaa;obtain⟨Ww,V5,hg0⟩:=A1.G.CF;have cP:W1.cell? (g,u*8+4)=some (.slice X[u].vp.a X[u].vp.n X[u].vp.c):=A1.G.BE hu 4 _ rfl;have fP:W1.frozen? (g,u*8+4)=false:=RI (aJ A1.G.states (PK _)) _;have U2:=A1.G.parts u hu;have VI:=HPTl.out u;have V4:=A1.G.dlt;have hw01:=A1.G.bel.size;have hneg:((u:Int) == -1)=false:=zad;have Ys:Hid (some g≠X[u].vp.v.ownBlock):=fun e=>by
    obtain⟨c,hc⟩:=b8 U2 _ e.symm;obtain⟨c',Ve⟩:=b8 A1.G.states g rfl;exact zfz
   have HNDd:Hid (some db≠X[u].vp.v.ownBlock):=fun e=>by
    obtain⟨c,hc⟩:=b8 U2 _ e.symm;have Ve:=A1.G.draft;exact zfz
   go_upto_region 3 with fail
   go_region_law
    ((refine step_append_lies _ zae _ _ _ zae w0.heap.size 3 i0 _ 1 8 underlying23 hi Vv Vk Vl rfl zac (.slice X[u].vp.a X[u].vp.n X[u].vp.c) (PT u).length ((PT u).flatMap eT) zae (cH U2 _) ⟨W1,0,none⟩ 1 1 [(X.length:Int)] zae zae (World.news_of_block (cs:=#[(X.length:Int)]) (t:=3) (fr:=(0,0)) (PG W1 _)) zap zaa zag zaa zaf (W1.heap.size+1) zad ?_;intro g5 cap5 w5 U6 Pg VJ We;have hfz5:=((Pg.frozen_far ⟨g,u*8+4,none⟩ zaf Ys.out).trans ((((Pq W1 W1).alloc (Po _) _).drew).frozen (p:=(g,u*8+4)) V5)).trans fP;have hcc5:=((Pg.cell_far ⟨g,u*8+4,none⟩ zaf Ys.out).trans ((((Pq W1 W1).alloc (Po _) _).drew).cell (p:=(g,u*8+4)) V5)).trans cP;have hcd5:=((Pg.cell_far ⟨db,0,none⟩ zaf HNDd.out).trans ((((Pq W1 W1).alloc (Po _) _).drew).cell (p:=db) V4)).trans c0))
   all_goals(
    go_wp2_with fail;go_meet
    case rel=>
     have VX:Below W1 W1 ((W1.alloc (.cells #[(X.length:Int)] 3)).drew):=((Pq _ _).alloc (Po _) _).drew;have GP:=A1.G.addPart (vp':=⟨some ⟨g5,0,none⟩,(PT u).length+1,cap5⟩) (n:=X.length) VX hu Pg (by rw[PI,Qc];exact U6) (by
      rcases VJ with h|h
      ·exact .inl h.symm
      ·exact .inr zay)
     refine⟨⟨some ⟨g,0,none⟩,X.length,cap⟩,X.set u { X[u] with vp:=⟨some ⟨g5,0,none⟩,(PT u).length+1,cap5⟩ },?_,?_,?_⟩
     ·rw[RB];apply RA
      intro i;rw[RN];split
      ·rename_i h;subst h;simp[hu]
      ·rfl
     ·have e:(fun i:Nat=>if(i:Int)=(u:Int) then PT i++[X.length] else PT i)=fun i=>if i=u then PT u++[X.length] else PT i:=by
       funext i;by_cases h:i=u
       ·subst h;simp
       ·rw[Pu h,Pu zaa]
      rw[e];exact GP
     ·rw[(ag w5 g (u*8+4) _).block B (fun h=>by
       have b1:=A1.box;obtain⟨c',Ve⟩:=b8 A1.G.states g rfl;rw[h,Ve]at b1;simp at b1)]
      exact gQ A1.box VX (cH U2 _) Pg zac)
 case rest=>
  obtain⟨sv1,X1,Zh,A2⟩:=hcut;obtain⟨W2,Yh⟩:∃y:World,y=wc:=⟨wc,rfl⟩;subst Yh;clear A1 c0 c1 c2 c3 c4 XP hi Vv Vk Vl i0;have Xl:X1.length=X.length:=by
   have:=congrArg List.length Zh;simpa using this
  obtain⟨PT1,hPT1⟩:∃P:Nat->List Nat,P=fun i:Nat=>if(i:Int)=ow then PT i++[X.length] else PT i:=⟨_,rfl⟩;have HPT1:Hid (PT1 X1.length=[]):=by
   unfold Hid;rw[hPT1,Xl];simp only;rw[Pu,HPT.out]
   rcases how with h|⟨u,h,hu⟩<;>omega
  rw[<- hPT1]at A2;have HPd:Hid _:=hPT1;have HX1:Hid _:=Zh;have HXl:Hid _:=Xl;have hX1b:X1.length<=1000:=zaa;clear hPT1 Zh Xl;obtain⟨i0,hi,Vv,Vk,Vl⟩:=QV C1;have V4:=A2.G.dlt;have hw02:=A2.G.bel.size;have VM:B<W2.heap.size:=(Pn.1 A2.box).1;have U2:=A2.G.states;obtain⟨c0,c1,c2,c3,c4⟩:=A2.G.cells;have f0:=A2.G.frozen 0;have b1:W2.cell? (B,1)=some ↑(dep:Int):=zbK;have b2:W2.cell? (B,2)=some ↑(kd:Int):=zbK;have b3:W2.cell? (B,3)=some ↑nme:=zbK;have Ys:Hid (some db≠sv1.v.ownBlock):=fun e=>by
   obtain⟨c,hc⟩:=b8 U2 _ e.symm;have Ve:=A2.G.draft;exact zfz
  have HDS:Hid (J.aM ⟨ns,U.Sl.nil,U.Sl.nil,U.Sl.nil,U.Sl.nil⟩=[.int .i64 kd,.string nme,.int .i64 dep,.int .i64 ow,.slice none 0 0,.slice none 0 0,.slice none 0 0,.slice none 0 0]):=by
   unfold Hid J.aM;rw[HE.out.1,HE.out.2.1,HE.out.2.2.1,HE.out.2.2.2.1];rfl
  go_upto_region 4 with fail
  go_cut[] (fun wx=>∃sv2,sd B #[(num:Int),(dep:Int),(kd:Int),nme] w0 wx db sv2 pv ov mb tm (X1++[⟨ns,U.Sl.nil,U.Sl.nil,U.Sl.nil,U.Sl.nil⟩]) SP O PT1 nm D)
  case first=>
   have hnb:¬db=B:=fun h=>by
    have b1:=A2.box;rw[<- h,A2.G.draft]at b1;simp at b1
   have ZO:¬B=db:=fun h=>hnb h.symm;have Ye:Hid (some B≠sv1.v.ownBlock):=fun e=>by
    obtain⟨c,hc⟩:=b8 U2 _ e.symm;have Ve:=A2.box;exact zfz
   refine PJ (S:=(fun W=>W.cell? ⟨B,1,none⟩=some ↑(dep:Int)/\W.cell? ⟨B,2,none⟩=some ↑(kd:Int)/\W.cell? ⟨B,3,none⟩=some ↑nme)) zab ⟨b1,b2,b3⟩ (fun Pm=>?_);refine tH 0 db rfl Pm ?_;refine tH 1 db rfl Pm ?_;refine tH 2 db rfl Pm ?_;refine tH 3 db rfl Pm ?_;refine tH 5 (B,2) rfl Pm ?_;refine tH 6 (.int .i64 kd) rfl Pm ?_;refine tH 7 (B,3) rfl Pm ?_;refine tH 8 (.string nme) rfl Pm ?_;refine tH 9 B rfl Pm ?_;refine tH 10 (B,1) rfl Pm ?_;refine tH 11 (.int .i64 dep) rfl Pm ?_;refine tH 12 (.int .i64 ow) rfl Pm ?_;refine tH 13 (.agg #[(kd:Int),nme,(dep:Int),(ow:Int),.slice none 0 0,.slice none 0 0,.slice none 0 0,.slice none 0 0]) rfl Pm ?_;refine yH [4,14] ?_;refine Qk rfl (fun K hK=>?_) (Qk rfl (fun K hK=>?_) QX)
   ·skip
    go_simp;refine hK.out _ _ Pm (fun Pm=>?_);clear hK K;refine zH 14 rfl fun K hK=>?_;go_simp;refine hK.out _ _ zam (fun Pm=>?_);exact zcD
   ·skip
    go_simp;refine hK.out _ _ zam (fun Pm=>?_);clear hK K;refine zH 4 rfl fun K hK=>?_;go_simp;refine hK.out _ _ Pm (fun Pm=>?_);exact zcD
  case rest=>
   obtain⟨sv2,A3⟩:=hcut;obtain⟨W3,hW⟩:∃y:World,y=wc:=⟨wc,rfl⟩;subst hW;clear A2 c0 c1 c2 c3 c4 hi Vv Vk Vl i0 V4 hw02 VM U2 b1 b2 b3 f0 Ys;obtain⟨i0,hi,Vv,Vk,Vl⟩:=QV F8;have V4:=A3.G.dlt;have hw0:=A3.G.bel.size;have VM:B<W3.heap.size:=(Pn.1 A3.box).1;have U2:=A3.G.jK;obtain⟨c0,c1,c2,c3,c4⟩:=A3.G.cells;have b0:W3.cell? B=some ↑(num:Int):=zbL;have b1:W3.cell? (B,1)=some ↑(dep:Int):=zbL;have b3:W3.cell? (B,3)=some ↑nme:=zbL;have hnb:¬db=B:=fun h=>by
    have b1:=A3.box;rw[<- h,A3.G.draft]at b1;simp at b1
   have ZO:¬B=db:=fun h=>hnb h.symm;have Ys:Hid (some db≠pv.v.ownBlock):=fun e=>by
    obtain⟨c,hc⟩:=b8 U2 _ e.symm;have Ve:=A3.G.draft;exact zfz
   have Ye:Hid (some B≠pv.v.ownBlock):=fun e=>by
    obtain⟨c,hc⟩:=b8 U2 _ e.symm;have Ve:=A3.box;exact zfz
   have f1:=A3.G.frozen 1
   go_upto_region 5 with fail
   go_cut[] (fun wx=>∃pv2,sd B #[(num:Int),(dep:Int),(kd:Int),nme] w0 wx db sv2 pv2 ov mb tm (X1++[⟨ns,U.Sl.nil,U.Sl.nil,U.Sl.nil,U.Sl.nil⟩]) (SP++[(num,(dep:Int))]) O PT1 nm D)
   case first=>
    refine PJ (S:=(fun W=>W.cell? B=some ↑(num:Int)/\W.cell? ⟨B,1,none⟩=some ↑(dep:Int))) zab ⟨b0,b1⟩ (fun Pm=>?_);refine tH 0 db rfl Pm ?_;refine tH 1 db rfl Pm ?_;refine tH 2 db rfl Pm ?_;refine tH 3 (db,1) rfl Pm ?_;refine tH 5 B rfl Pm ?_;refine tH 6 (.agg #[(num:Int),(dep:Int)]) rfl Pm ?_;refine yH [4,7] ?_;refine Qk rfl (fun K hK=>?_) (Qk rfl (fun K hK=>?_) QX)
    ·skip
     go_simp;refine hK.out _ _ Pm (fun Pm=>?_);clear hK K;refine zH 7 rfl fun K hK=>?_;go_simp;refine hK.out _ _ zam (fun Pm=>?_);exact zcE
    ·skip
     go_simp;refine hK.out _ _ zam (fun Pm=>?_);clear hK K;refine zH 4 rfl fun K hK=>?_;go_simp;refine hK.out _ _ Pm (fun Pm=>?_);exact zcE
   case rest=>
    obtain⟨pv2,A4⟩:=hcut;obtain⟨W4,hW⟩:∃y:World,y=wc:=⟨wc,rfl⟩;subst hW;clear A3 c0 c1 c2 c3 c4 hi Vv Vk Vl i0 V4 hw0 VM U2 b0 b1 b3 f1 Ys Ye hnb ZO;obtain⟨i0,hi,Vv,Vk,Vl⟩:=QV AO;have V4:=A4.G.dlt;have hw0:=A4.G.bel.size;have VM:B<W4.heap.size:=(Pn.1 A4.box).1;have U2:=A4.G.opens;obtain⟨c0,c1,c2,c3,c4⟩:=A4.G.cells;have b0:W4.cell? B=some ↑(num:Int):=zbM;have b1:W4.cell? (B,1)=some ↑(dep:Int):=zbM;have b3:W4.cell? (B,3)=some ↑nme:=zbM;have hnb:¬db=B:=fun h=>by
     have b1:=A4.box;rw[<- h,A4.G.draft]at b1;simp at b1
    have ZO:¬B=db:=fun h=>hnb h.symm;have Ys:Hid (some db≠ov.v.ownBlock):=fun e=>by
     obtain⟨c,hc⟩:=b8 U2 _ e.symm;have Ve:=A4.G.draft;exact zfz
    have Ye:Hid (some B≠ov.v.ownBlock):=fun e=>by
     obtain⟨c,hc⟩:=b8 U2 _ e.symm;have Ve:=A4.box;exact zfz
    have f2:=A4.G.frozen 2
    go_upto_region 6 with fail
    go_cut[] (fun wx=>∃ov2,sd B #[(num:Int),(dep:Int),(kd:Int),nme] w0 wx db sv2 pv2 ov2 mb tm (X1++[⟨ns,U.Sl.nil,U.Sl.nil,U.Sl.nil,U.Sl.nil⟩]) (SP++[(num,(dep:Int))]) (O.take dep++[X.length]) PT1 nm D)
    case first=>
     have hov:=A4.G.M6;cases hova:ov.a with
     |none=>
      have hnil:ov.v=.slice none 0 0/\O.length=0:=by
       rcases U2.2 with h|⟨g,cap,cur,h,_⟩
       ·exact h
       ·simp[U.Sl.v,hova]at h
      have hO0:O=[]:=RC.1 hnil.2;have hd0:dep=0:=by have:=HD.out;rw[hnil.2]at this;omega
      have hov0:ov=⟨none,0,0⟩:=by
       have h:=hnil.1;exact ze2
      subst hO0 hd0 hov0;clear hnil hov hova;have b1':W4.cell? (B,1)=some ↑(0:Int):=by simpa using b1
      have hownN:W4.ownsRow w0 3 1 (.slice none 0 0) 0 []:=QC _ _ _ _;refine PJ (S:=(fun W=>W.cell? ⟨B,1,none⟩=some ↑(0:Int))) zab b1' (fun Pm=>?_);refine tH 0 db rfl Pm ?_;refine tH 1 db rfl Pm ?_;refine tH 2 db rfl Pm ?_;refine tH 3 (db,2) rfl Pm ?_;refine tH 5 B rfl Pm ?_;refine tH 6 (B,1) rfl Pm ?_;refine tH 7 (.int .i64 0) rfl Pm ?_;refine tH 9 (.int .i64 X.length) rfl Pm ?_;refine yH [4,10] ?_;refine Qk rfl (fun K hK=>?_) (Qk rfl (fun K hK=>?_) QX)
      ·skip
       go_simp;refine hK.out _ _ Pm (fun Pm=>?_);clear hK K;refine tH 8 (.slice none 0 0) rfl Pm ?_;refine zH 10 rfl fun K hK=>?_;go_simp;refine hK.out _ _ zam (fun Pm=>?_);clear hK K;exact zcG
      ·skip
       go_simp;refine hK.out _ _ zam (fun Pm=>?_);clear hK K;refine zH 4 rfl fun K hK=>?_;go_simp;refine hK.out _ _ Pm (fun Pm=>?_);clear hK K;refine tH 8 (.slice none 0 0) rfl Pm ?_;exact zcG
     |some oa=>
      obtain⟨go,oc,hov1⟩:∃go oc,ov=⟨some ⟨go,0,none⟩,O.length,oc⟩:=by
       rcases U2.2 with⟨h,_⟩|⟨g,cap,cur,h,_⟩
       ·simp[U.Sl.v,hova]at h
       ·refine⟨g,cap,?_⟩;exact ze2
      subst hov1;have hcapO:O.length<=oc:=by
       rcases U2.2 with⟨h,_⟩|⟨g,cap,cur,h,_,_,hle,_⟩
       ·cases h
       ·simp[U.Sl.v]at h;rw[h.2];exact hle
      have hdle:=HD.out;have hdc:¬oc<dep:=zaa;have hownT:=GC U2 hdle;rw[FY]at hownT;refine PJ (S:=(fun W=>W.cell? ⟨B,1,none⟩=some ↑(dep:Int))) zab b1 (fun Pm=>?_);refine tH 0 db rfl Pm ?_;refine tH 1 db rfl Pm ?_;refine tH 2 db rfl Pm ?_;refine tH 3 (db,2) rfl Pm ?_;refine tH 5 B rfl Pm ?_;refine tH 6 (B,1) rfl Pm ?_;refine tH 7 (.int .i64 dep) rfl Pm ?_;refine tH 9 (.int .i64 X.length) rfl Pm ?_;refine yH [4,10] ?_;refine Qk rfl (fun K hK=>?_) (Qk rfl (fun K hK=>?_) QX)
      ·skip
       go_simp;refine hK.out _ _ Pm (fun Pm=>?_);clear hK K;refine tH 8 (.slice go dep oc) rfl Pm ?_;refine zH 10 rfl fun K hK=>?_;go_simp;refine hK.out _ _ zam (fun Pm=>?_);clear hK K;exact zcF
      ·skip
       go_simp;refine hK.out _ _ zam (fun Pm=>?_);clear hK K;refine zH 4 rfl fun K hK=>?_;go_simp;refine hK.out _ _ Pm (fun Pm=>?_);clear hK K;refine tH 8 (.slice go dep oc) rfl Pm ?_;exact zcF
    case rest=>
     obtain⟨ov2,A5⟩:=hcut;obtain⟨W5,hW⟩:∃y:World,y=wc:=⟨wc,rfl⟩;subst hW;clear A4 c0 c1 c2 c3 c4 hi Vv Vk Vl i0 V4 hw0 VM U2 b0 b1 b3 f2 Ys Ye hnb ZO;have V4:=A5.G.dlt;have VM:B<W5.heap.size:=(Pn.1 A5.box).1;obtain⟨c0,c1,c2,c3,c4⟩:=A5.G.cells;have b0:W5.cell? B=some ↑(num:Int):=by rw[Pt W5 _ _ _ _ _ A5.box];rfl
     have b3:W5.cell? (B,3)=some ↑nme:=by rw[Pt W5 _ _ _ _ _ A5.box];rfl
     have law:Go.Maps.Keyed prog 9:=Tj underlying9;have zeroE:∀w:World,(zeroValue 3).run prog w=.ok (.int .i64 0) w:=fun w=>zab;have Yj:keyOf prog 9 (.string nme)=some (.string nme.data.toList):=Sr underlying9 zag;have hmap:=A5.G.map;have Yf:kB W5.drew mb nm D:=bP (e:=0) hmap (cG (Pq _ _).drew);have hmapd2:kB W5.drew.drew mb nm D:=bP (e:=0) Yf (cG (Pq _ _).drew);have HFin:Hid (∀w' D',ax w0 w' db sv2 pv2 ov2 mb tm (X1++[⟨ns,U.Sl.nil,U.Sl.nil,U.Sl.nil,U.Sl.nil⟩]) (SP++[(num,(dep:Int))]) (O.take dep++[X.length]) PT1 (nm+1) D'->∃sv' pv' ov' X',X'.map (·.s)=X.map (·.s)++[ns]/\ax w0 w' db sv' pv' ov' mb tm X' (SP++[(num,(dep:Int))]) (O.take dep++[X.length]) (fun i=>if(i:Int)=ow then PT i++[X.length] else PT i) (nm+1) D'):=by
      intro w' D' h;refine⟨sv2,pv2,ov2,X1++[⟨ns,U.Sl.nil,U.Sl.nil,U.Sl.nil,U.Sl.nil⟩],?_,?_⟩
      ·rw[Qj,HX1.out];rfl
      ·rw[<- HPd.out];exact h
     go_upto_region 7 with fail
     obtain⟨vv,ps,Wu,hvv⟩:=Yf.look_ok law underlying119 (zeroE _) (UD underlying3 zac) Yj;obtain⟨cc,rfl,_,_⟩:=plainElem_int_inv underlying3 hvv;clear hvv;refine PJ (S:=(fun W=>W.cell? ⟨db,3,none⟩=some (.map (some mb))/\W.cell? ⟨B,3,none⟩=some ↑nme)) zab ⟨c3,b3⟩ (fun Pm=>?_);refine tH 0 db rfl Pm ?_;refine tH 1 db rfl Pm ?_;refine tH 2 (db,3) rfl Pm ?_;refine tH 3 (.map (some mb)) rfl Pm ?_;refine tH 4 (B,3) rfl Pm ?_;refine tH 5 (.string nme) rfl Pm ?_;refine zH 6 rfl fun K hK=>?_;go_simp;refine hK.out _ _ Pm (fun Pm=>?_);clear hK K;refine tH 7 (.tuple #[(cc:Int),.bool (Go.Maps.has D (.string nme.data.toList))]) rfl Pm ?_;refine tH 8 (.int .i64 cc) rfl Pm ?_;refine tH 9 (.bool (Go.Maps.has D (.string nme.data.toList))) rfl Pm ?_;refine tH 10 (.int .i64 cc) rfl Pm ?_;refine tH 11 (.bool (Go.Maps.has D (.string nme.data.toList))) rfl Pm ?_;refine PX zab ?_ _;clear Wu;cases hh:Go.Maps.has D (.string nme.data.toList)
     case true=>
      go_wp2;go_end0;refine⟨rfl,?_⟩;have G6:=A5.G.aq (w':=W5.drew) (Pq _ _).drew;exact HFin.out _ _ { G6 with map:=G6.map.mono zaa }
     case false=>
      go_upto_region 9 with fail
      refine eD 9 zab zab ?_;simp only[List.take_succ_cons,List.take_zero,List.drop_succ_cons,List.drop_zero]
      repeat still_step
      refine QY ?_;refine wpList_mapUpdate_own _ rfl _ _ _ 119 rfl 9 3 law underlying119 _ mb nm _ rfl hmapd2 zag _ _ _ rfl rfl Yj _ [] (UD underlying3 Xs) ?_;intro w6 hown6 WI;go_wp2;go_end0;refine⟨rfl,?_⟩;exact HFin.out _ _ (A5.G.KW (Pq _ _).drew.drew WI hown6)
variable {w0 w:World}{db mb nm:Nat}{sv pv ov:U.Sl}{tm:Bool}{X:List J.DS}{SP:List (Int×Int)}{O:List Nat}{PT:Nat->List Nat}{D:DataW Nat}
def MR(num:Int)(dep:Nat)(nme:())(ow:Int)(ns:U.State)(w0:World)(db mb:Nat)(tm:Bool)(X:List J.DS)(SP:List (Int×Int))(O:List Nat)(PT:Nat->List Nat)(nm:Nat)(D:DataW Nat)(w':World):Prop:=
 ∃sv' pv' ov' X',X'.map (·.s)=X.map (·.s)++[ns]/\ax w0 w' db sv' pv' ov' mb tm X' (SP++[(num,(dep:Int))]) (O.take dep++[X.length]) (fun i=>if(i:Int)=ow then PT i++[X.length] else PT i) (nm+1) (if Go.Maps.has D (.string nme.data.toList) then D else D.put (.string nme.data.toList) (.lit (.int .i64 num)))
theorem rK(num:Int)(dep:Nat)(kd:Int)(nme:())(G:ax w0 w db sv pv ov mb tm X SP O PT nm D)(h0:0<dep)(h:O.length<dep)(hd:dep<=1073741824):
  () 349 #[.agg (eX num dep kd nme),db] w (br 3 num w):=by
 have U3:Below w w (w.alloc (.cells (eX num dep kd nme) 345)):=(Pq _ _).alloc (Po _) _;have HC:Hid _:=Bl num dep (G.aq U3) (.inr h) hd;unfold eX at U3 HC⊢;go_enter func349,ntmps349;go_wp2_with fail;refine Pw HC.out ?_;rintro e w4 ⟨hb,b,h5,h6,rfl⟩;dsimp only;exact⟨rfl,U3.trans (hb.mono U3.size),b,Pr U3.size h5,h6,rfl⟩
def jH(X:List J.DS)(PT:Nat->List Nat)(dep:Nat)(ow kd:Int):Bool:=
 !decide (X.length=24)&&(!decide (5<dep)&&(if ow<0 then !J.dF kd else match X[ow.toNat]? with|some x=>J.holds x (PT ow.toNat) kd|none=>false))
theorem uz(num:Int)(dep:Nat)(kd ow:Int)(nme:())(ns:U.State)(G:ax w0 w db sv pv ov mb tm X SP O PT nm D)(hX:X.length<=1000)(hSP:SP.length<=1000)(hO:O.length<=1000)(hPTl:∀i,(PT i).length<=1000)(VD:nm<=1000)
  (Wj:J.aj ns=kd) (hnme:ns.name=nme) (Yq:ns.depth=dep) (hup:ns.up=ow) (hm:ns.aa=[]) (he:ns.enter=[]) (hl:ns.leave=[]) (hd:dep<=O.length) (Vf:nme.size<=1000000) (Xs:(Lit.int .i64 num).wf=true)
  (how:(dep=0/\ow=-1)\/∃(k u:Nat) (hk:k<O.length),dep=k+1/\O[k]=u/\ow=u/\u<X.length) (hPT:PT X.length=[]):
  () 349 #[.agg (eX num dep kd nme),db] w fun e w'=>if jH X PT dep ow kd then e=.returned (.tuple #[])/\MR num dep nme ow ns w0 db mb tm X SP O PT nm D w' else br 3 num w e w':=by
 have U3:Below w w (w.alloc (.cells (eX num dep kd nme) 345)):=(Pq _ _).alloc (Po _) _;have HG:Hid _:=G;have how':ow=-1\/∃u:Nat,ow=u/\u<X.length:=by
  rcases how with⟨_,h⟩|⟨k,u,_,_,_,h,hu⟩
  ·exact .inl h
  ·exact .inr ⟨u,h,hu⟩
 have HAdd:Hid (∀w',Below w w w'->() 352 #[db,.agg (eX num dep kd nme),(ow:Int)] w' fun e w'=>e=.returned (.tuple #[])/\MR num dep nme ow ns w0 db mb tm X SP O PT nm D w'):=
  fun w' hb=>Cr num dep kd ow nme ns (G.aq hb) hX hSP hO hPTl VD Wj hnme Yq hup hm he hl hd Vf Xs how' hPT
 have HHold:Hid (∀w',Below w w w'->() 351 #[db,(ow:Int),(kd:Int)] w' fun e w''=>e=.returned (.bool (if ow<0 then !J.dF kd else match X[ow.toNat]? with|some x=>J.holds x (PT ow.toNat) kd|none=>false))/\Below w'.heap.size w' w''):=by
  intro w' hb
  rcases how' with h|⟨u,h,hu⟩
  ·subst h;rw[PC zac];exact yP kd
  ·subst h;rw[Pu zaa];have e:X[((u:Int)).toNat]?=some X[u]:=by simp[hu]
   rw[e];exact yQ kd u (G.aq hb) hu zaa
 have HOwn:Hid (0<dep->∀w',Below w w w'->() 350 #[db,.agg #[(num:Int),(dep:Int)]] w' fun e w''=>e=.returned (ow:Int)/\Below w'.heap.size w' w''):=by
  intro h0 w' hb
  rcases how with⟨h,_⟩|⟨k,u,hk,h1,h2,h3,_⟩
  ·omega
  ·rw[h3,<- h2];exact wT num dep k (G.aq hb) hk h1 zaa
 have HO0:Hid (dep=0->ow=-1):=by
  intro h0
  rcases how with⟨_,h⟩|⟨k,u,hk,h1,_⟩
  ·exact h
  ·omega
 have Wh:=G.M8;have hdb:=G.dlt;obtain⟨c0,_,_,_,_⟩:=G.cells;rw[Wh]at c0;have HOk:Hid (jH X PT dep ow kd=(!decide (X.length=24)&&(!decide (5<dep)&&(if ow<0 then !J.dF kd else match X[ow.toNat]? with|some x=>J.holds x (PT ow.toNat) kd|none=>false)))):=rfl;generalize hq:(if ow<0 then !J.dF kd else match X[ow.toNat]? with|some x=>J.holds x (PT ow.toNat) kd|none=>false)=hold at *;clear hq how how' Wj hnme Yq hup hm he hl hd hPT hPTl Vf Xs Wh G;have Xo:X.length<=1000:=hX;unfold eX at U3 HAdd⊢;go_enter func349,ntmps349
 go_upto_if 8 with fail
 change Code.wp _ _ _ _ (w.alloc (.cells #[(num:Int),(dep:Int),(kd:Int),nme] 345));obtain⟨W1,Vj⟩:∃y,y=w.alloc (.cells #[(num:Int),(dep:Int),(kd:Int),nme] 345):=⟨_,rfl⟩;obtain⟨B,hB⟩:∃B,B=w.heap.size:=⟨_,rfl⟩;have VP:W1.heap[B]?=some (.cells #[(num:Int),(dep:Int),(kd:Int),nme] 345 (0,0)):=by rw[Vj,hB];exact PG _ _
 rw[<- Vj]at U3⊢;have HBl:Hid (B=w.heap.size):=hB;rw[<- hB];clear Vj hB
 go_cut[4] (fun v wx=>v=.int .i64 ow/\Below w w wx/\wx.heap[B]?=some (.cells #[(num:Int),(dep:Int),(kd:Int),nme] 345 (0,0)))
 case first=>
  have b0:W1.cell? B=some ↑(num:Int):=by rw[Pt W1 _ _ _ _ _ VP];rfl
  have b1:W1.cell? (B,1)=some ↑(dep:Int):=by rw[Pt W1 _ _ _ _ _ VP];rfl
  by_cases h0:0<dep
  ·go_wp2_with fail;refine(HOwn.out h0 _ U3).mono ?_;rintro e w2 ⟨rfl,U4⟩;dsimp only;go_wp2;go_meet
   case rel=>exact⟨rfl,U3.trans (U4.mono U3.size),(U4.block _ (Pn.1 VP).1).trans VP⟩
  ·have hd0:dep=0:=zaa;have how0:=HO0.out hd0;go_wp2;go_meet
   case rel=>exact⟨by rw[how0],U3,VP⟩
 case rest=>
  obtain⟨rfl,Vy,hbx2⟩:=hcut;obtain⟨W2,hW⟩:∃y:World,y=wc:=⟨wc,rfl⟩;subst hW;clear U3 VP;have b0:W2.cell? B=some ↑(num:Int):=zbO;have b1:W2.cell? (B,1)=some ↑(dep:Int):=zbO;have b2:W2.cell? (B,2)=some ↑(kd:Int):=by rw[Pt W2 _ _ _ _ _ hbx2];rfl
  have b3:W2.cell? (B,3)=some ↑nme:=zbO;have d0:W2.cell? db=some (.slice sv.a X.length sv.c):=(PN (w:=w) (Vy.block db hdb)).trans c0;have VZ:=Vy.size;by_cases Zo:X.length=24
  ·have HF:Hid (jH X PT dep ow kd=false):=by unfold Hid;rw[HOk.out,Qp Zo];rfl
   have h24':((X.length:Int) == 24)=true:=by rw[Zo];rfl
   exact zdh
  ·have h24':((X.length:Int) == 24)=false:=zaf;by_cases h5:5<dep
   ·have HF:Hid (jH X PT dep ow kd=false):=by unfold Hid;rw[HOk.out,Qp h5];simp
    exact zdh
   ·have HF:Hid (jH X PT dep ow kd=hold):=by unfold Hid;rw[HOk.out,Ql Zo,Ql h5];rfl
    clear Zo;go_wp2_with fail;refine(HHold.out _ Vy).mono ?_;rintro e w3 ⟨rfl,VA⟩;have WX:=Vy.trans (VA.mono VZ);have hbx3:=(VA.block _ (Pn.1 hbx2).1).trans hbx2;have a0:w3.cell? B=some ↑(num:Int):=zbf;have a1:w3.cell? (B,1)=some ↑(dep:Int):=zbf;have a2:w3.cell? (B,2)=some ↑(kd:Int):=zbf;have a3:w3.cell? (B,3)=some ↑nme:=zbf;clear b0 b1 b2 b3 d0 VA;cases hold with
    |false=>
     dsimp only;go_wp2_with fail;refine(ba num dep 3 _).mono ?_;rintro e w4 ⟨hb,b,h5,h6,rfl⟩;dsimp only;refine⟨rfl,?_⟩;rw[HF.out];exact⟨WX.trans (hb.mono WX.size),b,Pr WX.size h5,h6,rfl⟩
    |true=>
     dsimp only;go_wp2_with fail;refine(HAdd.out _ WX).mono ?_;rintro e w4 ⟨rfl,hadd⟩;dsimp only;go_wp2;go_end0;exact⟨rfl,hadd⟩
def LpQ(f T j:Nat):Prop:=(f=359/\T=356/\j=5)\/(f=361/\T=357/\j=6)
theorem wV{f T j:Nat}(hq:LpQ f T j)(num:Int)(dep:Nat)(a:Option Addr)(n c db:Nat)(w:World)(post:Ending->World->Prop)
  (HC:Hid (() 357 #[db,.agg #[(num:Int),(dep:Int)],.slice (some (w.heap.size+1,0)) 2 2] (((w.alloc (.cells #[(num:Int),(dep:Int),.slice a n c] T)).drew).alloc (.cells #[(3:Int),(4:Int)] 130)) fun e w4=>(∃ps,e=.panicked ps/\post e w4)\/∃g o,e=.returned (.pointer (some ⟨g,o,none⟩))/\w4.heap[w.heap.size]?=some (.cells #[(num:Int),(dep:Int),.slice a n c] T (0,0))/\Hid (() 360 #[.agg #[(num:Int),(dep:Int),.slice a n c],.pointer (some ⟨g,o+j,none⟩)] w4 fun e w5=>(∃ps,e=.panicked ps/\post e w5)\/e=.returned (.tuple #[])/\post e w5/\w5.heap[w.heap.size]?=some (.cells #[(num:Int),(dep:Int),.slice a n c] T (0,0))))):
  () f #[.agg #[(num:Int),(dep:Int),.slice a n c],db] w post:=by
 have HS:Hid (∀V:World,V.heap[w.heap.size]?=some (.cells #[(num:Int),(dep:Int),.slice a n c] T (0,0))->V.cell? w=some ↑(num:Int)/\V.cell? ⟨w,1,none⟩=some ↑(dep:Int)/\V.cell? ⟨w,2,none⟩=some (.slice a n c)):=fun V h=>by
  refine⟨?_,?_,?_⟩<;>rw[Pt V _ _ _ _ _ h]<;>rfl
 have HN:Hid ((w.alloc (.cells #[(num:Int),(dep:Int),.slice a n c] T)).heap[w.heap.size]?=some (.cells #[(num:Int),(dep:Int),.slice a n c] T (0,0))/\(((w.alloc (.cells #[(num:Int),(dep:Int),.slice a n c] T)).drew).alloc (.cells #[(3:Int),(4:Int)] 130)).heap[w.heap.size]?=some (.cells #[(num:Int),(dep:Int),.slice a n c] T (0,0))):=⟨PG _ _,(QS _ _ _ zad).trans (PG w _)⟩
 rcases hq with⟨rfl,rfl,rfl⟩|⟨rfl,rfl,rfl⟩
 case' inl=>go_enter func359,ntmps359
 case' inr=>go_enter func361,ntmps361
 all_goals
  go_upto_region 1 with fail
  refine PJ (S:=(fun W=>W.cell? w=some ↑(num:Int)/\W.cell? ⟨w,1,none⟩=some ↑(dep:Int)/\W.cell? ⟨w,2,none⟩=some (.slice a n c))) zab (HS.out _ HN.out.1) (fun Pm=>?_);refine tH 0 w rfl Pm ?_;refine tH 1 (.agg #[(num:Int),(dep:Int),.slice a n c]) rfl Pm ?_;refine tH 2 db rfl Pm ?_;refine tH 3 w rfl Pm ?_;refine tH 4 w rfl Pm ?_;refine tH 5 (.agg #[(num:Int),(dep:Int)]) rfl Pm ?_;refine zH 6 rfl fun K hK=>?_;go_simp;refine hK.out _ _ (HS.out _ HN.out.2) (fun Pm=>?_);clear hK K;refine zH 7 rfl fun K hK=>?_;go_simp;refine Pw HC.out ?_;rintro e w4 (⟨ps,rfl,hp⟩|⟨g,o,rfl,WH,hP⟩)
  ·dsimp only;exact⟨rfl,hp⟩
  dsimp only;refine hK.out _ _ (HS.out _ WH) (fun Pm=>?_);clear hK K;refine tH 8 (g,o) rfl Pm ?_
 refine tH 9 (g,o+6) rfl Pm ?_
 rotate_left
 refine tH 9 (g,o+5) rfl Pm ?_
 all_goals
  refine zH 10 rfl fun K hK=>?_;go_simp;refine Pw hP.out ?_;rintro e w5 (⟨ps,rfl,hp⟩|⟨rfl,hp,VU⟩)
  ·dsimp only;exact⟨rfl,hp⟩
  dsimp only;refine hK.out _ _ (HS.out _ VU) (fun Pm=>?_);clear hK K;refine PX zab ?_ _;go_wp2;go_end0;exact hp
theorem DT{num:Int}{w W w':World}{e:Ending}(hb:Below w w W)(h:br 3 num W e w'):∃ps,e=.panicked ps/\br 3 num w e w':=by
 obtain⟨h1,b,h2,h3,rfl⟩:=h;exact⟨_,rfl,hb.trans (h1.mono hb.size),b,Pr hb.size h2,h3,rfl⟩
section
variable {w0 w:World}{db mb nm:Nat}{sv pv ov:U.Sl}{tm:Bool}{X:List J.DS}{SP:List (Int×Int)}{O:List Nat}{PT:Nat->List Nat}{D:DataW Nat}{f T j:Nat}
theorem ug(num:Int)(dep:Nat)(a:Option Addr)(n c:Nat):Below w w (((w.alloc (.cells #[(num:Int),(dep:Int),.slice a n c] T)).drew).alloc (.cells #[(3:Int),(4:Int)] 130)):=((Pq _ _).alloc (Po _) _).drew.alloc zad _
theorem lO(hq:LpQ f T j)(num:Int)(dep:Nat)(a:Option Addr)(n c:Nat)(G:ax w0 w db sv pv ov mb tm X SP O PT nm D)(h:dep=0\/O.length<dep)(hd:dep<=1073741824):
  () f #[.agg #[(num:Int),(dep:Int),.slice a n c],db] w (br 3 num w):=
 wV hq num dep a n c db w _ ((oh num dep _ (G.aq (ug num dep a n c)) h hd).mono fun _ _ h4=>.inl (DT (ug num dep a n c) h4))
theorem uf(hq:LpQ f T j)(num:Int)(dep:Nat)(a:Option Addr)(n c k u g cap:Nat)(G:ax w0 w db ⟨some ⟨g,0,none⟩,X.length,cap⟩ pv ov mb tm X SP O PT nm D)(hk:k<O.length)(hd:dep=k+1)(hO:O.length<=1073741824)(hku:O[k]=u)(hu:u<X.length)(v:U.Sl)(hv:w.cell? (g,u*8+j)=some (.slice v.a v.n v.c))(x':J.DS)
  (HG:∀w4 w5,Below w w w4->Below w4.heap.size (w4.setCell (g,u*8+j) (.slice a n c)) w5->ax w0 w5 db ⟨some ⟨g,0,none⟩,X.length,cap⟩ pv ov mb tm (X.set u x') SP O PT nm D):
  () f #[.agg #[(num:Int),(dep:Int),.slice a n c],db] w fun e w'=>if J.aj X[u].s∈([3,4]:List Int)\/0<v.n then br 3 num w e w' else e=.returned (.tuple #[])/\ax w0 w' db ⟨some ⟨g,0,none⟩,X.length,cap⟩ pv ov mb tm (X.set u x') SP O PT nm D:=by
 obtain⟨_,V5,_⟩:=G.CF;have U3:=ug (w:=w) (T:=T) num dep a n c;have Xj:w.frozen? (g,u*8+j)=false:=RI (aJ G.states (PK _)) _;refine wV hq num dep a n c db w _ ((km num dep k u [3,4] (w.heap.size+1) g cap (G.aq U3) hk hd hO hku hu (by
  have:=PG ((w.alloc (.cells #[(num:Int),(dep:Int),.slice a n c] T)).drew) (.cells #[(3:Int),(4:Int)] 130);simpa using this) zac).mono fun e w4 h4=>?_)
 unfold nu at h4;by_cases hh:J.aj X[u].s∈([3,4]:List Int)
 ·rw[PC hh]at h4;rw[PC (.inl hh)];exact .inl (DT U3 h4)
 rw[Pu hh]at h4;obtain⟨rfl,WH⟩:=h4;have Xm:=U3.trans (WH.mono U3.size);have hs4:=Xm.size;have hbg:=Xm.block g V5;have Vy:w4.heap[w.heap.size]?=some (.cells #[(num:Int),(dep:Int),.slice a n c] T (0,0)):=by
  rw[WH.block w zaf,QS _ _ _ zad];exact PG w _
 have cx:=(PN (a:=⟨g,u*8+j,none⟩) hbg).trans hv;refine .inr ⟨g,u*8,rfl,Vy,?_⟩;by_cases hn:0<v.n
 ·exact(DQ num dep a n c g (u*8+j) v.a v.n v.c cx hn).mono fun e w5 h5=>.inl (by rw[PC (.inr hn)];exact DT Xm h5)
 ·rw[show v.n=0 by omega]at cx;refine(Bq num dep a n c g (u*8+j) v.a v.c cx ((World.frozen?_of_block (a:=⟨g,u*8+j,none⟩) hbg).trans Xj)).mono fun e w5 ⟨e5,VU⟩=>.inr ⟨e5,by rw[Pu (not_or.2 ⟨hh,hn⟩)];exact⟨e5,HG w4 w5 Xm VU⟩,?_⟩;have Vd:w.heap.size<w4.heap.size:=(Pn.1 Vy).1;rw[VU.block w Vd,heap_setCell_other w4 _ _ _ (by show w.heap.size≠g;omega)];exact Vy
end
namespace J
def gC(S:List U.State):Nat->List Nat
 |0=>[]
 |k+1=>(gC S k).take (S.getD k U.st0).depth.toNat++[k]
def opn(S:List U.State):List Nat:=gC S S.length
def Val(S:List U.State):Prop:=∀k,k<S.length->0<=(S.getD k U.st0).depth/\(S.getD k U.st0).depth.toNat<=(gC S k).length
theorem iN{S S':List U.State}:∀k,(∀i,i<k->(S.getD i U.st0).depth=(S'.getD i U.st0).depth)->gC S k=gC S' k
 |0,_=>rfl
 |k+1,h=>by rw[gC,gC,iN k (fun i hi=>h i zaa),h k zaa]
theorem KF{S:List U.State}(hV:Val S)(dn:Nat)(hd:0<dn):∀k,k<=S.length->U.eY S dn k=match (gC S k)[dn-1]? with|some i=>(i:Int)|none=>-1
 |0,_=>by simp[U.eY,gC]
 |k+1,hk=>by
  have ih:=KF hV dn hd k zaa;obtain⟨h0,h1⟩:=hV k zaa;obtain⟨e,he⟩:∃e:Nat,(S.getD k U.st0).depth=e:=⟨(S.getD k U.st0).depth.toNat,zaa⟩;rw[he]at h1;simp only[Int.toNat_natCast]at h1;rw[U.eY,gC,he];simp only[Int.toNat_natCast];have hl:((gC S k).take e).length=e:=by rw[QN];omega
  by_cases h2:(e:Int)=dn-1
  ·rw[PC h2,Qr zaa,hl];have:dn-1-e=0:=zaa;rw[this];rfl
  ·rw[Pu h2];by_cases h3:(e:Int)<dn-1
   ·rw[PC h3,P6 (by rw[PI,hl];simp;omega)]
   ·rw[Pu h3,ih,Qo zaa,Sz,PC zaa]
theorem nr(hV:Val S)(dn:Nat):U.cQ S dn=if dn=0 then -1 else match (opn S)[dn-1]? with|some i=>(i:Int)|none=>-1:=by
 unfold U.cQ;by_cases h:dn=0
 ·subst h;rfl
 ·rw[Pu h,PC zaa,KF hV dn zaa S.length (Po _)];rfl
theorem fk(S:List U.State):∀k,∀i∈gC S k,i<k
 |0,i,h=>by simp[gC]at h
 |k+1,i,h=>by
  rw[gC]at h
  rcases PQ.1 h with h|h
  ·have:=fk S k i (Si h);omega
  ·rw[PB.1 h];omega
theorem kR(S:List U.State):∀k,(gC S k).length<=k
 |0=>by simp[gC]
 |k+1=>by
  have:=kR S k;rw[gC,PI,QN];simp;omega
theorem bE(h:i<S.length):(S++[s]).getD i U.st0=S.getD i U.st0:=by
 rw[PH,PH,Qo h]
theorem dv:(S++[s]).getD S.length U.st0=s:=by
 rw[PH,Qr (Po _)];simp
theorem DG(S:List U.State)(s:U.State):opn (S++[s])=(opn S).take s.depth.toNat++[S.length]:=by
 unfold opn;rw[PI,show S.length+[s].length=S.length+1 from rfl,gC,dv,iN (S':=S) S.length (fun i hi=>by rw[bE hi])]
theorem Ef(hV:Val S)(h0:0<=s.depth)(h1:s.depth.toNat<=(opn S).length):Val (S++[s]):=by
 intro k hk;by_cases h:k<S.length
 ·rw[bE h,iN (S':=S) k (fun i hi=>by rw[bE zaa])];exact hV k h
 ·have e:k=S.length:=by simp at hk;omega
  subst e;rw[dv,iN (S':=S) S.length (fun i hi=>by rw[bE hi])];exact⟨h0,h1⟩
def cT(S:List U.State)(i:Nat):Nat->List Nat
 |0=>[]
 |k+1=>if(S.getD k U.st0).up=i then cT S i k++[k] else cT S i k
def parts(S:List U.State)(i:Nat):List Nat:=cT S i S.length
theorem kx{S S':List U.State}(i:Nat):∀k,(∀j,j<k->(S.getD j U.st0).up=(S'.getD j U.st0).up)->cT S i k=cT S' i k
 |0,_=>rfl
 |k+1,h=>by rw[cT,cT,kx i k (fun j hj=>h j zaa),h k zaa]
theorem zi(S:List U.State)(s:U.State)(i:Nat):parts (S++[s]) i=if(i:Int)=s.up then parts S i++[S.length] else parts S i:=by
 unfold parts;rw[PI,show S.length+[s].length=S.length+1 from rfl,cT,dv,kx (S':=S) i S.length (fun j hj=>by rw[bE hj])];by_cases h:s.up=i
 ·rw[PC h,PC h.symm]
 ·rw[Pu h,Pu (fun e=>h e.symm)]
theorem mX(S:List U.State)(i:Nat):∀k,(cT S i k).length<=k
 |0=>by simp[cT]
 |k+1=>by
  have:=mX S i k;rw[cT];split
  ·rw[PI];simp;omega
  ·omega
theorem pS{S:List U.State}{i:Nat}:∀k,(∀j,j<k->(S.getD j U.st0).up≠i)->cT S i k=[]
 |0,_=>rfl
 |k+1,h=>by rw[cT,Pu (h k zaa),pS k (fun j hj=>h j zaa)]
theorem js{S:List U.State}{i x:Nat}:∀k,x∈cT S i k↔x<k/\(S.getD x U.st0).up=i
 |0=>by simp[cT]
 |k+1=>by
  have ih:=js (S:=S) (i:=i) (x:=x) k;rw[cT];by_cases h:(S.getD k U.st0).up=i
  ·rw[PC h,PQ,ih,PB];constructor
   ·rintro(⟨h1,h2⟩|rfl)
    ·exact⟨zaa,h2⟩
    ·exact⟨zaa,h⟩
   ·rintro⟨h1,h2⟩;by_cases e:x=k
    ·exact .inr e
    ·exact .inl ⟨zaa,h2⟩
  ·rw[Pu h,ih];constructor
   ·exact zfn
   ·rintro⟨h1,h2⟩;have:x≠k:=by rintro rfl;exact h h2
    exact⟨zaa,h2⟩
def gO(s:U.State):Prop:=∃k:Int,0<=k/\k<=4/\s.word=bm k/\s.deep=decide (k=4)
theorem eC(h0:0<=k)(h4:k<=4)(hw:s.word=bm k)(hd:s.deep=decide (k=4)):aj s=k:=by
 have hk:k=0\/k=1\/k=2\/k=3\/k=4:=zaa;unfold aj;rw[hw,hd];exact zc8
theorem jw(h:gO s):(s.word.toList == U.aO)=dF (aj s):=by
 exact zcX
theorem oW(h:gO s):(s.word.toList == U.bK)=decide (aj s=2):=by
 exact zcX
theorem Ch(h:gO s):(s.word.toList == U.aK)=decide (aj s=1):=by
 obtain⟨k,h0,h4,hw,hd⟩:=h;rw[eC h0 h4 hw hd,hw];have hk:k=0\/k=1\/k=2\/k=3\/k=4:=by omega
 exact zc8
theorem lC(h:gO s):0<=aj s/\aj s<=4:=by
 obtain⟨k,h0,h4,hw,hd⟩:=h;rw[eC h0 h4 hw hd];exact⟨h0,h4⟩
structure Inv(S:List U.State)(i:Nat):Prop where
 val:Val S
 words:∀s∈S,gO s
 len:S.length<=24
 up:∀k,k<S.length->-1<=(S.getD k U.st0).up/\(S.getD k U.st0).up<k
 enter:∀s∈S,(0<s.has0↔s.enter≠[])
 leave:∀s∈S,(0<s.has1↔s.leave≠[])
 aa:∀s∈S,s.aa.length<=i
theorem Inv.nil:Inv [] 0:=⟨fun k h=>absurd h zad,fun s h=>absurd h zad,zad,fun k h=>absurd h zad,fun s h=>absurd h zad,fun s h=>absurd h zad,fun s h=>absurd h zad⟩
theorem bp{k:Nat}(h:k<S.length):S.getD k U.st0∈S:=by
 rw[PH,Pp h];exact P7 h
theorem getD_eq{k:Nat}(h:k<S.length):S.getD k U.st0=S[k]:=by
 rw[PH,Pp h];rfl
theorem Fi(hI:Inv S i){k:Nat}(hk:k<(opn S).length):U.cQ S ((k+1:Nat):Int)=((opn S)[k]:Int)/\(opn S)[k]<S.length:=by
 refine⟨?_,fk S S.length _ (P7 hk)⟩;rw[nr hI.val,Pu zaa];rw[show k+1-1=k from rfl,Pp hk]
theorem MK(hI:Inv S i)(h:(opn S).length<d):U.cQ S (d:Int)=-1:=by
 rw[nr hI.val,Pu zaa,P6 zaa]
theorem yW(S:List U.State)(u:Nat):U.mR (S.map U.emb) (u:Int)=(parts S u).isEmpty:=by
 unfold U.mR parts;cases h:(cT S u S.length).isEmpty
 ·have U9:cT S u S.length≠[]:=fun e=>by rw[e]at h;cases h
  obtain⟨x,t,e⟩:=Tm U9;have hx:x∈cT S u S.length:=by rw[e];exact PZ
  obtain⟨h1,h2⟩:=(js S.length).1 hx;rw[TE];exact⟨U.emb (S.getD x U.st0),QT (bp h1),by
   show ¬(!decide ((S.getD x U.st0).up=(u:Int)))=true;rw[Qp h2];simp⟩
 ·have hn:cT S u S.length=[]:=Ri.1 h;rw[RG];intro y hy;obtain⟨s,hs,rfl⟩:=P0.1 hy;obtain⟨k,hk,rfl⟩:=RL hs;have:¬k∈cT S u S.length:=by rw[hn];simp
  rw[js,getD_eq hk]at this;simp only[U.emb,Bool.not_eq_true'];exact Ql fun e=>this ⟨hk,e⟩
theorem KD(h:u<S.length):(U.vM (S.map U.emb) (u:Int)).s=S[u]:=by
 unfold U.vM;rw[QR,PH,Pv,Pp h];rfl
theorem Lx(hI:Inv S i){ns:U.State}(hns:gO ns){dep:Nat}(Yq:ns.depth=dep){X:List DS}(hX:X.map (·.s)=S)(how:ns.up=-1\/∃u:Nat,ns.up=u/\u<S.length):
  U.fits (S.map U.emb) (U.emb ns)=(!decide (X.length=24)&&(!decide (5<dep)&&(if ns.up<0 then !dF (aj ns) else match X[ns.up.toNat]? with|some x=>holds x (parts S ns.up.toNat) (aj ns)|none=>false))):=by
 have Xl:X.length=S.length:=zaH;unfold U.fits;rw[PE,Xl];have hw:=jw hns;have hf:=oW hns;simp only[U.emb];simp only[Yq,hw,hf];by_cases Zo:S.length=24
 ·simp[Zo]
 ·by_cases h5:5<dep
  ·have:(5:Int)<(dep:Int):=zaa;simp[Zo,h5,this]
  ·have h5':¬(5:Int)<(dep:Int):=zaa
   rcases how with hu|⟨u,hu,hul⟩
   ·simp only[hu];simp[Zo,h5,h5']
   ·simp only[hu];have hneg:¬(u:Int)<0:=zaa;have hxu:X[u]?=some (X[u]'(zaa)):=Pp _;have WE:(X[u]'(zaa)).s=S[u]:=by
     have:=congrArg (fun l=>l[u]?) hX;simp only[List.getElem?_map,hxu,List.getElem?_eq_getElem hul,Option.map_some]at this;exact Qh this
    have hwu:=hI.words S[u] (P7 hul);have hU:=KD hul;rw[hU,jw hwu,oW hwu,Ch hwu];have hn:=yW S u;rw[hn];simp only[Int.toNat_natCast,hxu];unfold holds;rw[WE];obtain⟨r0,r4⟩:=lC hwu;simp only[Zo,h5,h5',hneg,decide_false,Bool.false_or,Bool.false_and,Bool.not_false,Bool.true_and,if_false,Bool.false_eq_true];have hk:aj S[u]=0\/aj S[u]=1\/aj S[u]=2\/aj S[u]=3\/aj S[u]=4:=zaa
    rcases hk with e|e|e|e|e<;>rw[e]<;>simp[dF]
theorem zF{n:()}(up d:Int):U.jF (aC num (.state k n)) up d=⟨bm k,n,decide (k=4),up,d,num,[],[],[],0,0⟩:=rfl
theorem uC{n:()}:U.aR S i (aC num (.state k n)) (d:Int)=if 0<d/\U.cQ S d<0 then none else if U.fits (S.map U.emb) (U.emb ⟨bm k,n,decide (k=4),U.cQ S d,d,num,[],[],[],0,0⟩) then some (S++[⟨bm k,n,decide (k=4),U.cQ S d,d,num,[],[],[],0,0⟩]) else none:=by
 unfold U.aR;rw[PC (show(aC num (.state k n)).kind=115 from rfl),zF];have e:(0<(d:Int)/\U.cQ S ↑d<0)=(0<d/\U.cQ S ↑d<0):=zad;simp only[e]
theorem xr{j:Nat}(hI:Inv S j){ev t:()}{af:Bool}{dl:Int}:U.aR S i (aC num (.move ev af dl t A)) (d:Int) =
  if d=0 then none else match (opn S)[d-1]? with
   |none=>none
   |some u=>if aj (S.getD u U.st0)∈([2,3,4]:List Int) then none else some (U.fu S u fun p=>{ p with aa:=p.aa++[⟨ev,t,af,dl,A,num⟩] }):=by
 unfold U.aR;rw[Pu (show ¬(aC num (.move ev af dl t A)).kind=115 by simp[aC]),PC (show(aC num (.move ev af dl t A)).kind=109 from rfl),nr hI.val];by_cases h0:d=0
 ·subst h0;simp
 ·rw[Pu h0,Pu h0];cases e:(opn S)[d-1]? with
  |none=>simp
  |some u=>
   have hu:u<S.length:=fk S S.length u (PD e);have hw:=hI.words _ (bp hu);simp only[Int.toNat_natCast];rw[Pu zaa,Pu zaa,jw hw,oW hw];obtain⟨r0,r4⟩:=lC hw;have hk:aj (S.getD u U.st0)=0\/aj (S.getD u U.st0)=1\/aj (S.getD u U.st0)=2\/aj (S.getD u U.st0)=3\/aj (S.getD u U.st0)=4:=zaa
   rcases hk with e|e|e|e|e<;>rw[e]<;>simp[dF,aC]
theorem uA{j:Nat}(hI:Inv S j):U.aR S i (aC num (.enter A)) (d:Int) =
  if d=0 then none else match (opn S)[d-1]? with
   |none=>none
   |some u=>if aj (S.getD u U.st0)∈([3,4]:List Int) then none else if(S.getD u U.st0).enter≠[] then none else some (U.fu S u fun p=>{ p with has0:=i+1,enter:=A }):=by
 unfold U.aR;rw[Pu (show ¬(aC num (.enter A)).kind=115 by simp[aC]),Pu (show ¬(aC num (.enter A)).kind=109 by simp[aC]),PC (show(aC num (.enter A)).kind=101 from rfl),nr hI.val];by_cases h0:d=0
 ·subst h0;simp
 ·rw[Pu h0,Pu h0];cases e:(opn S)[d-1]? with
  |none=>simp
  |some u=>
   have hu:u<S.length:=fk S S.length u (PD e);have hw:=hI.words _ (bp hu);have he:=hI.enter _ (bp hu);exact zc0
theorem uB{j:Nat}(hI:Inv S j):U.aR S i (aC num (.leave A)) (d:Int) =
  if d=0 then none else match (opn S)[d-1]? with
   |none=>none
   |some u=>if aj (S.getD u U.st0)∈([3,4]:List Int) then none else if(S.getD u U.st0).leave≠[] then none else some (U.fu S u fun p=>{ p with has1:=i+1,leave:=A }):=by
 unfold U.aR;rw[Pu (show ¬(aC num (.leave A)).kind=115 by simp[aC]),Pu (show ¬(aC num (.leave A)).kind=109 by simp[aC]),Pu (show ¬(aC num (.leave A)).kind=101 by simp[aC]),PC (show(aC num (.leave A)).kind=108 from rfl),nr hI.val];by_cases h0:d=0
 ·subst h0;simp
 ·rw[Pu h0,Pu h0];cases e:(opn S)[d-1]? with
  |none=>simp
  |some u=>
   have hu:u<S.length:=fk S S.length u (PD e);have hw:=hI.words _ (bp hu);have he:=hI.leave _ (bp hu);exact zc0
def aV(S:List U.State):Nat->DataW Nat
 |0=>.map []
 |k+1=>if Go.Maps.has (aV S k) (.string (S.getD k U.st0).name.data.toList) then aV S k else(aV S k).put (.string (S.getD k U.st0).name.data.toList) (.lit (.int .i64 (S.getD k U.st0).line))
def dZ(S:List U.State):List (Int×Int):=S.map fun s=>(s.line,s.depth)
def bU(S:List U.State):Bool:=S.any fun s=>s.aa.any (·.after)
structure mj(S S':List U.State):Prop where
 len:S'.length=S.length
 same:∀k,(S'.getD k U.st0).word=(S.getD k U.st0).word/\(S'.getD k U.st0).name=(S.getD k U.st0).name/\(S'.getD k U.st0).deep=(S.getD k U.st0).deep/\(S'.getD k U.st0).up=(S.getD k U.st0).up/\(S'.getD k U.st0).depth=(S.getD k U.st0).depth/\(S'.getD k U.st0).line=(S.getD k U.st0).line
theorem mj.OQ(h:mj S S')(k:Nat):gC S' k=gC S k:=iN k (fun i _=>(h.same i).2.2.2.2.1)
theorem mj.opn(h:mj S S'):opn S'=opn S:=by unfold J.opn;rw[h.len];exact h.OQ _
theorem mj.parts(h:mj S S')(i:Nat):parts S' i=parts S i:=by unfold J.parts;rw[h.len];exact kx i _ (fun j _=>(h.same j).2.2.2.1)
theorem mj.first{S S':List U.State}(h:mj S S'):∀k,aV S' k=aV S k
 |0=>rfl
 |k+1=>by rw[aV,aV,h.first k,(h.same k).2.1,(h.same k).2.2.2.2.2]
theorem mj.jK(h:mj S S'):dZ S'=dZ S:=by
 unfold dZ;apply List.ext_getElem
 ·simp[h.len]
 ·intro k h1 h2;simp only[List.length_map]at h1 h2;have:=h.same k;rw[getD_eq h1,getD_eq h2]at this;simp only[List.getElem_map];rw[this.2.2.2.2.1,this.2.2.2.2.2]
theorem wy(h:s'.word=(S.getD u U.st0).word/\s'.name=(S.getD u U.st0).name/\s'.deep=(S.getD u U.st0).deep/\s'.up=(S.getD u U.st0).up/\s'.depth=(S.getD u U.st0).depth/\s'.line=(S.getD u U.st0).line):mj S (S.set u s'):=by
 refine⟨PO,fun k=>?_⟩;by_cases e:u=k
 ·subst e;by_cases hu:u<S.length
  ·have:(S.set u s').getD u U.st0=s':=by
    rw[PH,RN];simp[hu]
   rw[this];exact h
  ·rw[SL zaa];exact⟨rfl,rfl,rfl,rfl,rfl,rfl⟩
 ·have:(S.set u s').getD k U.st0=S.getD k U.st0:=by
   rw[PH,RN,Pu e,PH]
  rw[this];exact⟨rfl,rfl,rfl,rfl,rfl,rfl⟩
theorem LD(hI:Inv S i)(hu:u<S.length)(h:s'.word=(S.getD u U.st0).word/\s'.name=(S.getD u U.st0).name/\s'.deep=(S.getD u U.st0).deep/\s'.up=(S.getD u U.st0).up/\s'.depth=(S.getD u U.st0).depth/\s'.line=(S.getD u U.st0).line)
  (h0:0<s'.has0↔s'.enter≠[]) (h1:0<s'.has1↔s'.leave≠[]) (hm:s'.aa.length<=i+1):Inv (S.set u s') (i+1):=by
 have H:=wy h;refine⟨fun k hk=>?_,fun s hs=>?_,by rw[PO];exact hI.len,fun k hk=>?_,fun s hs=>?_,fun s hs=>?_,fun s hs=>?_⟩
 ·rw[PO]at hk;rw[(H.same k).2.2.2.2.1,H.OQ];exact hI.val k hk
 ·rcases Qa hs with h'|h'
  ·exact hI.words s h'
  ·obtain⟨k,r0,r4,hw,hd⟩:=hI.words _ (bp hu);rw[h'];exact⟨k,r0,r4,h.1.trans hw,h.2.2.1.trans hd⟩
 ·rw[PO]at hk;rw[(H.same k).2.2.2.1];exact hI.up k hk
 ·rcases Qa hs with h'|h'
  ·exact hI.enter s h'
  ·rw[h'];exact h0
 ·rcases Qa hs with h'|h'
  ·exact hI.leave s h'
  ·rw[h'];exact h1
 ·rcases Qa hs with h'|h'
  ·have:=hI.aa s h';omega
  ·rw[h'];exact hm
theorem C3(hI:Inv S i)(hl:S.length≠24)(hw:gO s)(h0:0<=s.depth)(h1:s.depth.toNat<=(opn S).length)(hu0: -1<=s.up)(hu:s.up<S.length)(he:s.enter=[])(Yp:s.leave=[])(hm:s.aa=[])(hh0:s.has0=0)(hh1:s.has1=0):Inv (S++[s]) (i+1):=by
 have:=hI.len;refine⟨Ef hI.val h0 h1,fun x hx=>?_,zaf,fun k hk=>?_,fun x hx=>?_,fun x hx=>?_,fun x hx=>?_⟩
 ·rcases PQ.1 hx with h|h
  ·exact hI.words x h
  ·rw[PB.1 h];exact hw
 ·by_cases h:k<S.length
  ·rw[bE h];exact hI.up k h
  ·have e:k=S.length:=by simp at hk;omega
   subst e;rw[dv];exact⟨hu0,hu⟩
 ·rcases PQ.1 hx with h|h
  ·exact hI.enter x h
  ·rw[PB.1 h,he,hh0];simp
 ·rcases PQ.1 hx with h|h
  ·exact hI.leave x h
  ·rw[PB.1 h,Yp,hh1];simp
 ·rcases PQ.1 hx with h|h
  ·have:=hI.aa x h;omega
  ·rw[PB.1 h,hm];simp
theorem yw(S:List U.State)(s:U.State):aV (S++[s]) (S++[s]).length=if Go.Maps.has (aV S S.length) (.string s.name.data.toList) then aV S S.length else(aV S S.length).put (.string s.name.data.toList) (.lit (.int .i64 s.line)):=by
 have hc:∀k,k<=S.length->aV (S++[s]) k=aV S k:=by
  intro k
  induction k with
  |zero=>intro _;rfl
  |succ k ih=>intro hk;rw[aV,aV,ih zaa,bE zaa]
 rw[PI,show S.length+[s].length=S.length+1 from rfl,aV,hc S.length (Po _),dv]
theorem zz(S:List U.State)(s:U.State):dZ (S++[s])=dZ S++[(s.line,s.depth)]:=by simp[dZ]
theorem zE(S:List U.State)(s:U.State)(h:s.aa=[]):bU (S++[s])=bU S:=by simp[bU,h]
theorem nj(h:s'.aa=(S.getD u U.st0).aa):bU (S.set u s')=bU S:=by
 unfold bU;by_cases hu:u<S.length
 ·have e:(S.set u s').map (·.aa)=S.map (·.aa):=by
   rw[RB];apply RA
   intro i;rw[RN];split
   ·rename_i e;subst e;simp[hu,h]
   ·rfl
  have f:∀T:List U.State,(T.any fun s=>s.aa.any (·.after))=(T.map (·.aa)).any (fun m=>m.any (·.after)):=by
   intro T;rw[UN];rfl
  rw[f,f,e]
 ·rw[SL zaa]
theorem uM{m:U.Move}(hu:u<S.length)(h:s'.aa=(S.getD u U.st0).aa++[m]):bU (S.set u s')=(bU S||m.after):=by
 cases ha:(bU S||m.after)
 ·rw[Bool.or_eq_false_iff]at ha;show List.any _ _=false;rw[Ti];intro x hx
  rcases Qa hx with h'|h'
  ·have:=ha.1;unfold bU at this;rw[Ti]at this;exact this x h'
  ·rw[h',h,Tb];have h1:=ha.1;unfold bU at h1;rw[Ti]at h1;have:=h1 _ (bp hu);simp[ha.2]at this⊢;exact this
 ·show List.any _ _=true;rw[RV];rw[Ub]at ha
  rcases ha with ha|ha
  ·unfold bU at ha;rw[RV]at ha;obtain⟨x,hx,hxa⟩:=ha;obtain⟨k,hk,rfl⟩:=RL hx;by_cases e:u=k
   ·subst e;refine⟨s',TL hu _,?_⟩;rw[h,Tb,getD_eq hu,hxa];rfl
   ·refine⟨S[k],?_,hxa⟩;have:(S.set u s')[k]'(by rw[PO];exact hk)=S[k]:=by rw[QO,Pu e]
    rw[<- this];exact P7 _
  ·refine⟨s',TL hu _,?_⟩;rw[h,Tb];simp[ha]
