import Derived.Test.YtegmoddppafkfaaGreatDoorM00
import Derived.Test.YtegmoddppafkfaaGreatDoorM05
set_option maxRecDepth 100000
set_option maxHeartbeats 8000000
namespace Go.Proofs.YtegmoddppafkfaaGreatDoor
section
open Go.RowKit Go.Proofs Go.Shelf
namespace Pg
def Good (ps:List PS):Prop:=∀ (i:Nat) (p:PS),ps[i]?=some p→p.parts<2 ^ ps.length∧p.inside<2 ^ ps.length∧p.around<2 ^ ps.length∧p.wth<2 ^ ps.length
theorem sI {s N i:Nat} (h:s<2 ^ N) (hi:i∈els s):i<N:=by
 obtain ⟨_,ht⟩:=lK.1 hi
 by_cases hn:i<N
 ·exact hn
 ·rw [Nat.testBit_lt_two_pow (Nat.lt_of_lt_of_le h (Nat.pow_le_pow_right (by decide) (by omega)))] at ht
  cases ht
def iS (ps:List PS) (F:ByteArray→Option Nat) (i:Nat) (m:MV):PM:=if m.dest.toList.isEmpty then ⟨i,0,m.aj,.nil⟩ else match F m.dest with
 | some d=>⟨i,dom ps i d,m.aj,jd ps i d⟩
 | none=>⟨i,0,m.aj,.nil⟩
def mR (ps:List PS) (F:ByteArray→Option Nat) (T:ByteArray→Option (List (Option PM))) (i:Nat) (m:MV):ByteArray→Option (List (Option PM)):=fun e=>if e=m.event then
  some (let row:=(T m.event).getD (List.replicate ps.length none);match row[i]? with | some none=>row.set i (some (iS ps F i m)) | _=>row)
 else T e
def cU (ps:List PS) (F:ByteArray→Option Nat) (T:ByteArray→Option (List (Option PM))) (i:Nat) (V:List MV):Nat→ByteArray→Option (List (Option PM))
 | 0=>T
 | j+1=>match V[j]? with | some m=>mR ps F (cU ps F T i V j) i m | none=>cU ps F T i V j
def dW (ps:List PS) (F:ByteArray→Option Nat) (V:Nat→List MV):Nat→ByteArray→Option (List (Option PM))
 | 0=>fun _=>none
 | k+1=>cU ps F (dW ps F V k) k (V k) (V k).length
def EW (w w':World) (pb b mb:Nat) (ps:List PS) (X:List MS) (V:Nat→List MV):Prop:=(∃ n M L,Tab w' pb b ps.length mb n (fun ev=>(dW ps (dr X X.length) V X.length ev).map fun row=>kK ps row ps.length) M L∧E6 w' pb b ps ps.length (dW ps (dr X X.length) V X.length) M L)∧Mo (· = mb) w w'
end Pg
theorem sd (w:World) (pb b cap:Nat) (ps:List Pg.PS) (hv:Value) (fin mb cb cg cc:Nat) (X:List Pg.MS) (V:Nat→List Pg.MV) (hB:Pg.di w pb b ps.length cap hv fin (.map (some mb))) (hP:Pg.dh w pb b cap ps) (hnh:∀ (i:Nat) (p:Pg.PS),ps[i]?=some p→Pg.isH p.kind=false) (hb:b<w.heap.size) (hC:Pg.ChM w cb cg cc X V) (hX:X.length=ps.length) (hnm:∀ (i:Nat) (x:Pg.MS),X[i]?=some x→x.name.size≤1000000)
  (hM:Pg.dO w ps.length mb 0 (fun _=>none)) (hbk:b≠mb) (hGd:Pg.Good ps) (hg:1<w.heap.size) (hT:TabAt 1 Lib.deBruijn32tab w) (hgk:∃ c t fz,w.heap[1]?=some (.cells c t fz))
  (how:∀ (i:Nat) (p:Pg.PS),ps[i]?=some p→p.owner = -1∨∃ o:Nat,p.owner=o∧o<i) (hV:∀ i,(V i).length≤30000) (hev:∀ i,∀ m∈V i,m.event.size≤1000000∧m.dest.size≤1000000∧(m.dest.toList.isEmpty=false→∃ d,Pg.dr X X.length m.dest=some d∧d<ps.length)) :
  Calls Tryz.prog 118 #[.pointer (some ⟨pb,0,none⟩),.pointer (some ⟨cb,0,none⟩)] w fun e w'=>e = .returned (.tuple #[])∧Pg.EW w w' pb b mb ps X V:=by
 have HNH:Hid _:=hnh
 clear hnh
 have hlen:=hP.len
 have hpb:pb<w.heap.size:=(Array.getElem?_eq_some_iff.1 hB).1
 have hBi:=(Below.refl w.heap.size w).alloc (Nat.le_refl _) (.map #[] 0)
 have hI0:=Pg.gV.made w
 have hcb:(w.alloc (.map #[] 0)).cell? ⟨cb,0,none⟩=some (.slice (some ⟨cg,0,none⟩) X.length cc):=by
  rw [cell_of_row _ _ _ _ _ _ (hC.below hBi).ptr];rfl
 have hmm:=@run_makeMap Tryz.prog
 have HB:Hid (Pg.di w pb b ps.length cap hv fin (.map (some mb))):=hB
 have HP:Hid _:=hP
 have HC:Hid _:=hC
 have HX:Hid (X.length=ps.length):=hX
 have hXl:X.length≤24:=by omega
 clear hX
 have HM:Hid (Pg.dO w ps.length mb 0 (fun _=>none)):=hM
 have HNM:Hid _:=hnm
 have HBK:Hid _:=hbk
 have HGD:Hid (Pg.Good ps):=hGd
 have HT:Hid (TabAt 1 Lib.deBruijn32tab w):=hT
 have HGK:Hid _:=hgk
 have HV:Hid _:=hV
 have HOW:Hid _:=how
 clear how
 have HEV:Hid _:=hev
 clear hB hP hC hM hnm hbk hGd hT hgk hV hev
 go_enter Tryz.func118,Tryz.ntmps118
 go_wp2
 go_loopg [20] X.length (fun q i wr=>∃ k:Nat,q=X.length-k∧k≤X.length∧i = .int .i64 k∧Pg.gV wr w.heap.size k (Pg.dr X k)∧Below w.heap.size w wr)
 case atStart=>exact ⟨0,rfl,Nat.zero_le _,rfl,hI0,hBi⟩
 case round =>
  obtain ⟨k,hq,hk,rfl,hI,hbw⟩:=hrel
  clear hcb hmm
  by_cases hkn:k<X.length
  ·obtain ⟨x,hx⟩:∃ x,X[k]?=some x:=⟨_,List.getElem?_eq_getElem hkn⟩
   have hCk:=HC.out.below hbw
   have hrng:=hCk.at' k x hx
   have hnmx:=HNM.out k x hx
   have HN:Hid (Pg.dr X (k+1)=fun nm=>if nm=x.name then some k else Pg.dr X k nm):=by unfold Hid;rw [Pg.dr,hx]
   obtain ⟨kind,name,depth,owner,vp,ve,vl,vm⟩:=x
   dsimp only at hnmx HN
   unfold Pg.MS.arr at hrng
   dsimp only at hrng
   have hB5:=(Below.refl wr.heap.size wr).alloc (Nat.le_refl _) (.cells #[.int .i64 kind,.string name,.int .i64 depth,.int .i64 owner,.slice vp.a vp.n vp.c,.slice ve.a ve.n ve.c,.slice vl.a vl.n vl.c,.slice vm.a vm.n vm.c] 242)
   have hI5:=hI.mo (P:=fun _=>False) (aq hB5) (fun h=>h)
   obtain ⟨w6,hput,hI6,hg6⟩:=hI5.put (by omega) hnmx k (by omega)
   have hbw6:Below w.heap.size w w6:=(hbw.trans (hB5.mono hbw.size)).grown hg6 (by have:=hbw.size;simp;omega) (fun j e=>by cases e;exact Nat.le_refl _)
   have HI6:Hid _:=hI6
   clear hB5 hI5 hI hg6 hI6 hCk hbw hx
   go_wp2_with (first
    | (refine wpList_load_mid rfl 242 (.tmp 23) rfl cg (k*8) rfl _ _ hrng Tryz.underlying242 rfl Tryz.dT ?_)
    | (refine aG rfl 242 (.tmp 6) (.tmp 24) rfl 242 _ _ rfl rfl Tryz.dT rfl rfl ?_)
    | fail)
   go_roundg (X.length-(k+1))
   case measure=>omega
   case rel=>exact ⟨k+1,rfl,by omega,by go_num,by rw [HN.out];exact HI6.out,hbw6⟩
  ·obtain rfl:k=X.length:=by omega
   obtain ⟨F,hF⟩:∃ F,Pg.dr X X.length=F:=⟨_,rfl⟩
   rw [hF] at hI
   have HF:Hid _:=hF
   have HI1:Hid (Pg.gV wr w.heap.size X.length F):=hI
   have HB1:Hid _:=hbw
   have hs1:=hbw.size
   have hcb1:wr.cell? ⟨cb,0,none⟩=some (.slice (some ⟨cg,0,none⟩) X.length cc):=by
    rw [cell_of_row _ _ _ _ _ _ (HC.out.below hbw).ptr];rfl
   have hT0:Pg.Tab wr pb b ps.length mb 0 (Pg.dW ps F V 0) (fun _=>none) (fun _=>[]):=⟨HM.out.mo (P:=fun _=>False) (aq hbw) (fun h=>h),fun _ _=>rfl,fun _ _ h=>(by cases h),fun _ _ _ h=>(by cases h)⟩
   have HT0:Hid _:=hT0
   clear hI hbw hF hT0 hk hq hkn
   go_wp2
   obtain ⟨w1,hw1⟩:∃ W,wr=W:=⟨_,rfl⟩
   rw [hw1] at HT0 HI1 HB1 hs1 hcb1 ⊢
   go_loopg [35] X.length (fun q i wr=>∃ k:Nat,q=X.length-k∧k≤X.length∧i = .int .i64 k∧∃ n M L,Pg.Tab wr pb b ps.length mb n (Pg.dW ps F V k) M L∧n≤k*30000∧(∀ ev g,M ev=some g→w1.heap.size≤g)∧Mo (· = mb) w1 wr)
   case atStart=>exact ⟨0,rfl,Nat.zero_le _,rfl,0,_,_,HT0.out,Nat.zero_le _,fun _ _ h=>(by cases h),Mo.refl _ _⟩
   case round =>
    obtain ⟨k,hq1,hk,rfl,n,M,L,hTab,hn,hlo,hmo⟩:=hrel
    obtain ⟨es,clock,hmbk⟩:=(HM.out.mo (P:=fun _=>False) (aq HB1.out) (fun h=>h)).kind
    have HKD:Hid (∀ V2,Mo (· = mb) w1 V2→Kd (fun _=>False) w1 V2):=fun V2 h=>gE h (fun j c t f hj hc=>by rw [hj,hmbk] at hc;cases hc)
    have HC1:Hid (Pg.ChM w1 cb cg cc X V):=HC.out.below HB1.out
    by_cases hkn:k<X.length
    ·obtain ⟨x,hx⟩:∃ x,X[k]?=some x:=⟨_,List.getElem?_eq_getElem hkn⟩
     have hCk:=HC1.out.kd (HKD.out _ hmo) (fun _ _ h=>h)
     have hrng:=hCk.at' k x hx
     have HMV:Hid _:=HC1.out.mv k x hx
     obtain ⟨kind,name,depth,owner,vp,ve,vl,⟨va,vn,vc⟩⟩:=x
     obtain rfl:vn=(V k).length:=HMV.out.1
     unfold Pg.MS.arr at hrng
     dsimp only at hrng
     have hB8:=(Below.refl wr.heap.size wr).alloc (Nat.le_refl _) (.cells #[.int .i64 kind,.string name,.int .i64 depth,.int .i64 owner,.slice vp.a vp.n vp.c,.slice ve.a ve.n ve.c,.slice vl.a vl.n vl.c,.slice va (V k).length vc] 242)
     have hTab8:=hTab.below hB8
     have hmo8:=hmo.trans (aq hB8)
     have HT8:Hid (Pg.Tab (wr.alloc (.cells #[.int .i64 kind,.string name,.int .i64 depth,.int .i64 owner,.slice vp.a vp.n vp.c,.slice ve.a ve.n ve.c,.slice vl.a vl.n vl.c,.slice va (V k).length vc] 242)) pb b ps.length mb n (Pg.dW ps F V k) M L):=hTab8
     have HM8:Hid (Mo (· = mb) w1 (wr.alloc (.cells #[.int .i64 kind,.string name,.int .i64 depth,.int .i64 owner,.slice vp.a vp.n vp.c,.slice ve.a ve.n ve.c,.slice vl.a vl.n vl.c,.slice va (V k).length vc] 242))):=hmo8
     have hs8:=hmo8.size
     have hVk:=HV.out k
     clear hTab hmo hB8 hTab8 hmo8 hCk hx
     go_wp2_with (first
      | (refine wpList_load_mid rfl 242 (.tmp 38) rfl cg (k*8) rfl _ _ hrng Tryz.underlying242 rfl Tryz.dT ?_)
      | (refine aG rfl 242 (.tmp 8) (.tmp 39) rfl 242 _ _ rfl rfl Tryz.dT rfl rfl ?_)
      | fail)
     obtain ⟨W8,hW8⟩:∃ W,wr.alloc (.cells #[.int .i64 kind,.string name,.int .i64 depth,.int .i64 owner,.slice vp.a vp.n vp.c,.slice ve.a ve.n ve.c,.slice vl.a vl.n vl.c,.slice va (V k).length vc] 242)=W:=⟨_,rfl⟩
     rw [hW8] at HT8 HM8 hs8 ⊢
     clear hrng
     go_loopg [43] (V k).length (fun q j wr2=>∃ j':Nat,q=(V k).length-j'∧j'≤(V k).length∧j = .int .i64 j'∧∃ n M L,Pg.Tab wr2 pb b ps.length mb n (Pg.cU ps F (Pg.dW ps F V k) k (V k) j') M L∧n≤k*30000+j'∧(∀ ev g,M ev=some g→w1.heap.size≤g)∧Mo (· = mb) w1 wr2)
     case atStart=>exact ⟨0,rfl,Nat.zero_le _,rfl,n,M,L,HT8.out,by omega,hlo,HM8.out⟩
     case round =>
      clear hlo hn HT8 HM8
      obtain ⟨j,hq,hj,rfl,n,M,L,hTab,hn,hlo,hmo⟩:=hrel
      by_cases hjn:j<(V k).length
      ·obtain ⟨m,hm⟩:∃ m,(V k)[j]?=some m:=⟨_,List.getElem?_eq_getElem hjn⟩
       have hmem:=List.mem_of_getElem? hm
       obtain ⟨he1,he2,he3⟩:=HEV.out k m hmem
       have HN:Hid (Pg.cU ps F (Pg.dW ps F V k) k (V k) (j+1)=Pg.mR ps F (Pg.cU ps F (Pg.dW ps F V k) k (V k) j) k m):=by unfold Hid;rw [Pg.cU,hm]
       obtain ⟨gm,c,fz,rfl,hcap,hgk,hrg⟩:∃ gm c fz,va=some ⟨gm,0,none⟩∧(V k).length≤vc∧w1.heap[gm]?=some (.cells c 295 fz)∧∀ (j:Nat) (m:Pg.MV),(V k)[j]?=some m→w1.rangeAt gm (j*5) m.cells:=by
        rcases HMV.out.2 with h | h
        ·omega
        ·exact h
       have hrng:wr.rangeAt gm (j*5) m.cells:=fun i v hv=>(World.cell?_of_block (a:=⟨gm,_,none⟩) ((HKD.out _ hmo).ay _ _ _ _ hgk (fun h=>h))).trans (hrg j m hm i v hv)
       obtain ⟨T,hTd⟩:∃ T,Pg.cU ps F (Pg.dW ps F V k) k (V k) j=T:=⟨_,rfl⟩
       rw [hTd] at hTab HN
       obtain ⟨event,after,delay,dest,aj⟩:=m
       dsimp only at he1 he2 he3
       unfold Pg.MV.cells at hrng
       dsimp only at hrng
       clear hrg hTd hm
       have hB5:=(Below.refl wr.heap.size wr).alloc (Nat.le_refl _) (.cells #[.string event,.bool after,.int .u64 delay,.string dest,.slice aj.a aj.n aj.c] 295)
       have hTab5:=hTab.below hB5
       have hmo5:=hmo.trans (aq hB5)
       have s5:=heap_alloc_new wr (.cells #[.string event,.bool after,.int .u64 delay,.string dest,.slice aj.a aj.n aj.c] 295)
       have hB15:Pg.di (wr.alloc (.cells #[.string event,.bool after,.int .u64 delay,.string dest,.slice aj.a aj.n aj.c] 295)) pb b ps.length cap hv fin (.map (some mb)):=by
        have h1:=(HB1.out.block pb hpb).trans HB.out
        exact ((HKD.out _ hmo5).ay _ _ _ _ h1 (fun h=>h)).trans h1
       have hrow:=Ep (wr.alloc (.cells #[.string event,.bool after,.int .u64 delay,.string dest,.slice aj.a aj.n aj.c] 295)) pb b cap ps.length hv fin mb n M event hB15 hTab5.map (by have:k*30000≤24*30000:=Nat.mul_le_mul_right _ (by omega);omega) he1 hlen
       obtain ⟨W5,hW5⟩:∃ W,wr.alloc (.cells #[.string event,.bool after,.int .u64 delay,.string dest,.slice aj.a aj.n aj.c] 295)=W:=⟨_,rfl⟩
       rw [hW5] at hTab5 hmo5 s5 hrow
       have HT5:Hid (Pg.Tab W5 pb b ps.length mb n T M L):=hTab5
       clear hTab hmo hB5 hB15 hTab5
       have hst:∀ {ops:Array Oper} {rest:List Oper} {op:Oper} {a:Act} {Q:Exit→Act→World→Prop},op.guard=none→op.op = .store 295 (.tmp 10) (.tmp 46)→a.eval (.tmp 10) = .pointer (some ⟨wr.heap.size,0,none⟩)→a.eval (.tmp 46) = .agg #[.string event,.bool after,.int .u64 delay,.string dest,.slice aj.a aj.n aj.c]→wpList Tryz.prog ops Q rest (a.put op.dst undef) W5→wpList Tryz.prog ops Q (op::rest) a (wr.alloc (.cells #[.string ⟨#[]⟩,.bool false,.int .u64 0,.string ⟨#[]⟩,.slice none 0 0] 295)):=fun h1 h2 h3 h4 h5=>aG h1 295 (.tmp 10) (.tmp 46) h2 295 _ #[.string event,.bool after,.int .u64 delay,.string dest,.slice aj.a aj.n aj.c] h3 h4 Tryz.rC rfl rfl (by rw [hW5];exact h5)
       have m0:W5.cell? ⟨wr.heap.size,0,none⟩=some (.string event):=by rw [cell_of_row _ _ _ _ _ _ s5];rfl
       clear hW5
       go_upto_region 13 with (first
        | (refine wpList_load_mid rfl 295 (.tmp 45) rfl gm (j*5) rfl _ _ hrng Tryz.underlying295 rfl Tryz.rC ?_)
        | (refine hst rfl rfl rfl rfl ?_)
        | (go_at_call 160;refine hrow.mono ?_;intro e w6 hRP;obtain ⟨g,M',L',n',rfl,hn',hM',hmo6,hlo6,hTab6⟩:=HT5.out.Gs hRP)
        | fail)
       have hkN:k<ps.length:=by have:=HX.out;omega
       obtain ⟨hR1,hR2,rowP,hTe,hrl,hrel6⟩:=hTab6.row event g hM'
       rw [if_pos rfl] at hTe
       have hTe:(T event).getD (List.replicate ps.length none)=rowP:=Option.some.inj hTe
       obtain ⟨mm,hmm⟩:∃ mm,(L' g)[k]?=some mm:=⟨_,List.getElem?_eq_getElem (by omega)⟩
       have cm:=hR1.cell hmm
       have hrk:=hrel6 k
       rw [hmm] at hrk
       have hmo16:=hmo5.trans hmo6
       have hlo':∀ x y,M' x=some y→w1.heap.size≤y:=fun x y h=>by
        rcases hlo6 x y h with h | h
        ·exact hlo x y h
        ·have:=hmo5.size;omega
       have s6:=((gE (E:=fun _=>False) hmo6 (fun j c t f hj hc=>by
        obtain ⟨es,clock,hz⟩:=HT5.out.map.kind
        rw [hj,hz] at hc;cases hc)).ay _ _ _ _ s5 (fun h=>h)).trans s5
       have HN:Hid (Pg.cU ps F (Pg.dW ps F V k) k (V k) (j+1)=fun e=>if e=event then some (match (generalizing:=false) rowP[k]? with | some none=>rowP.set k (some (Pg.iS ps F k ⟨event,after,delay,dest,aj⟩)) | _=>rowP) else T e):=by
        unfold Hid
        rw [HN.out]
        unfold Pg.mR
        dsimp only
        rw [hTe]
       have HT6:Hid (Pg.Tab w6 pb b ps.length mb n' (fun x=>if x=event then some rowP else T x) M' L'):=by have:=hTab6;rw [hTe] at this;exact this
       have hnB:n'≤k*30000+(j+1):=by omega
       clear hTab6 hTe hrel6 hrow HT5 m0 s5 hmo5 hmo6 hlo6 hlo hrng hst
       cases mm with
       | some q0 =>
        have HN:Hid (Pg.cU ps F (Pg.dW ps F V k) k (V k) (j+1)=fun e=>if e=event then some rowP else T e):=by
         unfold Hid
         rw [HN.out]
         match hz:rowP[k]?,hrk with
         | some (some z),_=>rfl
        dsimp only [Option.map] at cm
        clear hrk hmm
        go_wp2_with fail
        go_roundg ((V k).length-(j+1))
        case measure=>omega
        case rel=>exact ⟨j+1,rfl,by omega,by go_num,n',M',L',by rw [HN.out];exact HT6.out,hnB,hlo',hmo16⟩
       | none =>
        have HN:Hid (Pg.cU ps F (Pg.dW ps F V k) k (V k) (j+1)=fun e=>if e=event then some (rowP.set k (some (Pg.iS ps F k ⟨event,after,delay,dest,aj⟩))) else T e):=by
         unfold Hid
         rw [HN.out]
         match hz:rowP[k]?,hrk with
         | some none,_=>rfl
        dsimp only [Option.map] at cm
        have hgl:=hR1.lt
        have hs6l:=(Array.getElem?_eq_some_iff.1 s6).1
        have hgw:g≠wr.heap.size:=by
         intro e
         rw [← e,show w6.heap[g]?=_ from hR1] at s6
         simp at s6
        have hYs:(w6.setCell ⟨g,k,none⟩ (.pointer (some ⟨w6.heap.size,0,none⟩))).heap.size=w6.heap.size:=by simp
        have hY:=hR1.set k (some w6.heap.size)
        dsimp only [Option.map] at hY
        have hB7:=(Below.refl (w6.setCell ⟨g,k,none⟩ (.pointer (some ⟨w6.heap.size,0,none⟩))).heap.size (w6.setCell ⟨g,k,none⟩ (.pointer (some ⟨w6.heap.size,0,none⟩)))).alloc (Nat.le_refl _) (.cells #[.int .i64 k,.int .u32 0,.slice aj.a aj.n aj.c,.func (.func 161) #[] #[]] 319)
        have m4:w6.cell? ⟨wr.heap.size,4,none⟩=some (.slice aj.a aj.n aj.c):=by rw [cell_of_row _ _ _ _ _ _ s6];rfl
        have m3:((w6.setCell ⟨g,k,none⟩ (.pointer (some ⟨w6.heap.size,0,none⟩))).alloc (.cells #[.int .i64 k,.int .u32 0,.slice aj.a aj.n aj.c,.func (.func 161) #[] #[]] 319)).cell? ⟨wr.heap.size,3,none⟩=some (.string dest):=by
         rw [hB7.cell (p:=⟨wr.heap.size,3,none⟩) (by rw [hYs];exact hs6l),ax (by intro h;injection h with h1 h2;exact hgw h1),cell_of_row _ _ _ _ _ _ s6];rfl
        have hBa:=(Below.refl w6.heap.size w6).alloc (Nat.le_refl _) (.cells #[.int .i64 k,.int .u32 0,.slice aj.a aj.n aj.c,.func (.func 161) #[] #[]] 319)
        have cmA:=(hBa.cell (p:=⟨g,k,none⟩) hgl).trans cm
        have fz:w6.frozen? ⟨g,k,none⟩=false:=hR1.frozen
        have fzA:=(hBa.frozen (p:=⟨g,k,none⟩) hgl).trans fz
        have hR7:Pg.cC ((w6.setCell ⟨g,k,none⟩ (.pointer (some ⟨w6.heap.size,0,none⟩))).alloc (.cells #[.int .i64 k,.int .u32 0,.slice aj.a aj.n aj.c,.func (.func 161) #[] #[]] 319)) g ((L' g).set k (some w6.heap.size)):=(hB7.block g (by rw [hYs];exact hgl)).trans hY
        have hmo7:Mo (· = g) w6 ((w6.setCell ⟨g,k,none⟩ (.pointer (some ⟨w6.heap.size,0,none⟩))).alloc (.cells #[.int .i64 k,.int .u32 0,.slice aj.a aj.n aj.c,.func (.func 161) #[] #[]] 319)):=((Mo.refl (· = g) w6).set ⟨g,k,none⟩ _ rfl).trans (aq hB7)
        have hq7:((w6.setCell ⟨g,k,none⟩ (.pointer (some ⟨w6.heap.size,0,none⟩))).alloc (.cells #[.int .i64 k,.int .u32 0,.slice aj.a aj.n aj.c,.func (.func 161) #[] #[]] 319)).heap[w6.heap.size]?=some (.cells #[.int .i64 k,.int .u32 0,.slice aj.a aj.n aj.c,.func (.func 161) #[] #[]] 319 (0,0)):=by
         have:=heap_alloc_new (w6.setCell ⟨g,k,none⟩ (.pointer (some ⟨w6.heap.size,0,none⟩))) (.cells #[.int .i64 k,.int .u32 0,.slice aj.a aj.n aj.c,.func (.func 161) #[] #[]] 319)
         rwa [hYs] at this
        have hfin:∀ (W9:World) (z:Pg.PM),Mo (· = g) w6 W9→Pg.cC W9 g ((L' g).set k (some w6.heap.size))→Pg.dF W9 pb b w6.heap.size z→z=Pg.iS ps F k ⟨event,after,delay,dest,aj⟩→∃ n M L,Pg.Tab W9 pb b ps.length mb n (Pg.cU ps F (Pg.dW ps F V k) k (V k) (j+1)) M L∧n≤k*30000+(j+1)∧(∀ ev g,M ev=some g→w1.heap.size≤g)∧Mo (· = mb) w1 W9:=fun W9 z hm9 hr9 hz hze=>by
         have hkd9:Kd (fun t=>t=316) w6 W9:=gE hm9 (fun i c t f hi hc=>by rw [hi,show w6.heap[g]?=_ from hR1] at hc;simp at hc;exact hc.2.1.symm)
         have:=HT6.out.set hM' hkN (if_pos rfl) z hkd9 hm9 hr9 hz
         refine ⟨n',M',fun y=>if y=g then (L' g).set k (some w6.heap.size) else L' y,?_,hnB,hlo',hmo16.trans' hm9 (fun i hi e=>by have:=hlo' event g hM';omega)⟩
         rw [HN.out,← hze]
         have e2:(fun y=>if y=event then some (rowP.set k (some z)) else (fun x=>if x=event then some rowP else T x) y)=fun e=>if e=event then some (rowP.set k (some z)) else T e:=by
          funext y
          by_cases hy:y=event
          ·rw [if_pos hy,if_pos hy]
          ·rw [if_neg hy,if_neg hy];exact if_neg hy
         rw [← e2]
         exact this
        clear hrk hmm HT6 hR1 s6 hB7 hBa hY hYs
        go_upto_if 66 with fail
        obtain ⟨W7,hW7⟩:∃ W,((w6.setCell ⟨g,k,none⟩ (.pointer (some ⟨w6.heap.size,0,none⟩))).alloc (.cells #[.int .i64 k,.int .u32 0,.slice aj.a aj.n aj.c,.func (.func 161) #[] #[]] 319))=W:=⟨_,rfl⟩
        rw [hW7] at m3 hR7 hmo7 hq7 ⊢
        have hglo:=hlo' event g hM'
        have hlo6:w1.heap.size≤w6.heap.size:=hmo16.size
        clear hW7 cmA fzA fz m4 cm
        by_cases hde:dest.toList.isEmpty=true
        ·have hdb:(!dest.toList.isEmpty)=false:=by rw [hde];rfl
         rw [hdb]
         have hres:=hfin W7 ⟨k,0,aj,.nil⟩ hmo7 hR7 ⟨_,hq7,rfl⟩ (by unfold Pg.iS;rw [if_pos hde])
         have HRES:Hid _:=hres
         clear hfin hres m3 hR7 hmo7 hq7
         go_wp2_with fail
         go_roundg ((V k).length-(j+1))
         case measure=>omega
         case rel =>
          obtain ⟨n2,M2,L2,r1,r2,r3,r4⟩:=HRES.out
          exact ⟨j+1,rfl,by omega,by go_num,n2,M2,L2,r1,r2,r3,r4⟩
        ·have hde:dest.toList.isEmpty=false:=by simpa using hde
         have hdb:(!dest.toList.isEmpty)=true:=by rw [hde];rfl
         rw [hdb]
         have hde1:(dest.toList == [])=false:=by
          cases hz:dest.toList with
          | nil=>rw [hz] at hde;cases hde
          | cons=>rfl
         obtain ⟨d,hFd,hdN⟩:=he3 hde
         rw [HF.out] at hFd
         obtain ⟨p,hp⟩:∃ p,ps[k]?=some p:=⟨_,List.getElem?_eq_getElem hkN⟩
         obtain ⟨pd,hpd⟩:∃ p,ps[d]?=some p:=⟨_,List.getElem?_eq_getElem hdN⟩
         have hw01:=HB1.out.size
         have hmo17:Mo (· = mb) w1 W7:=hmo16.trans' hmo7 (fun i hi e=>by omega)
         have hmbw:mb<w.heap.size:=HM.out.lt
         obtain ⟨es0,clock0,hmb0⟩:=HM.out.kind
         have hbm:b≠mb:=HBK.out
         have hpm:pb≠mb:=by
          intro e
          have h1:w.heap[pb]?=_:=HB.out
          rw [e,hmb0] at h1;cases h1
         have hgmb:1≠mb:=by
          obtain ⟨c,t,fz,hc⟩:=HGK.out
          intro e
          rw [e,hmb0] at hc;cases hc
         have hP1:=HP.out.below HB1.out hpb hb
         have hP7:Pg.dh W7.drew pb b cap ps:=(hP1.mo hmo17 (by omega) (by omega) hpm hbm).below ((Below.refl W7.heap.size W7).drew) (by have:=hmo17.size;omega) (by have:=hmo17.size;omega)
         have hT7:TabAt 1 Lib.deBruijn32tab W7.drew:=hmo17.kpT (by omega) hgmb (Pg.KpT.of HB1.out hg HT.out)
         have hs7:=hmo17.size
         have hI7:Pg.gV W7.drew w.heap.size X.length F:=HI1.out.mo (j6 hmo17) (by omega)
         have hlook:=hI7.look he2 hFd
         have hgood:=HGD.out
         have hand:∀ {x y:Nat},x<2 ^ ps.length→x&&&y<2 ^ ps.length:=fun h=>Nat.lt_of_le_of_lt Nat.and_le_left h
         have hlead:=BT W7.drew pb b cap ps k d w6.heap.size p pd 0 (.slice aj.a aj.n aj.c) (.func (.func 161) #[] #[]) hp hpd (HNH.out d pd hpd) (fun i hi=>Pg.sI (hand (hgood k p hp).2.2.1) hi) (fun i hi=>Pg.sI (Nat.or_lt_two_pow (hand (hgood d pd hpd).2.2.1) (hgood d pd hpd).2.2.2) hi) (fun i q hq jj hj=>Pg.sI (hgood i q hq).1 hj) hP7 (by show pb<W7.heap.size;omega) (by show b<W7.heap.size;omega) (by omega) (by omega) (by show _<W7.heap.size;omega) (by omega) hT7 hq7
         have hres:∀ (W9:World) (fv':Value),Mo (· = w6.heap.size) W7.drew W9→W9.heap[w6.heap.size]?=some (.cells #[.int .i64 k,.int .u32 (Pg.dom ps k d),.slice aj.a aj.n aj.c,fv'] 319 (0,0))→Pg.pU W9 pb b (Pg.jd ps k d) fv'→_:=fun W9 fv' h1 h2 h3=>hfin W9 ⟨k,Pg.dom ps k d,aj,Pg.jd ps k d⟩ ((j6 hmo7).trans' h1 (fun i hi e=>by omega)) ((h1.block g (show g<W7.heap.size from hR7.lt) (by omega)).trans hR7) ⟨fv',h2,h3⟩ (by unfold Pg.iS;rw [if_neg (by rw [hde];decide)];dsimp only;rw [hFd])
         have HRES:Hid _:=hres
         have cq:W7.cell? ⟨g,k,none⟩=some (.pointer (some ⟨w6.heap.size,0,none⟩)):=hR7.cell (m:=some w6.heap.size) (List.getElem?_set_self (by omega))
         clear hfin hres hgood hand hI7 hT7 hP7 hP1 hR7 hmo7 hq7 he3
         go_upto_region 16 with fail
         refine dS 9 (by kernel_rfl) (by kernel_rfl) ?_
         simp only [List.take_succ_cons,List.take_zero,List.drop_succ_cons,List.drop_zero]
         repeat still_step
         refine wpStill_nil ?_
         go_wp2_with (go_at_call 162;refine hlead.mono ?_;intro e w8 hL8;obtain ⟨rfl,hm8,fv',hq8,hen8⟩:=hL8)
         go_roundg ((V k).length-(j+1))
         case measure=>omega
         case rel =>
          obtain ⟨n2,M2,L2,r1,r2,r3,r4⟩:=HRES.out w8 fv' hm8 hq8 hen8
          exact ⟨j+1,rfl,by omega,by go_num,n2,M2,L2,r1,r2,r3,r4⟩
      ·obtain rfl:j=(V k).length:=by omega
       go_wp2
       go_roundg (X.length-(k+1))
       case measure=>omega
       case rel=>exact ⟨k+1,rfl,by omega,by go_num,n,M,L,hTab,by have:=hVk;rw [Nat.succ_mul];omega,hlo,hmo⟩
    ·obtain rfl:k=X.length:=by omega
     obtain ⟨D,hD,hMD⟩:=hTab.map
     obtain ⟨w2,hw2⟩:∃ W,wr=W:=⟨_,rfl⟩
     rw [hw2] at hTab hmo hD ⊢
     have hs2:=hmo.size
     have hw01:=HB1.out.size
     have hmbw:mb<w.heap.size:=HM.out.lt
     have h3:w2.cell? ⟨pb,3,none⟩=some (.map (some mb)):=by
      have h1:=(HB1.out.block pb hpb).trans HB.out
      rw [cell_of_row _ _ _ _ _ _ (((HKD.out _ hmo).ay _ _ _ _ h1 (fun h=>h)).trans h1)];rfl
     have HTab:Hid (Pg.Tab w2 pb b ps.length mb n (Pg.dW ps F V X.length) M L):=hTab
     have HMD:Hid (∀ ev,match M ev with | none=>Go.Maps.has D (Pg.ky ev)=false | some g=>Go.Maps.has D (Pg.ky ev)=true∧∀ z,D.atKey (Pg.ky ev) z = .lit (.int .i64 g)):=hMD
     have HMO:Hid (Mo (· = mb) w1 w2):=hmo
     clear hTab hMD hmo hkn hq1 hk hn hw2
     go_wp2_with (first
      | (refine wpList_range_own _ rfl (.tmp 82) 256 rfl 9 314 Pg.zX Tryz.underlying256 (Pg.lW ps.length) mb n D rfl hD ?_;intro w3 hrg hg3 hs3)
      | fail)
     simp only [Act.put,List.setIfInBounds_toArray,List.set_cons_succ,List.set_cons_zero]
     have hm3:Mo (fun j=>∃ ev,M ev=some j) w2 w3:=⟨hg3.os,hg3.tape,hg3.output,hg3.size,fun j hj _=>hg3.block j hj (by simp)⟩
     have HR3:Hid (∀ ev g,M ev=some g→g<w2.heap.size∧(L g).length=ps.length):=fun ev g h=>⟨(HTab.out.row ev g h).1.lt,(HTab.out.row ev g h).2.1⟩
     have hr3:∀ ev g,M ev=some g→Pg.cC w3 g (if Go.Maps.has D (Pg.ky ev) then L g else Pg.dR ps (L g) ps.length):=fun ev g h=>by
      have h1:=HMD.out ev
      rw [h] at h1
      rw [if_pos h1.1]
      have h2:=(HTab.out.row ev g h).1
      exact (hg3.block g h2.lt (by simp)).trans h2
     have HRG:Hid (w3.ranges Tryz.prog 9 (Pg.lW ps.length) mb w2.heap.size n D (Go.Maps.has D) (Go.Maps.size D)):=hrg
     have HRR:Hid (∀ ev g,M ev=some g→Pg.cC w3 g (if Go.Maps.has D (Pg.ky ev) then L g else Pg.dR ps (L g) ps.length)):=hr3
     have HM3:Hid (Mo (fun j=>∃ ev,M ev=some j) w2 w3):=hm3
     clear hrg hr3 hm3 hg3 h3 hD
     go_loopg [13] (Go.Maps.size D) (fun q _ wr=>∃ left,wr.ranges Tryz.prog 9 (Pg.lW ps.length) mb w2.heap.size n D left q∧(∀ kl,left kl=true→Go.Maps.has D kl=true)∧(∀ ev g,M ev=some g→Pg.cC wr g (if left (Pg.ky ev) then L g else Pg.dR ps (L g) ps.length))∧Mo (fun j=>∃ ev,M ev=some j) w2 wr)
     case atStart=>exact ⟨_,HRG.out,fun _ h=>h,HRR.out,HM3.out⟩
     case round =>
      obtain ⟨left,hrg,hle,hrows,hmo⟩:=hrel
      have HRG:Hid (wr.ranges Tryz.prog 9 (Pg.lW ps.length) mb w2.heap.size n D left gk):=hrg
      have HRW:Hid (∀ ev g,M ev=some g→Pg.cC wr g (if left (Pg.ky ev) then L g else Pg.dR ps (L g) ps.length)):=hrows
      have HLE:Hid (∀ kl,left kl=true→Go.Maps.has D kl=true):=hle
      have HMW:Hid (Mo (fun j=>∃ ev,M ev=some j) w2 wr):=hmo
      clear hrows hle hmo HRR HM3
      go_wp2_with (first
       | (refine wpList_next_ranges _ rfl (.tmp 83) rfl 9 Pg.zX (Pg.lW ps.length) id id (fun key _ _=>⟨key,rfl⟩) (fun v _ _=>⟨v,rfl⟩) mb w2.heap.size n D left gk rfl hrg ?_ ?_)
       | fail)
      case refine_1 =>
       intro h0 hall
       have HALL:Hid (∀ kl,left kl=false):=hall
       clear hall h0 hrg
       go_wp2
       go_end0
       refine ⟨rfl,?_⟩
       unfold Pg.EW
       rw [HF.out]
       refine ⟨⟨n,M,_,HTab.out.Ft ps ⟨D,HRG.out.owns,HMD.out⟩ HMW.out (fun ev g h => ?_),HTab.out.once ps HMW.out⟩,?_⟩
       ·have:=HRW.out ev g h
        rw [HALL.out,if_neg (by decide)] at this
        exact this
       ·exact (aq HB1.out).trans' (HMO.out.trans' HMW.out (fun i hi he=>by obtain ⟨ev,he⟩:=he;have:=hlo ev i he;omega)) (fun i _ e=>e)
      case refine_2 =>
       intro x c kl y ys w4 cnt' hkey hlk hv hat hrg4 hlt hgr hsz hen
       obtain ⟨s,rfl,rfl⟩:=Pg.BL hkey
       have hMs:=HMD.out s
       cases hms:M s with
       | none =>
        rw [hms] at hMs
        have h1:=HLE.out _ hlk
        rw [show Go.Maps.has D (Pg.ky s)=false from hMs] at h1
        cases h1
       | some g =>
        rw [hms] at hMs
        have hy:y = .lit (.int .i64 g):=(hat (.lit (.int .i64 0))).symm.trans (hMs.2 _)
        rw [hy] at hv
        have hc:=Pg.vK hv
        rw [hc] at hen ⊢
        obtain ⟨hg2,hLl⟩:=HR3.out s g hms
        have hglo:=hlo s g hms
        have hrow4:Pg.cC w4 g (L g):=by
         have h1:=HRW.out s g hms
         rw [hlk,if_pos rfl] at h1
         exact (hgr.block g (by have:=HMW.out.size;omega) (by simp;omega)).trans h1
        obtain ⟨es0,clock0,hmb0⟩:=HM.out.kind
        have hbm:b≠mb:=HBK.out
        have hpm:pb≠mb:=by
         intro e
         have h1:w.heap[pb]?=_:=HB.out
         rw [e,hmb0] at h1;cases h1
        have hm4:Mo (· = w2.heap.size) wr w4:=⟨hgr.os,hgr.tape,hgr.output,hgr.size,fun j hj hn=>hgr.block j hj (fun e=>hn (by cases e;rfl))⟩
        have hmr:=HMW.out.size
        have hmo14:Mo (· = mb) w1 w4:=(HMO.out.trans' HMW.out (fun i hi he=>by obtain ⟨ev,he⟩:=he;have:=hlo ev i he;omega)).trans' hm4 (fun i hi e=>by omega)
        have hP4:Pg.dh w4 pb b cap ps:=(HP.out.below HB1.out hpb hb).mo hmo14 (by omega) (by omega) hpm hbm
        have hs14:=hmo14.size
        have hho:=mN w4 pb b cap ps g (L g) hLl HOW.out hP4 (by omega) (by omega) (by omega) (by omega) hrow4
        have HNXT:Hid (∀ w5,Pg.cC w5 g (Pg.dR ps (L g) ps.length)→Mo (· = g) w4 w5→∃ left,w5.ranges Tryz.prog 9 (Pg.lW ps.length) mb w2.heap.size n D left cnt'∧(∀ kl,left kl=true→Go.Maps.has D kl=true)∧(∀ ev g,M ev=some g→Pg.cC w5 g (if left (Pg.ky ev) then L g else Pg.dR ps (L g) ps.length))∧Mo (fun j=>∃ ev,M ev=some j) w2 w5):=fun w5 hr5 hm5=>by
         refine ⟨fun z=>left z && !z.sameKey (Pg.ky s),hrg4.kept (row:=some g) ⟨hm5.os,hm5.tape,hm5.output,hm5.size,fun j hj hn=>hm5.block j hj (fun e=>hn (by rw [e]))⟩ (by simp;omega) (by simp;omega),fun kl h=>HLE.out kl (by simp at h;exact h.1),fun ev g' hg' => ?_,?_⟩
         ·by_cases he:ev=s
          ·rw [he] at hg' ⊢
           rw [hms] at hg'
           cases hg'
           rw [if_neg (by show ¬ (left (Pg.ky s) && !(Pg.ky s).sameKey (Pg.ky s))=true;rw [Pg.DT];simp)]
           exact hr5
          ·have hgg:g'≠g:=fun e=>he (HTab.out.inj ev s g (by rw [← e];exact hg') hms)
           have h1:=HRW.out ev g' hg'
           have h2:=(HR3.out ev g' hg').1
           have h3:=(hm5.block g' (by omega) hgg).trans (hgr.block g' (by omega) (by simp;omega))
           by_cases hl:left (Pg.ky ev)=true
           ·rw [if_pos hl] at h1
            rw [if_pos (by show (left (Pg.ky ev) && !(Pg.ky ev).sameKey (Pg.ky s))=true;rw [Pg.yK he,hl];rfl)]
            exact h3.trans h1
           ·rw [if_neg hl] at h1
            rw [if_neg (by show ¬ (left (Pg.ky ev) && !(Pg.ky ev).sameKey (Pg.ky s))=true;rw [Pg.yK he];simpa using hl)]
            exact h3.trans h1
         ·exact (HMW.out.trans' hm4 (fun i hi e=>by omega)).trans' hm5 (fun i _ e=>⟨s,by rw [e];exact hms⟩)
        clear hrg hrg4 hkey hv hat hc hP4 hrow4 hmo14 hm4 hgr hMs hy
        go_wp2_with (go_at_call 163;refine hho.mono ?_;intro e w5 h5;obtain ⟨rfl,hr5,hm5⟩:=h5)
        go_roundg cnt'
        case measure=>exact hlt
        case rel=>exact HNXT.out w5 hr5 hm5
namespace Pg
def zPS:PS:={ kind:=0,name:=⟨#[]⟩,done:=⟨#[]⟩,owner:=0,parts:=0,inside:=0,around:=0,wth:=0,enter:=⟨none,0,0⟩,leave:=⟨none,0,0⟩ }
def bu (X:List MS):Nat→List PS
 | 0=>List.replicate X.length zPS
 | k+1=>match X[k]? with | some x=>nI (bu X k) k x | none=>bu X k
def bQ (X:List MS):Nat→Nat
 | 0=>0
 | k+1=>match X[k]? with | some x=>ou (bQ X k) k x | none=>bQ X k
def dV (ps:List PS):Nat→List PS
 | 0=>ps
 | k+1=>bL (dV ps k) (ps.length-1-k)
theorem dE (X:List MS):∀ k,(bu X k).length=X.length
 | 0=>by simp [bu]
 | k+1=>by
  rw [bu]
  split
  ·rw [A9,dE X k]
  ·exact dE X k
theorem tO (ps:List PS) (i:Nat):(bL ps i).length=ps.length:=by
 unfold bL
 split
 ·rfl
 ·split
  ·simp
  ·split <;> simp
theorem ng (ps:List PS):∀ k,(dV ps k).length=ps.length
 | 0=>rfl
 | k+1=>by rw [dV,tO,ng ps k]
def cQ (N:Nat) (ps:List PS):Prop:=∀ (i:Nat) (p:PS),ps[i]?=some p→p.parts<2 ^ N∧p.inside<2 ^ N∧p.around<2 ^ N∧p.wth<2 ^ N
theorem cQ.sms {N:Nat} {ps:List PS} (h:cQ N ps) (hN:N≤24):Sms ps:=fun i p hi=>by
 have h2:2 ^ N≤2 ^ 24:=Nat.pow_le_pow_right (by decide) hN
 obtain ⟨a,b,c,d⟩:=h i p hi
 exact ⟨by omega,by omega,by omega,by omega⟩
theorem cQ.set {N:Nat} {ps:List PS} (h:cQ N ps) (i:Nat) (p:PS) (hp:p.parts<2 ^ N∧p.inside<2 ^ N∧p.around<2 ^ N∧p.wth<2 ^ N):cQ N (ps.set i p):=fun j q hq=>by
 by_cases e:i=j
 ·subst e
  have hl:i<ps.length:=by have:=(List.getElem?_eq_some_iff.1 hq).1;simpa using this
  rw [List.getElem?_set_self hl] at hq
  cases hq
  exact hp
 ·rw [List.getElem?_set_ne e] at hq
  exact h j q hq
theorem fy {i N:Nat} (h:i<N):2 ^ i<2 ^ N:=Nat.pow_lt_pow_right (by decide) h
theorem dz (N:Nat):0<2 ^ N:=Nat.two_pow_pos N
theorem qD {N:Nat} {ps:List PS} (h:cQ N ps) {i:Nat} (hi:i<N) (x:MS) (ho:x.owner = -1∨∃ o:Nat,x.owner=o∧o<i):cQ N (nI ps i x):=by
 have hz:=dz N
 unfold nI
 split
 ·exact h.set _ _ ⟨hz,hz,hz,hz⟩
 ·rename_i hn
  obtain ⟨o,ho,hoi⟩:∃ o:Nat,x.owner=o∧o<i:=by
   rcases ho with h | h
   ·rw [h] at hn;exact absurd rfl hn
   ·exact h
  split
  ·exact h
  ·rename_i q hq
   obtain ⟨a,b,c,d⟩:=h _ q hq
   have hto:x.owner.toNat=o:=by rw [ho];rfl
   refine cQ.set ?_ _ _ ⟨hz,hz,Nat.or_lt_two_pow c (by rw [hto];exact fy (by omega)),hz⟩
   split
   ·exact h
   ·exact h.set _ _ ⟨Nat.or_lt_two_pow a (fy hi),b,c,d⟩
theorem rX {N:Nat} {ps:List PS} (h:cQ N ps) (i:Nat):ki ps i<2 ^ N:=by
 unfold ki
 split
 ·rename_i p hp;exact (h i p hp).2.2.2
 ·exact dz N
theorem vB {N:Nat} {ps:List PS} (h:cQ N ps):∀ (l:List Nat) (o:Nat),o<2 ^ N→orW ps o l<2 ^ N
 | [],_,ho=>ho
 | k::l,_,ho=>vB h l _ (Nat.or_lt_two_pow ho (rX h k))
theorem ku {N:Nat} {ps:List PS} (h:cQ N ps) {i:Nat} (hi:i<N):cQ N (bL ps i):=by
 unfold bL
 split
 ·exact h
 ·rename_i p hp
  obtain ⟨a,b,c,d⟩:=h i p hp
  have h1:cQ N (ps.set i { p with wth:=mi ps i p }):=h.set _ _ ⟨a,b,c,vB h _ _ (fy hi)⟩
  split
  ·exact h1
  ·split
   ·exact h1
   ·rename_i q hq
    obtain ⟨a',b',c',d'⟩:=h _ q hq
    exact h1.set _ _ ⟨a',Nat.or_lt_two_pow b' (Nat.or_lt_two_pow b (fy hi)),c',d'⟩
theorem kH (X:List MS) {N:Nat} (hN:X.length≤N):∀ k,k≤N→bQ X k<2 ^ N
 | 0,_=>dz N
 | k+1,hk=>by
  rw [bQ]
  have ih:=kH X hN k (by omega)
  split
  ·unfold ou
   split
   ·exact Nat.or_lt_two_pow ih (fy (by omega))
   ·exact ih
  ·exact ih
structure Ord (X:List MS) (k:Nat) (ps:List PS):Prop where
 own:∀ (i:Nat) (p:PS) (x:MS),i<k→ps[i]?=some p→X[i]?=some x→p.owner=x.owner∧p.kind=x.kind
 part:∀ (i:Nat) (p:PS),ps[i]?=some p→∀ j∈els p.parts,i<j∧j<k
theorem Fl {a i j:Nat} (h:j∈els (a|||2 ^ i)):j∈els a∨j=i:=by
 obtain ⟨h1,h2⟩:=lK.1 h
 rw [Nat.testBit_or] at h2
 by_cases e:j=i
 ·exact .inr e
 ·rw [Nat.testBit_two_pow_of_ne (fun x=>e x.symm),Bool.or_false] at h2
  exact .inl (lK.2 ⟨h1,h2⟩)
theorem tZ {X:List MS} {k:Nat} {ps:List PS} (h:Ord X k ps) (hl:k<ps.length) {x:MS} (hx:X[k]?=some x) (ho:x.owner = -1∨∃ o:Nat,x.owner=o∧o<k):Ord X (k+1) (nI ps k x):=by
 have hz:∀ j,j ∉ els 0:=fun j hj=>by rw [fG] at hj;cases hj
 have hset:∀ (qs:List PS) (ar:Nat),qs.length=ps.length→(∀ (i:Nat) (p:PS) (y:MS),i<k→qs[i]?=some p→X[i]?=some y→p.owner=y.owner∧p.kind=y.kind)→(∀ (i:Nat) (p:PS),qs[i]?=some p→∀ j∈els p.parts,i<j∧j<k+1)→Ord X (k+1) (qs.set k (B1 x ar)):=fun qs ar hql h1 h2=>by
  refine ⟨fun i p y hi hp hy => ?_,fun i p hp j hj => ?_⟩
  ·by_cases e:k=i
   ·subst e
    rw [List.getElem?_set_self (by omega)] at hp
    rw [hx] at hy
    cases hp;cases hy
    exact ⟨rfl,rfl⟩
   ·rw [List.getElem?_set_ne e] at hp
    exact h1 i p y (by omega) hp hy
  ·by_cases e:k=i
   ·subst e
    rw [List.getElem?_set_self (by omega)] at hp
    cases hp
    exact absurd hj (hz j)
   ·rw [List.getElem?_set_ne e] at hp
    exact h2 i p hp j hj
 have hpp:∀ (i:Nat) (p:PS),ps[i]?=some p→∀ j∈els p.parts,i<j∧j<k+1:=fun i p hp j hj=>by have:=h.part i p hp j hj;omega
 unfold nI
 split
 ·exact hset ps 0 rfl (fun i p y hi hp hy=>h.own i p y hi hp hy) hpp
 ·rename_i hn
  obtain ⟨o,ho,hoi⟩:∃ o:Nat,x.owner=o∧o<k:=by
   rcases ho with h | h
   ·rw [h] at hn;exact absurd rfl hn
   ·exact h
  have hto:x.owner.toNat=o:=by rw [ho];rfl
  rw [hto]
  split
  ·rename_i hq
   rw [List.getElem?_eq_getElem (by omega)] at hq
   cases hq
  ·rename_i q hq
   split
   ·exact hset ps _ rfl (fun i p y hi hp hy=>h.own i p y hi hp hy) hpp
   ·refine hset _ _ (by simp) (fun i p y hi hp hy => ?_) (fun i p hp j hj => ?_)
    ·by_cases e:o=i
     ·subst e
      rw [List.getElem?_set_self (by omega)] at hp
      cases hp
      exact h.own o q y hi hq hy
     ·rw [List.getElem?_set_ne e] at hp
      exact h.own i p y hi hp hy
    ·by_cases e:o=i
     ·subst e
      rw [List.getElem?_set_self (by omega)] at hp
      cases hp
      rcases Fl hj with h1 | h1
      ·have:=h.part o q hq j h1;omega
      ·omega
     ·rw [List.getElem?_set_ne e] at hp
      exact hpp i p hp j hj
theorem mj {X:List MS} {k i:Nat} {ps:List PS} (h:Ord X k ps):Ord X k (bL ps i):=by
 have hset:∀ (qs:List PS),Ord X k qs→∀ (j:Nat) (p p':PS),qs[j]?=some p→p'.owner=p.owner→p'.kind=p.kind→p'.parts=p.parts→Ord X k (qs.set j p'):=fun qs hq j p p' hp e1 e2 e3=>by
  have hjl:=(List.getElem?_eq_some_iff.1 hp).1
  refine ⟨fun a q y ha hqa hy => ?_,fun a q hqa b hb => ?_⟩
  ·by_cases e:j=a
   ·subst e
    rw [List.getElem?_set_self hjl] at hqa
    cases hqa
    rw [e1,e2]
    exact hq.own j p y ha hp hy
   ·rw [List.getElem?_set_ne e] at hqa
    exact hq.own a q y ha hqa hy
  ·by_cases e:j=a
   ·subst e
    rw [List.getElem?_set_self hjl] at hqa
    cases hqa
    rw [e3] at hb
    exact hq.part j p hp b hb
   ·rw [List.getElem?_set_ne e] at hqa
    exact hq.part a q hqa b hb
 unfold bL
 split
 ·exact h
 ·rename_i p hp
  have h1:=hset ps h i p { p with wth:=mi ps i p } hp rfl rfl rfl
  split
  ·exact h1
  ·split
   ·exact h1
   ·rename_i q hq
    by_cases e:i=p.owner.toNat
    ·rw [← e] at hq ⊢
     rw [hp] at hq
     cases hq
     rw [List.set_set]
     exact hset ps h i p _ hp rfl rfl rfl
    ·exact hset _ h1 _ q _ (by rw [List.getElem?_set_ne e];exact hq) rfl rfl rfl
end Pg
end
end Go.Proofs.YtegmoddppafkfaaGreatDoor
