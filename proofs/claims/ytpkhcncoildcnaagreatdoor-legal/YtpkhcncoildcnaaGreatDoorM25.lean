import Derived.Test.YtpkhcncoildcnaaGreatDoorM24
set_option maxRecDepth 100000
set_option maxHeartbeats 8000000
namespace Go.Proofs.YtpkhcncoildcnaaGreatDoor
variable {zp:Prop}
theorem zdM(h:zp:=by
 go_wp2
 go_round
 case rel=>exact⟨c+1,c+1,R',zaa,zag,zag,HN.out _ _ (by rw[XD.out];exact HJ.out.2.2.2.1) HJ.out.2.2.2.2⟩
 case measure=>simp[intOf];omega):zp:=h
theorem zey(h:zp:=by
 go_wp2;go_meet
 case rel=>exact⟨by rw[HX.out],by rw[HX.out];exact he,rfl⟩):zp:=h
theorem zeB(h:zp:=by
 exact⟨none,.inl ⟨zaa,rfl⟩,.inl rfl,fun⟨_,z,_⟩=>by cases z⟩):zp:=h
theorem zeV(h:zp:=by
 rintro e w' ⟨l,k,rfl,hA⟩;exact⟨l,k,rfl,hJ.next hA.out⟩):zp:=h
theorem zfm(h:zp:=by
 clear hf;dsimp only;go_wp2;go_ret3;exact HR.out):zp:=h
theorem zfn(h:zp:=by
 go_wp2;go_meet
 case rel=>rw[HU.out,HQ.out];rfl):zp:=h
theorem zfp(h:zp:=by
 go_wp2;go_meet
 case rel=>exact⟨_,rfl,HX⟩):zp:=h
theorem zbw(h:zp:=by simpa using Yo):zp:=h
open Tryz
variable {s t x:()}{f m k i:Nat}{c K:Int}{A L:List ()}{j:Option Nat}{W:World}{sl:U.Sl}{l:Value}
section
open Go.RowKit Go.Proofs Go.Shelf
open Go.PlainAid (bt get_bt bt_nonneg bt_le bt_end)
namespace U
theorem Hv(hf:f<=m):s.extract f m++s.extract m (m+1)=s.extract f (m+1):=by
 apply ByteArray.ext
 rw[ByteArray.data_append,QE,QE,QE,Array.extract_append_extract,R7 hf,Nat.max_eq_right (Nat.le_succ m)]
theorem B4(e:bO s c m=A++[s.extract f m])(hf:f<=m)(h:¬bt s m=c):bO s c (m+1)=A++[s.extract f (m+1)]:=by
 rw[B2 h,e,<- Hv hf];simp
theorem B1(e:bO s c m=A++[s.extract f m])(h:bt s m=c):bO s c (m+1)=(A++[s.extract f m])++[s.extract (m+1) (m+1)]:=by
 rw[xH h,e]
 congr 2
 apply ByteArray.ext
 simp
theorem My{a:Nat}(h:k+a<t.size):bt (t.extract k t.size) a=bt t (k+a):=by
 unfold bt;rw[dif_pos zae,dif_pos h];simp[ByteArray.getElem_extract]
theorem xG{s:()}{c:Int}{A:List ()}{x:()}{m:Nat}(e:bO s c m=A++[x]):∀j,∃B,B≠[]/\bO s c (m+j)=A++B
 |0=>⟨[x],zad,e⟩
 |j+1=>by
  obtain⟨B,hB,e⟩:=xG e j;have hl:0<B.length:=Qc.2 hB;by_cases h:bt s (m+j)=c
  ·exact⟨B++[ByteArray.empty],zad,by rw[<- Nat.add_assoc,xH h,e,List.append_assoc]⟩
  ·refine⟨B.set (B.length-1) ((A++B)[(A++B).length-1]?.getD ByteArray.empty++s.extract (m+j) (m+j+1)),by simpa using hB,?_⟩;rw[<- PJ,B2 h,e,Rv _ _ (by rw[OM];omega)]
   congr 2
   rw[OM];omega
end U
namespace F
theorem Kk{w n:()}(hA:A=[w,n])(hm:m<=t.size)(e:U.bO t 32 m=A++[x]):2<=(U.cut t 32).length/\U.at' (U.cut t 32) 0=w/\U.at' (U.cut t 32) 1=n:=by
 obtain⟨B,_,e⟩:=U.xG e (t.size-m);unfold U.cut;rw[show t.size=m+(t.size-m) by omega,e,hA];exact⟨zad,rfl,rfl⟩
theorem Kj{w:()}(hm:m<=t.size)(e:U.bO t 32 m=[w]++[x]):2<=(U.cut t 32).length/\U.at' (U.cut t 32) 0=w:=by
 obtain⟨B,hB,e⟩:=U.xG e (t.size-m);unfold U.cut;rw[show t.size=m+(t.size-m) by omega,e];have:=Qc.2 hB;exact⟨zae,rfl⟩
def rwC(x:Rw):List Value:=[x.word,x.name,(x.depth:Int),(x.up:Int)]
theorem AT(R:List Rw)(t:()):(ew R t).length<=R.length+1:=by
 unfold ew;split<;>simp
def RwJ(s:())(w:World)(c f:Nat)(sv:Value)(W:World)(R:List Rw):Prop:=f<=c/\R.length<=c/\(∃A,U.bO s 10 c=A++[s.extract f c]/\R=A.foldl ew [])/\W.ownsRow w 46 4 sv R.length (R.flatMap rwC)/\Below w w W
end F
theorem KC:(Tryz.prog.info? 46).map (fun i=>(i.zero,i.size,i.bytes))=some (some (.agg #[.string ⟨#[]⟩,.string ⟨#[]⟩,(0:Int),(0:Int)]),4,48):=zab
theorem Jh(s:())(w:World)(hs:s.size<=1048576):
  () 7 #[s] w fun e w'=>∃sv,e=.returned sv/\Below w w w'/\∃R,R=((U.cut s 10).take ((U.cut s 10).length-1)).foldl F.ew []/\w'.ownsRow w 46 4 sv R.length (R.flatMap F.rwC):=by
 have hb:=get_bt s;obtain⟨i0,hi,Ue,Ub,Uf⟩:=PZ KC;have HJ0:Hid (F.RwJ s w 0 0 (.slice none 0 0) w []):=⟨Ow _,Ow _,⟨[],by show[ByteArray.empty]=[s.extract 0 0];congr 1;apply ByteArray.ext;simp,rfl⟩,Pt ..,Oy _ _⟩;go_enter func7,ntmps7;go_wp2
 go_loopw[3,4,5,6,7,8,9,10,11,12,13] (fun o f i _l _d _k _w _n _j _r _q wr=>∃(c g:Nat) (R:List F.Rw),c<=s.size/\i=.int .i64 c/\f=.int .i64 g/\Hid (F.RwJ s w c g o wr R)) (fun _ _ i _ _ _ _ _ _ _ _ _=>s.size-(intOf i).toNat)
 case atStart=>exact⟨0,0,[],OL _,rfl,rfl,HJ0⟩
 case round=>
  clear HJ0;obtain⟨c,f,R,hc,rfl,rfl,HJ⟩:=hrel;obtain⟨hfc,hRc,_⟩:=id HJ.out;by_cases TX:c<s.size
  ·by_cases h10:bt s c=10
   ·have h10':(bt s c == 10)=true:=by simpa using h10
    obtain⟨l,hl⟩:∃l,s.extract f c=l:=⟨_,rfl⟩;have TV:l.size<=1048576:=by rw[<- hl];simp;omega
    obtain⟨oa,oc,rfl,hoc⟩:∃oa oc,u3=.slice oa R.length oc/\R.length<=oc:=by
     rcases HJ.out.2.2.2.1.2 with⟨h0,h1⟩|⟨g,cap,cur,h0,_,_,h3,_⟩
     ·exact⟨none,0,by rw[h0,h1],zaa⟩
     ·exact⟨_,cap,h0,h3⟩
    have HN:Hid (∀sv' W',W'.ownsRow w 46 4 sv' (F.ew R l).length ((F.ew R l).flatMap F.rwC)->Below w w W'->F.RwJ s w (c+1) (c+1) sv' W' (F.ew R l)):=fun sv' W' h1 h2=>by
     obtain⟨_,_,⟨A,a1,a2⟩,a3,a4⟩:=HJ.out;exact⟨Ow _,Ox (F.AT R l) zaa,⟨A++[l],by rw[U.B1 a1 h10,hl],by rw[a2,Px];rfl⟩,h1,h2⟩
    have UE:=get_bt l
    go_upto_block 2 with fail
    go_cut[7] (fun d V=>d=.int .i64 (U.aY l:Nat)/\U.aY l<=l.size/\V=wr)
    case first=>
     go_wp2_with fail
     go_loopw[7] (fun d V=>∃e:Nat,e<=l.size/\d=.int .i64 e/\V=wr/\Hid (U.aY l=U.eL l (l.size-e) e)) (fun d _=>l.size-(intOf d).toNat)
     case atStart=>exact⟨0,OL _,rfl,rfl,rfl⟩
     case round=>
      obtain⟨e,he,rfl,rfl,HE⟩:=hrel;by_cases hel:e<l.size
      ·by_cases Yo:bt l e=32
       ·have h32':(bt l e == 32)=true:=zbw;go_wp2
        go_round
        case rel=>exact⟨e+1,zaa,zag,by first|trivial|rfl,U.zy hel HE.out Yo⟩
        case measure=>simp[intOf];omega
       ·have h32':(bt l e == 32)=false:=zbw;have HX:Hid _:=U.zz hel HE.out Yo;exact zey
      ·obtain rfl:e=l.size:=zaa;have HX:Hid (U.aY l=l.size):=by unfold Hid;rw[HE.out,Ri];rfl
       exact zey
    case rest=>
     obtain⟨rfl,U5,rfl⟩:=hcut;obtain⟨t,ht⟩:∃t,l.extract (U.aY l) l.size=t:=⟨_,rfl⟩;have HT:Hid (U.rest l=t):=ht;have hts:t.size<=1048576:=by rw[<- ht];simp;omega
     have HRS:Hid (F.ew R l=if 2<=(U.cut t 32).length/\F.stW (U.at' (U.cut t 32) 0)=true then R++[⟨U.at' (U.cut t 32) 0,U.at' (U.cut t 32) 1,(U.aY l:Int),F.upR R (U.aY l) R.length⟩] else R):=by unfold Hid F.ew;rw[HT.out]
     generalize F.ew R l=R' at *;generalize U.aY l=d at *;have Zu:=get_bt t;clear UE
     go_upto_block 4 with fail
     go_cut[8] (fun k V=>∃m:Nat,m<=t.size/\k=.int .i64 m/\Hid (V=wc/\U.bO t 32 m=[]++[t.extract 0 m]/\(m=t.size\/(m<t.size/\bt t m=32))))
     case first=>
      go_wp2_with fail
      go_loopw[8] (fun k V=>∃m:Nat,m<=t.size/\k=.int .i64 m/\Hid (V=wc/\U.bO t 32 m=[]++[t.extract 0 m])) (fun k _=>t.size-(intOf k).toNat)
      case atStart=>exact⟨0,OL _,rfl,rfl,by show[ByteArray.empty]=[t.extract 0 0];congr 1;apply ByteArray.ext;simp⟩
      case round=>
       obtain⟨m,hm,rfl,HM⟩:=hrel;by_cases Vd:m<t.size
       ·by_cases Yo:bt t m=32
        ·have h32':(bt t m == 32)=true:=zbw;go_wp2;go_meet
         case rel=>exact⟨m,zaa,rfl,HM.out.1,HM.out.2,.inr ⟨Vd,Yo⟩⟩
        ·have h32':(bt t m == 32)=false:=zbw;go_wp2
         go_round
         case rel=>exact⟨m+1,zaa,zag,HM.out.1,U.B4 HM.out.2 (OL _) Yo⟩
         case measure=>simp[intOf];omega
       ·obtain rfl:m=t.size:=zaa;go_wp2;go_meet
        case rel=>exact⟨t.size,zaa,rfl,HM.out.1,HM.out.2,.inl rfl⟩
     case rest=>
      obtain⟨m,hm,rfl,HM⟩:=hcut;obtain⟨hV,hM,hE⟩:=HM.out;subst hV;by_cases hmt:m=t.size
      ·subst hmt;have XD:Hid (R'=R):=by
        have:U.cut t 32=[t.extract 0 t.size]:=hM;unfold Hid;rw[HRS.out,OB (by rw[this];simp)]
       clear hE hM;exact zdM
      ·have hmt':((m:Int) == (t.size:Int))=false:=by rw[P5];omega
       have Yo:=(hE.resolve_left hmt).2;obtain⟨wd,hwd⟩:∃wd,t.extract 0 m=wd:=⟨_,rfl⟩;have HW:Hid (U.bO t 32 (m+1)=[wd]++[t.extract (m+1) (m+1)]):=by
        unfold Hid;rw[U.B1 hM Yo,hwd];rfl
       have Y0:Hid _:=F.Kj zaa HW.out;clear hM hE HM
       go_upto_region 18 with fail
       go_cut[77] (fun b V=>b=.bool (!F.stW wd)/\Hid (V=wc))
       case first=>
        have HS:Hid (F.stW wd=(wd.toList == [115,116,97,116,101]||(wd.toList == [112,97,114,97,108,108,101,108]||(wd.toList == [102,105,110,97,108]||wd.toList == [104,105,115,116,111,114,121])))):=rfl;generalize F.stW wd=sw at *;cases q1:(wd.toList == [115,116,97,116,101])
        case' false=>cases q2:(wd.toList == [112,97,114,97,108,108,101,108])
        case' false.false=>cases q3:(wd.toList == [102,105,110,97,108])
        case' false.false.false=>cases q4:(wd.toList == [104,105,115,116,111,114,121])
        all_goals
         go_wp2;go_meet
         case rel=>exact⟨by rw[HS.out,q1];(try rw[q2]);(try rw[q3]);(try rw[q4]);rfl,rfl⟩
       case rest=>
        obtain⟨rfl,hV⟩:=hcut;have hV:=hV.out;subst hV;cases hsw:F.stW wd with
        |false=>
         have XD:Hid (R'=R):=by
          unfold Hid;rw[HRS.out,Y0.out.2,hsw,OB zad]
         clear hsw;exact zdM
        |true=>
         obtain⟨n0,Xt⟩:∃n0,t.extract (m+1) t.size=n0:=⟨_,rfl⟩;have hn0s:n0.size=t.size-(m+1):=by rw[<- Xt];simp
         have hbn:=get_bt n0;have HBN:Hid (∀a,a<n0.size->bt n0 a=bt t (m+1+a)):=fun a ha=>by
          rw[<- Xt];exact U.My zaa
         go_upto_block 6 with fail
         go_cut[10,11] (fun n _j V=>∃nn:(),n=.string nn/\Hid (V=wc/\2<=(U.cut t 32).length/\U.at' (U.cut t 32) 0=wd/\U.at' (U.cut t 32) 1=nn))
         case first=>
          go_wp2_with fail
          go_loopw[10,11] (fun n j V=>∃a:Nat,a<=n0.size/\n=.string n0/\j=.int .i64 a/\Hid (V=wc/\U.bO t 32 (m+1+a)=[wd]++[t.extract (m+1) (m+1+a)])) (fun _ j _=>n0.size-(intOf j).toNat)
          case atStart=>exact⟨0,OL _,rfl,rfl,rfl,HW.out⟩
          case round=>
           obtain⟨a,ha,rfl,rfl,HA⟩:=hrel;by_cases U9:a<n0.size
           ·have hbb:=HBN.out a U9;by_cases h3:bt n0 a=32
            ·have h3':(bt n0 a == 32)=true:=zaG;have HX:Hid (wr=wc/\2<=(U.cut t 32).length/\U.at' (U.cut t 32) 0=wd/\U.at' (U.cut t 32) 1=n0.extract 0 a):=by
              have e:n0.extract 0 a=t.extract (m+1) (m+1+a):=by
               rw[<- Xt];apply ByteArray.ext
               rw[QE,QE,QE,Array.extract_extract,S9,R7 zaa]
              rw[e];exact⟨HA.out.1,F.Kk (m:=m+1+a+1) rfl zaa (by rw[U.B1 HA.out.2 (by rw[<- hbb];exact h3)];rfl)⟩
             exact zfp
            ·have h3':(bt n0 a == 32)=false:=zaG;have HX:Hid _:=U.B4 (m:=m+1+a) HA.out.2 zaa (by rw[<- hbb];exact h3);go_wp2
             go_round
             case rel=>exact⟨a+1,zaa,rfl,zag,HA.out.1,HX.out⟩
             case measure=>simp[intOf];omega
           ·obtain rfl:a=n0.size:=zaa;have HX:Hid (wr=wc/\2<=(U.cut t 32).length/\U.at' (U.cut t 32) 0=wd/\U.at' (U.cut t 32) 1=n0):=by
             have h:=HA.out.2;rw[show m+1+n0.size=t.size by omega,Xt]at h;refine⟨HA.out.1,?_⟩;unfold U.cut;rw[h];exact⟨zad,rfl,rfl⟩
            exact zfp
         case rest=>
          obtain⟨nn,rfl,HX⟩:=hcut;obtain⟨hV,x1,x2,x3⟩:=HX.out;subst hV;have HR2:Hid (R'=R++[⟨wd,nn,(d:Int),F.upR R d R.length⟩]):=by
           unfold Hid;rw[HRS.out,x2,x3,OD ⟨x1,hsw⟩]
          clear x1 x2 x3 HX;have HR:Hid (∀(p:Nat) (y:F.Rw),R[p]?=some y->∃g,oa=some ⟨g,0,none⟩/\∀o:Obj,(wc.alloc o).cell? ⟨g,p*4+2,none⟩=some ↑(y.depth:Int)):=fun p y hy=>by
           obtain⟨hp,rfl⟩:=Oz.1 hy;have h0:=aC HJ.out.2.2.2.1 (OL _);obtain⟨g,cap,e⟩:=U.eG h0 zaa;simp only[Value.slice.injEq]at e;rw[e.1]at h0;have:=Row.cell (f:=F.rwC) (n:=4) (fun _=>rfl) h0 (i:=p) (j:=2) zac hp;refine⟨g,e.1,fun o=>(((Oy _ _).alloc (Ow _) o).cell (p:=(g,p*4+2)) (OW _ _ this)).trans this⟩
          obtain⟨wb,hwb⟩:∃wb,wb=wc:=⟨_,rfl⟩;subst hwb
          go_upto_block 8 with fail
          go_cut[13] (fun _q V=>Hid (V=wb.alloc (.cells #[wd,nn,.int .i64 (d:Int),.int .i64 (F.upR R d R.length)] 46)))
          case first=>
           generalize hU:F.upR R d R.length=up;have HU:Hid _:=hU;clear hU;go_wp2_with fail
           go_loopw[13] (fun q V=>∃p:Nat,p<=R.length/\q=.int .i64 ((p:Int)-1)/\V=wb.alloc (.cells #[wd,nn,.int .i64 (d:Int),.int .i64 (-1)] 46)/\Hid (up=F.upR R d p)) (fun q _=>(intOf q+1).toNat)
           case atStart=>exact⟨R.length,Ow _,rfl,rfl,HU.out.symm⟩
           case round=>
            obtain⟨p,hp,rfl,rfl,HP⟩:=hrel;cases p with
            |zero=>
             have HQ:Hid (up=-1):=HP.out;exact zfn
            |succ p=>
             obtain⟨y,hy⟩:∃y,R[p]?=some y:=⟨_,Ou zaa⟩;obtain⟨g,rfl,hcy⟩:=HR.out p y hy;have hcy:=hcy (.cells #[wd,nn,.int .i64 (d:Int),.int .i64 (-1)] 46);have HQ:Hid (up=if y.depth=(d:Int)-1 then(p:Int) else F.upR R d p):=by unfold Hid;rw[HP.out,F.upR,hy]
             have hpp:((p+1:Nat):Int)-1=p:=zaa;have YE:(p:Int)>=0:=zaa;have Uo:((p:Int)<(R.length:Int)):=zaa;rw[hpp];clear hy hpp HP;by_cases hd:y.depth=(d:Int)-1
             ·have hd':(y.depth == (d:Int)-1)=true:=by simpa using hd
              rw[OD hd]at HQ;exact zfn
             ·have hd':(y.depth == (d:Int)-1)=false:=by simpa using hd
              rw[OB hd]at HQ;go_wp2
              go_round
              case rel=>exact⟨p,zaa,rfl,by first|trivial|rfl,HQ⟩
              case measure=>simp[intOf]
          case rest=>
           have hV:=hcut.out;subst hV;generalize F.upR R d R.length=up at *;have HOW:Hid _:=(HJ.out.2.2.2.1.alloc (.cells #[wd,nn,.int .i64 (d:Int),(up:Int)] 46)).alloc (.cells #[wd,nn,.int .i64 (d:Int),(up:Int)] 46);have T6:=HJ.out.2.2.2.2.size;have HCE:=OH (wb.alloc (.cells #[wd,nn,.int .i64 (d:Int),(up:Int)] 46)) (.cells #[wd,nn,.int .i64 (d:Int),(up:Int)] 46);rw[Py]at HCE;have HBL:Hid (∀w',((wb.alloc (.cells #[wd,nn,.int .i64 (d:Int),(up:Int)] 46)).alloc (.cells #[wd,nn,.int .i64 (d:Int),(up:Int)] 46)).grownBy w' (Value.slice oa R.length oc).ownBlock->Below w w w'):=fun w' hg=>((HJ.out.2.2.2.2.alloc zaa _).alloc zae _).grown hg zae (fun k hk=>(O8 HJ.out.2.2.2.1 k hk).1);go_wp2_with(at_builtin;refine wpList_append_own _ rfl _ _ 29 rfl w 46 i0 _ 4 48 underlying29 hi Ue Ub Uf rfl zac (.slice oa R.length oc) R.length (R.flatMap F.rwC) rfl HOW.out ⟨wb.heap.size+1,0,none⟩ 1 1 [wd,nn,.int .i64 (d:Int),(up:Int)] rfl rfl (fun j y hj=>by rw[Addr.add_lit,QC];exact(OA _ _ _ _ _ _ HCE).trans (by simpa using hj)) (fun y hy=>by simp at hy;rcases hy with rfl|rfl|rfl|rfl<;>rfl) zah zaa zae ?_;intro v' w' d1 d2 d3)
           go_round
           case rel=>exact⟨c+1,c+1,R',zaa,zag,zag,HN.out _ _ (by rw[HR2.out,OM,Ph];exact d1) (HBL.out _ d2)⟩
           case measure=>simp[intOf];omega
   ·have h10':(bt s c == 10)=false:=by simpa using h10
    go_wp2
    go_round
    case rel=>
     obtain⟨_,_,⟨A,a1,a2⟩,a3,a4⟩:=HJ.out;exact⟨c+1,f,R,zaa,zag,rfl,zaa,zaa,⟨A,U.B4 a1 hfc h10,a2⟩,a3,a4⟩
    case measure=>simp[intOf];omega
  ·obtain rfl:c=s.size:=zaa;go_wp2;go_ret;obtain⟨_,_,⟨A,a1,a2⟩,a3,a4⟩:=HJ.out;exact⟨_,rfl,a4,R,by unfold U.cut;rw[a1];simpa using a2,a3⟩
end
section
open Go.RowKit Go.Proofs Go.Shelf
theorem CV(a:Nat)(w:World)(h2:a<=9223372036854775807):() 22 #[(a:Int),(12:Int)] w fun e w'=>e=.returned (.int .i64 ((a % 12:Nat):Int))/\w'=w:=by
 have hn:¬(a:Int)<0:=zaa;go_enter func22,ntmps22;exact zfG
theorem Cs(w:World):() 21 #[] w fun e w'=>∃g,e=.returned (.slice (some ⟨g,0,none⟩) 12 12)/\Below w w w'/\∀k,k<12->w'.cell? ⟨g,k*3,none⟩=some (.string (F.mk (F.kt k))):=by
 go_enter func21,ntmps21;go_wp2;go_ret;refine⟨_,rfl,?_,fun k hk=>?_⟩
 ·repeat(first|exact Oy _ _|refine Below.alloc ?_ ?_ _)
  all_goals first|(simp;done)|(simp;omega)
 ·have hN:=fun(V:World) (o:Obj) (h:V.heap.size=w.heap.size+12)=>h▸OH V o;rw[OA _ _ _ _ _ _ (hN _ _ zad)];have h:k=0\/k=1\/k=2\/k=3\/k=4\/k=5\/k=6\/k=7\/k=8\/k=9\/k=10\/k=11:=zaa;clear hN hk
  rcases h with rfl|rfl|rfl|rfl|rfl|rfl|rfl|rfl|rfl|rfl|rfl|rfl
  all_goals(show _=_;kernel_rfl)
theorem xZ(a:Nat)(w:World)(hv:xi w)(h2:a<=1000000):() 14 #[(a:Int)] w fun e w'=>e=.returned true/\Below w w w':=by
 have HK:Hid _:=Cs w;have HV:Hid _:=hv;have TX:a % 12<12:=Nat.mod_lt _ zac;obtain⟨S,hS,hq⟩:=F.Aq TX;have HP:Hid (∀V,Below w w V->() 13 #[.string (F.mk (F.kt (a % 12)))] V fun e w'=>∃xb sb,e=.returned (.tuple #[.pointer (some ⟨xb,0,none⟩),.slice (some ⟨sb,0,none⟩) 1 1,(0:Int),(0:Int)])/\Hid (Below w w w')):=fun V hb=>by
  refine OI (lD _ V (hv.aq hb) (F.LD TX)) ?_;rintro e w' ⟨hb',hp⟩;rw[hS]at hp;obtain⟨xb,sb,p,r,rfl,_,_,hf,_⟩:=hp;refine⟨xb,sb,by rw[hf hq];rfl,hb.trans (hb'.mono hb.size)⟩
 have HPK:Hid _:=fun V=>CV a V zaa;clear hv hS hq;go_enter func14,ntmps14;go_wp2_with fail;refine OI HK.out ?_;rintro e w1 ⟨g,rfl,TM,hc⟩;have hck:=hc (a % 12) TX;have Xy:((a % 12:Nat):Int)<12:=zaa;clear hc;dsimp only;go_wp2_with(first
  |(go_at_call 22;refine OI (HPK.out _) ?_;rintro e w9 ⟨rfl,Pg⟩;rw[Pg];clear Pg w9)
  |(go_at_call 13;refine OI (HP.out _ TM) ?_;rintro e w2 ⟨xb,sb,rfl,TP⟩))
 go_ret;exact⟨rfl,TP.out⟩
namespace F
def JP(W:World)(a:Option Addr)(L:List ()):Prop:=∀(i:Nat) (s:()),L[i]?=some s->∃b off,a=some ⟨b,off,none⟩/\W.cell? ⟨b,off+i,none⟩=some ↑s
def Mj(W:World)(a:Option Addr)(L:List Int):Prop:=∀(i:Nat) (z:Int),L[i]?=some z->∃b off,a=some ⟨b,off,none⟩/\W.cell? ⟨b,off+i,none⟩=some ↑(z:Int)
def u64(z:Int):Nat:=(IntKind.u64.wrap z).toNat
theorem JD(z:Int):IntKind.u64.wrap z=(u64 z:Int)/\u64 z<18446744073709551616:=by
 unfold u64;rw[RH];omega
def evP(an:Y.RSt->()->Y.RSt)(s:List (()×Y.RSt)×Y.RSt×Nat):Option ()->List (()×Y.RSt)×Y.RSt×Nat
 |none=>s
 |some ev=>(s.1++(Y.evK an s.2.1 ev).1,(Y.evK an s.2.1 ev).2,Y.zS s.2.1 (Y.evK an s.2.1 ev).2)
def ckP(an:Y.RSt->()->Y.RSt)(s:List (()×Y.RSt)×Y.RSt×Nat):Option Int->List (()×Y.RSt)×Y.RSt×Nat
 |none=>s
 |some z=>(s.1++(Y.ckK an s.2.1 (u64 z)).1,(Y.ckK an s.2.1 (u64 z)).2,Y.zS s.2.1 (Y.ckK an s.2.1 (u64 z)).2)
theorem DW(an:Y.RSt->()->Y.RSt)(t:Nat):∀(n k:Nat) (r:Y.RSt),(Y.eQ an t n k r).1.length<=n
 |0,_,_=>by unfold Y.eQ;exact Ow _
 |n+1,k,r=>by
  have ih:=DW an t n (k+1);unfold Y.eQ
  repeat' split
  all_goals first|exact OL _|exact Nat.succ_le_succ (OL _)|exact Nat.succ_le_succ (ih _)
theorem DZ(an:Y.RSt->()->Y.RSt)(s:List (()×Y.RSt)×Y.RSt×Nat)(o:Option ()):(evP an s o).1.length<=s.1.length+1:=by
 cases o with
 |none=>exact Nat.le_succ _
 |some ev=>
  show(s.1++(Y.evK an s.2.1 ev).1).length<=_;unfold Y.evK;split<;>simp
theorem DV(an:Y.RSt->()->Y.RSt)(s:List (()×Y.RSt)×Y.RSt×Nat)(o:Option Int):(ckP an s o).1.length<=s.1.length+201:=by
 cases o with
 |none=>exact RG _ _
 |some z=>
  show(s.1++(Y.ckK an s.2.1 (u64 z)).1).length<=_;unfold Y.ckK;have:=DW an (u64 z) 201 0 s.2.1;split<;>(rw[OM];first|omega|simp)
def tot(L:List ()):Nat:=(L.map ByteArray.size).sum
theorem Bj(h:L[k]?=some s):tot (L.take (k+1))=tot (L.take k)+s.size:=by
 unfold tot;rw[PQ,h,Pk,TE];simp
theorem JA(L:List ())(k:Nat):tot (L.take k)<=tot L:=by
 have h:tot L=tot (L.take k)+tot (L.drop k):=by unfold tot;rw[<- TE,<- Pk,List.take_append_drop]
 omega
theorem LO(h:L[k]?=some s):s.size<=tot L:=by
 have h1:=Bj h;have h2:=JA L (k+1);omega
def JN(s:())(w:World)(e:Ending)(w':World):Prop:=Below w w w'/\match J.read s with
 |.fault _ _=>e=.returned (.tuple #[.pointer none,.slice none 0 0,.bool true])
 |.fu S=>∃xb sb b ps,e=.returned (.tuple #[.pointer (some ⟨xb,0,none⟩),.slice (some ⟨sb,0,none⟩) 1 1,.bool true])/\Y.Sn w' w.heap.size xb b ps (Y.anS S) (Y.stS S) (fun k=>w.heap.size<=k/\k<w'.heap.size)/\Y.bJ ps=Y.bJ (Y.psF (Y.X0 S))/\Y.LN w' b b ps (.slice (some ⟨sb,0,none⟩) 1 1) [(⟨#[]⟩,Y.stS S)]/\(Y.stS S).now=0
end F
theorem ET(s:())(w:World)(hv:xi w)(hs:s.size<=1000000):() 6 #[s] w (F.JN s w):=by
 have HP:Hid _:=lD s w hv zaa;have XQ:Hid (∀V,Below w w V->() 14 #[(s.size:Int)] V fun e w'=>e=.returned true/\Hid (Below w w w')):=fun V hb=>(xZ s.size V (hv.aq hb) hs).mono (fun e w' x=>⟨x.1,hb.trans (x.2.mono hb.size)⟩);clear hv;go_enter func6,ntmps6;go_wp2_with fail;refine OI HP.out ?_;rintro e w1 ⟨TM,hp⟩;cases hR:J.read s with
 |fault c l=>
  rw[hR]at hp;subst hp;have hc:=J.I6 hR;have XD:Hid _:=hR;clear hR;dsimp only;go_wp2_with(go_at_call 14;refine OI (XQ.out _ TM) ?_;rintro e w2 ⟨rfl,TP⟩);go_ret3;unfold F.JN;rw[XD.out];exact⟨TP.out,rfl⟩
 |fu S=>
  rw[hR]at hp;obtain⟨xb,sb,p,r,rfl,h1,h2,_,sv,rfl,q2,q3,q4,q5,q6⟩:=hp;have HR:Hid (F.JN s w (.returned (.tuple #[xb,.slice sb 1 1,true])) w1):=by
   unfold Hid F.JN;rw[hR];exact⟨TM,xb,sb,p.lo.n,p.ps,rfl,⟨⟨p,h1,rfl,rfl,q3,fun k hk ho=>⟨Ox h1.n0 (p.lo.le k ho),hk⟩⟩,fun k hk=>hk⟩,q2,.one q4 q5 q6,h2⟩
  clear hR h1 h2 q2 q3 q4 q5 q6;generalize Y.stS S=r at *;by_cases hf:r.fin=6
  ·rw[show Y.fuelN r.fin=6 by rw[hf];rfl];exact zfm
  ·rw[show Y.fuelN r.fin=0 by unfold Y.fuelN;rw[OB hf]];exact zfm
theorem Kv(s:())(a ra:Option Addr)(c rn rc:Nat)(L:List ())(w:World)(hE:F.JP w a L)(VV:s.size+L.length+rn+F.tot L<=4194304):
  () 5 #[s,.slice a L.length c,.slice ra rn rc] w fun e w'=>e=.returned (.bool (decide (8192<s.size+L.length+rn+F.tot L)))/\w'=w:=by
 have HE:Hid _:=hE;clear hE;have Wg:=VV;go_enter func5,ntmps5;go_wp2
 go_loopw[7,8] (fun n i wr=>∃k:Nat,k<=L.length/\i=.int .i64 k/\n=.int .i64 ((s.size+L.length+rn+F.tot (L.take k):Nat):Int)/\wr=w) (fun _ i _=>L.length-(intOf i).toNat)
 case atStart=>exact⟨0,OL _,rfl,by simp[F.tot],rfl⟩
 case round=>
  obtain⟨k,hk,rfl,rfl,rfl⟩:=hrel;by_cases TX:k<L.length
  ·obtain⟨x,hx⟩:∃x,L[k]?=some x:=⟨_,Ou TX⟩;obtain⟨b,off,rfl,hc⟩:=HE.out k x hx;have hlt':((k:Int)<(L.length:Int)):=zaa;have h1:=F.Bj hx;have h2:=F.JA L (k+1);have HT:Hid _:=h1;generalize F.tot (L.take k)=T at *;clear h1;go_wp2
   go_round
   case rel=>
    refine⟨k+1,zaa,zag,?_,by first|trivial|rfl⟩;have h3:=HT.out;rw[Go.IntWalk.wrap64_in _ zaa,h3]
    go_num
   case measure=>simp[intOf];omega
  ·obtain rfl:k=L.length:=zaa;rw[Pw];go_wp2;go_ret;exact⟨by congr 2;simp;omega,rfl⟩
end
section
open Go.RowKit Go.Proofs Go.Shelf Lg
namespace F
open Y
variable {S:List U.State}{h:uE (X0 S)}{r:RSt}
theorem nA(hi:i<S.length):(S.map eR)[i]?=some (eR (J.sAt S i))/\∃x,(X0 S)[i]?=some x:=by
 have e:J.sAt S i=S[i]:=zbK;refine⟨by rw[OF,Ou hi,e];rfl,_,Ou (by unfold X0;rw[OK];exact hi)⟩
theorem NY(hC:J.gw S)(hi:i<S.length):((J.sAt S i).word.toList == U.aO)=false↔¬(trX (X0 S) h).H i:=by
 obtain⟨_,x,hx⟩:=nA hi;have e:=(pM hx).2.1;rw[J.gY (hC.low _ (k9 hi)).2,<- e];exact⟨fun q z=>(by have:=z x hx;rw[show isH x.kind=J.du x.kind from rfl,q]at this;cases this),fun q=>Q8.2 fun z=>q fun y hy=>by rw[hx]at hy;cases hy;exact z⟩
theorem Nk(hC:J.gw S)(hi:i<S.length)(hj:(K=-1/\j=none)\/∃k:Nat,K=k/\j=some k):(J.sAt S i).up=K↔js (X0 S) i=j:=by
 obtain⟨_,x,hx⟩:=nA hi;have e:=(pM hx).2.2.1;rw[<- e];unfold js;rw[hx];show _↔(if x.owner=-1 then none else some x.owner.toNat)=j
 rcases(Ev hC).own i x hx with q|⟨o,q,_⟩
 ·rw[OD q,q]
  rcases hj with⟨rfl,rfl⟩|⟨k,rfl,rfl⟩
  ·simp
  ·exact⟨fun z=>zaa,fun z=>(by cases z)⟩
 ·rw[OB zaa,q,QJ]
  rcases hj with⟨rfl,rfl⟩|⟨k,rfl,rfl⟩
  ·exact⟨fun z=>zaa,fun z=>(by cases z)⟩
  ·rw[Ts];omega
theorem mH(hC:J.gw S)(hi:i<S.length)(hj:(K=-1/\j=none)\/∃k:Nat,K=k/\j=some k):jY (S.map eR) K i=true↔(trX (X0 S) h).ch j i:=by
 unfold jY;rw[(nA hi).1];show(decide ((J.sAt S i).up=K)&&!((J.sAt S i).word.toList == U.aO))=true↔_;rw[O2,RU,QS,NY (h:=h) hC hi,Nk hC hi hj];rfl
theorem KW(hC:J.gw S)(g:Inv (X0 S) h r):Mk (S.map eR) ((els r.act).map (bJ (psF (X0 S)))) (els r.act):=by
 have VI:(X0 S).length=S.length:=by unfold X0;rw[OK]
 have WT:=hC.shp.len;have U9:∀{i},i∈els r.act->Bt r.act i/\i<S.length:=fun{i} x=>⟨(cC.1 x).2,by rw[<- VI];exact(trX (X0 S) h).top (g.1.un i (cC.1 x).2).2⟩;have hla:∀{i},Bt r.act i->i∈els r.act:=fun{i} x=>cC.2 ⟨by have:i<(X0 S).length:=(trX (X0 S) h).top (g.1.un i x).2;omega,x⟩;have Uq:∀{i},i<S.length->bJ (psF (X0 S)) i=(J.sAt S i).name:=fun{i} hi=>by
  obtain⟨_,x,hx⟩:=nA hi;obtain⟨p,hp,_⟩:=pf h hx;obtain⟨y,hy,e⟩:=nW _ h.own hp;rw[hx]at hy;cases hy
  unfold bJ;rw[hp];exact(congrArg St.name e).trans (pM hx).2.2.2
 have VC:∀{i K},onP (S.map eR) (els r.act) K i=true↔jY (S.map eR) K i=true/\i∈els r.act:=by
  intro i K;unfold onP;rw[O2,RU]
 refine⟨by rw[OK];exact WT,OK ..,List.Pairwise.filter _ List.pairwise_lt_range,fun i e he=>?_,fun i j x y hx hy e=>?_,fun k hk hn=>?_,fun k x hk hx hw=>?_,fun K h1 h2 h3 h4=>?_⟩
 ·obtain⟨a,b⟩:=U9 (OG he);refine⟨_,(nA b).1,by rw[OF,he,TF,Uq b];rfl,(NY (h:=h) hC b).2 (g.1.un e a).2⟩
 ·have key:∀(i j:Nat),i<j->j<S.length->(J.sAt S i).name≠(J.sAt S j).name:=fun i j V9 hj e=>by
   have:=hC.uniq j hj
   rcases J.o8 S (J.sAt S j).name with⟨q,q1,q2,q3,q4⟩|⟨q1,_⟩
   ·have:q<=i:=Qf fun z=>q3 i zaa e;omega
   ·exact q1 j hj rfl
  obtain⟨hi,_⟩:=Oz.1 hx;obtain⟨hj,_⟩:=Oz.1 hy;rw[OK]at hi hj;rw[(nA hi).1]at hx;rw[(nA hj).1]at hy;cases hx
  cases hy
  have e:(J.sAt S i).name=(J.sAt S j).name:=e
  rcases RB i j with z|z|z
  ·exact(key i j z hj e).elim
  ·exact z
  ·exact(key j i z hi e.symm).elim
 ·rw[OK]at hk⊢;refine ox _ fun i hi=>Q8.2 fun z=>?_;obtain⟨z1,z2⟩:=VC.1 z
  rcases g.1.up i k (U9 z2).1 ((mH (h:=h) hC hi (.inr ⟨k,rfl,rfl⟩)).1 z1).1 with q|q
  ·cases q
  ·exact hn (hla q)
 ·have Vf:=(U9 hk).2;rw[(nA Vf).1]at hx;cases hx
  rw[OK];refine Hi _ fun i hi=>RZ.2 ⟨fun z=>(VC.1 z).1,fun z=>VC.2 ⟨z,hla (g.1.c2 trivial k i (U9 hk).1 ?_ ((mH (h:=h) hC hi (.inr ⟨k,rfl,rfl⟩)).1 z))⟩⟩;obtain⟨_,x,hx⟩:=nA Vf;have hw:((J.sAt S k).word.toList == U.aE)=true:=hw;rw[J.pL (hC.low _ (k9 Vf)).2,RU]at hw;exact⟨x,hx,(pM hx).2.1.trans hw⟩
 ·rw[OK]at h2⊢;obtain⟨j,hj,YM,hjp⟩:∃j,((K=-1/\j=none)\/∃k:Nat,K=k/\j=some k)/\(j=none\/∃i,j=some i/\Bt r.act i)/\¬pj (trX (X0 S) h) j:=by
   rcases h3 with q|q
   ·exact zeB
   ·by_cases hn:K<0
    ·exact zeB
    ·refine⟨some K.toNat,.inr ⟨K.toNat,zaa,rfl⟩,.inr ⟨_,rfl,(U9 q).1⟩,fun⟨p,z,x,x1,x2⟩=>?_⟩;cases z
     have:=h4 _ (nA (U9 q).2).1 zaa;have hw:=J.pL (hC.low _ (k9 (U9 q).2)).2;rw[show((J.sAt S K.toNat).word.toList == U.aE)=false from this,<- (pM x1).2.1,x2]at hw;cases hw
  have o:=g.1.c1 j YM hjp;by_cases hex:∃i,i<S.length/\jY (S.map eR) K i=true
  ·obtain⟨i,hi,z⟩:=hex;obtain⟨d,d1,d2⟩:=o.2 i ((mH hC hi hj).1 z);have hd:=(U9 (hla d2)).2;refine .inr (DY _ ⟨d,hd,VC.2 ⟨(mH (h:=h) hC hd hj).2 ⟨d1,(g.1.un d d2).2⟩,hla d2⟩⟩ fun a b ha hb x y=>?_);obtain⟨x1,x2⟩:=VC.1 x;obtain⟨y1,y2⟩:=VC.1 y;exact o.1 a b ((mH hC ha hj).1 x1).1 ((mH hC hb hj).1 y1).1 (U9 x2).1 (U9 y2).1
  ·exact .inl (ox _ fun i hi=>Q8.2 fun z=>hex ⟨i,hi,z⟩)
theorem Lx{base:Nat}{v:U.Sl}{R:List Rw}(h:W.ownsRow base 46 4 (.slice v.a v.n v.c) R.length (R.flatMap rwC)):xm W v R:=by
 refine⟨(qg h).1,(qg h).2,fun k x hx=>?_⟩;obtain⟨hk,rfl⟩:=Oz.1 hx;obtain⟨g,cap,e⟩:=U.eG h zaa;have h0:=aC h (OL _);rw[e]at h0;simp only[Value.slice.injEq]at e;have c:=fun(j:Nat) (hj:j<4)=>Row.cell (f:=rwC) (n:=4) (fun _=>rfl) h0 (i:=k) (j:=j) hj hk;exact⟨g,e.1,c 0 zac,c 1 zac,c 3 zac⟩
section
variable (w:World)(xb:Nat)(p:Par)(rv:Value)(R:List Rw)
def LgJ(A:List (()×RSt))(r:RSt)(sl:U.Sl)(W:World):Prop:=Ses W w xb p r/\LN W p.lo p.lo p.ps (.slice sl.a sl.n sl.c) A/\W.ownsRow w 46 4 rv R.length (R.flatMap rwC)/\Below w w W
def LgQ(A B:List (()×RSt))(r:RSt)(sl:U.Sl)(l:Value)(W:World):Prop:=LgJ w xb p rv R A r sl W/\LN W p.lo p.lo p.ps l B
variable {w xb p rv R}
theorem LgJ.next{A:List (()×RSt)}{r:RSt}{V:World}(h:LgJ w xb p rv R A r sl W){z:List (()×RSt)×RSt}(hT:Tld W w xb p r z l k V):LgQ w xb p rv R A z.1 z.2 sl l V:=by
 obtain⟨h1,⟨vs,a1,a2,a3⟩,h3,h4⟩:=h;obtain⟨_,t2,t3,t4,t5⟩:=hT;exact⟨⟨t2,⟨vs,a1,Kd.row t4.kd a2 zaq,fun y hy=>(a3 y hy).str t5⟩,Kd.row t4.kd h3 zaq,h4.trans (t4.bel.mono h1.n0)⟩,t3⟩
theorem LgQ.app{A B:List (()×RSt)}{r:RSt}(h:LgQ w xb p rv R A B r sl l W)(hn:A.length+B.length<=4000000){ops:Array Oper}{rest:List Oper}{o:Oper}{a:Act}{Q:Exit->Act->World->Prop}(hgd:o.guard=none)(s x:Operand)(ho:o.op=.call { callee:=.builtin .append,args:=#[s,x],argTypes:=#[26,26] })(hs:a.eval s=.slice sl.a sl.n sl.c)(hx:a.eval x=l)
  (k:∀(sl':U.Sl) w',Hid (LgJ w xb p rv R (A++B) r sl' w')->wpList prog ops Q rest (a.put o.dst (.slice sl'.a sl'.n sl'.c)) w'):wpList prog ops Q (o::rest) a W:=by
 obtain⟨⟨h1,h2,h3,h4⟩,h5⟩:=h;refine EI hgd s x ho p.lo p.lo p.ps _ l A B hs hx h2 h5 hn h1.lv.mt.lo' (fun sl' w' h6 hm=>k sl' w' ?_);obtain⟨vs,_,TO,_⟩:=h2;have hP:∀k,(Value.slice sl.a sl.n sl.c).ownBlock=some k->p.lo.n<=k/\∃c,W.heap[k]?=some (.cells c 38 (0,0)):=fun k hk=>⟨(O8 TO k hk).1,bS TO k hk⟩;have hk:Kd pI W w':=gO hm (fun k c t f hp hc=>by
  obtain⟨_,c',h1⟩:=hP k hp;rw[hc]at h1;cases h1
  exact .inr rfl)
 exact⟨h1.stp hm hP,h6,Kd.row hk h3 zaQ,h4.trans ⟨hm.os,hm.tape,hm.output,hm.size,fun k hk=>hm.block k (OS hk h4.size) (fun hp=>by have:=(hP k hp).1;have:=h1.n0;omega)⟩⟩
end
def lgP(an:RSt->()->RSt)(L:List ())(T:List Int)(s0:List (()×RSt)×RSt×Nat):Nat->List (()×RSt)×RSt×Nat
 |0=>s0
 |k+1=>ckP an (evP an (lgP an L T s0 k) L[k]?) T[k]?
theorem D9(an:RSt->()->RSt)(L:List ())(T:List Int)(s0:List (()×RSt)×RSt×Nat):∀k,(lgP an L T s0 k).1.length<=s0.1.length+k*202
 |0=>Ow _
 |k+1=>by
  have h1:=D9 an L T s0 k;have h2:=DZ an (lgP an L T s0 k) L[k]?;have h3:=DV an (evP an (lgP an L T s0 k) L[k]?) T[k]?;show(ckP an (evP an (lgP an L T s0 k) L[k]?) T[k]?).1.length<=_;omega
theorem D8(L:List ())(T:List Int){s0:List (()×RSt)×RSt×Nat}(g:(∀x∈s0.1,Inv (X0 S) h x.2)/\Inv (X0 S) h s0.2.1):∀k,(∀x∈(lgP (anS S) L T s0 k).1,Inv (X0 S) h x.2)/\Inv (X0 S) h (lgP (anS S) L T s0 k).2.1
 |0=>g
 |k+1=>by
  have ih:=D8 L T g k;show(∀x∈(ckP (anS S) (evP (anS S) (lgP (anS S) L T s0 k) L[k]?) T[k]?).1,_)/\Inv (X0 S) h (ckP (anS S) (evP (anS S) (lgP (anS S) L T s0 k) L[k]?) T[k]?).2.1;generalize lgP (anS S) L T s0 k=s at *;have h1:(∀x∈(evP (anS S) s L[k]?).1,Inv (X0 S) h x.2)/\Inv (X0 S) h (evP (anS S) s L[k]?).2.1:=by
   cases L[k]? with
   |none=>exact ih
   |some ev=>
    obtain⟨a,b⟩:=Ku ih.2 ev;exact⟨fun x hx=>(OT.1 hx).elim (ih.1 x) (a x),b⟩
  generalize evP (anS S) s L[k]?=s at *;cases T[k]? with
  |none=>exact h1
  |some z=>
   obtain⟨a,b⟩:=Kh h1.2 (u64 z);exact⟨fun x hx=>(OT.1 hx).elim (h1.1 x) (a x),b⟩
end F
end
section
open Go.RowKit Go.Proofs Go.Shelf
theorem Cz(s:())(a ra:Option Addr)(c rc:Nat)(L:List ())(T:List Int)(w:World)(hv:xi w)(Um:∀ev:(),ev.size<=1000000->Bv ev)(hE:F.JP w a L)(hI:F.Mj w ra T)(VV:s.size+L.length+T.length+F.tot L<=4194304):
  () 3 #[s,.slice a L.length c,.slice ra T.length rc] w fun e w'=>e=.returned true/\Below w w w':=by
 have HF:Hid _:=Kv s a ra c T.length rc L w hE VV;by_cases WA:8192<s.size+L.length+T.length+F.tot L
 ·rw[Pe WA]at HF;clear WA;go_enter func3,ntmps3;go_wp2_with(go_at_call 5;refine OI HF.out ?_;rintro e w1 ⟨rfl,Ul⟩;rw[Ul];clear Ul w1);go_ret;exact⟨rfl,Oy _ _⟩
 rw[Pc WA]at HF;have HB:Hid _:=ET s w hv zaa;cases hR:J.read s with
 |fault fc fl=>
  have XD:Hid _:=hR;clear hR hv Um hE hI WA;go_enter func3,ntmps3;go_wp2_with(go_at_call 5;refine OI HF.out ?_;rintro e w1 ⟨rfl,Ul⟩;rw[Ul];clear Ul w1);refine OI HB.out ?_;rintro e w1 ⟨h1,h2⟩;rw[XD.out]at h2;subst h2;dsimp only;go_wp2;go_ret;exact⟨rfl,h1⟩
 |fu S=>
  have hCK:J.gw S:=J.tK (by rw[<- J.wu];exact hR);have hT:=Y.Ev hCK;have HRW:Hid _:=F.FX hR;have HBS:Hid (() 6 #[s] w fun e w'=>∃xb sb,e=.returned (.tuple #[.pointer (some ⟨xb,0,none⟩),.slice (some ⟨sb,0,none⟩) 1 1,true])/\Hid (Below w w w'/\∃p:Y.Par,Y.Ses w' w xb p (Y.stS S)/\p.an=Y.anS S/\Y.bJ p.ps=Y.bJ (Y.psF (Y.X0 S))/\Y.LN w' p.lo p.lo p.ps (.slice (some ⟨sb,0,none⟩) 1 1) [(⟨#[]⟩,Y.stS S)])):=OI HB.out fun e w' ⟨h1,h2⟩=>by
   rw[hR]at h2;obtain⟨xb,sb,b,ps,e1,h3,h4,h5,_⟩:=h2;obtain⟨p,p1,rfl,rfl,p4,_⟩:=h3.ex;exact⟨xb,sb,e1,h1,p,p1,p4,h4,h5⟩
  have HRS:Hid _:=fun V=>Jh s V zaa;have HINV:Hid _:=fun k=>F.D8 (S:=S) (h:=hT) L T (s0:=([(⟨#[]⟩,Y.stS S)],Y.stS S,0)) ⟨fun x hx=>by rw[OE.1 hx];exact Y.Eo hCK.pos,Y.Eo hCK.pos⟩ k
  have HOK:Hid (∀r:Y.RSt,Y.Inv (Y.X0 S) hT r->F.Mk (S.map F.eR) ((Y.els r.act).map (Y.bJ (Y.psF (Y.X0 S)))) (Y.els r.act)):=fun r g=>F.KW hCK g;have HEV:Hid (∀W,Below w w W->F.JP W a L/\F.Mj W ra T/\Y.uC W):=fun W hb=>⟨fun i x hx=>by
   obtain⟨b,off,e,hc⟩:=hE i x hx;exact⟨b,off,e,(hb.cell (p:=⟨b,off+i,none⟩) (OW _ _ hc)).trans hc⟩,fun i x hx=>by
   obtain⟨b,off,e,hc⟩:=hI i x hx;exact⟨b,off,e,(hb.cell (p:=(b,off+i)) (OW _ _ hc)).trans hc⟩,(hb.cell (p:=⟨0,0,none⟩) (OW _ _ hv.uK)).trans hv.uK⟩
  have HSZ:Hid (∀(k:Nat) (x:()),L[k]?=some x->x.size<=8192):=fun k x hx=>by have:=F.LO hx;omega
  have Wk:Hid _:=Um;have HGT:Hid _:=OW _ _ hv.uK;have hLb:L.length<=8192:=zaa;have hTb:T.length<=8192:=zaa;clear hR hv Um hE hI WA VV HB hCK;go_enter func3,ntmps3;go_wp2_with(go_at_call 5;refine OI HF.out ?_;rintro e w1 ⟨rfl,Ul⟩;rw[Ul];clear Ul w1);refine OI HBS.out ?_;rintro e w1 ⟨xb,sb,rfl,h1⟩;dsimp only;go_wp2_with fail;refine OI (HRS.out w1) ?_;rintro e w2 ⟨rv,rfl,TP,R,Xm,TN⟩;obtain⟨TM,p,p1,p2,p3,p4⟩:=h1.out;obtain rfl:R=S.map F.eR:=Xm.trans HRW.out.symm;have HJ0:Hid (F.LgJ w xb p rv (S.map F.eR) [(⟨#[]⟩,Y.stS S)] (Y.stS S) ⟨some ⟨sb,0,none⟩,1,1⟩ w2):=⟨p1.aq TP,p4.no (bE TP),aC TN TM.size,TM.trans (TP.mono TM.size)⟩;have HCE:Hid (∀W A r1 sl (x:()),x.size<=8192->F.LgJ w xb p rv (S.map F.eR) A r1 sl W->() 8 #[xb,.string x] W fun e w'=>∃l,∃k:Nat,e=.returned (.tuple #[l,(k:Int)])/\Hid (F.LgQ w xb p rv (S.map F.eR) A (Y.evK (Y.anS S) r1 x).1 (Y.evK (Y.anS S) r1 x).2 sl l w')):=fun W A r1 sl x hx hJ=>by
   rw[<- p2];refine OI (Kt hJ.1 (HEV.out W hJ.2.2.2).2.2 HGT.out Wk.out x zaa) ?_;exact zeV
  have HCC:Hid (∀W A r1 sl (z:Int),F.LgJ w xb p rv (S.map F.eR) A r1 sl W->() 9 #[xb,.int .u64 (IntKind.u64.wrap z)] W fun e w'=>∃l,∃k:Nat,e=.returned (.tuple #[l,(k:Int)])/\Hid (F.LgQ w xb p rv (S.map F.eR) A (Y.ckK (Y.anS S) r1 (F.u64 z)).1 (Y.ckK (Y.anS S) r1 (F.u64 z)).2 sl l w')):=fun W A r1 sl z hJ=>by
   rw[<- p2,(F.JD z).1];refine OI (Kg hJ.1 (HEV.out W hJ.2.2.2).2.2 HGT.out Wk.out (F.u64 z) (F.JD z).2) ?_;exact zeV
  have HNA:Hid _:=p3;clear h1 TM p1 p2 p3 p4 TP Xm TN HBS HRS HF HRW;generalize Y.stS S=r0 at *;generalize Y.anS S=an at *;obtain⟨s0,XR⟩:∃s0:List (()×Y.RSt)×Y.RSt×Nat,s0=([(⟨#[]⟩,r0)],r0,0):=⟨_,rfl⟩;rw[<- XR]at HINV;have hl0:s0.1.length=1:=by rw[XR];rfl
  replace HJ0:Hid (F.LgJ w xb p rv (S.map F.eR) s0.1 s0.2.1 ⟨some ⟨sb,0,none⟩,1,1⟩ w2):=by rw[XR];exact HJ0
  clear XR;dsimp only;go_wp2
  go_loopw[9,12,13] (fun _l st i wr=>∃(k:Nat) (sl:U.Sl),k<=L.length/\i=.int .i64 k/\st=.slice sl.a sl.n sl.c/\Hid (F.LgJ w xb p rv (S.map F.eR) (F.lgP an L T s0 k).1 (F.lgP an L T s0 k).2.1 sl wr)) (fun _ _ i _=>L.length-(intOf i).toNat)
  case atStart=>exact⟨0,⟨some ⟨sb,0,none⟩,1,1⟩,OL _,rfl,rfl,HJ0⟩
  case round=>
   clear HJ0;obtain⟨k,sl,hk,rfl,rfl,HJ⟩:=hrel;have Uo:=F.D9 an L T s0 k;by_cases hkL:k<L.length
   ·obtain⟨x,hx⟩:∃x,L[k]?=some x:=⟨_,Ou hkL⟩;obtain⟨hEV,hIN,_⟩:=HEV.out wr HJ.out.2.2.2;have HNX:Hid (F.lgP an L T s0 (k+1)=F.ckP an (F.evP an (F.lgP an L T s0 k) L[k]?) T[k]?):=rfl;obtain⟨Z,hZ⟩:∃Z,F.lgP an L T s0 k=Z:=⟨_,rfl⟩;rw[hZ]at HJ Uo HNX;clear hZ;obtain⟨eb,off,rfl,hc⟩:=hEV k x hx;have hlt':((k:Int)<(L.length:Int)):=zaa;have hnn:¬(k:Int)<0:=zaa;have HC:Hid _:=HCE.out wr _ _ sl x (HSZ.out k x hx) HJ.out;have h1l:=F.DZ an Z (some x);have h1l:(Z.1++(Y.evK an Z.2.1 x).1).length<=Z.1.length+1:=h1l;rw[OM]at h1l;have HAP:Hid (Z.1.length+(Y.evK an Z.2.1 x).1.length<=4000000):=by unfold Hid;omega
    rw[hx]at HNX;clear hx hEV;by_cases hkT:k<T.length
    ·obtain⟨z,hz⟩:∃z,T[k]?=some z:=⟨_,Ou hkT⟩;have hlt2:((k:Int)<(T.length:Int)):=zaa;rw[hz]at HNX;obtain⟨rb,roff,rfl,_⟩:=hIN k z hz;have HIN:Hid (∀W,Below w w W->W.cell? (rb,roff+k)=some ↑(z:Int)):=fun W hb=>by
      obtain⟨_,_,e,hc⟩:=(HEV.out W hb).2.1 k z hz;cases e
      exact hc
     have h2l:=F.DV an (F.evP an Z (some x)) (some z);have h2l:((Z.1++(Y.evK an Z.2.1 x).1)++(Y.ckK an (Y.evK an Z.2.1 x).2 (F.u64 z)).1).length<=(Z.1++(Y.evK an Z.2.1 x).1).length+201:=h2l;rw[OM]at h2l;have HAP2:Hid ((Z.1++(Y.evK an Z.2.1 x).1).length+(Y.ckK an (Y.evK an Z.2.1 x).2 (F.u64 z)).1.length<=4000000):=by
      unfold Hid;rw[OM]at h2l⊢;omega
     clear hz hIN h1l h2l Uo;go_wp2_with(first
      |(go_at_call 8;refine OI HC.out ?_;rintro e w3 ⟨l,z2,rfl,h2⟩)
      |(at_builtin;refine h2.out.app HAP.out rfl _ _ rfl rfl rfl ?_;intro sl3 w4 h3;have hc3:=HIN.out w4 h3.out.2.2.2;have HC2:Hid _:=HCC.out w4 _ _ sl3 z h3.out)
      |(go_at_call 9;refine OI HC2.out ?_;rintro e w5 ⟨l4,z4,rfl,h4⟩)
      |(at_builtin;refine h4.out.app HAP2.out rfl _ _ rfl rfl rfl ?_;intro sl5 w6 h5))
     go_round
     case rel=>exact⟨k+1,sl5,zaa,zag,rfl,by rw[HNX.out];exact h5⟩
     case measure=>simp[intOf];omega
    ·have hlt2:¬((k:Int)<(T.length:Int)):=zaa;rw[OV (show T.length<=k by omega)]at HNX;clear hIN h1l Uo;go_wp2_with(first
      |(go_at_call 8;refine OI HC.out ?_;rintro e w3 ⟨l,z2,rfl,h2⟩)
      |(at_builtin;refine h2.out.app HAP.out rfl _ _ rfl rfl rfl ?_;intro sl3 w4 h3))
     go_round
     case rel=>exact⟨k+1,sl3,zaa,zag,rfl,by rw[HNX.out];exact h3⟩
     case measure=>simp[intOf];omega
   ·obtain rfl:k=L.length:=zaa;have HI:Hid _:=(HINV.out L.length).1;obtain⟨A,hA⟩:∃A,(F.lgP an L T s0 L.length).1=A:=⟨_,rfl⟩;rw[hA]at HI HJ Uo;clear hA;obtain⟨rs,hrs⟩:=F.iZ HJ.out.2.2.1;have HM:Hid (Below w w wr/\F.BE wr sl (A.map (F.tdS p.ps))/\F.xm wr rs (S.map F.eR)):=⟨HJ.out.2.2.2,F.LJ HJ.out.2.1,F.Lx (by rw[<- hrs];exact HJ.out.2.2.1)⟩;subst hrs;clear HJ;obtain⟨sa,sn,sc⟩:=sl;obtain⟨e1,e2,_⟩:=id HM.out.2.1;dsimp only at e1 e2;rw[OK]at e1 e2;subst e1;go_wp2
    go_loopw[10,14] (fun _o i wr=>∃q:Nat,q<=A.length/\i=.int .i64 q/\Hid (Below w w wr/\F.BE wr ⟨sa,A.length,sc⟩ (A.map (F.tdS p.ps))/\F.xm wr rs (S.map F.eR))) (fun _ i _=>A.length-(intOf i).toNat)
    case atStart=>exact⟨0,OL _,rfl,HM⟩
    case round=>
     clear HM;obtain⟨q,hq,rfl,HM⟩:=hrel;by_cases hqA:q<A.length
     ·obtain⟨y,hy⟩:∃y,A[q]?=some y:=⟨_,Ou hqA⟩;obtain⟨m1,m2,m3⟩:=HM.out;obtain⟨g,nl,rfl,_,_,c2,Uq⟩:=m2.2.2 q (F.tdS p.ps y) (by rw[OF,hy];rfl);have hlq:((q:Int)<(A.length:Int)):=zaa;have HLG:Hid (() 10 #[.slice rs.a rs.n rs.c,.slice nl.a nl.n nl.c] wr fun e w'=>e=.returned true/\Hid (Below w w w'/\F.BE w' ⟨some ⟨g,0,none⟩,A.length,sc⟩ (A.map (F.tdS p.ps))/\F.xm w' rs (S.map F.eR))):=by
       have Uw:=HOK.out y.2 (HI.out y (OG hy));rw[<- HNA.out]at Uw;refine(Fw wr rs nl _ _ _ m3 Uq Uw).mono ?_;rintro e w' ⟨rfl,hb⟩;exact⟨rfl,m1.trans (hb.mono m1.size),m2.aq hb,m3.aq hb⟩
      clear hy m1 m2 m3 Uq;go_wp2_with(go_at_call 10;refine OI HLG.out ?_;rintro e w3 ⟨rfl,h3⟩)
      go_round
      case rel=>exact⟨q+1,zaa,zag,h3⟩
      case measure=>simp[intOf];omega
     ·obtain rfl:q=A.length:=zaa;go_wp2;go_ret;exact⟨rfl,HM.out.1⟩
