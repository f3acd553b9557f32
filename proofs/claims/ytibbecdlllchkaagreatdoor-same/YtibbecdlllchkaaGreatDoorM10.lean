import Derived.Test.YtibbecdlllchkaaGreatDoorM00
import Derived.Test.YtibbecdlllchkaaGreatDoorSh
import Derived.Lib.AppendIntMem
import Derived.Deep.RegionHeld3
import Derived.Deep.AppendLies
set_option maxRecDepth 100000
set_option maxHeartbeats 8000000
namespace Go.Proofs.YtibbecdlllchkaaGreatDoor
variable {zp:Prop}
theorem zcR(h:zp:=by
 go_enter func253,ntmps253;go_wp2_with fail;refine(aG p num dep x r _ H).mono ?_;rintro e w1 ⟨rfl,ho,H1⟩;have U7:=ho.al;clear ho;dsimp only;go_wp2_with fail;refine(gi p num dep r _ H1 (hv.al U7)).mono ?_;rintro e w2 hq;rw[hn]at hq;obtain⟨ht,b,h4,h5,rfl⟩:=hq;dsimp only;refine⟨rfl,?_⟩;rw[HS.out];exact⟨U7.trans ht,b,Pr U7.size h4,h5,rfl⟩):zp:=h
theorem zcV(h:zp:=by
 have HP:Hid _:=hp;have HL:Hid _:=hl;clear hp hl;go_enter func216,ntmps216;go_wp2_with(first
  |(go_at_call 212;refine(iu s _ zag).mono ?_;rintro e w9 ⟨rfl,U1⟩;rw[U1,HP.out];clear U1 w9)
  |(go_at_call 255;refine(mF s _ hs hv).mono ?_;rintro e w9 ⟨rfl,VW⟩;rw[HL.out]))
 go_ret;exact⟨by rw[HC.out];rfl,VW⟩):zp:=h
theorem zcY(h:zp:=by
 go_simp;refine hK _ _ ?_;clear hK K;refine zA 2 rfl fun K hK=>?_;go_simp
 (refine(gV p num dep r _ H3d hv3).mono ?_;rintro e w4 h4;rw[hr]at h4;obtain⟨ht,b,h5,h6,rfl⟩:=h4;dsimp only;refine⟨rfl,?_⟩;rw[HS2.out];exact⟨Wb.trans ((au.refl p w3).drew.trans ht),b,Pr Wb.size h5,h6,rfl⟩)):zp:=h
theorem zcZ(h:zp:=by
 go_wp2_with(first|(go_at_call 251;refine(dH _ _).mono ?_;rintro e w9 ⟨rfl,U1⟩;rw[U1,H1.out];clear U1 w9)|(go_at_call 252;refine(mD _ _).mono ?_;rintro e w9 ⟨rfl,U1⟩;rw[U1,H2.out];clear U1 w9))
 go_round
 case rel=>exact⟨k+1,zaa,zah,HS.out⟩
 case measure=>simp[intOf];omega):zp:=h
theorem zdd(h:zp:=by
 go_simp
 (refine(eK p num dep l _ H1 VT).mono ?_;rintro e w4 h4;rw[hn]at h4;obtain⟨ht,b,h5,h6,rfl⟩:=h4;dsimp only;exact⟨rfl,((au.refl p w).alloc _).drew.trans ht,b,by simp at h5;omega,h6,rfl⟩)):zp:=h
theorem zdo(h:zp:=by
 dsimp only;go_wp2;refine eh oS _ 345 _ (0,0) _ rfl GG.out.1 underlying345 rfl iD rfl ?_;unfold ff;rw[HS.out];exact⟨rfl,VE.jg GG.out.2 (Po _),H2.only GG.out.2 VI⟩):zp:=h
theorem zdz(h:zp:=by
 rintro e w9 ⟨rfl,U1⟩;rw[U1];clear U1 w9;dsimp only;go_wp2;go_ret;unfold ff;rw[HS.out];exact⟨rfl,ht.alloc _,H2.alloc _⟩):zp:=h
theorem zd4(h:zp:=by
 obtain⟨⟨n,r'⟩,h1,h2⟩:=PU.1 h;cases h2
 have:=rW h1;dsimp only at this⊢;omega):zp:=h
theorem zen(h:zp:=by
 go_ret;exact⟨rfl,ag _ _ _ _,H.fu hp hbp Vy hst zaa (fun _=>rfl)⟩):zp:=h
theorem zeo(h:zp:=by
 go_ret;exact⟨rfl,ag _ _ _ _,H.fu hp hbp Vy hst zaa (fun h=>zaa)⟩):zp:=h
theorem zet(h:zp:=by
 rw[HS.out];exact⟨((au.refl p w).alloc _).trans ht,b,zaR,h5,rfl⟩):zp:=h
theorem zeM(h:zp:=by
 go_enter func212,ntmps212;go_wp2;go_ret;exact⟨za2,rfl⟩):zp:=h
theorem ze7(h:zp:=by
 simp only[Value.slice.injEq]at WQ;exact WQ.2.1):zp:=h
theorem ze8(h:zp:=by
 go_wp2;go_ret;exact⟨by rw[HR.out];simp,U3⟩):zp:=h
theorem zfd(h:zp:=by
 unfold U.eY;split
 ·omega
 ·split<;>omega):zp:=h
theorem zff(h:zp:=by
 go_wp2;go_meet
 case rel=>exact⟨rfl,rfl⟩):zp:=h
theorem zfy(h:zp:=by
 go_ret;exact⟨za2,rfl⟩):zp:=h
theorem zao(h:zp:=by rw[P1];rfl):zp:=h
theorem zat(h:zp:=by simp[World.frozen?,hN]):zp:=h
theorem zaz(h:zp:=by rw[J.pOf,hx];rfl):zp:=h
theorem zaL(h:zp:=by rw[Pt w p 2 _ _ _ hp];rfl):zp:=h
theorem zaR(h:zp:=by simp at h4;omega):zp:=h
theorem za2(h:zp:=by rw[HP.out];rfl):zp:=h
theorem za4(h:zp:=by simpa using h3):zp:=h
theorem zbr(h:zp:=by simpa using U2):zp:=h
theorem zbR(h:zp:=by rw[Pt w p 0 _ _ _ hp];rfl):zp:=h
theorem zbS(h:zp:=by rw[Pt w p 1 _ _ _ hp];rfl):zp:=h
theorem zbT(h:zp:=by unfold Hid J.bW;rw[ha]):zp:=h
theorem zbZ(h:zp:=by simp[World.frozen?,hp]):zp:=h
theorem zcf(h:zp:=by unfold Hid J.da;rw[hn];simp only;rw[hd];simp only;rw[hy];rfl):zp:=h
theorem zch(h:zp:=by unfold Hid;rw[J.bh,U.cd,h1,U.fD,h2,U.bO,h3,hn];rfl):zp:=h
theorem zcp(h:zp:=by unfold Hid;rw[J.bh,U.cd,h1,U.fD,h2,hn];rfl):zp:=h
theorem zcr(h:zp:=by unfold Hid J.cI;rw[hn];simp only;rw[hy];rfl):zp:=h
open Tryz
variable {s x:()}{k p cap N n g base size:Nat}{w w' b a c w1 w2:World}{v:Value}{num dep:Int}{r l:List ()}{e t:TypeId}{xs:List Value}{row:Option Nat}
section
open Go.RowKit
open Go.PlainAid (bt get_bt bt_nonneg bt_le bt_end)
theorem dH(c:Int)(w:World):() 251 #[.int .u8 c] w fun e w'=>e=.returned (.bool (U.small c))/\w'=w:=by
 by_cases h1:97<=c
 ·by_cases h2:c<=122
  ·go_enter func251,ntmps251;go_wp2;go_ret;exact⟨by simp[U.small,h1,h2],rfl⟩
  ·go_enter func251,ntmps251;go_wp2;go_ret;exact⟨by rw[U.small,Ql (show ¬c<=122 by omega),Rj];rfl,rfl⟩
 ·go_enter func251,ntmps251;go_wp2;go_ret;exact⟨by rw[U.small,Ql (show ¬97<=c by omega),RQ];rfl,rfl⟩
theorem mD(c:Int)(w:World):() 252 #[.int .u8 c] w fun e w'=>e=.returned (.bool (U.jW c))/\w'=w:=by
 by_cases h1:48<=c
 ·by_cases h2:c<=57
  ·go_enter func252,ntmps252;go_wp2;go_ret;exact⟨by simp[U.jW,h1,h2],rfl⟩
  ·go_enter func252,ntmps252;go_wp2;go_ret;exact⟨by rw[U.jW,Ql (show ¬c<=57 by omega),Rj];rfl,rfl⟩
 ·go_enter func252,ntmps252;go_wp2;go_ret;exact⟨by rw[U.jW,Ql (show ¬48<=c by omega),RQ];rfl,rfl⟩
namespace U
theorem zc(h0:small (bt s 0)=true)(h:(small (bt s k)||(jW (bt s k)||decide (bt s k=95)))=true):jH s k=true:=by
 by_cases hk:k=0
 ·rw[hk,wR];exact h0
 ·unfold jH more;unfold jW at h;rw[Qp (show k≠0 from hk),Te,Bool.or_comm (decide (bt s k=95))];exact h
theorem JS(h1:small (bt s k)=false)(h2:jW (bt s k)=false)(h3:¬bt s k=95):jH s k=false:=by
 unfold jH more;unfold jW at h2;rw[h1,h2,Ql h3,Tf,Rj,Tf]
theorem Bo(hk:k<s.size)(h:jH s k=false):plain s=false:=by
 rw[plain,vC hk h,RQ]
end U
theorem iu(s:())(w:World)(hs:s.size<=maxLen):() 212 #[s] w fun e w'=>e=.returned (.bool (U.plain s))/\w'=w:=by
 unfold maxLen at hs;have hb:=get_bt s;by_cases he:s.size=0
 ·have he':(s.toList == [])=true:=by rw[Us,<- Ri,U.isEmpty_eq];exact Qp he
  have HP:Hid (U.plain s=false):=by unfold Hid U.plain;rw[Ql (show ¬0<s.size by omega),RQ,Rj]
  exact zeM
 ·have he':(s.toList == [])=false:=by
   rw[Rx];intro h;have:=U.isEmpty_eq s;rw[h]at this;exact he (RO this.symm)
  by_cases h8:8<s.size
  ·have HP:Hid (U.plain s=false):=by unfold Hid U.plain;rw[Ql (show ¬s.size<=8 by omega),Rj,Rj]
   exact zeM
  ·cases hm:U.small (bt s 0)
   ·have HP:Hid (U.plain s=false):=U.Bo (k:=0) zaa (by rw[U.wR];exact hm);have HM:Hid _:=hm;clear hm;go_enter func212,ntmps212;go_wp2_with(go_at_call 251;refine(dH _ _).mono ?_;rintro e w9 ⟨rfl,U1⟩;rw[U1,HM.out];clear U1 w9);exact zfy
   ·have HM:Hid _:=hm;clear hm;go_enter func212,ntmps212;go_wp2_with(go_at_call 251;refine(dH _ _).mono ?_;rintro e w9 ⟨rfl,U1⟩;rw[U1,HM.out];clear U1 w9)
    go_loop[20] (fun i=>∃k:Nat,k<=s.size/\i=.int .i64 k/\∀j,j<k->U.jH s j=true) (fun i=>s.size-(intOf i).toNat)
    case atStart=>exact⟨0,PK _,rfl,fun _ h=>zaa⟩
    case round=>
     obtain⟨k,hk,rfl,Vw⟩:=hrel;have Hok:Hid (∀j,j<k->U.jH s j=true):=Vw;clear Vw;by_cases Vd:k<s.size
     ·cases h1:U.small (bt s k)
      ·cases h2:U.jW (bt s k)
       ·by_cases h3:bt s k=95
        ·have HS:Hid _:=U.ze Hok (U.zc HM.out (by rw[Qp h3,Ul,Ul]));have H1:Hid _:=h1;have H2:Hid _:=h2;have h3':(bt s k != 95)=false:=by rw[h3];rfl
         clear h1 h2 h3;exact zcZ
        ·have HP:Hid (U.plain s=false):=U.Bo Vd (U.JS h1 h2 h3);have H1:Hid _:=h1;have H2:Hid _:=h2;have h3':(bt s k != 95)=true:=za4;clear h1 h2 h3;go_wp2_with(first|(go_at_call 251;refine(dH _ _).mono ?_;rintro e w9 ⟨rfl,U1⟩;rw[U1,H1.out];clear U1 w9)|(go_at_call 252;refine(mD _ _).mono ?_;rintro e w9 ⟨rfl,U1⟩;rw[U1,H2.out];clear U1 w9));exact zfy
       ·have HS:Hid _:=U.ze Hok (U.zc HM.out (by rw[h2,Sk,Ul]));have H1:Hid _:=h1;have H2:Hid _:=h2;clear h1 h2;exact zcZ
      ·have HS:Hid _:=U.ze Hok (U.zc HM.out (by rw[h1,Sk]));have H1:Hid _:=h1;clear h1;go_wp2_with(go_at_call 251;refine(dH _ _).mono ?_;rintro e w9 ⟨rfl,U1⟩;rw[U1,H1.out];clear U1 w9)
       go_round
       case rel=>exact⟨k+1,zaa,zah,HS.out⟩
       case measure=>simp[intOf];omega
     ·obtain rfl:k=s.size:=zaa;have HP:Hid (U.plain s=true):=by
       unfold Hid U.plain;rw[U.Fv Hok.out,Te,Qp (show 0<s.size by omega),Qp (show s.size<=8 by omega)];rfl
      clear hb;go_wp2;exact zfy
structure iB(w:World):Prop where
 syn:∃ev,w.cell? ⟨7,0,none⟩=some ev/\(ev=.nilIface\/∃te pe,ev=.iface te pe)
 rng:∃ev,w.cell? ⟨8,0,none⟩=some ev/\(ev=.nilIface\/∃te pe,ev=.iface te pe)
def KP(s:())(w:World)(e:Ending)(w':World):Prop:=Below w w w'/\∃u:Int,e=.returned (.tuple #[.int .u64 u,.bool (U.cE s)])/\(U.cE s=true->u=U.dV s)
theorem qx(w:World)(t:TypeId)(s:()):Below w w (Lib.bytesWorld w t s):=by
 unfold Lib.bytesWorld;exact Lib.below_freeze ((Below.drew (Pq _ w)).alloc (Po _) _) (p:=⟨w,_,none⟩) (Po _) 1
theorem v8{p:Addr}(h:w.cell? p=some v)(hb:Below w w w'):w'.cell? p=some v:=by
 rw[hb.cell (PW w _ h)];exact h
theorem iB.aq(h:iB w)(hb:Below w w w'):iB w':=
 let⟨e1,h1,h2⟩:=h.syn
 let⟨e3,h3,h4⟩:=h.rng
 ⟨⟨e1,v8 h1 hb,h2⟩,⟨e3,v8 h3 hb,h4⟩⟩
theorem il(s p:()):Lib.hasPrefix s.data.toList p.data.toList=U.cy s p:=by
 rw[<- Lib.hasPrefix_raw,U.cy,U.EG]
theorem ox{p:()}(h:U.cy s p=true):(⟨(Lib.trimPrefix s.data.toList p.data.toList).toArray⟩:())=s.extract p.size s.size:=by
 refine Lib.trimPrefix_hit s p (U.qR h) ?_;rw[U.EG];rw[U.cy,Qe]at h;exact h.2
theorem oL(s:())(w:World)(hs:s.size<=1073741824)(hv:iB w):() 218 #[s] w (KP s w):=by
 have hb:=get_bt s;by_cases h0:1<s.size/\bt s 0=48
 ·obtain⟨h1,h2⟩:=h0;have HD:Hid (U.cE s=false):=by
   unfold Hid;rw[U.cE,U.sG,Qp h1,Qp h2,Te,Ul,Sk,Sk,Bool.not_true,Rj]
  have h2':(bt s 0 == 48)=true:=by rw[h2];rfl
  clear h2;go_enter func218,ntmps218;go_wp2;go_ret2;exact⟨Pq _ _,0,by rw[HD.out];rfl,fun h=>by rw[HD.out]at h;cases h⟩
 ·have HN:Hid _:=Num.Bh s h0;have HD0:Hid (decide (1<s.size)=true->(bt s 0 == 48)=false):=fun h=>by
   rw[Rx];exact fun e=>h0 ⟨RO h,e⟩
  clear h0;go_enter func218,ntmps218
  go_upto_region 1 with fail
  go_cut[13] (fun c wx=>c=.bool false/\wx=w)
  case first=>
   by_cases h1:1<s.size
   ·have h2':=HD0.out (Qp h1);exact zff
   ·exact zff
  case rest=>
   obtain⟨rfl,hwc⟩:=hcut;rw[hwc];clear hwc wc;cases hp:Lib.parseUintB 64 s.data.toList with
   |ok u=>
    have HU:Hid _:=HN.out.1 u hp;go_wp2_with fail;refine(strconv_ParseUint_10_at64_ok s zaa u hp _).mono ?_;rintro e w1 ⟨rfl,Vg⟩;have U3:Below w w w1:=by
     rcases Vg with h|h
     ·rw[h];exact Pq _ _
     ·rw[h];exact qx _ _ _
    clear Vg hp;dsimp only;go_wp2
    go_quiet(fail)
    go_wp2;go_ret2;exact⟨RM U3 _,u,by rw[HU.out.1];rfl,fun _=>HU.out.2.symm⟩
   |«syntax»=>
    have HU:Hid _:=HN.out.2 (fun u h=>by rw[hp]at h;cases h);obtain⟨ev,VT,YW⟩:=hv.syn;go_wp2_with fail;refine(strconv_ParseUint_10_at64_syntax s zaa hp ev _ VT YW).mono ?_;rintro e w1 ⟨N,rfl,hN,Wr,U3⟩;clear hp Wr;dsimp only;go_wp2
    go_quiet(fail)
    go_wp2;go_ret2;exact⟨RM U3 _,0,by rw[HU.out];rfl,fun h=>by rw[HU.out]at h;cases h⟩
   |range=>
    have HU:Hid _:=HN.out.2 (fun u h=>by rw[hp]at h;cases h);obtain⟨ev,VT,YW⟩:=hv.rng;go_wp2_with fail;refine(strconv_ParseUint_10_at64_range s zaa hp ev _ VT YW).mono ?_;rintro e w1 ⟨N,rfl,hN,Wr,U3⟩;clear hp Wr;dsimp only;go_wp2
    go_quiet(fail)
    go_wp2;go_ret2;exact⟨RM U3 _,18446744073709551615,by rw[HU.out];rfl,fun h=>by rw[HU.out]at h;cases h⟩
theorem mF(s:())(w:World)(hs:s.size<=1073741824)(hv:iB w):() 255 #[s] w fun e w'=>e=.returned (.bool (U.kP s))/\Below w w w':=by
 cases hb:U.cy s U.bA
 ·have HL:Hid (U.kP s=false):=by unfold Hid U.kP;rw[hb,RQ]
  have HB:Hid _:=(il s U.bA).trans hb;clear hb;go_enter func255,ntmps255;go_wp2_with fail;refine(strings_CutPrefix s U.bA _).mono ?_;rintro e w9 ⟨rfl,U1⟩;rw[U1,HB.out];clear U1 w9;dsimp only;go_wp2;go_ret;exact⟨by rw[HL.out];rfl,Pq _ _⟩
 ·have HL:Hid (U.kP s=(U.cE (s.extract 6 s.size)&&(decide (0<U.dV (s.extract 6 s.size))&&decide (U.dV (s.extract 6 s.size)<=1500)))):=by unfold Hid U.kP;rw[hb,Te]
  have HB:Hid _:=(il s U.bA).trans hb;have HC:Hid ((⟨(Lib.trimPrefix s.data.toList U.bA.data.toList).toArray⟩:())=s.extract 6 s.size):=ox hb;have hr:(s.extract 6 s.size).size<=1073741824:=zaf;clear hb;go_enter func255,ntmps255;go_wp2_with fail;refine(strings_CutPrefix s U.bA _).mono ?_;rintro e w9 ⟨rfl,U1⟩;rw[U1,HB.out,HC.out];clear U1 w9 HC;generalize s.extract 6 s.size=r at *;dsimp only;go_wp2_with fail;refine(oL r _ hr hv).mono ?_;rintro e w1 ⟨U3,u,rfl,hu⟩;have HU:Hid _:=hu;clear hu;dsimp only;cases hk:U.cE r
  ·have HK:Hid _:=hk;clear hk;go_wp2;go_ret;exact⟨by rw[HL.out,HK.out];rfl,U3⟩
  ·have HV:Hid _:=HU.out hk;have HK:Hid _:=hk;clear hk HU;by_cases h1:1<=u
   ·by_cases h2:u<=1500
    ·have HR:Hid (U.kP s=true):=by unfold Hid;rw[HL.out,HK.out,<- HV.out,Qp (show 0<u by omega),Qp h2];rfl
     exact ze8
    ·have HR:Hid (U.kP s=false):=by unfold Hid;rw[HL.out,HK.out,<- HV.out,Ql h2,Rj];rfl
     have h2':decide (u<=1500)=false:=Ql h2;exact ze8
   ·have HR:Hid (U.kP s=false):=by unfold Hid;rw[HL.out,HK.out,<- HV.out,Ql (show ¬0<u by omega),RQ];rfl
    go_wp2;go_ret;exact⟨by rw[HR.out];rfl,U3⟩
theorem jD(s:())(w:World)(hs:s.size<=1073741824)(hv:iB w):() 216 #[s] w fun e w'=>e=.returned (.bool (U.called s))/\Below w w w':=by
 cases hp:U.plain s
 ·cases hl:U.kP s
  ·have HC:Hid (U.called s=false):=by unfold Hid U.called;rw[hp,hl];rfl
   exact zcV
  ·have HC:Hid (U.called s=true):=by unfold Hid U.called;rw[hp,hl];rfl
   exact zcV
 ·have HC:Hid (U.called s=true):=by unfold Hid U.called;rw[hp,Sk]
  have HP:Hid _:=hp;clear hp;go_enter func216,ntmps216;go_wp2_with(go_at_call 212;refine(iu s _ zag).mono ?_;rintro e w9 ⟨rfl,U1⟩;rw[U1,HP.out];clear U1 w9);go_ret;exact⟨by rw[HC.out];rfl,Pq _ _⟩
theorem tv(s:())(w:World)(hs:s.size<=1073741824)(hb:U.cy s U.kN=true)(hp:U.plain (s.extract 5 s.size)=true):() 176 #[s] w fun e w'=>e=.returned (.bool (U.bM s))/\Below w w w':=by
 have HR:Hid (U.bM s=true):=by unfold Hid U.bM;rw[hb,hp,Bool.and_self,Ul]
 have HB:Hid _:=(il s U.kN).trans hb;have HC:Hid ((⟨(Lib.trimPrefix s.data.toList U.kN.data.toList).toArray⟩:())=s.extract 5 s.size):=ox hb;have HP:Hid _:=hp;have hr:(s.extract 5 s.size).size<=1073741824:=zaf;clear hb hp;go_enter func176,ntmps176;go_wp2_with fail;refine(strings_CutPrefix s U.kN _).mono ?_;rintro e w9 ⟨rfl,U1⟩;rw[U1,HB.out,HC.out];clear U1 w9 HC;generalize s.extract 5 s.size=r at *;dsimp only;go_wp2_with(go_at_call 212;refine(iu r _ zag).mono ?_;rintro e w9 ⟨rfl,U1⟩;rw[U1,HP.out];clear U1 w9);go_ret;exact⟨by rw[HR.out];rfl,Pq _ _⟩
theorem tw(s:())(w:World)(hs:s.size<=1073741824)(hv:iB w)(hb:U.cy s U.kN=false):() 176 #[s] w fun e w'=>e=.returned (.bool (U.bM s))/\Below w w w':=by
 have HR:Hid (U.bM s=U.called s):=by unfold Hid U.bM;rw[hb,RQ,Tf]
 have HB:Hid _:=(il s U.kN).trans hb;clear hb;cases hc:U.called s
 all_goals
  have HC:Hid _:=hc;clear hc;go_enter func176,ntmps176;go_wp2_with fail;refine(strings_CutPrefix s U.kN _).mono ?_;rintro e w9 ⟨rfl,U1⟩;rw[U1,HB.out];clear U1 w9;dsimp only;go_wp2_with(go_at_call 216;refine(jD s _ hs hv).mono ?_;rintro e w9 ⟨rfl,VW⟩;rw[HC.out]);go_ret;exact⟨by rw[HR.out,HC.out];rfl,VW⟩
theorem yD(s:())(w:World)(hs:s.size<=1073741824)(hv:iB w)(hb:U.cy s U.kN=true)(hp:U.plain (s.extract 5 s.size)=false):() 176 #[s] w fun e w'=>e=.returned (.bool (U.bM s))/\Below w w w':=by
 have HR:Hid (U.bM s=U.called s):=by unfold Hid U.bM;rw[hb,hp,Rj,Tf]
 have HB:Hid _:=(il s U.kN).trans hb;have HC0:Hid ((⟨(Lib.trimPrefix s.data.toList U.kN.data.toList).toArray⟩:())=s.extract 5 s.size):=ox hb;have HP:Hid _:=hp;have hr:(s.extract 5 s.size).size<=1073741824:=zaf;clear hb hp;cases hc:U.called s
 all_goals
  have HC:Hid _:=hc;clear hc;go_enter func176,ntmps176;go_wp2_with fail;refine(strings_CutPrefix s U.kN _).mono ?_;rintro e w9 ⟨rfl,U1⟩;rw[U1,HB.out,HC0.out];clear U1 w9 HC0;generalize s.extract 5 s.size=r at *;dsimp only;go_wp2_with(first
   |(go_at_call 212;refine(iu r _ zag).mono ?_;rintro e w9 ⟨rfl,U1⟩;rw[U1,HP.out];clear U1 w9)
   |(go_at_call 216;refine(jD s _ hs hv).mono ?_;rintro e w9 ⟨rfl,VW⟩;rw[HC.out]))
  go_ret;exact⟨by rw[HR.out,HC.out];rfl,VW⟩
theorem vj(s:())(w:World)(hs:s.size<=1073741824)(hv:iB w):() 176 #[s] w fun e w'=>e=.returned (.bool (U.bM s))/\Below w w w':=by
 cases hb:U.cy s U.kN
 ·exact tw s w hs hv hb
 ·cases hp:U.plain (s.extract 5 s.size)
  ·exact yD s w hs hv hb hp
  ·exact tv s w hs hb hp
structure Env(w:World):Prop where
 err:iB w
 tab:Lib.TabIs prog w "internal/strconv.uint64pow10" .u64 Lib.pow10Tab
theorem Env.aq(h:Env w)(hb:Below w w w'):Env w':=⟨h.err.aq hb,Lib.tabBelow_of_tabIs h.tab w' hb⟩
theorem jL(n:Nat)(w:World)(hn:n<=1073741824)(hv:Env w):() 177 #[(n:Int)] w fun e w'=>e=.returned (.string (U.bA++U.dec n))/\Below w w w':=by
 have hd:(U.dec n).size<=20:=U.im zaa;have HI:Hid ((⟨(Lib.itoa n).toArray⟩:())=U.dec n):=by
  unfold Hid Lib.itoa U.dec;rw[Pu zaa];rfl
 go_enter func177,ntmps177;go_wp2_with fail;refine(strconv_Itoa n zaa zaa _ hv.tab).mono ?_;rintro e w1 ⟨rfl,k,os,Vg⟩;have U3:Below w w w1:=by rw[Vg];exact Lib.below_grow _ _ (Po _) _ _
 rw[HI.out];clear Vg;dsimp only;go_wp2;go_ret;exact⟨rfl,U3⟩
def br(er line:Int)(w:World)(e:Ending)(w':World):Prop:=Below w w w'/\∃b,w.heap.size<=b/\w'.heap[b]?=some (.cells #[(er:Int),(line:Int)] 77 (0,0))/\e=.panicked [{ v:=.iface 109 (.agg #[.pointer (some ⟨b,0,none⟩)]),recovered:=false }]
theorem ba(num dep er:Int)(w:World):() 73 #[.agg #[(num:Int),(dep:Int)],(er:Int)] w (br er num w):=by
 go_enter func73,ntmps73;go_wp2;refine⟨rfl,((Pq _ _).alloc (Po _) _).alloc zad _,w.heap.size+1,zaa,?_,rfl⟩;have h:=PG (w.alloc (.cells #[(num:Int),(dep:Int)] 198)) (.cells #[(er:Int),(num:Int)] 77);simpa using h
structure ak(w:World)(p:Nat)(num dep:Int)(l:List ()):Prop where
 row:∃a cap,w.heap[p]?=some (.cells #[(num:Int),(dep:Int),.slice a l.length cap] 289 (0,0))/\l.length<=cap/\(0<l.length->∃b off,a=some ⟨b,off,none⟩/\b<p/\b<w.heap.size/\rD w b off l)
 len:l.length<=1073741824
 sizes:∀x∈l,x.size<=1073741824
theorem ak.fu{b off cap':Nat}{a':Option Addr}(H:ak w p num dep (x::r))(hp:w.heap[p]?=some (.cells #[(num:Int),(dep:Int),.slice (some (b,off)) (x::r).length cap] 289 (0,0)))
  (hbp:b<p) (Vy:b<w.heap.size) (hst:rD w b off (x::r)) (hc:r.length<=cap') (ha:0<r.length->a'=some ⟨b,off+1,none⟩):ak (w.setCell (p,2) (.slice a' r.length cap')) p num dep r:=by
 have ho:=ag w p 2 (.slice a' r.length cap');refine⟨⟨a',cap',?_,hc,fun h=>⟨b,off+1,ha h,hbp,by rw[ho.size];exact Vy,?_⟩⟩,by have:=H.len;simp at this;omega,fun y hy=>H.sizes y (P3 _ hy)⟩
 ·rw[PR w p 2 _ _ _ hp];rfl
 ·intro i hi;have:=hst.drop 1 i zbw;rw[ho.cell (p:=(b,off+1+i)) (UL hbp),this];rfl
theorem nG(p:Nat)(num dep:Int)(w:World)(H:ak w p num dep []):
  () 171 #[p] w (br 2 num w):=by
 obtain⟨a,cap,hp,hc,hs⟩:=H.row;have c0:w.cell? p=some ↑(num:Int):=zbR;have c1:w.cell? (p,1)=some ↑(dep:Int):=zbS;have c2:w.cell? (p,2)=some (.slice a 0 cap):=zaL;go_enter func171,ntmps171;go_wp2_with fail;refine(ba num dep 2 _).mono ?_;rintro e w1 h1;obtain⟨hb,b,h2,h3,rfl⟩:=h1;dsimp only;exact⟨rfl,hb,b,h2,h3,rfl⟩
theorem aG(p:Nat)(num dep:Int)(x:())(r:List ())(w:World)(H:ak w p num dep (x::r)):
  () 171 #[p] w fun e w'=>e=.returned x/\iT p w w'/\ak w' p num dep r:=by
 obtain⟨a,cap,hp,hc,hs⟩:=H.row;have c2:w.cell? (p,2)=some (.slice a (x::r).length cap):=by rw[Pt w p 2 _ _ _ hp];rfl
 have fr:w.frozen? (p,2)=false:=zbZ;obtain⟨b,off,rfl,hbp,Vy,hst⟩:=hs zad;have d0:=hst 0 zad;simp only[U.at',List.getD_cons_zero,Nat.add_zero]at d0;have Yy:r.length+1<=cap:=by simpa using hc
 go_enter func171,ntmps171;go_wp2
 ·exact zeo
 ·exact zen
theorem skip_none(p:Nat)(num dep:Int)(k:())(w:World)(H:ak w p num dep []):
  () 213 #[p,k] w fun e w'=>e=.returned false/\w'=w:=by
 obtain⟨a,cap,hp,hc,hs⟩:=H.row;have c2:w.cell? (p,2)=some (.slice a 0 cap):=zaL;go_enter func213,ntmps213;go_wp2;go_ret;exact⟨rfl,rfl⟩
theorem rY(p:Nat)(num dep:Int)(x:())(r:List ())(k:())(w:World)(H:ak w p num dep (x::r))(hk:(x.toList == k.toList)=false):
  () 213 #[p,k] w fun e w'=>e=.returned false/\w'=w:=by
 obtain⟨a,cap,hp,hc,hs⟩:=H.row;have c2:w.cell? (p,2)=some (.slice a (x::r).length cap):=zaL;obtain⟨b,off,rfl,hbp,Vy,hst⟩:=hs zad;have d0:=hst 0 zad;simp only[U.at',List.getD_cons_zero,Nat.add_zero]at d0;have VB:(x.toList != k.toList)=true:=by rw[bne,hk];rfl
 go_enter func213,ntmps213;go_wp2;go_ret;exact⟨rfl,rfl⟩
theorem kU(p:Nat)(num dep:Int)(x:())(r:List ())(k:())(w:World)(H:ak w p num dep (x::r))(hk:(x.toList == k.toList)=true):
  () 213 #[p,k] w fun e w'=>e=.returned true/\iT p w w'/\ak w' p num dep r:=by
 obtain⟨a,cap,hp,hc,hs⟩:=H.row;have c2:w.cell? (p,2)=some (.slice a (x::r).length cap):=zaL;have fr:w.frozen? (p,2)=false:=zbZ;obtain⟨b,off,rfl,hbp,Vy,hst⟩:=hs zad;have d0:=hst 0 zad;simp only[U.at',List.getD_cons_zero,Nat.add_zero]at d0;have Yy:r.length+1<=cap:=by simpa using hc
 have VB:(x.toList != k.toList)=false:=by rw[bne,hk];rfl
 go_enter func213,ntmps213;go_wp2
 ·exact zeo
 ·exact zen
theorem NF(p:Nat)(num dep:Int)(w:World)(H:ak w p num dep []):
  () 120 #[p] w fun e w'=>e=.returned (.tuple #[])/\w'=w:=by
 obtain⟨a,cap,hp,hc,hs⟩:=H.row;have c2:w.cell? (p,2)=some (.slice a 0 cap):=zaL;go_enter func120,ntmps120;go_wp2;go_end0;exact⟨rfl,rfl⟩
theorem Lk(p:Nat)(num dep:Int)(l:List ())(w:World)(H:ak w p num dep l)(h0:0<l.length):
  () 120 #[p] w (br 2 num w):=by
 obtain⟨a,cap,hp,hc,hs⟩:=H.row;have c0:w.cell? p=some ↑(num:Int):=zbR;have c1:w.cell? (p,1)=some ↑(dep:Int):=zbS;have c2:w.cell? (p,2)=some (.slice a l.length cap):=zaL;go_enter func120,ntmps120;go_wp2_with fail;refine(ba num dep 2 _).mono ?_;rintro e w1 h1;obtain⟨hb,b,h2,h3,rfl⟩:=h1;dsimp only;exact⟨rfl,hb,b,h2,h3,rfl⟩
end
section
open Go.RowKit
structure au(p:Nat)(w w':World):Prop where
 os:w'.os=w.os
 tape:w'.tape=w.tape
 output:w'.output=w.output
 size:w.heap.size<=w'.heap.size
 block:∀k,k<w.heap.size->k≠p->w'.heap[k]?=w.heap[k]?
theorem au.refl(p:Nat)(w:World):au p w w:=⟨rfl,rfl,rfl,Po _,fun _ _ _=>rfl⟩
theorem au.trans(h:au p a b)(k:au p b c):au p a c:=
 ⟨k.os.trans h.os,k.tape.trans h.tape,k.output.trans h.output,Pr h.size k.size,fun i hi hp=>(k.block i (PY hi h.size) hp).trans (h.block i hi hp)⟩
theorem iT.al(h:iT p w w'):au p w w':=⟨h.os,h.tape,h.output,zbk,fun k _ hp=>h.block k hp⟩
theorem aU(h:Below w w w'):au p w w':=⟨h.os,h.tape,h.output,h.size,fun k hk _=>h.block k hk⟩
theorem au.below{B:Nat}(h:au p w w')(hb:Below B a w)(hB:B<=p)(hs:B<=w.heap.size):Below B a w':=
 hb.trans ⟨h.os,h.tape,h.output,h.size,fun k hk=>h.block k zaa zaa⟩
def a7(p:Nat)(w:World):Prop:=∃w0:World,w0.heap.size<=p/\Env w0/\Below w0 w0 w
theorem a7.here(h:a7 p w):Env w:=let⟨_,_,h2,h3⟩:=h;h2.aq h3
theorem a7.al(h:a7 p w)(ht:au p w w'):a7 p w':=
 let⟨w0,h1,h2,h3⟩:=h
 ⟨w0,h1,h2,ht.below h3 h1 h3.size⟩
theorem ak.aq(H:ak w p num dep l)(hb:Below w w w'):ak w' p num dep l:=by
 obtain⟨a,cap,hp,hc,hs⟩:=H.row;refine⟨⟨a,cap,?_,hc,fun h=>?_⟩,H.len,H.sizes⟩
 ·rw[hb.block p (Pn.1 hp).1];exact hp
 ·obtain⟨b,off,h1,h2,h3,h4⟩:=hs h;exact⟨b,off,h1,h2,PY h3 hb.size,h4.below hb h3⟩
def dj(p:Nat)(er line:Int)(w:World)(e:Ending)(w':World):Prop:=au p w w'/\∃b,w.heap.size<=b/\w'.heap[b]?=some (.cells #[(er:Int),(line:Int)] 77 (0,0))/\e=.panicked [{ v:=.iface 109 (.agg #[.pointer (some ⟨b,0,none⟩)]),recovered:=false }]
theorem cX{er line:Int}{w0:World}{e:Ending}(ht:au p w0 w)(h:br er line w e w'):dj p er line w0 e w':=by
 obtain⟨hb,b,h2,h3,h4⟩:=h;exact⟨ht.trans (aU hb),b,Pr ht.size h2,h3,h4⟩
theorem ak.cells(H:ak w p num dep l):w.cell? p=some ↑(num:Int)/\w.cell? (p,1)=some ↑(dep:Int):=by
 obtain⟨a,cap,hp,hc,hs⟩:=H.row;exact⟨zbR,zbS⟩
def Ia(f:Nat)(P:()->Bool):Prop:=∀(s:()) (w:World),s.size<=1073741824->Env w->() f #[s] w fun e w'=>e=.returned (.bool (P s))/\Below w w w'
theorem uK:Ia 212 U.plain:=fun s w hs _=>(iu s w zag).mono (by rintro e w' ⟨rfl,rfl⟩;exact⟨rfl,Pq _ _⟩)
theorem xy:Ia 216 U.called:=fun s w hs hv=>jD s w hs hv.err
theorem oq:Ia 176 U.bM:=fun s w hs hv=>vj s w hs hv.err
theorem j5(p:Nat)(num dep:Int)(f:Nat)(w:World)(H:ak w p num dep []):
  () 175 #[p,.func (.func f) #[] #[]] w (dj p 2 num w):=by
 go_enter func175,ntmps175;go_wp2_with fail;refine(nG p num dep _ H).mono ?_;rintro e w1 h1;have h2:=cX (au.refl p w) h1;obtain⟨ht,b,h3,h4,rfl⟩:=h2;dsimp only;exact⟨rfl,ht,b,h3,h4,rfl⟩
theorem tQ(p:Nat)(num dep:Int)(x:())(r:List ())(w:World)(H:ak w p num dep (x::r))(hv:a7 p w)(hx:U.plain x=false):
  () 175 #[p,.func (.func 212) #[] #[]] w (dj p 2 num w):=by
 have Vf:=H.sizes x zad;go_enter func175,ntmps175;go_wp2_with fail;refine(aG p num dep x r _ H).mono ?_;rintro e w1 ⟨rfl,ho,H1⟩;have U7:=ho.al;have VT:=hv.al U7;clear ho;dsimp only;go_wp2_with fail;refine(uK x _ Vf VT.here).mono ?_;rintro e w2 ⟨rfl,U4⟩;rw[hx];have H2:=H1.aq U4;obtain⟨c0,c1⟩:=H2.cells;have VE:au p w w2:=U7.trans (aU U4);clear H1 U4 U7 VT;dsimp only;go_wp2_with fail;refine(ba num dep 2 _).mono ?_;rintro e w3 h3;obtain⟨ht,b,h4,h5,rfl⟩:=cX VE h3;dsimp only;exact⟨rfl,ht,b,h4,h5,rfl⟩
theorem rH(p:Nat)(num dep:Int)(x:())(r:List ())(w:World)(H:ak w p num dep (x::r))(hv:a7 p w)(hx:U.plain x=true):
  () 175 #[p,.func (.func 212) #[] #[]] w fun e w'=>e=.returned x/\au p w w'/\ak w' p num dep r:=by
 have Vf:=H.sizes x zad;go_enter func175,ntmps175;go_wp2_with fail;refine(aG p num dep x r _ H).mono ?_;rintro e w1 ⟨rfl,ho,H1⟩;have U7:=ho.al;have VT:=hv.al U7;clear ho;dsimp only;go_wp2_with fail;refine(uK x _ Vf VT.here).mono ?_;rintro e w2 ⟨rfl,U4⟩;rw[hx];have H2:=H1.aq U4;have VE:au p w w2:=U7.trans (aU U4);clear H1 U4 U7 VT;dsimp only;go_wp2;go_ret;exact⟨rfl,VE,H2⟩
theorem og(p:Nat)(num dep:Int)(x:())(r:List ())(w:World)(H:ak w p num dep (x::r))(hv:a7 p w)(hx:U.called x=false):
  () 175 #[p,.func (.func 216) #[] #[]] w (dj p 2 num w):=by
 have Vf:=H.sizes x zad;go_enter func175,ntmps175;go_wp2_with fail;refine(aG p num dep x r _ H).mono ?_;rintro e w1 ⟨rfl,ho,H1⟩;have U7:=ho.al;have VT:=hv.al U7;clear ho;dsimp only;go_wp2_with fail;refine(xy x _ Vf VT.here).mono ?_;rintro e w2 ⟨rfl,U4⟩;rw[hx];have H2:=H1.aq U4;obtain⟨c0,c1⟩:=H2.cells;have VE:au p w w2:=U7.trans (aU U4);clear H1 U4 U7 VT;dsimp only;go_wp2_with fail;refine(ba num dep 2 _).mono ?_;rintro e w3 h3;obtain⟨ht,b,h4,h5,rfl⟩:=cX VE h3;dsimp only;exact⟨rfl,ht,b,h4,h5,rfl⟩
theorem mP(p:Nat)(num dep:Int)(x:())(r:List ())(w:World)(H:ak w p num dep (x::r))(hv:a7 p w)(hx:U.called x=true):
  () 175 #[p,.func (.func 216) #[] #[]] w fun e w'=>e=.returned x/\au p w w'/\ak w' p num dep r:=by
 have Vf:=H.sizes x zad;go_enter func175,ntmps175;go_wp2_with fail;refine(aG p num dep x r _ H).mono ?_;rintro e w1 ⟨rfl,ho,H1⟩;have U7:=ho.al;have VT:=hv.al U7;clear ho;dsimp only;go_wp2_with fail;refine(xy x _ Vf VT.here).mono ?_;rintro e w2 ⟨rfl,U4⟩;rw[hx];have H2:=H1.aq U4;have VE:au p w w2:=U7.trans (aU U4);clear H1 U4 U7 VT;dsimp only;go_wp2;go_ret;exact⟨rfl,VE,H2⟩
theorem pN(p:Nat)(num dep:Int)(x:())(r:List ())(w:World)(H:ak w p num dep (x::r))(hv:a7 p w)(hx:U.bM x=false):
  () 175 #[p,.func (.func 176) #[] #[]] w (dj p 2 num w):=by
 have Vf:=H.sizes x zad;go_enter func175,ntmps175;go_wp2_with fail;refine(aG p num dep x r _ H).mono ?_;rintro e w1 ⟨rfl,ho,H1⟩;have U7:=ho.al;have VT:=hv.al U7;clear ho;dsimp only;go_wp2_with fail;refine(oq x _ Vf VT.here).mono ?_;rintro e w2 ⟨rfl,U4⟩;rw[hx];have H2:=H1.aq U4;obtain⟨c0,c1⟩:=H2.cells;have VE:au p w w2:=U7.trans (aU U4);clear H1 U4 U7 VT;dsimp only;go_wp2_with fail;refine(ba num dep 2 _).mono ?_;rintro e w3 h3;obtain⟨ht,b,h4,h5,rfl⟩:=cX VE h3;dsimp only;exact⟨rfl,ht,b,h4,h5,rfl⟩
theorem oK(p:Nat)(num dep:Int)(x:())(r:List ())(w:World)(H:ak w p num dep (x::r))(hv:a7 p w)(hx:U.bM x=true):
  () 175 #[p,.func (.func 176) #[] #[]] w fun e w'=>e=.returned x/\au p w w'/\ak w' p num dep r:=by
 have Vf:=H.sizes x zad;go_enter func175,ntmps175;go_wp2_with fail;refine(aG p num dep x r _ H).mono ?_;rintro e w1 ⟨rfl,ho,H1⟩;have U7:=ho.al;have VT:=hv.al U7;clear ho;dsimp only;go_wp2_with fail;refine(oq x _ Vf VT.here).mono ?_;rintro e w2 ⟨rfl,U4⟩;rw[hx];have H2:=H1.aq U4;have VE:au p w w2:=U7.trans (aU U4);clear H1 U4 U7 VT;dsimp only;go_wp2;go_ret;exact⟨rfl,VE,H2⟩
theorem CL(p:Nat)(num dep:Int)(w:World)(H:ak w p num dep []):
  () 178 #[p] w (dj p 2 num w):=by
 go_enter func178,ntmps178;go_wp2_with fail;refine(nG p num dep _ H).mono ?_;rintro e w1 h1;have h2:=cX (au.refl p w) h1;obtain⟨ht,b,h3,h4,rfl⟩:=h2;dsimp only;exact⟨rfl,ht,b,h3,h4,rfl⟩
theorem IZ(p:Nat)(num dep:Int)(x:())(r:List ())(w:World)(H:ak w p num dep (x::r))(hv:a7 p w)(hx:U.cE x=false):
  () 178 #[p] w (dj p 2 num w):=by
 have Vf:=H.sizes x zad;go_enter func178,ntmps178;go_wp2_with fail;refine(aG p num dep x r _ H).mono ?_;rintro e w1 ⟨rfl,ho,H1⟩;have U7:=ho.al;have VT:=hv.al U7;clear ho;dsimp only;go_wp2_with fail;refine(oL x _ Vf VT.here.err).mono ?_;rintro e w2 ⟨U4,u,rfl,_⟩;rw[hx];have H2:=H1.aq U4;obtain⟨c0,c1⟩:=H2.cells;have VE:au p w w2:=U7.trans (aU U4);clear H1 U4 U7 VT;dsimp only;go_wp2_with fail;refine(ba num dep 2 _).mono ?_;rintro e w3 h3;obtain⟨ht,b,h4,h5,rfl⟩:=cX VE h3;dsimp only;exact⟨rfl,ht,b,h4,h5,rfl⟩
theorem FP(p:Nat)(num dep:Int)(x:())(r:List ())(w:World)(H:ak w p num dep (x::r))(hv:a7 p w)(hx:U.cE x=true):
  () 178 #[p] w fun e w'=>e=.returned (.int .u64 (U.dV x))/\au p w w'/\ak w' p num dep r:=by
 have Vf:=H.sizes x zad;go_enter func178,ntmps178;go_wp2_with fail;refine(aG p num dep x r _ H).mono ?_;rintro e w1 ⟨rfl,ho,H1⟩;have U7:=ho.al;have VT:=hv.al U7;clear ho;dsimp only;go_wp2_with fail;refine(oL x _ Vf VT.here.err).mono ?_;rintro e w2 ⟨U4,u,rfl,hu⟩;rw[hx,hu hx];have H2:=H1.aq U4;have VE:au p w w2:=U7.trans (aU U4);clear H1 U4 U7 VT hu u;dsimp only;go_wp2;go_ret;exact⟨rfl,VE,H2⟩
theorem au.DX{o:Nat}(h:au p w w1)(hN:w.heap.size<=N):au p w (w1.setCell (N,o) v):=by
 have ho:=ag w1 N o v;exact⟨ho.os.trans h.os,ho.tape.trans h.tape,ho.output.trans h.output,by rw[ho.size];exact h.size,fun k hk hp=>(ho.block k zaa).trans (h.block k hk hp)⟩
theorem au.alloc(h:au p w w1)(o:Obj):au p w (w1.alloc o):=h.trans (aU ((Pq _ _).alloc (Po _) _))
theorem au.drew(h:au p w w1):au p w w1.drew:=⟨h.os,h.tape,h.output,h.size,h.block⟩
theorem ak.only(H:ak w p num dep l)(ho:iT N w w')(hN:p<N):ak w' p num dep l:=by
 obtain⟨a,cap,hp,hc,hs⟩:=H.row;refine⟨⟨a,cap,?_,hc,fun h=>?_⟩,H.len,H.sizes⟩
 ·rw[ho.block p zaa];exact hp
 ·obtain⟨b,off,h1,h2,h3,h4⟩:=hs h;refine⟨b,off,h1,h2,by rw[ho.size];exact h3,fun i hi=>?_⟩;rw[ho.cell (p:=(b,off+i)) (show b≠N by omega)];exact h4 i hi
theorem ak.lt(H:ak w p num dep l):p<w.heap.size:=by
 obtain⟨a,cap,hp,hc,hs⟩:=H.row;exact(Pn.1 hp).1
theorem ak.drew(H:ak w p num dep l):ak w.drew p num dep l:=H.aq (Pq _ _).drew
theorem a7.alloc(h:a7 p w)(o:Obj):a7 p (w.alloc o):=h.al ((au.refl p w).alloc o)
theorem ak.alloc(H:ak w p num dep l)(o:Obj):ak (w.alloc o) p num dep l:=H.aq ((Pq _ _).alloc (Po _) _)
theorem Kb:Tryz.f271.results=#[.cell 2 278]:=rfl
theorem G8:(Tryz.prog.info? 278).map (·.size)=some 1:=zab
theorem Gx(p:Nat)(num dep:Int)(x:())(r:List ())(w:World)(H:ak w p num dep (x::r))(hv:a7 p w)(hx:U.called x=true):
  () 271 #[p] w fun e w'=>e=.returned (.agg #[x])/\au p w w'/\ak w' p num dep r:=by
 have VI:=H.lt;go_enter func271,ntmps271;go_wp2_with fail;refine(mP p num dep x r _ (H.alloc _) (hv.alloc _) hx).mono ?_;rintro e w1 ⟨rfl,U7,H1⟩;dsimp only;have hN:w1.heap[w.heap.size]?=some (.cells #[ByteArray.empty] 278 (0,0)):=by
  rw[U7.block w zad zaa];exact PG w _
 have cN:w1.cell? w=some ↑ByteArray.empty:=by rw[Pt w1 _ 0 _ _ _ hN];rfl
 have fN:w1.frozen? w=false:=zat;have ht:au p w w1:=((au.refl p w).alloc _).trans U7;clear U7;go_wp2;have h2:=PR w1 w 0 _ _ (.string x) hN;exact eh Kb _ 278 _ (0,0) _ rfl h2 underlying278 rfl G8 rfl ⟨rfl,ht.DX (Po _),H1.only (ag _ _ _ _) VI⟩
theorem Dz(p:Nat)(num dep:Int)(w:World)(H:ak w p num dep []):
  () 271 #[p] w (dj p 2 num w):=by
 go_enter func271,ntmps271;go_wp2_with fail;refine(j5 p num dep _ _ (H.alloc _)).mono ?_;rintro e w1 ⟨ht,b,h3,h4,rfl⟩;dsimp only;exact⟨rfl,((au.refl p w).alloc _).trans ht,b,by simp at h3;omega,h4,rfl⟩
theorem JM(p:Nat)(num dep:Int)(x:())(r:List ())(w:World)(H:ak w p num dep (x::r))(hv:a7 p w)(hx:U.called x=false):
  () 271 #[p] w (dj p 2 num w):=by
 go_enter func271,ntmps271;go_wp2_with fail;refine(og p num dep x r _ (H.alloc _) (hv.alloc _) hx).mono ?_;rintro e w1 ⟨ht,b,h3,h4,rfl⟩;dsimp only;exact⟨rfl,((au.refl p w).alloc _).trans ht,b,by simp at h3;omega,h4,rfl⟩
namespace J
def pOf(P:()->Bool):List ()->Option (()×List ())
 |[]=>none
 |x::r=>if P x then some (x,r) else none
def eR:List ()->Option (Int×List ())
 |[]=>none
 |x::r=>if U.cE x then some (U.dV x,r) else none
def gb:():=⟨#[114,97,105,115,101]⟩
def gP:():=⟨#[115,101,110,100]⟩
def cZ:():=⟨#[99,97,110,99,101,108]⟩
def bAs:():=⟨#[97,115]⟩
def da(l:List ()):Option ((()×Int×Option ())×List ()):=
 match pOf U.called l with
 |none=>none
 |some (x,l1)=>match eR l1 with
  |none=>none
  |some (d,[])=>some ((x,d,none),[])
  |some (d,y::r)=>if y.toList == bAs.toList then
    match pOf U.called r with
    |none=>none
    |some (a,l3)=>some ((x,d,some a),l3)
   else some ((x,d,none),y::r)
end J
theorem au.cell(h:au p w w'){a:Addr}(hb:a.block<w.heap.size)(hp:¬a.block=p):w'.cell? a=w.cell? a:=PN (w:=w) (h.block a.block hb hp)
def ff(p:Nat)(num dep:Int)(res:Option (Value×List ()))(w:World)(e:Ending)(w':World):Prop:=match res with
 |none=>dj p 2 num w e w'
 |some (v,r)=>e=.returned v/\au p w w'/\ak w' p num dep r
theorem gi(p:Nat)(num dep:Int)(l:List ())(w:World)(H:ak w p num dep l)(hv:a7 p w):
  () 271 #[p] w (ff p num dep ((J.pOf U.called l).map fun q=>(.agg #[.string q.1],q.2)) w):=by
 cases l with
 |nil=>exact Dz p num dep w H
 |cons x r=>
  cases hx:U.called x
  ·have:J.pOf U.called (x::r)=none:=zaz;rw[this];exact JM p num dep x r w H hv hx
  ·have:J.pOf U.called (x::r)=some (x,r):=zaz;rw[this];exact Gx p num dep x r w H hv hx
theorem kG(p:Nat)(num dep:Int)(l:List ())(w:World)(H:ak w p num dep l)(hv:a7 p w):
  () 178 #[p] w (ff p num dep ((J.eR l).map fun q=>(.int .u64 q.1,q.2)) w):=by
 cases l with
 |nil=>exact CL p num dep w H
 |cons x r=>
  cases hx:U.cE x
  ·have:J.eR (x::r)=none:=by rw[J.eR,hx];rfl
   rw[this];exact IZ p num dep x r w H hv hx
  ·have:J.eR (x::r)=some (U.dV x,r):=by rw[J.eR,hx];rfl
   rw[this];exact FP p num dep x r w H hv hx
theorem gV(p:Nat)(num dep:Int)(l:List ())(w:World)(H:ak w p num dep l)(hv:a7 p w):
  () 175 #[p,.func (.func 216) #[] #[]] w (ff p num dep ((J.pOf U.called l).map fun q=>(.string q.1,q.2)) w):=by
 cases l with
 |nil=>exact j5 p num dep _ w H
 |cons x r=>
  cases hx:U.called x
  ·have:J.pOf U.called (x::r)=none:=zaz;rw[this];exact og p num dep x r w H hv hx
  ·have:J.pOf U.called (x::r)=some (x,r):=zaz;rw[this];exact mP p num dep x r w H hv hx
def xk(x:())(d:Int):Option ()->Value
 |none=>.iface 280 (.agg #[.string x,.int .u64 d])
 |some a=>.iface 282 (.agg #[.string x,.int .u64 d,.string a])
theorem BI(p:Nat)(num dep:Int)(l:List ())(w:World)(H:ak w p num dep l)(hv:a7 p w):
  () 272 #[p] w (ff p num dep ((J.da l).map fun q=>(xk q.1.1 q.1.2.1 q.1.2.2,q.2)) w):=by
 have VI:=H.lt;cases hn:J.pOf U.called l with
 |none=>
  have HS:Hid (J.da l=none):=by unfold Hid J.da;rw[hn]
  go_enter func272,ntmps272;go_wp2_with fail;refine(gi p num dep l _ H hv).mono ?_;rintro e w1 h1;rw[hn]at h1;obtain⟨ht,b,h3,h4,rfl⟩:=h1;dsimp only;refine⟨rfl,?_⟩;rw[HS.out];exact⟨ht,b,h3,h4,rfl⟩
 |some q=>
  obtain⟨x,l1⟩:=q;cases hd:J.eR l1 with
  |none=>
   have HS:Hid (J.da l=none):=by unfold Hid J.da;rw[hn];simp only;rw[hd]
   go_enter func272,ntmps272;go_wp2_with fail;refine(gi p num dep l _ H hv).mono ?_;rintro e w1 h1;rw[hn]at h1;obtain⟨rfl,U7,H1⟩:=h1;dsimp only;go_wp2_with fail;refine(kG p num dep l1 _ H1 (hv.al U7)).mono ?_;rintro e w2 h2;rw[hd]at h2;obtain⟨ht,b,h3,h4,rfl⟩:=h2;dsimp only;refine⟨rfl,?_⟩;rw[HS.out];exact⟨U7.trans ht,b,Pr U7.size h3,h4,rfl⟩
  |some q=>
   obtain⟨d,l2⟩:=q;go_enter func272,ntmps272;go_wp2_with fail;refine(gi p num dep l _ H hv).mono ?_;rintro e w1 h1;rw[hn]at h1;obtain⟨rfl,U7,H1⟩:=h1;dsimp only;go_wp2_with fail;refine(kG p num dep l1 _ H1 (hv.al U7)).mono ?_;rintro e w2 h2;rw[hd]at h2;obtain⟨rfl,VE,H2⟩:=h2;dsimp only;have ht:=U7.trans VE;have Zp:=ht.size;clear U7 VE H1;cases l2 with
   |nil=>
    have HS:Hid (J.da l=some ((x,d,none),[])):=by unfold Hid J.da;rw[hn];simp only;rw[hd]
    clear hn hd;go_wp2_with fail;refine(skip_none p num dep J.bAs _ (H2.alloc _)).mono ?_;exact zdz
   |cons y r=>
    cases hy:(y.toList == J.bAs.toList)
    ·have HS:Hid (J.da l=some ((x,d,none),y::r)):=zcf;clear hn hd;go_wp2_with fail;refine(rY p num dep y r J.bAs _ (H2.alloc _) hy).mono ?_;exact zdz
    ·have HS:Hid (J.da l=match J.pOf U.called r with|none=>none|some (a,l3)=>some ((x,d,some a),l3)):=zcf;clear hn hd;go_wp2_with fail;refine(kU p num dep y r J.bAs _ (H2.alloc _) hy).mono ?_;rintro e w3 ⟨rfl,YN,H3⟩;have hp2:=H2.lt;have Wb:au p w w3:=(ht.alloc _).trans YN.al;have hN:w3.heap[w2.heap.size]?=some (.cells #[x,.int .u64 d] 280 (0,0)):=by
      rw[YN.block w2 zaa];exact PG w2 _
     have cN0:w3.cell? w2=some ↑x:=by rw[Pt w3 _ 0 _ _ _ hN];rfl
     have cN1:w3.cell? (w2,1)=some (.int .u64 d):=by rw[Pt w3 _ 1 _ _ _ hN];rfl
     have hNl:w2.heap.size<w3.heap.size:=(Pn.1 hN).1;clear YN;dsimp only;go_wp2_with fail;have hv3:a7 p w3.drew:=(hv.al Wb).al (au.refl p w3).drew;have H3d:ak w3.drew p num dep r:=H3.drew;have HN:Hid (w2.heap.size<w3.heap.size/\¬w2.heap.size=p):=⟨hNl,zaa⟩;cases hr:J.pOf U.called r with
     |none=>
      have HS2:Hid (J.da l=none):=by unfold Hid;rw[HS.out,hr]
      refine TT zab ?_;change wpAny _ _ _ _ _ _ _ (World.drew _);refine yA [0,1] ?_;refine Tc rfl (fun K hK=>?_) (Tc rfl (fun K hK=>?_) UK)
      ·go_simp;refine hK _ _ ?_;clear hK K;refine zA 1 rfl fun K hK=>?_;exact zcY
      ·go_simp;refine hK _ _ ?_;clear hK K;refine yA [0,2] ?_;refine Tc rfl (fun K hK=>?_) (Tc rfl (fun K hK=>?_) UK)
       ·exact zcY
       ·go_simp
        (refine(gV p num dep r _ H3d hv3).mono ?_;rintro e w4 h4;rw[hr]at h4;obtain⟨ht,b,h5,h6,rfl⟩:=h4;dsimp only;refine⟨rfl,?_⟩;rw[HS2.out];exact⟨Wb.trans ((au.refl p w3).drew.trans ht),b,Pr Wb.size h5,h6,rfl⟩)
     |some q=>
      obtain⟨a,l3⟩:=q;have HS2:Hid (J.da l=some ((x,d,some a),l3)):=by unfold Hid;rw[HS.out,hr]
      go_region_held3 (fun W=>W.cell? w2=some ↑x/\W.cell? ⟨w2,1,none⟩=some (.int .u64 d)) (first|go_keep|exact⟨k0,k1⟩)
       ((go_at_call 175;refine(gV p num dep r _ H3d hv3).mono ?_;rintro e w4 h4;rw[hr]at h4;obtain⟨rfl,Xe,H4⟩:=h4;have k0:=(Xe.cell (a:=⟨w2,0,none⟩) HN.out.1 HN.out.2).trans cN0;have k1:=(Xe.cell (a:=⟨w2,1,none⟩) HN.out.1 HN.out.2).trans cN1;dsimp only))
      go_wp2;go_ret;unfold ff;rw[HS2.out];exact⟨rfl,Wb.trans ((au.refl p w3).drew.trans Xe),H4⟩
namespace J
def bh:List ()->Option (U.Act×List ())
 |[]=>none
 |x::r=>
  if x.toList == U.cd then(pOf U.called r).map fun q=>(⟨gb,q.1,ByteArray.empty,0⟩,q.2)
  else if x.toList == U.fD then(da r).map fun q=>(⟨gP,q.1.1,q.1.2.2.getD ByteArray.empty,q.1.2.1⟩,q.2)
  else if x.toList == U.bO then(pOf U.called r).map fun q=>(⟨cZ,ByteArray.empty,q.1,0⟩,q.2)
  else none
end J
def bo(a:U.Act):Value:=
 if a.how.toList == U.cd then .iface 425 (.agg #[a.event])
 else if a.how.toList == U.bO then .iface 284 (.agg #[a.id])
 else xk a.event a.delay (if a.id.size=0 then none else some a.id)
theorem iz:J.gb.toList=U.cd:=zao
theorem fB:J.gP.toList=U.fD:=zao
theorem eB:J.cZ.toList=U.bO:=zao
theorem wW(h:U.plain s=true):¬s.size=0:=by
 rw[U.plain,Qe,Qe,SG]at h;omega
theorem sJ(h:U.called s=true):¬s.size=0:=by
 rw[U.called,Ub]at h
 rcases h with h|h
 ·exact wW h
 ·rw[U.kP,Qe]at h;have:=U.qR h.1;have e:U.bA.size=6:=rfl;omega
theorem iQ{P:()->Bool}{l r:List ()}{x:()}(h:J.pOf P l=some (x,r)):P x=true/\l=x::r:=by
 cases l with
 |nil=>cases h
 |cons y t=>
  rw[J.pOf]at h;split at h
  ·cases h;exact⟨zal,rfl⟩
  ·cases h
theorem J0{d:Int}{a:()}(h:J.da l=some ((x,d,some a),r)):¬a.size=0:=by
 unfold J.da at h;split at h
 ·cases h
 ·split at h
  ·cases h
  ·cases h
  ·split at h
   ·split at h
    ·cases h
    ·rename_i hq;cases h
     exact sJ (iQ hq).1
   ·cases h
theorem Cq(n:()):bo ⟨J.gb,n,ByteArray.empty,0⟩=.iface 425 (.agg #[n]):=by
 unfold bo;rw[iz,PC zac]
theorem zP(n:()):bo ⟨J.cZ,ByteArray.empty,n,0⟩=.iface 284 (.agg #[n]):=by
 unfold bo;rw[eB,Pu zac,PC zac]
theorem Fq{l r:List ()}{x:()}{d:Int}{o:Option ()}(h:J.da l=some ((x,d,o),r)):bo ⟨J.gP,x,o.getD ByteArray.empty,d⟩=xk x d o:=by
 unfold bo;rw[fB,Pu zac,Pu zac];cases o with
 |none=>rfl
 |some a=>rw[Pu (show ¬(Option.getD (some a) ByteArray.empty).size=0 from J0 h)];rfl
theorem so(p:Nat)(num dep:Int)(l:List ())(w:World)(H:ak w p num dep l)(hv:a7 p w):
  () 253 #[p] w (ff p num dep ((J.bh l).map fun q=>(bo q.1,q.2)) w):=by
 cases l with
 |nil=>
  go_enter func253,ntmps253;go_wp2_with fail;refine(nG p num dep _ H).mono ?_;rintro e w1 h1;obtain⟨ht,b,h3,h4,rfl⟩:=cX (au.refl p w) h1;dsimp only;exact⟨rfl,ht,b,h3,h4,rfl⟩
 |cons x r=>
  cases h1:(x.toList == [114,97,105,115,101])
  ·cases h2:(x.toList == [115,101,110,100])
   ·cases h3:(x.toList == [99,97,110,99,101,108])
    ·have HS:Hid (J.bh (x::r)=none):=by unfold Hid;rw[J.bh,U.cd,h1,U.fD,h2,U.bO,h3];rfl
     go_enter func253,ntmps253;go_wp2_with fail;refine(aG p num dep x r _ H).mono ?_;rintro e w1 ⟨rfl,ho,H1⟩;have U7:=ho.al;obtain⟨c0,c1⟩:=H1.cells;clear ho;dsimp only;go_wp2_with fail;refine(ba num dep 2 _).mono ?_;rintro e w2 hq;obtain⟨ht,b,h4,h5,rfl⟩:=cX U7 hq;dsimp only;refine⟨rfl,?_⟩;rw[HS.out];exact⟨ht,b,h4,h5,rfl⟩
    ·cases hn:J.pOf U.called r with
     |none=>
      have HS:Hid (J.bh (x::r)=none):=zch;exact zcR
     |some q=>
      obtain⟨n,r'⟩:=q;have HS:Hid (J.bh (x::r)=some (⟨J.cZ,ByteArray.empty,n,0⟩,r')):=zch;go_enter func253,ntmps253;go_wp2_with fail;refine(aG p num dep x r _ H).mono ?_;rintro e w1 ⟨rfl,ho,H1⟩;have U7:=ho.al;clear ho;dsimp only;go_wp2_with fail;refine(gi p num dep r _ H1 (hv.al U7)).mono ?_;rintro e w2 hq;rw[hn]at hq;obtain⟨rfl,VE,H2⟩:=hq;clear hn;dsimp only;go_wp2;go_ret;unfold ff;rw[HS.out];exact⟨by rw[zP];rfl,U7.trans VE,H2⟩
   ·cases hn:J.da r with
    |none=>
     have HS:Hid (J.bh (x::r)=none):=zcp;go_enter func253,ntmps253;go_wp2_with fail;refine(aG p num dep x r _ H).mono ?_;rintro e w1 ⟨rfl,ho,H1⟩;have U7:=ho.al;clear ho;dsimp only;go_wp2_with fail;refine(BI p num dep r _ H1 (hv.al U7)).mono ?_;rintro e w2 hq;rw[hn]at hq;obtain⟨ht,b,h4,h5,rfl⟩:=hq;dsimp only;refine⟨rfl,?_⟩;rw[HS.out];exact⟨U7.trans ht,b,Pr U7.size h4,h5,rfl⟩
    |some q=>
     obtain⟨⟨n,d,o⟩,r'⟩:=q;have HS:Hid (J.bh (x::r)=some (⟨J.gP,n,o.getD ByteArray.empty,d⟩,r')):=zcp;have HV:Hid _:=Fq hn;go_enter func253,ntmps253;go_wp2_with fail;refine(aG p num dep x r _ H).mono ?_;rintro e w1 ⟨rfl,ho,H1⟩;have U7:=ho.al;clear ho;dsimp only;go_wp2_with fail;refine(BI p num dep r _ H1 (hv.al U7)).mono ?_;rintro e w2 hq;rw[hn]at hq;obtain⟨rfl,VE,H2⟩:=hq;clear hn;dsimp only;go_wp2;go_ret;unfold ff;rw[HS.out];exact⟨by rw[HV.out];rfl,U7.trans VE,H2⟩
  ·cases hn:J.pOf U.called r with
   |none=>
    have HS:Hid (J.bh (x::r)=none):=by unfold Hid;rw[J.bh,U.cd,h1,hn];rfl
    exact zcR
   |some q=>
    obtain⟨n,r'⟩:=q;have HS:Hid (J.bh (x::r)=some (⟨J.gb,n,ByteArray.empty,0⟩,r')):=by unfold Hid;rw[J.bh,U.cd,h1,hn];rfl
    go_enter func253,ntmps253;go_wp2_with fail;refine(aG p num dep x r _ H).mono ?_;rintro e w1 ⟨rfl,ho,H1⟩;have U7:=ho.al;clear ho;dsimp only;go_wp2_with fail;refine(gi p num dep r _ H1 (hv.al U7)).mono ?_;rintro e w2 hq;rw[hn]at hq;obtain⟨rfl,VE,H2⟩:=hq;clear hn;dsimp only;go_wp2;go_ret;unfold ff;rw[HS.out];exact⟨by rw[Cq];rfl,U7.trans VE,H2⟩
namespace U
structure Hs(a:Act):Prop where
 how:a.how.size<=1073741824
 event:a.event.size<=1073741824
 id:a.id.size<=1073741824
 delay:∃n:Nat,a.delay=n/\n<=18446744073709551615
def ET(k:Int)(x:SV):Bool:=decide (x.s.up=k)&&!(x.s.word.toList == aO)
def mZ(X:List SV)(k:Int):Nat->List Nat
 |0=>[]
 |i+1=>if(X[i]?.map (ET k)).getD false then mZ X k i++[i] else mZ X k i
def regions(X:List SV)(k:Int):List Nat:=mZ X k X.length
end U
def Ck(w:World)(v:Value)(A:List U.Act):Prop:=Row w 252 4 U.Ig v A
namespace U
def vM(X:List SV)(k:Int):SV:=X.getD k.toNat ⟨⟨ByteArray.empty,ByteArray.empty,false,0,0,0,[],[],[],0,0⟩,Sl.nil,Sl.nil,Sl.nil⟩
def mR(X:List SV)(u:Int):Bool:=X.all fun y=>!decide (y.s.up=u)
def fits(X:List SV)(x:SV):Bool:=
 if decide (X.length=24)||(decide (5<x.s.depth)||(decide (x.s.up<0)&&(x.s.word.toList == aO))) then false
 else if x.s.up<0 then true
 else if((vM X x.s.up).s.word.toList == bK)||((vM X x.s.up).s.word.toList == aO) then false
 else if(vM X x.s.up).s.word.toList == aK then !(x.s.word.toList == bK)
 else !mR X x.s.up||!(x.s.word.toList == aO)
def Ff(ms:List Move):Bool:=ms.any (·.after)
def ru(X:List SV):Bool:=X.any fun x=>Ff x.s.aa
def jd(X:List SV)(t:Bool)(m:Move):Bool:=(!(m.to.toList == [])&&decide (place X m.to<0))||(t&&(eA m.ai||(!m.after&&cy m.event bA)))
def nh(X:List SV)(t:Bool)(at':Int)(m:Move):Int:=if jd X t m then fW at' m.line else at'
def BP(t:Bool)(a2:Int)(x:State):Int:=
 if t&&eA x.leave then fW (if t&&eA x.enter then fW a2 x.has0 else a2) x.has1 else if t&&eA x.enter then fW a2 x.has0 else a2
def kV(X:List SV)(t:Bool)(k:Nat)(at':Int)(x:State):Int:=
 BP t (x.aa.foldl (nh X t) (if place X x.name<k then fW at' x.line else at')) x
def lJ(X:List SV)(t:Bool):Nat->Int
 |0=>0
 |k+1=>match X[k]? with
  |some x=>kV X t k (lJ X t k) x.s
  |none=>lJ X t k
def named(X:List SV):Int:=lJ X (ru X) X.length
end U
def KO(w:World)(vm:U.Sl)(M:List U.MV):Prop:=Row w 237 6 U.Me vm.v M/\∀x∈M,Ck w x.v.v x.m.ai
structure Nj(m:U.Move):Prop where
 event:m.event.size<=1073741824
 dst:m.to.size<=1073741824
 ai:∀a∈m.ai,U.Hs a
 len:m.ai.length<=1048576
structure Deep(w:World)(x:U.SV):Prop where
 aa:∃M:List U.MV,M.map (·.m)=x.s.aa/\KO w x.vm M
 enter:Ck w x.ve.v x.s.enter
 leave:Ck w x.vl.v x.s.leave
 okM:∀m∈x.s.aa,Nj m
 okE:∀a∈x.s.enter,U.Hs a
 okL:∀a∈x.s.leave,U.Hs a
 lenM:x.s.aa.length<=1048576
 lenE:x.s.enter.length<=1048576
 lenL:x.s.leave.length<=1048576
 name:x.s.name.size<=1073741824
namespace U
def emb(s:State):SV:=⟨s,Sl.nil,Sl.nil,Sl.nil⟩
def st0:State:=⟨ByteArray.empty,ByteArray.empty,false,0,0,0,[],[],[],0,0⟩
def eY(S:List State)(d:Int):Nat->Int
 |0=>-1
 |k+1=>if(S.getD k st0).depth=d-1 then(k:Int) else if(S.getD k st0).depth<d-1 then -1 else eY S d k
def cQ(S:List State)(d:Int):Int:=if 0<d then eY S d S.length else -1
def jF(x:j9)(up d:Int):State:=⟨x.word,x.name,x.deep,up,d,x.sline,[],[],[],0,0⟩
def fu(S:List State)(k:Nat)(f:State->State):List State:=S.set k (f (S.getD k st0))
def aR(S:List State)(i:Nat)(x:j9)(d:Int):Option (List State):=
 if 0<d/\cQ S d<0 then none
 else if x.kind=115 then
  if fits (S.map emb) (emb (jF x (cQ S d) d)) then some (S++[jF x (cQ S d) d]) else none
 else if cQ S d<0 then none
 else if(S.getD (cQ S d).toNat st0).word.toList == aO then none
 else if x.kind=109 then
  if(S.getD (cQ S d).toNat st0).word.toList == bK then none
  else some (fu S (cQ S d).toNat fun p=>{ p with aa:=p.aa++[x.m] })
 else if x.kind=101 then
  if 0<(S.getD (cQ S d).toNat st0).has0 then none
  else some (fu S (cQ S d).toNat fun p=>{ p with has0:=i+1,enter:=x.ai })
 else if x.kind=108 then
  if 0<(S.getD (cQ S d).toNat st0).has1 then none
  else some (fu S (cQ S d).toNat fun p=>{ p with has1:=i+1,leave:=x.ai })
 else some S
def aT(A:List (j9×Int)):Nat->Option (List State)
 |0=>some []
 |i+1=>match aT A i with
  |none=>none
  |some S=>match A[i]? with
   |none=>some S
   |some (x,d)=>aR S i x d
def dE(S:List State):Nat->Option Int
 |0=>none
 |k+1=>match dE S k with
  |some l=>some l
  |none=>if((S.getD k st0).word.toList == aK)&&(regions (S.map emb) k).isEmpty then some (S.getD k st0).line else none
theorem tZ{S:List State}{i:Nat}{l:Int}(h:dE S i=some l):∀j,i<=j->dE S j=some l
 |0,hj=>by rw[UU.1 hj]at h;exact h
 |j+1,hj=>by
  by_cases e:i=j+1
  ·rw[<- e];exact h
  ·rw[dE,tZ h j zaa]
structure LV where
 L:j9
 vm:Sl
 vd:Sl
end U
def eT(n:Nat):List Value:=[(n:Int)]
namespace U
def i6(y:SV)(i:Int)(A:List Act)(v:Sl):SV:={ y with s:={ y.s with has0:=i,enter:=A },ve:=v }
def ja(y:SV)(i:Int)(A:List Act)(v:Sl):SV:={ y with s:={ y.s with has1:=i,leave:=A },vl:=v }
end U
theorem Row.range{α:Type}{f:α->List Value}{X:List α}(hf:∀x,(f x).length=n)(h:Row w e n f (.slice g X.length cap) X){i:Nat}(hi:i<X.length):
  w.rangeAt g (i*n) (f X[i]):=by
 intro j v hj;have YV:j<n:=by rw[<- hf X[i]];exact(Ps.1 hj).1
 rw[Row.cell hf h YV hi];exact hj
theorem nq(S:List U.State)(d:Int):∀m:Nat,U.eY S d m<m
 |0=>by simp[U.eY]
 |m+1=>by
  have:=nq S d m;exact zfd
theorem qn(S:List U.State)(d:Int)(h:¬U.cQ S d<0):U.cQ S d<S.length:=by
 unfold U.cQ at h⊢;split
 ·exact nq S d S.length
 ·rename_i h0;rw[Pu h0]at h;exact absurd zac h
theorem np(S:List U.State)(d:Int):∀m:Nat,-1<=U.eY S d m
 |0=>by simp[U.eY]
 |m+1=>by
  have:=np S d m;exact zfd
theorem Fg(S:List U.State)(d:Int): -1<=U.cQ S d:=by
 unfold U.cQ;split
 ·exact np S d S.length
 ·decide
theorem tf{α:Type}{f:α->List Value}{n:Nat}(hf:∀x,(f x).length=n):∀(X:List α) (i j:Nat) (v:Value) (x':α),j<n->∀(h:i<X.length),f x'=(f X[i]).set j v->(X.flatMap f).set (i*n+j) v=(X.set i x').flatMap f
 |[],i,j,v,x',_,h,_=>by simp at h
 |x::X,0,j,v,x',hj,_,e=>by
  rw[QB,TF,Rz,List.set_append_left _ _ (by rw[hf];exact hj),List.set_cons_zero,QB,e];rfl
 |x::X,i+1,j,v,x',hj,h,e=>by
  have hlen:(f x).length=n:=hf x;rw[QB,R1,SB _ _ (by rw[hlen];omega),hlen,List.set_cons_succ,QB];rw[show i*n+n+j-n=i*n+j from by omega,tf hf X i j v x' hj zaD e]
theorem nJ{e':TypeId}{c:Array Value}{fz:Nat×Nat}(h:w.ownsRow base e size v n xs)(ho:iT g w w')(hg:w.heap[g]?=some (.cells c e' fz))(U9:e≠e'):w'.ownsRow base e size v n xs:=by
 refine⟨h.1,?_⟩
 rcases h.2 with h'|⟨k,cap,cur,hv,hb,hk,r⟩
 ·exact .inl h'
 ·have hkg:k≠g:=by
   intro e0;subst e0;rw[hg]at hk;simp only[Option.some.injEq,Obj.cells.injEq]at hk;exact U9 hk.2.1.symm
  exact .inr ⟨k,cap,cur,hv,hb,by rw[ho.block k hkg];exact hk,r⟩
theorem bz(h:w.ownsRow base e size v n xs)(hb:Below w w w'):w'.ownsRow base e size v n xs:=by
 refine⟨h.1,?_⟩
 rcases h.2 with h'|⟨g,cap,cur,hv,hb',hg,r⟩
 ·exact .inl h'
 ·exact .inr ⟨g,cap,cur,hv,hb',by rw[hb.block g ((Pn.1 hg).1)];exact hg,r⟩
theorem gG{A:List (U.j9×Int)}{i:Nat}(h:U.aT A i=none):∀j,i<=j->U.aT A j=none
 |0,hj=>by rw[UU.1 hj]at h;exact h
 |j+1,hj=>by
  by_cases e:i=j+1
  ·rw[<- e];exact h
  ·rw[U.aT,gG h j zaa]
namespace J
def bDo:():=⟨#[100,111]⟩
def fm:Nat->List ()->Option (List U.Act×List ())
 |0,l=>some ([],l)
 |_+1,[]=>some ([],[])
 |f+1,x::r=>
  if x.toList == bDo.toList then
   match bh r with
   |none=>none
   |some (a,r')=>match fm f r' with
    |none=>none
    |some (A,t)=>some (a::A,t)
  else some ([],x::r)
def bg(l:List ()):Option (List U.Act×List ()):=fm l.length l
theorem rW{P:()->Bool}(h:pOf P l=some (x,r)):r.length+1=l.length:=by
 rw[(iQ h).2];rfl
theorem oN{l r:List ()}{d:Int}(h:eR l=some (d,r)):r.length+1=l.length:=by
 cases l with
 |nil=>cases h
 |cons y t=>
  rw[eR]at h;split at h
  ·cases h;rfl
  ·cases h
theorem GH{q:()×Int×Option ()}(h:da l=some (q,r)):r.length<l.length:=by
 unfold da at h;split at h
 ·cases h
 ·rename_i x l1 h1;have e1:=rW h1;split at h
  ·cases h
  ·rename_i d h2;have e2:=oN h2;cases h;simp at e2⊢;omega
  ·rename_i d y t h2;have e2:=oN h2;simp only[List.length_cons]at e2;split at h
   ·split at h
    ·cases h
    ·rename_i a l3 h3;have e3:=rW h3;cases h;omega
   ·cases h;simp only[List.length_cons];omega
theorem j6{l r:List ()}{a:U.Act}(h:bh l=some (a,r)):r.length<l.length:=by
 cases l with
 |nil=>cases h
 |cons x t=>
  rw[bh]at h;simp only[List.length_cons];split at h
  ·exact zd4
  ·split at h
   ·obtain⟨⟨n,r'⟩,h1,h2⟩:=PU.1 h;cases h2
    have:=GH h1;dsimp only at this⊢;omega
   ·split at h
    ·exact zd4
    ·cases h
theorem tW:∀(f g:Nat) (l:List ()),l.length<=f->l.length<=g->fm f l=fm g l
 |0,0,l,_,_=>rfl
 |0,g+1,[],_,_=>rfl
 |f+1,0,[],_,_=>rfl
 |f+1,g+1,[],_,_=>rfl
 |0,_,x::r,h,_=>by simp at h
 |_+1,0,x::r,_,h=>by simp at h
 |f+1,g+1,x::r,hf,hg=>by
  simp only[fm];split
  ·cases h:bh r with
   |none=>rfl
   |some q=>
    obtain⟨a,r'⟩:=q;have:=j6 h;simp only[List.length_cons]at hf hg;simp only;rw[tW f g r' zaa zaa]
  ·rfl
theorem ku(h:(x.toList == bDo.toList)=false):bg (x::r)=some ([],x::r):=by
 show fm (r.length+1) (x::r)=_;rw[fm,h];rfl
theorem kr(h:(x.toList == bDo.toList)=true)(h2:bh r=none):bg (x::r)=none:=by
 show fm (r.length+1) (x::r)=_;rw[fm,h,h2];rfl
theorem kn{x:()}{r r':List ()}{a:U.Act}(h:(x.toList == bDo.toList)=true)(h2:bh r=some (a,r')):bg (x::r)=(bg r').map fun q=>(a::q.1,q.2):=by
 have:=j6 h2;show fm (r.length+1) (x::r)=_;rw[fm,h,PC rfl,h2];simp only;rw[tW r.length r'.length r' zaa (Po _)];show _=(fm r'.length r').map _;cases fm r'.length r' with
 |none=>rfl
 |some q=>rfl
end J
theorem tV(h:w.ownsRow base e size v n xs)(ht:au p w w')(hp:p<base):w'.ownsRow base e size v n xs:=by
 refine⟨h.1,?_⟩
 rcases h.2 with h'|⟨k,cap,cur,hv,hb,hk,r⟩
 ·exact .inl h'
 ·exact .inr ⟨k,cap,cur,hv,hb,by rw[ht.block k (Pn.1 hk).1 zaa];exact hk,r⟩
theorem au.grown(h:au p w w1)(hg:w1.grownBy w2 row)(hr:∀k,row=some k->w.heap.size<=k):au p w w2:=
 ⟨hg.os.trans h.os,hg.tape.trans h.tape,hg.output.trans h.output,Pr h.size hg.size,fun k hk hp=>(hg.block k (PY hk h.size) (fun e=>by have:=hr k e.symm;omega)).trans (h.block k hk hp)⟩
theorem ak.grown(H:ak w p num dep l)(hg:w.grownBy w' row)(hr:∀k,row=some k->p<k):ak w' p num dep l:=by
 obtain⟨a,cap,hp,hc,hs⟩:=H.row;refine⟨⟨a,cap,?_,hc,fun h=>?_⟩,H.len,H.sizes⟩
 ·rw[hg.block p (Pn.1 hp).1 (fun e=>by have:=hr p e.symm;omega)];exact hp
 ·obtain⟨b,off,h1,h2,h3,h4⟩:=hs h;refine⟨b,off,h1,h2,PY h3 hg.size,fun i hi=>?_⟩;rw[hg.cell_far ⟨b,off+i,none⟩ h3 (fun e=>by have:=hr b e.symm;omega)];exact h4 i hi
theorem oG:(Tryz.prog.info? 275).map (fun i=>(i.zero,i.size,i.bytes))=some (some .nilIface,1,16):=zab
def iF(p:Nat)(num dep:Int)(l:List ())(w:World)(e:Ending)(w':World):Prop:=match J.bg l with
 |none=>dj p 2 num w e w'
 |some (A,r)=>∃a n c,e=.returned (.slice a n c)/\w'.ownsRow w.heap.size 275 1 (.slice a n c) A.length (A.map bo)/\au p w w'/\ak w' p num dep r
theorem Cp(a:U.Act):∃t u,bo a=.iface t u:=by
 unfold bo xk
 repeat' split
 all_goals exact⟨_,_,rfl⟩
theorem jS(p:Nat)(num dep:Int)(l:List ())(w:World)(H:ak w p num dep l)(hv:a7 p w):
  () 214 #[p] w (iF p num dep l w):=by
 have VI:=H.lt;have hll:=H.len;obtain⟨i0,hi0,Vv,Vk,Vl⟩:=QV oG;go_enter func214,ntmps214;go_wp2_with fail
 go_loopg[3] l.length (fun q v wr=>∃(va:Option Addr) (vn vc:Nat) (A:List U.Act) (l':List ()),q=l'.length/\v=.slice va vn vc/\A.length+l'.length<=l.length/\J.bg l=(J.bg l').map (fun q=>(A++q.1,q.2))/\wr.ownsRow w 275 1 (.slice va vn vc) A.length (A.map bo)/\au p w wr/\ak wr p num dep l')
 case atStart=>exact⟨none,0,0,[],l,rfl,rfl,zad,by cases J.bg l<;>rfl,QC _ _ _ _,au.refl _ _,H⟩
 case round=>
  obtain⟨va,vn,vc,A,l',hq,rfl,hlen,hP,U2,ht,H'⟩:=hrel;have HP:Hid _:=hP;clear hP;have Vf:=ht.size;cases l' with
  |nil=>
   go_wp2_with(go_at_call 213;refine(skip_none p num dep J.bDo _ H').mono ?_;rintro e w9 ⟨rfl,U1⟩;rw[U1];clear U1 w9);go_ret;unfold iF;rw[HP.out];exact⟨va,vn,vc,rfl,zbr,ht,H'⟩
  |cons x r=>
   cases hx:(x.toList == J.bDo.toList)
   ·have HS:Hid _:=J.ku (r:=r) hx;go_wp2_with(go_at_call 213;refine(rY p num dep x r J.bDo _ H' hx).mono ?_;rintro e w9 ⟨rfl,U1⟩;rw[U1];clear U1 w9);go_ret;unfold iF;rw[HP.out,HS.out];exact⟨va,vn,vc,rfl,zbr,ht,H'⟩
   ·cases ha:J.bh r with
    |none=>
     have HS:Hid (J.bg l=none):=by unfold Hid;rw[HP.out,J.kr hx ha];rfl
     go_wp2_with fail;refine(kU p num dep x r J.bDo _ H' hx).mono ?_;rintro e w1 ⟨rfl,ho1,H1⟩;have U7:=ht.trans ho1.al;clear ho1;dsimp only;go_wp2_with fail;refine(so p num dep r _ H1 (hv.al U7)).mono ?_;rintro e w2 Yn;rw[ha]at Yn;obtain⟨VE,b,h4,h5,rfl⟩:=Yn;dsimp only;refine⟨rfl,?_⟩;unfold iF;rw[HS.out];exact⟨U7.trans VE,b,Pr U7.size h4,h5,rfl⟩
    |some q=>
     obtain⟨a,r'⟩:=q;have ZC:=J.j6 ha;have HS:Hid (J.bg l=(J.bg r').map (fun q=>((A++[a])++q.1,q.2))):=by
      unfold Hid;rw[HP.out,J.kn hx ha];cases J.bg r' with
      |none=>rfl
      |some q=>simp
     go_wp2_with fail;refine(kU p num dep x r J.bDo _ H' hx).mono ?_;rintro e w1 ⟨rfl,ho1,H1⟩;have U7:=ht.trans ho1.al;have hown1:=tV U2 ho1.al VI;clear ho1;dsimp only;go_wp2_with fail;refine(so p num dep r _ H1 (hv.al U7)).mono ?_;rintro e w2 Yn;rw[ha]at Yn;obtain⟨rfl,VE,H2⟩:=Yn;have hown2:=tV hown1 VE VI;have Wb:=U7.trans VE;have Xx:=Wb.size;clear ha H1 U7 VE hown1 U2;simp only[List.length_cons]at hlen;dsimp only;obtain⟨at1,au1,hav⟩:=Cp a;rw[hav];have HAV:Hid _:=hav;clear hav;go_wp2_with(at_builtin;refine wpList_append_lies _ zae (.tmp 6) (.tmp 9) _ zae w.heap.size 275 i0 _ 1 16 underlying131 hi0 Vv Vk Vl rfl zac (.slice va vn vc) A.length (A.map bo) zae (RK hown2 _) ⟨w2,0,none⟩ 1 1 [.iface at1 au1] zae zae (World.news_of_block (cs:=#[.iface at1 au1]) (t:=275) (fr:=(0,0)) (PG w2 _)) (by intro u hu;rw[PB.1 hu];rfl) zaa zag zaa zaf (w2.heap.size+1) zad ?_;intro g5 cap5 w5 U6 Pg VJ We)
     go_roundg r'.length
     case measure=>omega
     case rel=>
      refine⟨some ⟨g5,0,none⟩,A.length+1,cap5,A++[a],r',rfl,rfl,zaf,HS.out,?_,(Wb.alloc _).grown Pg (fun k e=>(Qf hown2 k e).1),(H2.alloc _).grown Pg (fun k e=>PY VI (Qf hown2 k e).1)⟩;rw[PI,Qj,Q7,List.map_nil,HAV.out];exact U6
theorem GS:Tryz.f179.results=#[.cell 2 353]:=rfl
theorem DY:(Tryz.prog.info? 353).map (·.size)=some 3:=zab
namespace J
def bW(l:List ()):Option (List U.Act×List ()):=match bg l with
 |none=>none
 |some ([],_)=>none
 |some (a::A,r)=>some (a::A,r)
end J
def eZ(p:Nat)(num dep:Int)(l:List ())(w:World)(e:Ending)(w':World):Prop:=match J.bW l with
 |none=>dj p 2 num w e w'
 |some (A,r)=>∃a n c,e=.returned (.agg #[.int .i64 num,.int .i64 dep,.slice a n c])/\w'.ownsRow w.heap.size 275 1 (.slice a n c) A.length (A.map bo)/\au p w w'/\ak w' p num dep r
theorem iT.trans(h:iT g a b)(k:iT g b c):iT g a c:=⟨k.os.trans h.os,k.tape.trans h.tape,k.output.trans h.output,k.size.trans h.size,fun i hi=>(k.block i hi).trans (h.block i hi)⟩
theorem au.jg(h:au p w w1)(ho:iT N w1 w2)(hN:w.heap.size<=N):au p w w2:=
 ⟨ho.os.trans h.os,ho.tape.trans h.tape,ho.output.trans h.output,by rw[ho.size];exact h.size,fun k hk hp=>(ho.block k zaa).trans (h.block k hk hp)⟩
theorem lu(p:Nat)(num dep:Int)(l:List ())(w:World)(H:ak w p num dep l)(hv:a7 p w):
  () 179 #[p] w (eZ p num dep l w):=by
 have VI:=H.lt;cases ha:J.bg l with
 |none=>
  have HS:Hid (J.bW l=none):=zbT;go_enter func179,ntmps179;go_wp2_with fail;refine(jS p num dep l _ (H.alloc _) (hv.alloc _)).mono ?_;rintro e w1 h1;unfold iF at h1;rw[ha]at h1;obtain⟨ht,b,h4,h5,rfl⟩:=h1;dsimp only;refine⟨rfl,?_⟩;unfold eZ;exact zet
 |some q=>
  obtain⟨A,r⟩:=q;cases A with
  |nil=>
   have HS:Hid (J.bW l=none):=zbT;go_enter func179,ntmps179;go_wp2_with fail;refine(jS p num dep l _ (H.alloc _) (hv.alloc _)).mono ?_;rintro e w1 h1;unfold iF at h1;rw[ha]at h1;obtain⟨a,n,c,rfl,U2,U7,H1⟩:=h1;obtain rfl:n=0:=by
    rcases U2.2 with⟨WQ,_⟩|⟨g,cap,cur,WQ,_⟩
    ·exact ze7
    ·exact ze7
   obtain⟨c0,c1⟩:=H1.cells;have ht:au p w w1:=((au.refl p w).alloc _).trans U7;clear U7 U2 ha;dsimp only;go_wp2_with fail;refine(ba num dep 2 _).mono ?_;rintro e w2 hq;obtain⟨ht',b,h4,h5,rfl⟩:=cX ht hq;dsimp only;refine⟨rfl,?_⟩;unfold eZ;rw[HS.out];exact⟨ht',b,h4,h5,rfl⟩
  |cons a0 A=>
   have HS:Hid (J.bW l=some (a0::A,r)):=zbT;go_enter func179,ntmps179;go_wp2_with fail;refine(jS p num dep l _ (H.alloc _) (hv.alloc _)).mono ?_;rintro e w1 h1;unfold iF at h1;rw[ha]at h1;obtain⟨a,n,c,rfl,U2,U7,H1⟩:=h1;obtain rfl:n=(a0::A).length:=by
    rcases U2.2 with⟨WQ,h0⟩|⟨g,cap,cur,WQ,_⟩
    ·simp only[Value.slice.injEq]at WQ;rw[h0];exact WQ.2.1
    ·exact ze7
   have hN:w1.heap[w.heap.size]?=some (.cells #[(0:Int),(0:Int),.slice none 0 0] 353 (0,0)):=by
    rw[U7.block w zad zaa];exact PG w _
   have d0:w1.cell? w=some ↑(0:Int):=by rw[Pt w1 _ 0 _ _ _ hN];rfl
   have d1:w1.cell? (w,1)=some ↑(0:Int):=by rw[Pt w1 _ 1 _ _ _ hN];rfl
   have d2:w1.cell? (w,2)=some (.slice none 0 0):=by rw[Pt w1 _ 2 _ _ _ hN];rfl
   have f0:w1.frozen? w=false:=by simp[World.frozen?,hN]
   have f1:w1.frozen? (w,1)=false:=zat;have f2:w1.frozen? (w,2)=false:=zat;obtain⟨c0,c1⟩:=H1.cells;have ht:au p w w1:=((au.refl p w).alloc _).trans U7;have Vt:=aJ U2 (show w.heap.size<=(w.alloc (.cells #[(0:Int),(0:Int),.slice none 0 0] 353)).heap.size by simp);have Xf:(((a0::A).length:Int) == 0)=false:=zaf;clear U7 ha U2;generalize hm:(a0::A).length=m at *;have HM:Hid _:=hm;clear hm;dsimp only;go_wp2;have o1:=ag w1 w 0 (.int .i64 num);have o2:=ag (w1.setCell w (.int .i64 num)) w.heap.size 1 (.int .i64 dep);have o3:=ag ((w1.setCell w (.int .i64 num)).setCell (w,1) (.int .i64 dep)) w.heap.size 2 (.slice a m c);have oo:=(o1.trans o2).trans o3;have g1:=PR w1 w 0 _ _ (.int .i64 num) hN;have g2:=PR _ w 1 _ _ (.int .i64 dep) g1;have g3:=PR _ w 2 _ _ (.slice a m c) g2;refine eh GS _ 353 _ (0,0) _ rfl g3 underlying353 rfl DY rfl ?_;unfold eZ;rw[HS.out];exact⟨a,m,c,rfl,by rw[HM.out];exact nJ Vt oo hN zac,ht.jg oo (Po _),H1.only oo VI⟩
theorem eK(p:Nat)(num dep:Int)(l:List ())(w:World)(H:ak w p num dep l)(hv:a7 p w):
  () 175 #[p,.func (.func 212) #[] #[]] w (ff p num dep ((J.pOf U.plain l).map fun q=>(.string q.1,q.2)) w):=by
 cases l with
 |nil=>exact j5 p num dep _ w H
 |cons x r=>
  cases hx:U.plain x
  ·have:J.pOf U.plain (x::r)=none:=zaz;rw[this];exact tQ p num dep x r w H hv hx
  ·have:J.pOf U.plain (x::r)=some (x,r):=zaz;rw[this];exact rH p num dep x r w H hv hx
theorem gj(p:Nat)(num dep:Int)(l:List ())(w:World)(H:ak w p num dep l)(hv:a7 p w):
  () 175 #[p,.func (.func 176) #[] #[]] w (ff p num dep ((J.pOf U.bM l).map fun q=>(.string q.1,q.2)) w):=by
 cases l with
 |nil=>exact j5 p num dep _ w H
 |cons x r=>
  cases hx:U.bM x
  ·have:J.pOf U.bM (x::r)=none:=zaz;rw[this];exact pN p num dep x r w H hv hx
  ·have:J.pOf U.bM (x::r)=some (x,r):=zaz;rw[this];exact oK p num dep x r w H hv hx
theorem Kc:Tryz.f172.results=#[.cell 4 345]:=rfl
theorem iD:(Tryz.prog.info? 345).map (·.size)=some 4:=zab
theorem qe(p:Nat)(num dep k:Int)(l:List ())(w:World)(H:ak w p num dep l)(hv:a7 p w)(hn:J.pOf U.plain l=none):
  () 172 #[p,(k:Int)] w (dj p 2 num w):=by
 have VI:=H.lt;obtain⟨c0,c1⟩:=H.cells;go_enter func172,ntmps172;go_wp2_with fail;have H1:=(H.alloc (.cells #[(0:Int),(0:Int),(0:Int),ByteArray.empty] 345)).drew;have VT:a7 p (w.alloc (.cells #[(0:Int),(0:Int),(0:Int),ByteArray.empty] 345)).drew:=(hv.alloc _).al (au.refl p _).drew;refine TT zab ?_;change wpAny _ _ _ _ _ _ _ (World.drew _);refine tA 0 p rfl ?_;refine tA 1 p rfl ?_;refine tA 2 p rfl ?_;refine tA 4 (.int .i64 k) rfl ?_;refine tA 5 p rfl ?_;refine yA [3,6] ?_;refine Tc rfl (fun K hK=>?_) (Tc rfl (fun K hK=>?_) UK)
 ·go_simp;refine hK _ _ ?_;clear hK K;refine zA 6 rfl fun K hK=>?_;exact zdd
 ·exact zdd
theorem nQ(p:Nat)(num dep k:Int)(l r:List ())(x:())(w:World)(H:ak w p num dep l)(hv:a7 p w)(hn:J.pOf U.plain l=some (x,r)):
  () 172 #[p,(k:Int)] w fun e w'=>e=.returned (.agg #[(num:Int),(dep:Int),(k:Int),x])/\au p w w'/\ak w' p num dep r:=by
 have VI:=H.lt;obtain⟨c0,c1⟩:=H.cells;go_enter func172,ntmps172;go_wp2_with fail;have H1:=(H.alloc (.cells #[(0:Int),(0:Int),(0:Int),ByteArray.empty] 345)).drew;have VT:a7 p (w.alloc (.cells #[(0:Int),(0:Int),(0:Int),ByteArray.empty] 345)).drew:=(hv.alloc _).al (au.refl p _).drew;go_region_held3 (fun W=>W.cell? p=some ↑(num:Int)/\W.cell? ⟨p,1,none⟩=some ↑(dep:Int)) (first|go_keep|exact⟨k0,k1⟩|exact⟨k2,k3⟩)
  ((go_at_call 175;refine(eK p num dep l _ H1 VT).mono ?_;rintro e w4 h4;rw[hn]at h4;obtain⟨rfl,Xe,H4⟩:=h4;obtain⟨k0,k1⟩:=H4.cells;have hN:w4.heap[w.heap.size]?=some (.cells #[(0:Int),(0:Int),(0:Int),ByteArray.empty] 345 (0,0)):=(Xe.block w zad zaa).trans (PG w _);have d0:w4.cell? w=some ↑(0:Int):=by rw[Pt w4 _ 0 _ _ _ hN];rfl
    have d1:w4.cell? (w,1)=some ↑(0:Int):=by rw[Pt w4 _ 1 _ _ _ hN];rfl
    have d2:w4.cell? (w,2)=some ↑(0:Int):=by rw[Pt w4 _ 2 _ _ _ hN];rfl
    have d3:w4.cell? (w,3)=some ↑ByteArray.empty:=by rw[Pt w4 _ 3 _ _ _ hN];rfl
    have f0:w4.frozen? w=false:=zat;have f1:w4.frozen? (w,1)=false:=zat;have f2:w4.frozen? (w,2)=false:=zat;have f3:w4.frozen? (w,3)=false:=zat;have U9:¬p=w.heap.size:=zaa;have hne2:¬w.heap.size=p:=zaa;dsimp only))
 go_wp2;have o1:=ag w4 w 0 (.int .i64 num);have o2:=ag (w4.setCell w (.int .i64 num)) w.heap.size 1 (.int .i64 dep);have o3:=ag ((w4.setCell w (.int .i64 num)).setCell (w,1) (.int .i64 dep)) w.heap.size 2 (.int .i64 k);have o4:=ag (((w4.setCell w (.int .i64 num)).setCell (w,1) (.int .i64 dep)).setCell (w,2) (.int .i64 k)) w.heap.size 3 (.string x);have oo:=((o1.trans o2).trans o3).trans o4;have g1:=PR w4 w 0 _ _ (.int .i64 num) hN;have g2:=PR _ w 1 _ _ (.int .i64 dep) g1;have g3:=PR _ w 2 _ _ (.int .i64 k) g2;have g4:=PR _ w 3 _ _ (.string x) g3;have ht:au p w w4:=((au.refl p w).alloc _).drew.trans Xe;exact eh Kc _ 345 _ (0,0) _ rfl g4 underlying345 rfl iD rfl ⟨rfl,ht.jg oo (Po _),H4.only oo VI⟩
theorem oS:Tryz.f173.results=#[.cell 2 345]:=rfl
namespace J
def jz:():=⟨#[100,101,101,112]⟩
def cI(l:List ()):Option ((()×Int)×List ()):=match pOf U.plain l with
 |none=>none
 |some (x,[])=>some ((x,3),[])
 |some (x,y::r)=>if y.toList == jz.toList then some ((x,4),r) else some ((x,3),y::r)
end J
theorem gh{a b c d:Value}(hN:w.heap[N]?=some (.cells #[a,b,c,d] t (0,0))):
  w.cell? N=some a/\w.cell? (N,1)=some b/\w.cell? (N,2)=some c/\w.cell? (N,3)=some d/\w.frozen? N=false/\w.frozen? (N,1)=false/\w.frozen? (N,2)=false/\w.frozen? (N,3)=false:=
 ⟨by rw[Pt w _ 0 _ _ _ hN];rfl,by rw[Pt w _ 1 _ _ _ hN];rfl,by rw[Pt w _ 2 _ _ _ hN];rfl,by rw[Pt w _ 3 _ _ _ hN];rfl,zat,zat,zat,zat⟩
theorem mK{a b c d a' b' c' d':Value}(hN:w.heap[N]?=some (.cells #[a,b,c,d] t (0,0))):
  ((((w.setCell N a').setCell (N,1) b').setCell (N,2) c').setCell (N,3) d').heap[N]?=some (.cells #[a',b',c',d'] t (0,0))/\iT N w ((((w.setCell N a').setCell (N,1) b').setCell (N,2) c').setCell (N,3) d'):=by
 have g1:=PR w N 0 _ _ a' hN;have g2:=PR _ N 1 _ _ b' g1;have g3:=PR _ N 2 _ _ c' g2;have g4:=PR _ N 3 _ _ d' g3;exact⟨g4,(((ag _ _ _ _).trans (ag _ _ _ _)).trans (ag _ _ _ _)).trans (ag _ _ _ _)⟩
theorem qY(p:Nat)(num dep:Int)(l:List ())(w:World)(H:ak w p num dep l)(hv:a7 p w):
  () 173 #[p] w (ff p num dep ((J.cI l).map fun q=>(.agg #[(num:Int),(dep:Int),(q.1.2:Int),.string q.1.1],q.2)) w):=by
 have VI:=H.lt;cases hn:J.pOf U.plain l with
 |none=>
  have HS:Hid (J.cI l=none):=by unfold Hid J.cI;rw[hn]
  go_enter func173,ntmps173;go_wp2_with fail;refine(qe p num dep 3 l _ (H.alloc _) (hv.alloc _) hn).mono ?_;rintro e w1 h1;obtain⟨ht,b,h4,h5,rfl⟩:=h1;dsimp only;refine⟨rfl,?_⟩;exact zet
 |some q=>
  obtain⟨x,l2⟩:=q;go_enter func173,ntmps173;go_wp2_with fail;refine(nQ p num dep 3 l l2 x _ (H.alloc _) (hv.alloc _) hn).mono ?_;rintro e w1 ⟨rfl,U7,H1⟩;dsimp only;have hN:w1.heap[w.heap.size]?=some (.cells #[(0:Int),(0:Int),(0:Int),ByteArray.empty] 345 (0,0)):=(U7.block w zad zaa).trans (PG w _);have hNl:w.heap.size<w1.heap.size:=(Pn.1 hN).1;have ht:au p w w1:=((au.refl p w).alloc _).trans U7;have hp1:=H1.lt;clear U7;have H2:=H1.alloc (.cells #[(num:Int),(dep:Int),(3:Int),x] 345);have hN2:(w1.alloc (.cells #[(num:Int),(dep:Int),(3:Int),x] 345)).heap[w.heap.size]?=some (.cells #[(0:Int),(0:Int),(0:Int),ByteArray.empty] 345 (0,0)):=by rw[QS _ _ _ hNl];exact hN
  have VE:au p w (w1.alloc (.cells #[(num:Int),(dep:Int),(3:Int),x] 345)):=ht.alloc _;have Ws:=PG w1 (.cells #[(num:Int),(dep:Int),(3:Int),x] 345);have U9:¬w.heap.size=w1.heap.size:=zaa;have hne':¬w1.heap.size=w.heap.size:=zaa;cases l2 with
  |nil=>
   have HS:Hid (J.cI l=some ((x,3),[])):=by unfold Hid J.cI;rw[hn]
   go_wp2_with fail;refine(skip_none p num dep J.jz _ H2).mono ?_;rintro e w9 ⟨rfl,U1⟩;rw[U1];clear U1 w9 hN;generalize w1.alloc (.cells #[(num:Int),(dep:Int),(3:Int),x] 345)=w2 at *;obtain⟨a0,a1,a2,a3,b0,b1,b2,b3⟩:=gh hN2;obtain⟨c0,c1,c2,c3,_,_,_,_⟩:=gh Ws;have gg:=mK (a':=.int .i64 num) (b':=.int .i64 dep) (c':=.int .i64 3) (d':=.string x) hN2;have GG:Hid _:=gg;clear gg;exact zdo
  |cons y r=>
   cases hy:(y.toList == J.jz.toList)
   ·have HS:Hid (J.cI l=some ((x,3),y::r)):=zcr;go_wp2_with fail;refine(rY p num dep y r J.jz _ H2 hy).mono ?_;rintro e w9 ⟨rfl,U1⟩;rw[U1];clear U1 w9 hN;generalize w1.alloc (.cells #[(num:Int),(dep:Int),(3:Int),x] 345)=w2 at *;obtain⟨a0,a1,a2,a3,b0,b1,b2,b3⟩:=gh hN2;obtain⟨c0,c1,c2,c3,_,_,_,_⟩:=gh Ws;have GG:Hid _:=mK (a':=.int .i64 num) (b':=.int .i64 dep) (c':=.int .i64 3) (d':=.string x) hN2;exact zdo
   ·have HS:Hid (J.cI l=some ((x,4),r)):=zcr;go_wp2_with fail;refine(kU p num dep y r J.jz _ H2 hy).mono ?_;rintro e w3 ⟨rfl,YN,H3⟩;have hN3:=(YN.block w zaa).trans hN2;have Wt:=(YN.block w1 zaa).trans Ws;have Wb:=VE.trans YN.al;have Zq:=PR w3 w1 2 _ _ (.int .i64 4) Wt;have oM:=ag w3 w1 2 (.int .i64 4);have hN4:=(oM.block w U9).trans hN3;have Xe:=Wb.jg oM zaa;have H4:=H3.only oM zaa;obtain⟨_,_,m2,_,_,_,m6,_⟩:=gh Wt;clear hN hN2 Ws YN Wb H3 Wt hN3 oM;dsimp only
    go_upto_region 4 with fail
    generalize w3.setCell (w1,2) (.int .i64 4)=w4 at *;obtain⟨a0,a1,a2,a3,b0,b1,b2,b3⟩:=gh hN4;obtain⟨c0,c1,c2,c3,_,_,_,_⟩:=gh (a:=.int .i64 num) (b:=.int .i64 dep) (c:=.int .i64 4) (d:=.string x) Zq;have GG:Hid _:=mK (a':=.int .i64 num) (b':=.int .i64 dep) (c':=.int .i64 4) (d':=.string x) hN4;go_wp2;refine eh oS _ 345 _ (0,0) _ rfl GG.out.1 underlying345 rfl iD rfl ?_;unfold ff;rw[HS.out];exact⟨rfl,Xe.jg GG.out.2 (Po _),H4.only GG.out.2 VI⟩
