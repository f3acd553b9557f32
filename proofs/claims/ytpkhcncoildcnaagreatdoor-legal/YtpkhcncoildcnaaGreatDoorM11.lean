import Derived.Test.YtpkhcncoildcnaaGreatDoorM00
import Derived.Test.YtpkhcncoildcnaaGreatDoorSh
import Derived.Lib.AppendIntMem
import Derived.Deep.RegionHeld3
import Derived.Deep.AppendLies
set_option maxRecDepth 100000
set_option maxHeartbeats 8000000
namespace Go.Proofs.YtpkhcncoildcnaaGreatDoor
variable {zp:Prop}
theorem zda(h:zp:=by
 go_enter func252,ntmps252;go_wp2_with fail;refine(aH p num dep x r _ H).mono ?_;rintro e w1 ⟨rfl,ho,H1⟩;have TR:=ho.ai;clear ho;dsimp only;go_wp2_with fail;refine(fU p num dep r _ H1 (hv.ai TR)).mono ?_;rintro e w2 hq;rw[hn]at hq;obtain⟨ht,b,h4,h5,rfl⟩:=hq;dsimp only;refine⟨rfl,?_⟩;rw[HS.out];exact⟨TR.trans ht,b,Ox TR.size h4,h5,rfl⟩):zp:=h
theorem zde(h:zp:=by
 have HP:Hid _:=hp;have HL:Hid _:=hl;clear hp hl;go_enter func225,ntmps225;go_wp2_with(first
  |(go_at_call 221;refine(gW s _ zah).mono ?_;rintro e w9 ⟨rfl,Pg⟩;rw[Pg,HP.out];clear Pg w9)
  |(go_at_call 254;refine(lW s _ hs hv).mono ?_;rintro e w9 ⟨rfl,UR⟩;rw[HL.out]))
 go_ret;exact⟨by rw[HC.out];rfl,UR⟩):zp:=h
theorem zdj(h:zp:=by
 go_simp;refine hK _ _ ?_;clear hK K;refine zA 2 rfl fun K hK=>?_;go_simp
 (refine(gC p num dep r _ H3d YF).mono ?_;rintro e w4 h4;rw[hr]at h4;obtain⟨ht,b,h5,h6,rfl⟩:=h4;dsimp only;refine⟨rfl,?_⟩;rw[Zv.out];exact⟨U0.trans ((ak.refl p w3).drew.trans ht),b,Ox U0.size h5,h6,rfl⟩)):zp:=h
theorem zdk(h:zp:=by
 go_wp2_with(first|(go_at_call 250;refine(dG _ _).mono ?_;rintro e w9 ⟨rfl,Pg⟩;rw[Pg,H1.out];clear Pg w9)|(go_at_call 251;refine(lU _ _).mono ?_;rintro e w9 ⟨rfl,Pg⟩;rw[Pg,H2.out];clear Pg w9))
 go_round
 case rel=>exact⟨k+1,zaa,zag,HS.out⟩
 case measure=>simp[intOf];omega):zp:=h
theorem zdy(h:zp:=by
 go_simp
 (refine(eF p num dep l _ H1 UP).mono ?_;rintro e w4 h4;rw[hn]at h4;obtain⟨ht,b,h5,h6,rfl⟩:=h4;dsimp only;exact⟨rfl,((ak.refl p w).alloc _).drew.trans ht,b,by simp at h5;omega,h6,rfl⟩)):zp:=h
theorem zdJ(h:zp:=by
 dsimp only;go_wp2;refine ee n5 _ 364 _ (0,0) _ rfl GG.out.1 underlying364 rfl il rfl ?_;unfold eU;rw[HS.out];exact⟨rfl,Ur.iS GG.out.2 (Ow _),H2.only GG.out.2 Uo⟩):zp:=h
theorem zdU(h:zp:=by
 rintro e w9 ⟨rfl,Pg⟩;rw[Pg];clear Pg w9;dsimp only;go_wp2;go_ret;unfold eU;rw[HS.out];exact⟨rfl,ht.alloc _,H2.alloc _⟩):zp:=h
theorem zes(h:zp:=by
 obtain⟨⟨n,r'⟩,h1,h2⟩:=O0.1 h;cases h2
 have:=rI h1;dsimp only at this⊢;omega):zp:=h
theorem zeE(h:zp:=by
 go_ret;exact⟨rfl,aa _ _ _ _,H.gu hp ZA Ui hst zaa (fun _=>rfl)⟩):zp:=h
theorem zeF(h:zp:=by
 go_ret;exact⟨rfl,aa _ _ _ _,H.gu hp ZA Ui hst zaa (fun h=>zaa)⟩):zp:=h
theorem zeJ(h:zp:=by
 rw[HS.out];exact⟨((ak.refl p w).alloc _).trans ht,b,zaS,h5,rfl⟩):zp:=h
theorem ze1(h:zp:=by
 go_enter func221,ntmps221;go_wp2;go_ret;exact⟨za3,rfl⟩):zp:=h
theorem zfi(h:zp:=by
 simp only[Value.slice.injEq]at VD;exact VD.2.1):zp:=h
theorem zfj(h:zp:=by
 go_wp2;go_ret;exact⟨by rw[HR.out];simp,TM⟩):zp:=h
theorem zfr(h:zp:=by
 unfold U.fh;split
 ·omega
 ·split<;>omega):zp:=h
theorem zft(h:zp:=by
 go_wp2;go_meet
 case rel=>exact⟨rfl,rfl⟩):zp:=h
theorem zfN(h:zp:=by
 go_ret;exact⟨za3,rfl⟩):zp:=h
theorem zar(h:zp:=by rw[Pr];rfl):zp:=h
theorem zat(h:zp:=by simp[World.frozen?,hN]):zp:=h
theorem zaz(h:zp:=by rw[J.pOf,hx];rfl):zp:=h
theorem zaG(h:zp:=by simpa using h3):zp:=h
theorem zaK(h:zp:=by rw[OA w p 2 _ _ _ hp];rfl):zp:=h
theorem zaS(h:zp:=by simp at h4;omega):zp:=h
theorem za3(h:zp:=by rw[HP.out];rfl):zp:=h
theorem zbs(h:zp:=by simpa using TN):zp:=h
theorem zbS(h:zp:=by rw[OA w p 0 _ _ _ hp];rfl):zp:=h
theorem zbT(h:zp:=by rw[OA w p 1 _ _ _ hp];rfl):zp:=h
theorem zbU(h:zp:=by unfold Hid J.cW;rw[ha]):zp:=h
theorem zb0(h:zp:=by simp[World.frozen?,hp]):zp:=h
theorem zcg(h:zp:=by unfold Hid J.dB;rw[hn];simp only;rw[hd];simp only;rw[hy];rfl):zp:=h
theorem zci(h:zp:=by unfold Hid;rw[J.bI,U.fC,h1,U.lQ,h2,U.fi,h3,hn];rfl):zp:=h
theorem zcp(h:zp:=by unfold Hid;rw[J.bI,U.fC,h1,U.lQ,h2,hn];rfl):zp:=h
theorem zcr(h:zp:=by unfold Hid J.dw;rw[hn];simp only;rw[hy];rfl):zp:=h
open Tryz
variable {s x:()}{k p cap N n g base size:Nat}{w w' b a c w1 w2:World}{v:Value}{num dep:Int}{r l:List ()}{e t:TypeId}{xs:List Value}{row:Option Nat}
section
open Go.RowKit
open Go.PlainAid (bt get_bt bt_nonneg bt_le bt_end)
theorem dG(c:Int)(w:World):() 250 #[.int .u8 c] w fun e w'=>e=.returned (.bool (U.small c))/\w'=w:=by
 by_cases h1:97<=c
 ·by_cases h2:c<=122
  ·go_enter func250,ntmps250;go_wp2;go_ret;exact⟨by simp[U.small,h1,h2],rfl⟩
  ·go_enter func250,ntmps250;go_wp2;go_ret;exact⟨by rw[U.small,Pc (show ¬c<=122 by omega),Qj];rfl,rfl⟩
 ·go_enter func250,ntmps250;go_wp2;go_ret;exact⟨by rw[U.small,Pc (show ¬97<=c by omega),QR];rfl,rfl⟩
theorem lU(c:Int)(w:World):() 251 #[.int .u8 c] w fun e w'=>e=.returned (.bool (U.kf c))/\w'=w:=by
 by_cases h1:48<=c
 ·by_cases h2:c<=57
  ·go_enter func251,ntmps251;go_wp2;go_ret;exact⟨by simp[U.kf,h1,h2],rfl⟩
  ·go_enter func251,ntmps251;go_wp2;go_ret;exact⟨by rw[U.kf,Pc (show ¬c<=57 by omega),Qj];rfl,rfl⟩
 ·go_enter func251,ntmps251;go_wp2;go_ret;exact⟨by rw[U.kf,Pc (show ¬48<=c by omega),QR];rfl,rfl⟩
namespace U
theorem yy(h0:small (bt s 0)=true)(h:(small (bt s k)||(kf (bt s k)||decide (bt s k=95)))=true):jr s k=true:=by
 by_cases hk:k=0
 ·rw[hk,wk];exact h0
 ·unfold jr more;unfold kf at h;rw[Pe (show k≠0 from hk),Rn,Bool.or_comm (decide (bt s k=95))];exact h
theorem IT(h1:small (bt s k)=false)(h2:kf (bt s k)=false)(h3:¬bt s k=95):jr s k=false:=by
 unfold jr more;unfold kf at h2;rw[h1,h2,Pc h3,Sr,Qj,Sr]
theorem AK(hk:k<s.size)(h:jr s k=false):plain s=false:=by
 rw[plain,uS hk h,QR]
end U
theorem gW(s:())(w:World)(hs:s.size<=maxLen):() 221 #[s] w fun e w'=>e=.returned (.bool (U.plain s))/\w'=w:=by
 unfold maxLen at hs;have hb:=get_bt s;by_cases he:s.size=0
 ·have he':(s.toList == [])=true:=by rw[Sc,<- Rp,U.isEmpty_eq];exact Pe he
  have HP:Hid (U.plain s=false):=by unfold Hid U.plain;rw[Pc (show ¬0<s.size by omega),QR,Qj]
  exact ze1
 ·have he':(s.toList == [])=false:=by
   rw[P5];intro h;have:=U.isEmpty_eq s;rw[h]at this;exact he (QL this.symm)
  by_cases h8:8<s.size
  ·have HP:Hid (U.plain s=false):=by unfold Hid U.plain;rw[Pc (show ¬s.size<=8 by omega),Qj,Qj]
   exact ze1
  ·cases hm:U.small (bt s 0)
   ·have HP:Hid (U.plain s=false):=U.AK (k:=0) zaa (by rw[U.wk];exact hm);have HM:Hid _:=hm;clear hm;go_enter func221,ntmps221;go_wp2_with(go_at_call 250;refine(dG _ _).mono ?_;rintro e w9 ⟨rfl,Pg⟩;rw[Pg,HM.out];clear Pg w9);exact zfN
   ·have HM:Hid _:=hm;clear hm;go_enter func221,ntmps221;go_wp2_with(go_at_call 250;refine(dG _ _).mono ?_;rintro e w9 ⟨rfl,Pg⟩;rw[Pg,HM.out];clear Pg w9)
    go_loop[20] (fun i=>∃k:Nat,k<=s.size/\i=.int .i64 k/\∀j,j<k->U.jr s j=true) (fun i=>s.size-(intOf i).toNat)
    case atStart=>exact⟨0,OL _,rfl,fun _ h=>zaa⟩
    case round=>
     obtain⟨k,hk,rfl,Uw⟩:=hrel;have Hok:Hid (∀j,j<k->U.jr s j=true):=Uw;clear Uw;by_cases TX:k<s.size
     ·cases h1:U.small (bt s k)
      ·cases h2:U.kf (bt s k)
       ·by_cases h3:bt s k=95
        ·have HS:Hid _:=U.yz Hok (U.yy HM.out (by rw[Pe h3,S8,S8]));have H1:Hid _:=h1;have H2:Hid _:=h2;have h3':(bt s k != 95)=false:=by rw[h3];rfl
         clear h1 h2 h3;exact zdk
        ·have HP:Hid (U.plain s=false):=U.AK TX (U.IT h1 h2 h3);have H1:Hid _:=h1;have H2:Hid _:=h2;have h3':(bt s k != 95)=true:=zaG;clear h1 h2 h3;go_wp2_with(first|(go_at_call 250;refine(dG _ _).mono ?_;rintro e w9 ⟨rfl,Pg⟩;rw[Pg,H1.out];clear Pg w9)|(go_at_call 251;refine(lU _ _).mono ?_;rintro e w9 ⟨rfl,Pg⟩;rw[Pg,H2.out];clear Pg w9));exact zfN
       ·have HS:Hid _:=U.yz Hok (U.yy HM.out (by rw[h2,Rg,S8]));have H1:Hid _:=h1;have H2:Hid _:=h2;clear h1 h2;exact zdk
      ·have HS:Hid _:=U.yz Hok (U.yy HM.out (by rw[h1,Rg]));have H1:Hid _:=h1;clear h1;go_wp2_with(go_at_call 250;refine(dG _ _).mono ?_;rintro e w9 ⟨rfl,Pg⟩;rw[Pg,H1.out];clear Pg w9)
       go_round
       case rel=>exact⟨k+1,zaa,zag,HS.out⟩
       case measure=>simp[intOf];omega
     ·obtain rfl:k=s.size:=zaa;have HP:Hid (U.plain s=true):=by
       unfold Hid U.plain;rw[U.EF Hok.out,Rn,Pe (show 0<s.size by omega),Pe (show s.size<=8 by omega)];rfl
      clear hb;go_wp2;exact zfN
structure gZ(w:World):Prop where
 syn:∃ev,w.cell? ⟨7,0,none⟩=some ev/\(ev=.nilIface\/∃te pe,ev=.iface te pe)
 rng:∃ev,w.cell? ⟨8,0,none⟩=some ev/\(ev=.nilIface\/∃te pe,ev=.iface te pe)
def JR(s:())(w:World)(e:Ending)(w':World):Prop:=Below w w w'/\∃u:Int,e=.returned (.tuple #[.int .u64 u,.bool (U.cJ s)])/\(U.cJ s=true->u=U.et s)
theorem pU(w:World)(t:TypeId)(s:()):Below w w (Lib.bytesWorld w t s):=by
 unfold Lib.bytesWorld;exact Lib.below_freeze ((Below.drew (Oy _ w)).alloc (Ow _) _) (p:=⟨w,_,none⟩) (Ow _) 1
theorem vB{p:Addr}(h:w.cell? p=some v)(hb:Below w w w'):w'.cell? p=some v:=by
 rw[hb.cell (OW w _ h)];exact h
theorem gZ.aq(h:gZ w)(hb:Below w w w'):gZ w':=
 let⟨e1,h1,h2⟩:=h.syn
 let⟨e3,h3,h4⟩:=h.rng
 ⟨⟨e1,vB h1 hb,h2⟩,⟨e3,vB h3 hb,h4⟩⟩
theorem gS(s p:()):Lib.hasPrefix s.data.toList p.data.toList=U.cI s p:=by
 rw[<- Lib.hasPrefix_raw,U.cI,U.DR]
theorem nG{p:()}(h:U.cI s p=true):(⟨(Lib.trimPrefix s.data.toList p.data.toList).toArray⟩:())=s.extract p.size s.size:=by
 refine Lib.trimPrefix_hit s p (U.qB h) ?_;rw[U.DR];rw[U.cI,O2]at h;exact h.2
theorem nT(s:())(w:World)(hs:s.size<=1073741824)(hv:gZ w):() 227 #[s] w (JR s w):=by
 have hb:=get_bt s;by_cases h0:1<s.size/\bt s 0=48
 ·obtain⟨h1,h2⟩:=h0;have HD:Hid (U.cJ s=false):=by
   unfold Hid;rw[U.cJ,U.sg,Pe h1,Pe h2,Rn,S8,Rg,Rg,Bool.not_true,Qj]
  have h2':(bt s 0 == 48)=true:=by rw[h2];rfl
  clear h2;go_enter func227,ntmps227;go_wp2;go_ret2;exact⟨Oy _ _,0,by rw[HD.out];rfl,fun h=>by rw[HD.out]at h;cases h⟩
 ·have HN:Hid _:=Num.IQ s h0;have HD0:Hid (decide (1<s.size)=true->(bt s 0 == 48)=false):=fun h=>by
   rw[P5];exact fun e=>h0 ⟨QL h,e⟩
  clear h0;go_enter func227,ntmps227
  go_upto_region 1 with fail
  go_cut[13] (fun c wx=>c=.bool false/\wx=w)
  case first=>
   by_cases h1:1<s.size
   ·have h2':=HD0.out (Pe h1);exact zft
   ·exact zft
  case rest=>
   obtain⟨rfl,hwc⟩:=hcut;rw[hwc];clear hwc wc;cases hp:Lib.parseUintB 64 s.data.toList with
   |ok u=>
    have HU:Hid _:=HN.out.1 u hp;go_wp2_with fail;refine(strconv_ParseUint_10_at64_ok s zaa u hp _).mono ?_;rintro e w1 ⟨rfl,Ul⟩;have TM:Below w w w1:=by
     rcases Ul with h|h
     ·rw[h];exact Oy _ _
     ·rw[h];exact pU _ _ _
    clear Ul hp;dsimp only;go_wp2
    go_quiet(fail)
    go_wp2;go_ret2;exact⟨QK TM _,u,by rw[HU.out.1];rfl,fun _=>HU.out.2.symm⟩
   |«syntax»=>
    have HU:Hid _:=HN.out.2 (fun u h=>by rw[hp]at h;cases h);obtain⟨ev,UP,XE⟩:=hv.syn;go_wp2_with fail;refine(strconv_ParseUint_10_at64_syntax s zaa hp ev _ UP XE).mono ?_;rintro e w1 ⟨N,rfl,hN,Ve,TM⟩;clear hp Ve;dsimp only;go_wp2
    go_quiet(fail)
    go_wp2;go_ret2;exact⟨QK TM _,0,by rw[HU.out];rfl,fun h=>by rw[HU.out]at h;cases h⟩
   |range=>
    have HU:Hid _:=HN.out.2 (fun u h=>by rw[hp]at h;cases h);obtain⟨ev,UP,XE⟩:=hv.rng;go_wp2_with fail;refine(strconv_ParseUint_10_at64_range s zaa hp ev _ UP XE).mono ?_;rintro e w1 ⟨N,rfl,hN,Ve,TM⟩;clear hp Ve;dsimp only;go_wp2
    go_quiet(fail)
    go_wp2;go_ret2;exact⟨QK TM _,18446744073709551615,by rw[HU.out];rfl,fun h=>by rw[HU.out]at h;cases h⟩
theorem lW(s:())(w:World)(hs:s.size<=1073741824)(hv:gZ w):() 254 #[s] w fun e w'=>e=.returned (.bool (U.l6 s))/\Below w w w':=by
 cases hb:U.cI s U.bQ
 ·have HL:Hid (U.l6 s=false):=by unfold Hid U.l6;rw[hb,QR]
  have HB:Hid _:=(gS s U.bQ).trans hb;clear hb;go_enter func254,ntmps254;go_wp2_with fail;refine(strings_CutPrefix s U.bQ _).mono ?_;rintro e w9 ⟨rfl,Pg⟩;rw[Pg,HB.out];clear Pg w9;dsimp only;go_wp2;go_ret;exact⟨by rw[HL.out];rfl,Oy _ _⟩
 ·have HL:Hid (U.l6 s=(U.cJ (s.extract 6 s.size)&&(decide (0<U.et (s.extract 6 s.size))&&decide (U.et (s.extract 6 s.size)<=1500)))):=by unfold Hid U.l6;rw[hb,Rn]
  have HB:Hid _:=(gS s U.bQ).trans hb;have HC:Hid ((⟨(Lib.trimPrefix s.data.toList U.bQ.data.toList).toArray⟩:())=s.extract 6 s.size):=nG hb;have hr:(s.extract 6 s.size).size<=1073741824:=zae;clear hb;go_enter func254,ntmps254;go_wp2_with fail;refine(strings_CutPrefix s U.bQ _).mono ?_;rintro e w9 ⟨rfl,Pg⟩;rw[Pg,HB.out,HC.out];clear Pg w9 HC;generalize s.extract 6 s.size=r at *;dsimp only;go_wp2_with fail;refine(nT r _ hr hv).mono ?_;rintro e w1 ⟨TM,u,rfl,hu⟩;have HU:Hid _:=hu;clear hu;dsimp only;cases hk:U.cJ r
  ·have HK:Hid _:=hk;clear hk;go_wp2;go_ret;exact⟨by rw[HL.out,HK.out];rfl,TM⟩
  ·have HV:Hid _:=HU.out hk;have HK:Hid _:=hk;clear hk HU;by_cases h1:1<=u
   ·by_cases h2:u<=1500
    ·have HR:Hid (U.l6 s=true):=by unfold Hid;rw[HL.out,HK.out,<- HV.out,Pe (show 0<u by omega),Pe h2];rfl
     exact zfj
    ·have HR:Hid (U.l6 s=false):=by unfold Hid;rw[HL.out,HK.out,<- HV.out,Pc h2,Qj];rfl
     have h2':decide (u<=1500)=false:=Pc h2;exact zfj
   ·have HR:Hid (U.l6 s=false):=by unfold Hid;rw[HL.out,HK.out,<- HV.out,Pc (show ¬0<u by omega),QR];rfl
    go_wp2;go_ret;exact⟨by rw[HR.out];rfl,TM⟩
theorem jd(s:())(w:World)(hs:s.size<=1073741824)(hv:gZ w):() 225 #[s] w fun e w'=>e=.returned (.bool (U.called s))/\Below w w w':=by
 cases hp:U.plain s
 ·cases hl:U.l6 s
  ·have HC:Hid (U.called s=false):=by unfold Hid U.called;rw[hp,hl];rfl
   exact zde
  ·have HC:Hid (U.called s=true):=by unfold Hid U.called;rw[hp,hl];rfl
   exact zde
 ·have HC:Hid (U.called s=true):=by unfold Hid U.called;rw[hp,Rg]
  have HP:Hid _:=hp;clear hp;go_enter func225,ntmps225;go_wp2_with(go_at_call 221;refine(gW s _ zah).mono ?_;rintro e w9 ⟨rfl,Pg⟩;rw[Pg,HP.out];clear Pg w9);go_ret;exact⟨by rw[HC.out];rfl,Oy _ _⟩
theorem sR(s:())(w:World)(hs:s.size<=1073741824)(hb:U.cI s U.kg=true)(hp:U.plain (s.extract 5 s.size)=true):() 197 #[s] w fun e w'=>e=.returned (.bool (U.cB s))/\Below w w w':=by
 have HR:Hid (U.cB s=true):=by unfold Hid U.cB;rw[hb,hp,Bool.and_self,S8]
 have HB:Hid _:=(gS s U.kg).trans hb;have HC:Hid ((⟨(Lib.trimPrefix s.data.toList U.kg.data.toList).toArray⟩:())=s.extract 5 s.size):=nG hb;have HP:Hid _:=hp;have hr:(s.extract 5 s.size).size<=1073741824:=zae;clear hb hp;go_enter func197,ntmps197;go_wp2_with fail;refine(strings_CutPrefix s U.kg _).mono ?_;rintro e w9 ⟨rfl,Pg⟩;rw[Pg,HB.out,HC.out];clear Pg w9 HC;generalize s.extract 5 s.size=r at *;dsimp only;go_wp2_with(go_at_call 221;refine(gW r _ zah).mono ?_;rintro e w9 ⟨rfl,Pg⟩;rw[Pg,HP.out];clear Pg w9);go_ret;exact⟨by rw[HR.out];rfl,Oy _ _⟩
theorem sS(s:())(w:World)(hs:s.size<=1073741824)(hv:gZ w)(hb:U.cI s U.kg=false):() 197 #[s] w fun e w'=>e=.returned (.bool (U.cB s))/\Below w w w':=by
 have HR:Hid (U.cB s=U.called s):=by unfold Hid U.cB;rw[hb,QR,Sr]
 have HB:Hid _:=(gS s U.kg).trans hb;clear hb;cases hc:U.called s
 all_goals
  have HC:Hid _:=hc;clear hc;go_enter func197,ntmps197;go_wp2_with fail;refine(strings_CutPrefix s U.kg _).mono ?_;rintro e w9 ⟨rfl,Pg⟩;rw[Pg,HB.out];clear Pg w9;dsimp only;go_wp2_with(go_at_call 225;refine(jd s _ hs hv).mono ?_;rintro e w9 ⟨rfl,UR⟩;rw[HC.out]);go_ret;exact⟨by rw[HR.out,HC.out];rfl,UR⟩
theorem xV(s:())(w:World)(hs:s.size<=1073741824)(hv:gZ w)(hb:U.cI s U.kg=true)(hp:U.plain (s.extract 5 s.size)=false):() 197 #[s] w fun e w'=>e=.returned (.bool (U.cB s))/\Below w w w':=by
 have HR:Hid (U.cB s=U.called s):=by unfold Hid U.cB;rw[hb,hp,Qj,Sr]
 have HB:Hid _:=(gS s U.kg).trans hb;have HC0:Hid ((⟨(Lib.trimPrefix s.data.toList U.kg.data.toList).toArray⟩:())=s.extract 5 s.size):=nG hb;have HP:Hid _:=hp;have hr:(s.extract 5 s.size).size<=1073741824:=zae;clear hb hp;cases hc:U.called s
 all_goals
  have HC:Hid _:=hc;clear hc;go_enter func197,ntmps197;go_wp2_with fail;refine(strings_CutPrefix s U.kg _).mono ?_;rintro e w9 ⟨rfl,Pg⟩;rw[Pg,HB.out,HC0.out];clear Pg w9 HC0;generalize s.extract 5 s.size=r at *;dsimp only;go_wp2_with(first
   |(go_at_call 221;refine(gW r _ zah).mono ?_;rintro e w9 ⟨rfl,Pg⟩;rw[Pg,HP.out];clear Pg w9)
   |(go_at_call 225;refine(jd s _ hs hv).mono ?_;rintro e w9 ⟨rfl,UR⟩;rw[HC.out]))
  go_ret;exact⟨by rw[HR.out,HC.out];rfl,UR⟩
theorem uM(s:())(w:World)(hs:s.size<=1073741824)(hv:gZ w):() 197 #[s] w fun e w'=>e=.returned (.bool (U.cB s))/\Below w w w':=by
 cases hb:U.cI s U.kg
 ·exact sS s w hs hv hb
 ·cases hp:U.plain (s.extract 5 s.size)
  ·exact xV s w hs hv hb hp
  ·exact sR s w hs hb hp
structure Env(w:World):Prop where
 err:gZ w
 tab:Lib.TabIs prog w "internal/strconv.uint64pow10" .u64 Lib.pow10Tab
theorem Env.aq(h:Env w)(hb:Below w w w'):Env w':=⟨h.err.aq hb,Lib.tabBelow_of_tabIs h.tab w' hb⟩
theorem jk(n:Nat)(w:World)(hn:n<=1073741824)(hv:Env w):() 198 #[(n:Int)] w fun e w'=>e=.returned (.string (U.bQ++U.dec n))/\Below w w w':=by
 have hd:(U.dec n).size<=20:=U.sA zaa;have HI:Hid ((⟨(Lib.itoa n).toArray⟩:())=U.dec n):=by
  unfold Hid Lib.itoa U.dec;rw[OB zaa];rfl
 go_enter func198,ntmps198;go_wp2_with fail;refine(strconv_Itoa n zaa zaa _ hv.tab).mono ?_;rintro e w1 ⟨rfl,k,os,Ul⟩;have TM:Below w w w1:=by rw[Ul];exact Lib.below_grow _ _ (Ow _) _ _
 rw[HI.out];clear Ul;dsimp only;go_wp2;go_ret;exact⟨rfl,TM⟩
def bc(er line:Int)(w:World)(e:Ending)(w':World):Prop:=Below w w w'/\∃b,w.heap.size<=b/\w'.heap[b]?=some (.cells #[(er:Int),(line:Int)] 78 (0,0))/\e=.panicked [{ v:=.iface 161 (.agg #[.pointer (some ⟨b,0,none⟩)]),recovered:=false }]
theorem aV(num dep er:Int)(w:World):() 93 #[.agg #[(num:Int),(dep:Int)],(er:Int)] w (bc er num w):=by
 go_enter func93,ntmps93;go_wp2;refine⟨rfl,((Oy _ _).alloc (Ow _) _).alloc zad _,w.heap.size+1,zaa,?_,rfl⟩;have h:=OH (w.alloc (.cells #[(num:Int),(dep:Int)] 244)) (.cells #[(er:Int),(num:Int)] 78);simpa using h
structure ah(w:World)(p:Nat)(num dep:Int)(l:List ()):Prop where
 row:∃a cap,w.heap[p]?=some (.cells #[(num:Int),(dep:Int),.slice a l.length cap] 319 (0,0))/\l.length<=cap/\(0<l.length->∃b off,a=some ⟨b,off,none⟩/\b<p/\b<w.heap.size/\rT w b off l)
 len:l.length<=1073741824
 sizes:∀x∈l,x.size<=1073741824
theorem ah.gu{b off cap':Nat}{a':Option Addr}(H:ah w p num dep (x::r))(hp:w.heap[p]?=some (.cells #[(num:Int),(dep:Int),.slice (some (b,off)) (x::r).length cap] 319 (0,0)))
  (ZA:b<p) (Ui:b<w.heap.size) (hst:rT w b off (x::r)) (hc:r.length<=cap') (ha:0<r.length->a'=some ⟨b,off+1,none⟩):ah (w.setCell (p,2) (.slice a' r.length cap')) p num dep r:=by
 have ho:=aa w p 2 (.slice a' r.length cap');refine⟨⟨a',cap',?_,hc,fun h=>⟨b,off+1,ha h,ZA,by rw[ho.size];exact Ui,?_⟩⟩,by have:=H.len;simp at this;omega,fun y hy=>H.sizes y (OZ _ hy)⟩
 ·rw[OP w p 2 _ _ _ hp];rfl
 ·intro i hi;have:=hst.drop 1 i za4;rw[ho.cell (p:=(b,off+1+i)) (TB ZA),this];rfl
theorem mR(p:Nat)(num dep:Int)(w:World)(H:ah w p num dep []):
  () 192 #[p] w (bc 2 num w):=by
 obtain⟨a,cap,hp,hc,hs⟩:=H.row;have c0:w.cell? p=some ↑(num:Int):=zbS;have c1:w.cell? (p,1)=some ↑(dep:Int):=zbT;have c2:w.cell? (p,2)=some (.slice a 0 cap):=zaK;go_enter func192,ntmps192;go_wp2_with fail;refine(aV num dep 2 _).mono ?_;rintro e w1 h1;obtain⟨hb,b,h2,h3,rfl⟩:=h1;dsimp only;exact⟨rfl,hb,b,h2,h3,rfl⟩
theorem aH(p:Nat)(num dep:Int)(x:())(r:List ())(w:World)(H:ah w p num dep (x::r)):
  () 192 #[p] w fun e w'=>e=.returned x/\iF p w w'/\ah w' p num dep r:=by
 obtain⟨a,cap,hp,hc,hs⟩:=H.row;have c2:w.cell? (p,2)=some (.slice a (x::r).length cap):=by rw[OA w p 2 _ _ _ hp];rfl
 have fr:w.frozen? (p,2)=false:=zb0;obtain⟨b,off,rfl,ZA,Ui,hst⟩:=hs zad;have d0:=hst 0 zad;simp only[U.at',List.getD_cons_zero,Nat.add_zero]at d0;have Xk:r.length+1<=cap:=by simpa using hc
 go_enter func192,ntmps192;go_wp2
 ·exact zeF
 ·exact zeE
theorem skip_none(p:Nat)(num dep:Int)(k:())(w:World)(H:ah w p num dep []):
  () 222 #[p,k] w fun e w'=>e=.returned false/\w'=w:=by
 obtain⟨a,cap,hp,hc,hs⟩:=H.row;have c2:w.cell? (p,2)=some (.slice a 0 cap):=zaK;go_enter func222,ntmps222;go_wp2;go_ret;exact⟨rfl,rfl⟩
theorem rM(p:Nat)(num dep:Int)(x:())(r:List ())(k:())(w:World)(H:ah w p num dep (x::r))(hk:(x.toList == k.toList)=false):
  () 222 #[p,k] w fun e w'=>e=.returned false/\w'=w:=by
 obtain⟨a,cap,hp,hc,hs⟩:=H.row;have c2:w.cell? (p,2)=some (.slice a (x::r).length cap):=zaK;obtain⟨b,off,rfl,ZA,Ui,hst⟩:=hs zad;have d0:=hst 0 zad;simp only[U.at',List.getD_cons_zero,Nat.add_zero]at d0;have UD:(x.toList != k.toList)=true:=by rw[bne,hk];rfl
 go_enter func222,ntmps222;go_wp2;go_ret;exact⟨rfl,rfl⟩
theorem kr(p:Nat)(num dep:Int)(x:())(r:List ())(k:())(w:World)(H:ah w p num dep (x::r))(hk:(x.toList == k.toList)=true):
  () 222 #[p,k] w fun e w'=>e=.returned true/\iF p w w'/\ah w' p num dep r:=by
 obtain⟨a,cap,hp,hc,hs⟩:=H.row;have c2:w.cell? (p,2)=some (.slice a (x::r).length cap):=zaK;have fr:w.frozen? (p,2)=false:=zb0;obtain⟨b,off,rfl,ZA,Ui,hst⟩:=hs zad;have d0:=hst 0 zad;simp only[U.at',List.getD_cons_zero,Nat.add_zero]at d0;have Xk:r.length+1<=cap:=by simpa using hc
 have UD:(x.toList != k.toList)=false:=by rw[bne,hk];rfl
 go_enter func222,ntmps222;go_wp2
 ·exact zeF
 ·exact zeE
theorem MI(p:Nat)(num dep:Int)(w:World)(H:ah w p num dep []):
  () 146 #[p] w fun e w'=>e=.returned (.tuple #[])/\w'=w:=by
 obtain⟨a,cap,hp,hc,hs⟩:=H.row;have c2:w.cell? (p,2)=some (.slice a 0 cap):=zaK;go_enter func146,ntmps146;go_wp2;go_end0;exact⟨rfl,rfl⟩
theorem Kn(p:Nat)(num dep:Int)(l:List ())(w:World)(H:ah w p num dep l)(h0:0<l.length):
  () 146 #[p] w (bc 2 num w):=by
 obtain⟨a,cap,hp,hc,hs⟩:=H.row;have c0:w.cell? p=some ↑(num:Int):=zbS;have c1:w.cell? (p,1)=some ↑(dep:Int):=zbT;have c2:w.cell? (p,2)=some (.slice a l.length cap):=zaK;go_enter func146,ntmps146;go_wp2_with fail;refine(aV num dep 2 _).mono ?_;rintro e w1 h1;obtain⟨hb,b,h2,h3,rfl⟩:=h1;dsimp only;exact⟨rfl,hb,b,h2,h3,rfl⟩
end
section
open Go.RowKit
structure ak(p:Nat)(w w':World):Prop where
 os:w'.os=w.os
 tape:w'.tape=w.tape
 output:w'.output=w.output
 size:w.heap.size<=w'.heap.size
 block:∀k,k<w.heap.size->k≠p->w'.heap[k]?=w.heap[k]?
theorem ak.refl(p:Nat)(w:World):ak p w w:=⟨rfl,rfl,rfl,Ow _,fun _ _ _=>rfl⟩
theorem ak.trans(h:ak p a b)(k:ak p b c):ak p a c:=
 ⟨k.os.trans h.os,k.tape.trans h.tape,k.output.trans h.output,Ox h.size k.size,fun i hi hp=>(k.block i (OS hi h.size) hp).trans (h.block i hi hp)⟩
theorem iF.ai(h:iF p w w'):ak p w w':=⟨h.os,h.tape,h.output,zbl,fun k _ hp=>h.block k hp⟩
theorem aQ(h:Below w w w'):ak p w w':=⟨h.os,h.tape,h.output,h.size,fun k hk _=>h.block k hk⟩
theorem ak.below{B:Nat}(h:ak p w w')(hb:Below B a w)(hB:B<=p)(hs:B<=w.heap.size):Below B a w':=
 hb.trans ⟨h.os,h.tape,h.output,h.size,fun k hk=>h.block k zaa zaa⟩
def bL(p:Nat)(w:World):Prop:=∃w0:World,w0.heap.size<=p/\Env w0/\Below w0 w0 w
theorem bL.here(h:bL p w):Env w:=let⟨_,_,h2,h3⟩:=h;h2.aq h3
theorem bL.ai(h:bL p w)(ht:ak p w w'):bL p w':=
 let⟨w0,h1,h2,h3⟩:=h
 ⟨w0,h1,h2,ht.below h3 h1 h3.size⟩
theorem ah.aq(H:ah w p num dep l)(hb:Below w w w'):ah w' p num dep l:=by
 obtain⟨a,cap,hp,hc,hs⟩:=H.row;refine⟨⟨a,cap,?_,hc,fun h=>?_⟩,H.len,H.sizes⟩
 ·rw[hb.block p (Ov.1 hp).1];exact hp
 ·obtain⟨b,off,h1,h2,h3,h4⟩:=hs h;exact⟨b,off,h1,h2,OS h3 hb.size,h4.below hb h3⟩
def da(p:Nat)(er line:Int)(w:World)(e:Ending)(w':World):Prop:=ak p w w'/\∃b,w.heap.size<=b/\w'.heap[b]?=some (.cells #[(er:Int),(line:Int)] 78 (0,0))/\e=.panicked [{ v:=.iface 161 (.agg #[.pointer (some ⟨b,0,none⟩)]),recovered:=false }]
theorem cQ{er line:Int}{w0:World}{e:Ending}(ht:ak p w0 w)(h:bc er line w e w'):da p er line w0 e w':=by
 obtain⟨hb,b,h2,h3,h4⟩:=h;exact⟨ht.trans (aQ hb),b,Ox ht.size h2,h3,h4⟩
theorem ah.cells(H:ah w p num dep l):w.cell? p=some ↑(num:Int)/\w.cell? (p,1)=some ↑(dep:Int):=by
 obtain⟨a,cap,hp,hc,hs⟩:=H.row;exact⟨zbS,zbT⟩
def GA(f:Nat)(P:()->Bool):Prop:=∀(s:()) (w:World),s.size<=1073741824->Env w->() f #[s] w fun e w'=>e=.returned (.bool (P s))/\Below w w w'
theorem uj:GA 221 U.plain:=fun s w hs _=>(gW s w zah).mono (by rintro e w' ⟨rfl,rfl⟩;exact⟨rfl,Oy _ _⟩)
theorem wQ:GA 225 U.called:=fun s w hs hv=>jd s w hs hv.err
theorem nC:GA 197 U.cB:=fun s w hs hv=>uM s w hs hv.err
theorem jE(p:Nat)(num dep:Int)(f:Nat)(w:World)(H:ah w p num dep []):
  () 196 #[p,.func (.func f) #[] #[]] w (da p 2 num w):=by
 go_enter func196,ntmps196;go_wp2_with fail;refine(mR p num dep _ H).mono ?_;rintro e w1 h1;have h2:=cQ (ak.refl p w) h1;obtain⟨ht,b,h3,h4,rfl⟩:=h2;dsimp only;exact⟨rfl,ht,b,h3,h4,rfl⟩
theorem ti(p:Nat)(num dep:Int)(x:())(r:List ())(w:World)(H:ah w p num dep (x::r))(hv:bL p w)(hx:U.plain x=false):
  () 196 #[p,.func (.func 221) #[] #[]] w (da p 2 num w):=by
 have T6:=H.sizes x zad;go_enter func196,ntmps196;go_wp2_with fail;refine(aH p num dep x r _ H).mono ?_;rintro e w1 ⟨rfl,ho,H1⟩;have TR:=ho.ai;have UP:=hv.ai TR;clear ho;dsimp only;go_wp2_with fail;refine(uj x _ T6 UP.here).mono ?_;rintro e w2 ⟨rfl,TP⟩;rw[hx];have H2:=H1.aq TP;obtain⟨c0,c1⟩:=H2.cells;have Ur:ak p w w2:=TR.trans (aQ TP);clear H1 TP TR UP;dsimp only;go_wp2_with fail;refine(aV num dep 2 _).mono ?_;rintro e w3 h3;obtain⟨ht,b,h4,h5,rfl⟩:=cQ Ur h3;dsimp only;exact⟨rfl,ht,b,h4,h5,rfl⟩
theorem re(p:Nat)(num dep:Int)(x:())(r:List ())(w:World)(H:ah w p num dep (x::r))(hv:bL p w)(hx:U.plain x=true):
  () 196 #[p,.func (.func 221) #[] #[]] w fun e w'=>e=.returned x/\ak p w w'/\ah w' p num dep r:=by
 have T6:=H.sizes x zad;go_enter func196,ntmps196;go_wp2_with fail;refine(aH p num dep x r _ H).mono ?_;rintro e w1 ⟨rfl,ho,H1⟩;have TR:=ho.ai;have UP:=hv.ai TR;clear ho;dsimp only;go_wp2_with fail;refine(uj x _ T6 UP.here).mono ?_;rintro e w2 ⟨rfl,TP⟩;rw[hx];have H2:=H1.aq TP;have Ur:ak p w w2:=TR.trans (aQ TP);clear H1 TP TR UP;dsimp only;go_wp2;go_ret;exact⟨rfl,Ur,H2⟩
theorem nz(p:Nat)(num dep:Int)(x:())(r:List ())(w:World)(H:ah w p num dep (x::r))(hv:bL p w)(hx:U.called x=false):
  () 196 #[p,.func (.func 225) #[] #[]] w (da p 2 num w):=by
 have T6:=H.sizes x zad;go_enter func196,ntmps196;go_wp2_with fail;refine(aH p num dep x r _ H).mono ?_;rintro e w1 ⟨rfl,ho,H1⟩;have TR:=ho.ai;have UP:=hv.ai TR;clear ho;dsimp only;go_wp2_with fail;refine(wQ x _ T6 UP.here).mono ?_;rintro e w2 ⟨rfl,TP⟩;rw[hx];have H2:=H1.aq TP;obtain⟨c0,c1⟩:=H2.cells;have Ur:ak p w w2:=TR.trans (aQ TP);clear H1 TP TR UP;dsimp only;go_wp2_with fail;refine(aV num dep 2 _).mono ?_;rintro e w3 h3;obtain⟨ht,b,h4,h5,rfl⟩:=cQ Ur h3;dsimp only;exact⟨rfl,ht,b,h4,h5,rfl⟩
theorem mh(p:Nat)(num dep:Int)(x:())(r:List ())(w:World)(H:ah w p num dep (x::r))(hv:bL p w)(hx:U.called x=true):
  () 196 #[p,.func (.func 225) #[] #[]] w fun e w'=>e=.returned x/\ak p w w'/\ah w' p num dep r:=by
 have T6:=H.sizes x zad;go_enter func196,ntmps196;go_wp2_with fail;refine(aH p num dep x r _ H).mono ?_;rintro e w1 ⟨rfl,ho,H1⟩;have TR:=ho.ai;have UP:=hv.ai TR;clear ho;dsimp only;go_wp2_with fail;refine(wQ x _ T6 UP.here).mono ?_;rintro e w2 ⟨rfl,TP⟩;rw[hx];have H2:=H1.aq TP;have Ur:ak p w w2:=TR.trans (aQ TP);clear H1 TP TR UP;dsimp only;go_wp2;go_ret;exact⟨rfl,Ur,H2⟩
theorem oU(p:Nat)(num dep:Int)(x:())(r:List ())(w:World)(H:ah w p num dep (x::r))(hv:bL p w)(hx:U.cB x=false):
  () 196 #[p,.func (.func 197) #[] #[]] w (da p 2 num w):=by
 have T6:=H.sizes x zad;go_enter func196,ntmps196;go_wp2_with fail;refine(aH p num dep x r _ H).mono ?_;rintro e w1 ⟨rfl,ho,H1⟩;have TR:=ho.ai;have UP:=hv.ai TR;clear ho;dsimp only;go_wp2_with fail;refine(nC x _ T6 UP.here).mono ?_;rintro e w2 ⟨rfl,TP⟩;rw[hx];have H2:=H1.aq TP;obtain⟨c0,c1⟩:=H2.cells;have Ur:ak p w w2:=TR.trans (aQ TP);clear H1 TP TR UP;dsimp only;go_wp2_with fail;refine(aV num dep 2 _).mono ?_;rintro e w3 h3;obtain⟨ht,b,h4,h5,rfl⟩:=cQ Ur h3;dsimp only;exact⟨rfl,ht,b,h4,h5,rfl⟩
theorem nS(p:Nat)(num dep:Int)(x:())(r:List ())(w:World)(H:ah w p num dep (x::r))(hv:bL p w)(hx:U.cB x=true):
  () 196 #[p,.func (.func 197) #[] #[]] w fun e w'=>e=.returned x/\ak p w w'/\ah w' p num dep r:=by
 have T6:=H.sizes x zad;go_enter func196,ntmps196;go_wp2_with fail;refine(aH p num dep x r _ H).mono ?_;rintro e w1 ⟨rfl,ho,H1⟩;have TR:=ho.ai;have UP:=hv.ai TR;clear ho;dsimp only;go_wp2_with fail;refine(nC x _ T6 UP.here).mono ?_;rintro e w2 ⟨rfl,TP⟩;rw[hx];have H2:=H1.aq TP;have Ur:ak p w w2:=TR.trans (aQ TP);clear H1 TP TR UP;dsimp only;go_wp2;go_ret;exact⟨rfl,Ur,H2⟩
theorem B9(p:Nat)(num dep:Int)(w:World)(H:ah w p num dep []):
  () 199 #[p] w (da p 2 num w):=by
 go_enter func199,ntmps199;go_wp2_with fail;refine(mR p num dep _ H).mono ?_;rintro e w1 h1;have h2:=cQ (ak.refl p w) h1;obtain⟨ht,b,h3,h4,rfl⟩:=h2;dsimp only;exact⟨rfl,ht,b,h3,h4,rfl⟩
theorem Hn(p:Nat)(num dep:Int)(x:())(r:List ())(w:World)(H:ah w p num dep (x::r))(hv:bL p w)(hx:U.cJ x=false):
  () 199 #[p] w (da p 2 num w):=by
 have T6:=H.sizes x zad;go_enter func199,ntmps199;go_wp2_with fail;refine(aH p num dep x r _ H).mono ?_;rintro e w1 ⟨rfl,ho,H1⟩;have TR:=ho.ai;have UP:=hv.ai TR;clear ho;dsimp only;go_wp2_with fail;refine(nT x _ T6 UP.here.err).mono ?_;rintro e w2 ⟨TP,u,rfl,_⟩;rw[hx];have H2:=H1.aq TP;obtain⟨c0,c1⟩:=H2.cells;have Ur:ak p w w2:=TR.trans (aQ TP);clear H1 TP TR UP;dsimp only;go_wp2_with fail;refine(aV num dep 2 _).mono ?_;rintro e w3 h3;obtain⟨ht,b,h4,h5,rfl⟩:=cQ Ur h3;dsimp only;exact⟨rfl,ht,b,h4,h5,rfl⟩
theorem E5(p:Nat)(num dep:Int)(x:())(r:List ())(w:World)(H:ah w p num dep (x::r))(hv:bL p w)(hx:U.cJ x=true):
  () 199 #[p] w fun e w'=>e=.returned (.int .u64 (U.et x))/\ak p w w'/\ah w' p num dep r:=by
 have T6:=H.sizes x zad;go_enter func199,ntmps199;go_wp2_with fail;refine(aH p num dep x r _ H).mono ?_;rintro e w1 ⟨rfl,ho,H1⟩;have TR:=ho.ai;have UP:=hv.ai TR;clear ho;dsimp only;go_wp2_with fail;refine(nT x _ T6 UP.here.err).mono ?_;rintro e w2 ⟨TP,u,rfl,hu⟩;rw[hx,hu hx];have H2:=H1.aq TP;have Ur:ak p w w2:=TR.trans (aQ TP);clear H1 TP TR UP hu u;dsimp only;go_wp2;go_ret;exact⟨rfl,Ur,H2⟩
theorem ak.C8{o:Nat}(h:ak p w w1)(hN:w.heap.size<=N):ak p w (w1.setCell (N,o) v):=by
 have ho:=aa w1 N o v;exact⟨ho.os.trans h.os,ho.tape.trans h.tape,ho.output.trans h.output,by rw[ho.size];exact h.size,fun k hk hp=>(ho.block k zaa).trans (h.block k hk hp)⟩
theorem ak.alloc(h:ak p w w1)(o:Obj):ak p w (w1.alloc o):=h.trans (aQ ((Oy _ _).alloc (Ow _) _))
theorem ak.drew(h:ak p w w1):ak p w w1.drew:=⟨h.os,h.tape,h.output,h.size,h.block⟩
theorem ah.only(H:ah w p num dep l)(ho:iF N w w')(hN:p<N):ah w' p num dep l:=by
 obtain⟨a,cap,hp,hc,hs⟩:=H.row;refine⟨⟨a,cap,?_,hc,fun h=>?_⟩,H.len,H.sizes⟩
 ·rw[ho.block p zaa];exact hp
 ·obtain⟨b,off,h1,h2,h3,h4⟩:=hs h;refine⟨b,off,h1,h2,by rw[ho.size];exact h3,fun i hi=>?_⟩;rw[ho.cell (p:=(b,off+i)) (show b≠N by omega)];exact h4 i hi
theorem ah.lt(H:ah w p num dep l):p<w.heap.size:=by
 obtain⟨a,cap,hp,hc,hs⟩:=H.row;exact(Ov.1 hp).1
theorem ah.drew(H:ah w p num dep l):ah w.drew p num dep l:=H.aq (Oy _ _).drew
theorem bL.alloc(h:bL p w)(o:Obj):bL p (w.alloc o):=h.ai ((ak.refl p w).alloc o)
theorem ah.alloc(H:ah w p num dep l)(o:Obj):ah (w.alloc o) p num dep l:=H.aq ((Oy _ _).alloc (Ow _) _)
theorem I9:Tryz.f271.results=#[.cell 2 274]:=rfl
theorem F9:(Tryz.prog.info? 274).map (·.size)=some 1:=zab
theorem FH(p:Nat)(num dep:Int)(x:())(r:List ())(w:World)(H:ah w p num dep (x::r))(hv:bL p w)(hx:U.called x=true):
  () 271 #[p] w fun e w'=>e=.returned (.agg #[x])/\ak p w w'/\ah w' p num dep r:=by
 have Uo:=H.lt;go_enter func271,ntmps271;go_wp2_with fail;refine(mh p num dep x r _ (H.alloc _) (hv.alloc _) hx).mono ?_;rintro e w1 ⟨rfl,TR,H1⟩;dsimp only;have hN:w1.heap[w.heap.size]?=some (.cells #[ByteArray.empty] 274 (0,0)):=by
  rw[TR.block w zad zaa];exact OH w _
 have cN:w1.cell? w=some ↑ByteArray.empty:=by rw[OA w1 _ 0 _ _ _ hN];rfl
 have fN:w1.frozen? w=false:=zat;have ht:ak p w w1:=((ak.refl p w).alloc _).trans TR;clear TR;go_wp2;have h2:=OP w1 w 0 _ _ (.string x) hN;exact ee I9 _ 274 _ (0,0) _ rfl h2 underlying274 rfl F9 rfl ⟨rfl,ht.C8 (Ow _),H1.only (aa _ _ _ _) Uo⟩
theorem CM(p:Nat)(num dep:Int)(w:World)(H:ah w p num dep []):
  () 271 #[p] w (da p 2 num w):=by
 go_enter func271,ntmps271;go_wp2_with fail;refine(jE p num dep _ _ (H.alloc _)).mono ?_;rintro e w1 ⟨ht,b,h3,h4,rfl⟩;dsimp only;exact⟨rfl,((ak.refl p w).alloc _).trans ht,b,by simp at h3;omega,h4,rfl⟩
theorem IK(p:Nat)(num dep:Int)(x:())(r:List ())(w:World)(H:ah w p num dep (x::r))(hv:bL p w)(hx:U.called x=false):
  () 271 #[p] w (da p 2 num w):=by
 go_enter func271,ntmps271;go_wp2_with fail;refine(nz p num dep x r _ (H.alloc _) (hv.alloc _) hx).mono ?_;rintro e w1 ⟨ht,b,h3,h4,rfl⟩;dsimp only;exact⟨rfl,((ak.refl p w).alloc _).trans ht,b,by simp at h3;omega,h4,rfl⟩
namespace J
def pOf(P:()->Bool):List ()->Option (()×List ())
 |[]=>none
 |x::r=>if P x then some (x,r) else none
def gX:List ()->Option (Int×List ())
 |[]=>none
 |x::r=>if U.cJ x then some (U.et x,r) else none
def pS:():=⟨#[114,97,105,115,101]⟩
def nu:():=⟨#[115,101,110,100]⟩
def ia:():=⟨#[99,97,110,99,101,108]⟩
def bAs:():=⟨#[97,115]⟩
def dB(l:List ()):Option ((()×Int×Option ())×List ()):=
 match pOf U.called l with
 |none=>none
 |some (x,l1)=>match gX l1 with
  |none=>none
  |some (d,[])=>some ((x,d,none),[])
  |some (d,y::r)=>if y.toList == bAs.toList then
    match pOf U.called r with
    |none=>none
    |some (a,l3)=>some ((x,d,some a),l3)
   else some ((x,d,none),y::r)
end J
theorem ak.cell(h:ak p w w'){a:Addr}(hb:a.block<w.heap.size)(hp:¬a.block=p):w'.cell? a=w.cell? a:=OO (w:=w) (h.block a.block hb hp)
def eU(p:Nat)(num dep:Int)(res:Option (Value×List ()))(w:World)(e:Ending)(w':World):Prop:=match res with
 |none=>da p 2 num w e w'
 |some (v,r)=>e=.returned v/\ak p w w'/\ah w' p num dep r
theorem fU(p:Nat)(num dep:Int)(l:List ())(w:World)(H:ah w p num dep l)(hv:bL p w):
  () 271 #[p] w (eU p num dep ((J.pOf U.called l).map fun q=>(.agg #[.string q.1],q.2)) w):=by
 cases l with
 |nil=>exact CM p num dep w H
 |cons x r=>
  cases hx:U.called x
  ·have:J.pOf U.called (x::r)=none:=zaz;rw[this];exact IK p num dep x r w H hv hx
  ·have:J.pOf U.called (x::r)=some (x,r):=zaz;rw[this];exact FH p num dep x r w H hv hx
theorem j7(p:Nat)(num dep:Int)(l:List ())(w:World)(H:ah w p num dep l)(hv:bL p w):
  () 199 #[p] w (eU p num dep ((J.gX l).map fun q=>(.int .u64 q.1,q.2)) w):=by
 cases l with
 |nil=>exact B9 p num dep w H
 |cons x r=>
  cases hx:U.cJ x
  ·have:J.gX (x::r)=none:=by rw[J.gX,hx];rfl
   rw[this];exact Hn p num dep x r w H hv hx
  ·have:J.gX (x::r)=some (U.et x,r):=by rw[J.gX,hx];rfl
   rw[this];exact E5 p num dep x r w H hv hx
theorem gC(p:Nat)(num dep:Int)(l:List ())(w:World)(H:ah w p num dep l)(hv:bL p w):
  () 196 #[p,.func (.func 225) #[] #[]] w (eU p num dep ((J.pOf U.called l).map fun q=>(.string q.1,q.2)) w):=by
 cases l with
 |nil=>exact jE p num dep _ w H
 |cons x r=>
  cases hx:U.called x
  ·have:J.pOf U.called (x::r)=none:=zaz;rw[this];exact nz p num dep x r w H hv hx
  ·have:J.pOf U.called (x::r)=some (x,r):=zaz;rw[this];exact mh p num dep x r w H hv hx
def wG(x:())(d:Int):Option ()->Value
 |none=>.iface 276 (.agg #[.string x,.int .u64 d])
 |some a=>.iface 278 (.agg #[.string x,.int .u64 d,.string a])
theorem AW(p:Nat)(num dep:Int)(l:List ())(w:World)(H:ah w p num dep l)(hv:bL p w):
  () 272 #[p] w (eU p num dep ((J.dB l).map fun q=>(wG q.1.1 q.1.2.1 q.1.2.2,q.2)) w):=by
 have Uo:=H.lt;cases hn:J.pOf U.called l with
 |none=>
  have HS:Hid (J.dB l=none):=by unfold Hid J.dB;rw[hn]
  go_enter func272,ntmps272;go_wp2_with fail;refine(fU p num dep l _ H hv).mono ?_;rintro e w1 h1;rw[hn]at h1;obtain⟨ht,b,h3,h4,rfl⟩:=h1;dsimp only;refine⟨rfl,?_⟩;rw[HS.out];exact⟨ht,b,h3,h4,rfl⟩
 |some q=>
  obtain⟨x,l1⟩:=q;cases hd:J.gX l1 with
  |none=>
   have HS:Hid (J.dB l=none):=by unfold Hid J.dB;rw[hn];simp only;rw[hd]
   go_enter func272,ntmps272;go_wp2_with fail;refine(fU p num dep l _ H hv).mono ?_;rintro e w1 h1;rw[hn]at h1;obtain⟨rfl,TR,H1⟩:=h1;dsimp only;go_wp2_with fail;refine(j7 p num dep l1 _ H1 (hv.ai TR)).mono ?_;rintro e w2 h2;rw[hd]at h2;obtain⟨ht,b,h3,h4,rfl⟩:=h2;dsimp only;refine⟨rfl,?_⟩;rw[HS.out];exact⟨TR.trans ht,b,Ox TR.size h3,h4,rfl⟩
  |some q=>
   obtain⟨d,l2⟩:=q;go_enter func272,ntmps272;go_wp2_with fail;refine(fU p num dep l _ H hv).mono ?_;rintro e w1 h1;rw[hn]at h1;obtain⟨rfl,TR,H1⟩:=h1;dsimp only;go_wp2_with fail;refine(j7 p num dep l1 _ H1 (hv.ai TR)).mono ?_;rintro e w2 h2;rw[hd]at h2;obtain⟨rfl,Ur,H2⟩:=h2;dsimp only;have ht:=TR.trans Ur;have hs2:=ht.size;clear TR Ur H1;cases l2 with
   |nil=>
    have HS:Hid (J.dB l=some ((x,d,none),[])):=by unfold Hid J.dB;rw[hn];simp only;rw[hd]
    clear hn hd;go_wp2_with fail;refine(skip_none p num dep J.bAs _ (H2.alloc _)).mono ?_;exact zdU
   |cons y r=>
    cases hy:(y.toList == J.bAs.toList)
    ·have HS:Hid (J.dB l=some ((x,d,none),y::r)):=zcg;clear hn hd;go_wp2_with fail;refine(rM p num dep y r J.bAs _ (H2.alloc _) hy).mono ?_;exact zdU
    ·have HS:Hid (J.dB l=match J.pOf U.called r with|none=>none|some (a,l3)=>some ((x,d,some a),l3)):=zcg;clear hn hd;go_wp2_with fail;refine(kr p num dep y r J.bAs _ (H2.alloc _) hy).mono ?_;rintro e w3 ⟨rfl,Xu,H3⟩;have hp2:=H2.lt;have U0:ak p w w3:=(ht.alloc _).trans Xu.ai;have hN:w3.heap[w2.heap.size]?=some (.cells #[x,.int .u64 d] 276 (0,0)):=by
      rw[Xu.block w2 zaa];exact OH w2 _
     have cN0:w3.cell? w2=some ↑x:=by rw[OA w3 _ 0 _ _ _ hN];rfl
     have cN1:w3.cell? (w2,1)=some (.int .u64 d):=by rw[OA w3 _ 1 _ _ _ hN];rfl
     have hNl:w2.heap.size<w3.heap.size:=(Ov.1 hN).1;clear Xu;dsimp only;go_wp2_with fail;have YF:bL p w3.drew:=(hv.ai U0).ai (ak.refl p w3).drew;have H3d:ah w3.drew p num dep r:=H3.drew;have HN:Hid (w2.heap.size<w3.heap.size/\¬w2.heap.size=p):=⟨hNl,zaa⟩;cases hr:J.pOf U.called r with
     |none=>
      have Zv:Hid (J.dB l=none):=by unfold Hid;rw[HS.out,hr]
      refine Qh zab ?_;change wpAny _ _ _ _ _ _ _ (World.drew _);refine yA [0,1] ?_;refine OC rfl (fun K hK=>?_) (OC rfl (fun K hK=>?_) OX)
      ·go_simp;refine hK _ _ ?_;clear hK K;refine zA 1 rfl fun K hK=>?_;exact zdj
      ·go_simp;refine hK _ _ ?_;clear hK K;refine yA [0,2] ?_;refine OC rfl (fun K hK=>?_) (OC rfl (fun K hK=>?_) OX)
       ·exact zdj
       ·go_simp
        (refine(gC p num dep r _ H3d YF).mono ?_;rintro e w4 h4;rw[hr]at h4;obtain⟨ht,b,h5,h6,rfl⟩:=h4;dsimp only;refine⟨rfl,?_⟩;rw[Zv.out];exact⟨U0.trans ((ak.refl p w3).drew.trans ht),b,Ox U0.size h5,h6,rfl⟩)
     |some q=>
      obtain⟨a,l3⟩:=q;have Zv:Hid (J.dB l=some ((x,d,some a),l3)):=by unfold Hid;rw[HS.out,hr]
      go_region_held3 (fun W=>W.cell? w2=some ↑x/\W.cell? ⟨w2,1,none⟩=some (.int .u64 d)) (first|go_keep|exact⟨k0,k1⟩)
       ((go_at_call 196;refine(gC p num dep r _ H3d YF).mono ?_;rintro e w4 h4;rw[hr]at h4;obtain⟨rfl,VL,H4⟩:=h4;have k0:=(VL.cell (a:=⟨w2,0,none⟩) HN.out.1 HN.out.2).trans cN0;have k1:=(VL.cell (a:=⟨w2,1,none⟩) HN.out.1 HN.out.2).trans cN1;dsimp only))
      go_wp2;go_ret;unfold eU;rw[Zv.out];exact⟨rfl,U0.trans ((ak.refl p w3).drew.trans VL),H4⟩
namespace J
def bI:List ()->Option (U.Act×List ())
 |[]=>none
 |x::r=>
  if x.toList == U.fC then(pOf U.called r).map fun q=>(⟨pS,q.1,ByteArray.empty,0⟩,q.2)
  else if x.toList == U.lQ then(dB r).map fun q=>(⟨nu,q.1.1,q.1.2.2.getD ByteArray.empty,q.1.2.1⟩,q.2)
  else if x.toList == U.fi then(pOf U.called r).map fun q=>(⟨ia,ByteArray.empty,q.1,0⟩,q.2)
  else none
end J
def bm(a:U.Act):Value:=
 if a.how.toList == U.fC then .iface 428 (.agg #[a.event])
 else if a.how.toList == U.fi then .iface 280 (.agg #[a.id])
 else wG a.event a.delay (if a.id.size=0 then none else some a.id)
theorem nY:J.pS.toList=U.fC:=zar
theorem mZ:J.nu.toList=U.lQ:=zar
theorem iu:J.ia.toList=U.fi:=zar
theorem FQ(h:U.plain s=true):¬s.size=0:=by
 rw[U.plain,O2,O2,RA]at h;omega
theorem BU(h:U.called s=true):¬s.size=0:=by
 rw[U.called,Rb]at h
 rcases h with h|h
 ·exact FQ h
 ·rw[U.l6,O2]at h;have:=U.qB h.1;have e:U.bQ.size=6:=rfl;omega
theorem iE{P:()->Bool}{l r:List ()}{x:()}(h:J.pOf P l=some (x,r)):P x=true/\l=x::r:=by
 cases l with
 |nil=>cases h
 |cons y t=>
  rw[J.pOf]at h;split at h
  ·cases h;exact⟨zam,rfl⟩
  ·cases h
theorem IZ{d:Int}{a:()}(h:J.dB l=some ((x,d,some a),r)):¬a.size=0:=by
 unfold J.dB at h;split at h
 ·cases h
 ·split at h
  ·cases h
  ·cases h
  ·split at h
   ·split at h
    ·cases h
    ·rename_i hq;cases h
     exact BU (iE hq).1
   ·cases h
theorem BG(n:()):bm ⟨J.pS,n,ByteArray.empty,0⟩=.iface 428 (.agg #[n]):=by
 unfold bm;rw[nY,OD zac]
theorem ze(n:()):bm ⟨J.ia,ByteArray.empty,n,0⟩=.iface 280 (.agg #[n]):=by
 unfold bm;rw[iu,OB zac,OD zac]
theorem ED{l r:List ()}{x:()}{d:Int}{o:Option ()}(h:J.dB l=some ((x,d,o),r)):bm ⟨J.nu,x,o.getD ByteArray.empty,d⟩=wG x d o:=by
 unfold bm;rw[mZ,OB zac,OB zac];cases o with
 |none=>rfl
 |some a=>rw[OB (show ¬(Option.getD (some a) ByteArray.empty).size=0 from IZ h)];rfl
theorem rU(p:Nat)(num dep:Int)(l:List ())(w:World)(H:ah w p num dep l)(hv:bL p w):
  () 252 #[p] w (eU p num dep ((J.bI l).map fun q=>(bm q.1,q.2)) w):=by
 cases l with
 |nil=>
  go_enter func252,ntmps252;go_wp2_with fail;refine(mR p num dep _ H).mono ?_;rintro e w1 h1;obtain⟨ht,b,h3,h4,rfl⟩:=cQ (ak.refl p w) h1;dsimp only;exact⟨rfl,ht,b,h3,h4,rfl⟩
 |cons x r=>
  cases h1:(x.toList == [114,97,105,115,101])
  ·cases h2:(x.toList == [115,101,110,100])
   ·cases h3:(x.toList == [99,97,110,99,101,108])
    ·have HS:Hid (J.bI (x::r)=none):=by unfold Hid;rw[J.bI,U.fC,h1,U.lQ,h2,U.fi,h3];rfl
     go_enter func252,ntmps252;go_wp2_with fail;refine(aH p num dep x r _ H).mono ?_;rintro e w1 ⟨rfl,ho,H1⟩;have TR:=ho.ai;obtain⟨c0,c1⟩:=H1.cells;clear ho;dsimp only;go_wp2_with fail;refine(aV num dep 2 _).mono ?_;rintro e w2 hq;obtain⟨ht,b,h4,h5,rfl⟩:=cQ TR hq;dsimp only;refine⟨rfl,?_⟩;rw[HS.out];exact⟨ht,b,h4,h5,rfl⟩
    ·cases hn:J.pOf U.called r with
     |none=>
      have HS:Hid (J.bI (x::r)=none):=zci;exact zda
     |some q=>
      obtain⟨n,r'⟩:=q;have HS:Hid (J.bI (x::r)=some (⟨J.ia,ByteArray.empty,n,0⟩,r')):=zci;go_enter func252,ntmps252;go_wp2_with fail;refine(aH p num dep x r _ H).mono ?_;rintro e w1 ⟨rfl,ho,H1⟩;have TR:=ho.ai;clear ho;dsimp only;go_wp2_with fail;refine(fU p num dep r _ H1 (hv.ai TR)).mono ?_;rintro e w2 hq;rw[hn]at hq;obtain⟨rfl,Ur,H2⟩:=hq;clear hn;dsimp only;go_wp2;go_ret;unfold eU;rw[HS.out];exact⟨by rw[ze];rfl,TR.trans Ur,H2⟩
   ·cases hn:J.dB r with
    |none=>
     have HS:Hid (J.bI (x::r)=none):=zcp;go_enter func252,ntmps252;go_wp2_with fail;refine(aH p num dep x r _ H).mono ?_;rintro e w1 ⟨rfl,ho,H1⟩;have TR:=ho.ai;clear ho;dsimp only;go_wp2_with fail;refine(AW p num dep r _ H1 (hv.ai TR)).mono ?_;rintro e w2 hq;rw[hn]at hq;obtain⟨ht,b,h4,h5,rfl⟩:=hq;dsimp only;refine⟨rfl,?_⟩;rw[HS.out];exact⟨TR.trans ht,b,Ox TR.size h4,h5,rfl⟩
    |some q=>
     obtain⟨⟨n,d,o⟩,r'⟩:=q;have HS:Hid (J.bI (x::r)=some (⟨J.nu,n,o.getD ByteArray.empty,d⟩,r')):=zcp;have HV:Hid _:=ED hn;go_enter func252,ntmps252;go_wp2_with fail;refine(aH p num dep x r _ H).mono ?_;rintro e w1 ⟨rfl,ho,H1⟩;have TR:=ho.ai;clear ho;dsimp only;go_wp2_with fail;refine(AW p num dep r _ H1 (hv.ai TR)).mono ?_;rintro e w2 hq;rw[hn]at hq;obtain⟨rfl,Ur,H2⟩:=hq;clear hn;dsimp only;go_wp2;go_ret;unfold eU;rw[HS.out];exact⟨by rw[HV.out];rfl,TR.trans Ur,H2⟩
  ·cases hn:J.pOf U.called r with
   |none=>
    have HS:Hid (J.bI (x::r)=none):=by unfold Hid;rw[J.bI,U.fC,h1,hn];rfl
    exact zda
   |some q=>
    obtain⟨n,r'⟩:=q;have HS:Hid (J.bI (x::r)=some (⟨J.pS,n,ByteArray.empty,0⟩,r')):=by unfold Hid;rw[J.bI,U.fC,h1,hn];rfl
    go_enter func252,ntmps252;go_wp2_with fail;refine(aH p num dep x r _ H).mono ?_;rintro e w1 ⟨rfl,ho,H1⟩;have TR:=ho.ai;clear ho;dsimp only;go_wp2_with fail;refine(fU p num dep r _ H1 (hv.ai TR)).mono ?_;rintro e w2 hq;rw[hn]at hq;obtain⟨rfl,Ur,H2⟩:=hq;clear hn;dsimp only;go_wp2;go_ret;unfold eU;rw[HS.out];exact⟨by rw[BG];rfl,TR.trans Ur,H2⟩
namespace U
structure Gq(a:Act):Prop where
 how:a.how.size<=1073741824
 event:a.event.size<=1073741824
 id:a.id.size<=1073741824
 delay:∃n:Nat,a.delay=n/\n<=18446744073709551615
def D6(k:Int)(x:SV):Bool:=decide (x.s.up=k)&&!(x.s.word.toList == aO)
def tL(X:List SV)(k:Int):Nat->List Nat
 |0=>[]
 |i+1=>if(X[i]?.map (D6 k)).getD false then tL X k i++[i] else tL X k i
def regions(X:List SV)(k:Int):List Nat:=tL X k X.length
end U
def Bu(w:World)(v:Value)(A:List U.Act):Prop:=Row w 241 4 U.GC v A
namespace U
def Dq(X:List SV)(k:Int):SV:=X.getD k.toNat ⟨⟨ByteArray.empty,ByteArray.empty,false,0,0,0,[],[],[],0,0⟩,Sl.nil,Sl.nil,Sl.nil⟩
def tp(X:List SV)(u:Int):Bool:=X.all fun y=>!decide (y.s.up=u)
def fits(X:List SV)(x:SV):Bool:=
 if decide (X.length=24)||(decide (5<x.s.depth)||(decide (x.s.up<0)&&(x.s.word.toList == aO))) then false
 else if x.s.up<0 then true
 else if((Dq X x.s.up).s.word.toList == bT)||((Dq X x.s.up).s.word.toList == aO) then false
 else if(Dq X x.s.up).s.word.toList == aE then !(x.s.word.toList == bT)
 else !tp X x.s.up||!(x.s.word.toList == aO)
def Eu(ms:List Move):Bool:=ms.any (·.after)
def wR(X:List SV):Bool:=X.any fun x=>Eu x.s.aj
def kW(X:List SV)(t:Bool)(m:Move):Bool:=(!(m.to.toList == [])&&decide (place X m.to<0))||(t&&(cD m.aw||(!m.after&&cI m.event bQ)))
def tX(X:List SV)(t:Bool)(at':Int)(m:Move):Int:=if kW X t m then fQ at' m.line else at'
def Ju(t:Bool)(a2:Int)(x:State):Int:=
 if t&&cD x.leave then fQ (if t&&cD x.enter then fQ a2 x.has0 else a2) x.has1 else if t&&cD x.enter then fQ a2 x.has0 else a2
def qt(X:List SV)(t:Bool)(k:Nat)(at':Int)(x:State):Int:=
 Ju t (x.aj.foldl (tX X t) (if place X x.name<k then fQ at' x.line else at')) x
def oT(X:List SV)(t:Bool):Nat->Int
 |0=>0
 |k+1=>match X[k]? with
  |some x=>qt X t k (oT X t k) x.s
  |none=>oT X t k
def named(X:List SV):Int:=oT X (wR X) X.length
end U
def JQ(w:World)(vm:U.Sl)(M:List U.MV):Prop:=Row w 224 6 U.Lb vm.v M/\∀x∈M,Bu w x.v.v x.m.aw
structure Ml(m:U.Move):Prop where
 event:m.event.size<=1073741824
 dst:m.to.size<=1073741824
 aw:∀a∈m.aw,U.Gq a
 len:m.aw.length<=1048576
structure Deep(w:World)(x:U.SV):Prop where
 aj:∃M:List U.MV,M.map (·.m)=x.s.aj/\JQ w x.vm M
 enter:Bu w x.ve.v x.s.enter
 leave:Bu w x.vl.v x.s.leave
 okM:∀m∈x.s.aj,Ml m
 okE:∀a∈x.s.enter,U.Gq a
 okL:∀a∈x.s.leave,U.Gq a
 lenM:x.s.aj.length<=1048576
 lenE:x.s.enter.length<=1048576
 lenL:x.s.leave.length<=1048576
 name:x.s.name.size<=1073741824
namespace U
def emb(s:State):SV:=⟨s,Sl.nil,Sl.nil,Sl.nil⟩
def st0:State:=⟨ByteArray.empty,ByteArray.empty,false,0,0,0,[],[],[],0,0⟩
def fh(S:List State)(d:Int):Nat->Int
 |0=>-1
 |k+1=>if(S.getD k st0).depth=d-1 then(k:Int) else if(S.getD k st0).depth<d-1 then -1 else fh S d k
def dr(S:List State)(d:Int):Int:=if 0<d then fh S d S.length else -1
def km(x:kD)(up d:Int):State:=⟨x.word,x.name,x.deep,up,d,x.sline,[],[],[],0,0⟩
def gu(S:List State)(k:Nat)(f:State->State):List State:=S.set k (f (S.getD k st0))
def bk(S:List State)(i:Nat)(x:kD)(d:Int):Option (List State):=
 if 0<d/\dr S d<0 then none
 else if x.kind=115 then
  if fits (S.map emb) (emb (km x (dr S d) d)) then some (S++[km x (dr S d) d]) else none
 else if dr S d<0 then none
 else if(S.getD (dr S d).toNat st0).word.toList == aO then none
 else if x.kind=109 then
  if(S.getD (dr S d).toNat st0).word.toList == bT then none
  else some (gu S (dr S d).toNat fun p=>{ p with aj:=p.aj++[x.m] })
 else if x.kind=101 then
  if 0<(S.getD (dr S d).toNat st0).has0 then none
  else some (gu S (dr S d).toNat fun p=>{ p with has0:=i+1,enter:=x.aw })
 else if x.kind=108 then
  if 0<(S.getD (dr S d).toNat st0).has1 then none
  else some (gu S (dr S d).toNat fun p=>{ p with has1:=i+1,leave:=x.aw })
 else some S
def aZ(A:List (kD×Int)):Nat->Option (List State)
 |0=>some []
 |i+1=>match aZ A i with
  |none=>none
  |some S=>match A[i]? with
   |none=>some S
   |some (x,d)=>bk S i x d
def dW(S:List State):Nat->Option Int
 |0=>none
 |k+1=>match dW S k with
  |some l=>some l
  |none=>if((S.getD k st0).word.toList == aE)&&(regions (S.map emb) k).isEmpty then some (S.getD k st0).line else none
theorem tw{S:List State}{i:Nat}{l:Int}(h:dW S i=some l):∀j,i<=j->dW S j=some l
 |0,hj=>by rw[TI.1 hj]at h;exact h
 |j+1,hj=>by
  by_cases e:i=j+1
  ·rw[<- e];exact h
  ·rw[dW,tw h j zaa]
structure LV where
 L:kD
 vm:Sl
 vd:Sl
end U
def eM(n:Nat):List Value:=[(n:Int)]
namespace U
def ic(y:SV)(i:Int)(A:List Act)(v:Sl):SV:={ y with s:={ y.s with has0:=i,enter:=A },ve:=v }
def ie(y:SV)(i:Int)(A:List Act)(v:Sl):SV:={ y with s:={ y.s with has1:=i,leave:=A },vl:=v }
end U
theorem Row.range{α:Type}{f:α->List Value}{X:List α}(hf:∀x,(f x).length=n)(h:Row w e n f (.slice g X.length cap) X){i:Nat}(hi:i<X.length):
  w.rangeAt g (i*n) (f X[i]):=by
 intro j v hj;have XC:j<n:=by rw[<- hf X[i]];exact(Oz.1 hj).1
 rw[Row.cell hf h XC hi];exact hj
theorem mD(S:List U.State)(d:Int):∀m:Nat,U.fh S d m<m
 |0=>by simp[U.fh]
 |m+1=>by
  have:=mD S d m;exact zfr
theorem pK(S:List U.State)(d:Int)(h:¬U.dr S d<0):U.dr S d<S.length:=by
 unfold U.dr at h⊢;split
 ·exact mD S d S.length
 ·rename_i h0;rw[OB h0]at h;exact absurd zac h
theorem mC(S:List U.State)(d:Int):∀m:Nat,-1<=U.fh S d m
 |0=>by simp[U.fh]
 |m+1=>by
  have:=mC S d m;exact zfr
theorem Ew(S:List U.State)(d:Int): -1<=U.dr S d:=by
 unfold U.dr;split
 ·exact mC S d S.length
 ·decide
theorem sH{α:Type}{f:α->List Value}{n:Nat}(hf:∀x,(f x).length=n):∀(X:List α) (i j:Nat) (v:Value) (x':α),j<n->∀(h:i<X.length),f x'=(f X[i]).set j v->(X.flatMap f).set (i*n+j) v=(X.set i x').flatMap f
 |[],i,j,v,x',_,h,_=>by simp at h
 |x::X,0,j,v,x',hj,_,e=>by
  rw[PO,SA,QC,List.set_append_left _ _ (by rw[hf];exact hj),List.set_cons_zero,PO,e];rfl
 |x::X,i+1,j,v,x',hj,h,e=>by
  have hlen:(f x).length=n:=hf x;rw[PO,S7,Rv _ _ (by rw[hlen];omega),hlen,List.set_cons_succ,PO];rw[show i*n+n+j-n=i*n+j from by omega,sH hf X i j v x' hj zaC e]
theorem mU{e':TypeId}{c:Array Value}{fz:Nat×Nat}(h:w.ownsRow base e size v n xs)(ho:iF g w w')(hg:w.heap[g]?=some (.cells c e' fz))(TU:e≠e'):w'.ownsRow base e size v n xs:=by
 refine⟨h.1,?_⟩
 rcases h.2 with h'|⟨k,cap,cur,hv,hb,hk,r⟩
 ·exact .inl h'
 ·have hkg:k≠g:=by
   intro e0;subst e0;rw[hg]at hk;simp only[Option.some.injEq,Obj.cells.injEq]at hk;exact TU hk.2.1.symm
  exact .inr ⟨k,cap,cur,hv,hb,by rw[ho.block k hkg];exact hk,r⟩
theorem bj(h:w.ownsRow base e size v n xs)(hb:Below w w w'):w'.ownsRow base e size v n xs:=by
 refine⟨h.1,?_⟩
 rcases h.2 with h'|⟨g,cap,cur,hv,hb',hg,r⟩
 ·exact .inl h'
 ·exact .inr ⟨g,cap,cur,hv,hb',by rw[hb.block g ((Ov.1 hg).1)];exact hg,r⟩
theorem gi{A:List (U.kD×Int)}{i:Nat}(h:U.aZ A i=none):∀j,i<=j->U.aZ A j=none
 |0,hj=>by rw[TI.1 hj]at h;exact h
 |j+1,hj=>by
  by_cases e:i=j+1
  ·rw[<- e];exact h
  ·rw[U.aZ,gi h j zaa]
namespace J
def bDo:():=⟨#[100,111]⟩
def gP:Nat->List ()->Option (List U.Act×List ())
 |0,l=>some ([],l)
 |_+1,[]=>some ([],[])
 |f+1,x::r=>
  if x.toList == bDo.toList then
   match bI r with
   |none=>none
   |some (a,r')=>match gP f r' with
    |none=>none
    |some (A,t)=>some (a::A,t)
  else some ([],x::r)
def bg(l:List ()):Option (List U.Act×List ()):=gP l.length l
theorem rI{P:()->Bool}(h:pOf P l=some (x,r)):r.length+1=l.length:=by
 rw[(iE h).2];rfl
theorem nU{l r:List ()}{d:Int}(h:gX l=some (d,r)):r.length+1=l.length:=by
 cases l with
 |nil=>cases h
 |cons y t=>
  rw[gX]at h;split at h
  ·cases h;rfl
  ·cases h
theorem FM{q:()×Int×Option ()}(h:dB l=some (q,r)):r.length<l.length:=by
 unfold dB at h;split at h
 ·cases h
 ·rename_i x l1 h1;have e1:=rI h1;split at h
  ·cases h
  ·rename_i d h2;have e2:=nU h2;cases h;simp at e2⊢;omega
  ·rename_i d y t h2;have e2:=nU h2;simp only[List.length_cons]at e2;split at h
   ·split at h
    ·cases h
    ·rename_i a l3 h3;have e3:=rI h3;cases h;omega
   ·cases h;simp only[List.length_cons];omega
theorem jF{l r:List ()}{a:U.Act}(h:bI l=some (a,r)):r.length<l.length:=by
 cases l with
 |nil=>cases h
 |cons x t=>
  rw[bI]at h;simp only[List.length_cons];split at h
  ·exact zes
  ·split at h
   ·obtain⟨⟨n,r'⟩,h1,h2⟩:=O0.1 h;cases h2
    have:=FM h1;dsimp only at this⊢;omega
   ·split at h
    ·exact zes
    ·cases h
theorem tu:∀(f g:Nat) (l:List ()),l.length<=f->l.length<=g->gP f l=gP g l
 |0,0,l,_,_=>rfl
 |0,g+1,[],_,_=>rfl
 |f+1,0,[],_,_=>rfl
 |f+1,g+1,[],_,_=>rfl
 |0,_,x::r,h,_=>by simp at h
 |_+1,0,x::r,_,h=>by simp at h
 |f+1,g+1,x::r,hf,hg=>by
  simp only[gP];split
  ·cases h:bI r with
   |none=>rfl
   |some q=>
    obtain⟨a,r'⟩:=q;have:=jF h;simp only[List.length_cons]at hf hg;simp only;rw[tu f g r' zaa zaa]
  ·rfl
theorem jP(h:(x.toList == bDo.toList)=false):bg (x::r)=some ([],x::r):=by
 show gP (r.length+1) (x::r)=_;rw[gP,h];rfl
theorem jO(h:(x.toList == bDo.toList)=true)(h2:bI r=none):bg (x::r)=none:=by
 show gP (r.length+1) (x::r)=_;rw[gP,h,h2];rfl
theorem jN{x:()}{r r':List ()}{a:U.Act}(h:(x.toList == bDo.toList)=true)(h2:bI r=some (a,r')):bg (x::r)=(bg r').map fun q=>(a::q.1,q.2):=by
 have:=jF h2;show gP (r.length+1) (x::r)=_;rw[gP,h,OD rfl,h2];simp only;rw[tu r.length r'.length r' zaa (Ow _)];show _=(gP r'.length r').map _;cases gP r'.length r' with
 |none=>rfl
 |some q=>rfl
end J
theorem tt(h:w.ownsRow base e size v n xs)(ht:ak p w w')(hp:p<base):w'.ownsRow base e size v n xs:=by
 refine⟨h.1,?_⟩
 rcases h.2 with h'|⟨k,cap,cur,hv,hb,hk,r⟩
 ·exact .inl h'
 ·exact .inr ⟨k,cap,cur,hv,hb,by rw[ht.block k (Ov.1 hk).1 zaa];exact hk,r⟩
theorem ak.grown(h:ak p w w1)(hg:w1.grownBy w2 row)(hr:∀k,row=some k->w.heap.size<=k):ak p w w2:=
 ⟨hg.os.trans h.os,hg.tape.trans h.tape,hg.output.trans h.output,Ox h.size hg.size,fun k hk hp=>(hg.block k (OS hk h.size) (fun e=>by have:=hr k e.symm;omega)).trans (h.block k hk hp)⟩
theorem ah.grown(H:ah w p num dep l)(hg:w.grownBy w' row)(hr:∀k,row=some k->p<k):ah w' p num dep l:=by
 obtain⟨a,cap,hp,hc,hs⟩:=H.row;refine⟨⟨a,cap,?_,hc,fun h=>?_⟩,H.len,H.sizes⟩
 ·rw[hg.block p (Ov.1 hp).1 (fun e=>by have:=hr p e.symm;omega)];exact hp
 ·obtain⟨b,off,h1,h2,h3,h4⟩:=hs h;refine⟨b,off,h1,h2,OS h3 hg.size,fun i hi=>?_⟩;rw[hg.cell_far ⟨b,off+i,none⟩ h3 (fun e=>by have:=hr b e.symm;omega)];exact h4 i hi
theorem nO:(Tryz.prog.info? 271).map (fun i=>(i.zero,i.size,i.bytes))=some (some .nilIface,1,16):=zab
def im(p:Nat)(num dep:Int)(l:List ())(w:World)(e:Ending)(w':World):Prop:=match J.bg l with
 |none=>da p 2 num w e w'
 |some (A,r)=>∃a n c,e=.returned (.slice a n c)/\w'.ownsRow w.heap.size 271 1 (.slice a n c) A.length (A.map bm)/\ak p w w'/\ah w' p num dep r
theorem BF(a:U.Act):∃t u,bm a=.iface t u:=by
 unfold bm wG
 repeat' split
 all_goals exact⟨_,_,rfl⟩
theorem jw(p:Nat)(num dep:Int)(l:List ())(w:World)(H:ah w p num dep l)(hv:bL p w):
  () 223 #[p] w (im p num dep l w):=by
 have Uo:=H.lt;have hll:=H.len;obtain⟨i0,hi0,Ue,Ub,Uf⟩:=PZ nO;go_enter func223,ntmps223;go_wp2_with fail
 go_loopg[3] l.length (fun q v wr=>∃(va:Option Addr) (vn vc:Nat) (A:List U.Act) (l':List ()),q=l'.length/\v=.slice va vn vc/\A.length+l'.length<=l.length/\J.bg l=(J.bg l').map (fun q=>(A++q.1,q.2))/\wr.ownsRow w 271 1 (.slice va vn vc) A.length (A.map bm)/\ak p w wr/\ah wr p num dep l')
 case atStart=>exact⟨none,0,0,[],l,rfl,rfl,zad,by cases J.bg l<;>rfl,Pt _ _ _ _,ak.refl _ _,H⟩
 case round=>
  obtain⟨va,vn,vc,A,l',hq,rfl,hlen,hP,TN,ht,H'⟩:=hrel;have HP:Hid _:=hP;clear hP;have T6:=ht.size;cases l' with
  |nil=>
   go_wp2_with(go_at_call 222;refine(skip_none p num dep J.bDo _ H').mono ?_;rintro e w9 ⟨rfl,Pg⟩;rw[Pg];clear Pg w9);go_ret;unfold im;rw[HP.out];exact⟨va,vn,vc,rfl,zbs,ht,H'⟩
  |cons x r=>
   cases hx:(x.toList == J.bDo.toList)
   ·have HS:Hid _:=J.jP (r:=r) hx;go_wp2_with(go_at_call 222;refine(rM p num dep x r J.bDo _ H' hx).mono ?_;rintro e w9 ⟨rfl,Pg⟩;rw[Pg];clear Pg w9);go_ret;unfold im;rw[HP.out,HS.out];exact⟨va,vn,vc,rfl,zbs,ht,H'⟩
   ·cases ha:J.bI r with
    |none=>
     have HS:Hid (J.bg l=none):=by unfold Hid;rw[HP.out,J.jO hx ha];rfl
     go_wp2_with fail;refine(kr p num dep x r J.bDo _ H' hx).mono ?_;rintro e w1 ⟨rfl,ho1,H1⟩;have TR:=ht.trans ho1.ai;clear ho1;dsimp only;go_wp2_with fail;refine(rU p num dep r _ H1 (hv.ai TR)).mono ?_;rintro e w2 WY;rw[ha]at WY;obtain⟨Ur,b,h4,h5,rfl⟩:=WY;dsimp only;refine⟨rfl,?_⟩;unfold im;rw[HS.out];exact⟨TR.trans Ur,b,Ox TR.size h4,h5,rfl⟩
    |some q=>
     obtain⟨a,r'⟩:=q;have U9:=J.jF ha;have HS:Hid (J.bg l=(J.bg r').map (fun q=>((A++[a])++q.1,q.2))):=by
      unfold Hid;rw[HP.out,J.jN hx ha];cases J.bg r' with
      |none=>rfl
      |some q=>simp
     go_wp2_with fail;refine(kr p num dep x r J.bDo _ H' hx).mono ?_;rintro e w1 ⟨rfl,ho1,H1⟩;have TR:=ht.trans ho1.ai;have hown1:=tt TN ho1.ai Uo;clear ho1;dsimp only;go_wp2_with fail;refine(rU p num dep r _ H1 (hv.ai TR)).mono ?_;rintro e w2 WY;rw[ha]at WY;obtain⟨rfl,Ur,H2⟩:=WY;have Z7:=tt hown1 Ur Uo;have U0:=TR.trans Ur;have Wv:=U0.size;clear ha H1 TR Ur hown1 TN;simp only[List.length_cons]at hlen;dsimp only;obtain⟨at1,au1,hav⟩:=BF a;rw[hav];have HAV:Hid _:=hav;clear hav;go_wp2_with(at_builtin;refine wpList_append_lies _ zaf (.tmp 6) (.tmp 9) _ zaf w.heap.size 271 i0 _ 1 16 underlying178 hi0 Ue Ub Uf rfl zac (.slice va vn vc) A.length (A.map bm) zaf (QH Z7 _) ⟨w2,0,none⟩ 1 1 [.iface at1 au1] zaf zaf (World.news_of_block (cs:=#[.iface at1 au1]) (t:=271) (fr:=(0,0)) (OH w2 _)) (by intro u hu;rw[OE.1 hu];rfl) zaa zah zaa zae (w2.heap.size+1) zad ?_;intro g5 cap5 w5 TQ L8 Uy U2)
     go_roundg r'.length
     case measure=>omega
     case rel=>
      refine⟨some ⟨g5,0,none⟩,A.length+1,cap5,A++[a],r',rfl,rfl,zae,HS.out,?_,(U0.alloc _).grown L8 (fun k e=>(O8 Z7 k e).1),(H2.alloc _).grown L8 (fun k e=>OS Uo (O8 Z7 k e).1)⟩;rw[OM,Pk,QQ,List.map_nil,HAV.out];exact TQ
theorem F1:Tryz.f200.results=#[.cell 2 372]:=rfl
theorem Da:(Tryz.prog.info? 372).map (·.size)=some 3:=zab
namespace J
def cW(l:List ()):Option (List U.Act×List ()):=match bg l with
 |none=>none
 |some ([],_)=>none
 |some (a::A,r)=>some (a::A,r)
end J
def eS(p:Nat)(num dep:Int)(l:List ())(w:World)(e:Ending)(w':World):Prop:=match J.cW l with
 |none=>da p 2 num w e w'
 |some (A,r)=>∃a n c,e=.returned (.agg #[.int .i64 num,.int .i64 dep,.slice a n c])/\w'.ownsRow w.heap.size 271 1 (.slice a n c) A.length (A.map bm)/\ak p w w'/\ah w' p num dep r
theorem iF.trans(h:iF g a b)(k:iF g b c):iF g a c:=⟨k.os.trans h.os,k.tape.trans h.tape,k.output.trans h.output,k.size.trans h.size,fun i hi=>(k.block i hi).trans (h.block i hi)⟩
theorem ak.iS(h:ak p w w1)(ho:iF N w1 w2)(hN:w.heap.size<=N):ak p w w2:=
 ⟨ho.os.trans h.os,ho.tape.trans h.tape,ho.output.trans h.output,by rw[ho.size];exact h.size,fun k hk hp=>(ho.block k zaa).trans (h.block k hk hp)⟩
theorem kJ(p:Nat)(num dep:Int)(l:List ())(w:World)(H:ah w p num dep l)(hv:bL p w):
  () 200 #[p] w (eS p num dep l w):=by
 have Uo:=H.lt;cases ha:J.bg l with
 |none=>
  have HS:Hid (J.cW l=none):=zbU;go_enter func200,ntmps200;go_wp2_with fail;refine(jw p num dep l _ (H.alloc _) (hv.alloc _)).mono ?_;rintro e w1 h1;unfold im at h1;rw[ha]at h1;obtain⟨ht,b,h4,h5,rfl⟩:=h1;dsimp only;refine⟨rfl,?_⟩;unfold eS;exact zeJ
 |some q=>
  obtain⟨A,r⟩:=q;cases A with
  |nil=>
   have HS:Hid (J.cW l=none):=zbU;go_enter func200,ntmps200;go_wp2_with fail;refine(jw p num dep l _ (H.alloc _) (hv.alloc _)).mono ?_;rintro e w1 h1;unfold im at h1;rw[ha]at h1;obtain⟨a,n,c,rfl,TN,TR,H1⟩:=h1;obtain rfl:n=0:=by
    rcases TN.2 with⟨VD,_⟩|⟨g,cap,cur,VD,_⟩
    ·exact zfi
    ·exact zfi
   obtain⟨c0,c1⟩:=H1.cells;have ht:ak p w w1:=((ak.refl p w).alloc _).trans TR;clear TR TN ha;dsimp only;go_wp2_with fail;refine(aV num dep 2 _).mono ?_;rintro e w2 hq;obtain⟨ht',b,h4,h5,rfl⟩:=cQ ht hq;dsimp only;refine⟨rfl,?_⟩;unfold eS;rw[HS.out];exact⟨ht',b,h4,h5,rfl⟩
  |cons a0 A=>
   have HS:Hid (J.cW l=some (a0::A,r)):=zbU;go_enter func200,ntmps200;go_wp2_with fail;refine(jw p num dep l _ (H.alloc _) (hv.alloc _)).mono ?_;rintro e w1 h1;unfold im at h1;rw[ha]at h1;obtain⟨a,n,c,rfl,TN,TR,H1⟩:=h1;obtain rfl:n=(a0::A).length:=by
    rcases TN.2 with⟨VD,h0⟩|⟨g,cap,cur,VD,_⟩
    ·simp only[Value.slice.injEq]at VD;rw[h0];exact VD.2.1
    ·exact zfi
   have hN:w1.heap[w.heap.size]?=some (.cells #[(0:Int),(0:Int),.slice none 0 0] 372 (0,0)):=by
    rw[TR.block w zad zaa];exact OH w _
   have d0:w1.cell? w=some ↑(0:Int):=by rw[OA w1 _ 0 _ _ _ hN];rfl
   have d1:w1.cell? (w,1)=some ↑(0:Int):=by rw[OA w1 _ 1 _ _ _ hN];rfl
   have d2:w1.cell? (w,2)=some (.slice none 0 0):=by rw[OA w1 _ 2 _ _ _ hN];rfl
   have f0:w1.frozen? w=false:=by simp[World.frozen?,hN]
   have f1:w1.frozen? (w,1)=false:=zat;have f2:w1.frozen? (w,2)=false:=zat;obtain⟨c0,c1⟩:=H1.cells;have ht:ak p w w1:=((ak.refl p w).alloc _).trans TR;have Uz:=aC TN (show w.heap.size<=(w.alloc (.cells #[(0:Int),(0:Int),.slice none 0 0] 372)).heap.size by simp);have Wz:(((a0::A).length:Int) == 0)=false:=zae;clear TR ha TN;generalize hm:(a0::A).length=m at *;have HM:Hid _:=hm;clear hm;dsimp only;go_wp2;have o1:=aa w1 w 0 (.int .i64 num);have o2:=aa (w1.setCell w (.int .i64 num)) w.heap.size 1 (.int .i64 dep);have o3:=aa ((w1.setCell w (.int .i64 num)).setCell (w,1) (.int .i64 dep)) w.heap.size 2 (.slice a m c);have oo:=(o1.trans o2).trans o3;have g1:=OP w1 w 0 _ _ (.int .i64 num) hN;have g2:=OP _ w 1 _ _ (.int .i64 dep) g1;have g3:=OP _ w 2 _ _ (.slice a m c) g2;refine ee F1 _ 372 _ (0,0) _ rfl g3 underlying372 rfl Da rfl ?_;unfold eS;rw[HS.out];exact⟨a,m,c,rfl,by rw[HM.out];exact mU Uz oo hN zac,ht.iS oo (Ow _),H1.only oo Uo⟩
theorem eF(p:Nat)(num dep:Int)(l:List ())(w:World)(H:ah w p num dep l)(hv:bL p w):
  () 196 #[p,.func (.func 221) #[] #[]] w (eU p num dep ((J.pOf U.plain l).map fun q=>(.string q.1,q.2)) w):=by
 cases l with
 |nil=>exact jE p num dep _ w H
 |cons x r=>
  cases hx:U.plain x
  ·have:J.pOf U.plain (x::r)=none:=zaz;rw[this];exact ti p num dep x r w H hv hx
  ·have:J.pOf U.plain (x::r)=some (x,r):=zaz;rw[this];exact re p num dep x r w H hv hx
theorem fV(p:Nat)(num dep:Int)(l:List ())(w:World)(H:ah w p num dep l)(hv:bL p w):
  () 196 #[p,.func (.func 197) #[] #[]] w (eU p num dep ((J.pOf U.cB l).map fun q=>(.string q.1,q.2)) w):=by
 cases l with
 |nil=>exact jE p num dep _ w H
 |cons x r=>
  cases hx:U.cB x
  ·have:J.pOf U.cB (x::r)=none:=zaz;rw[this];exact oU p num dep x r w H hv hx
  ·have:J.pOf U.cB (x::r)=some (x,r):=zaz;rw[this];exact nS p num dep x r w H hv hx
theorem Ja:Tryz.f193.results=#[.cell 4 364]:=rfl
theorem il:(Tryz.prog.info? 364).map (·.size)=some 4:=zab
theorem pG(p:Nat)(num dep k:Int)(l:List ())(w:World)(H:ah w p num dep l)(hv:bL p w)(hn:J.pOf U.plain l=none):
  () 193 #[p,(k:Int)] w (da p 2 num w):=by
 have Uo:=H.lt;obtain⟨c0,c1⟩:=H.cells;go_enter func193,ntmps193;go_wp2_with fail;have H1:=(H.alloc (.cells #[(0:Int),(0:Int),(0:Int),ByteArray.empty] 364)).drew;have UP:bL p (w.alloc (.cells #[(0:Int),(0:Int),(0:Int),ByteArray.empty] 364)).drew:=(hv.alloc _).ai (ak.refl p _).drew;refine Qh zab ?_;change wpAny _ _ _ _ _ _ _ (World.drew _);refine tA 0 p rfl ?_;refine tA 1 p rfl ?_;refine tA 2 p rfl ?_;refine tA 4 (.int .i64 k) rfl ?_;refine tA 5 p rfl ?_;refine yA [3,6] ?_;refine OC rfl (fun K hK=>?_) (OC rfl (fun K hK=>?_) OX)
 ·go_simp;refine hK _ _ ?_;clear hK K;refine zA 6 rfl fun K hK=>?_;exact zdy
 ·exact zdy
theorem ni(p:Nat)(num dep k:Int)(l r:List ())(x:())(w:World)(H:ah w p num dep l)(hv:bL p w)(hn:J.pOf U.plain l=some (x,r)):
  () 193 #[p,(k:Int)] w fun e w'=>e=.returned (.agg #[(num:Int),(dep:Int),(k:Int),x])/\ak p w w'/\ah w' p num dep r:=by
 have Uo:=H.lt;obtain⟨c0,c1⟩:=H.cells;go_enter func193,ntmps193;go_wp2_with fail;have H1:=(H.alloc (.cells #[(0:Int),(0:Int),(0:Int),ByteArray.empty] 364)).drew;have UP:bL p (w.alloc (.cells #[(0:Int),(0:Int),(0:Int),ByteArray.empty] 364)).drew:=(hv.alloc _).ai (ak.refl p _).drew;go_region_held3 (fun W=>W.cell? p=some ↑(num:Int)/\W.cell? ⟨p,1,none⟩=some ↑(dep:Int)) (first|go_keep|exact⟨k0,k1⟩|exact⟨k2,k3⟩)
  ((go_at_call 196;refine(eF p num dep l _ H1 UP).mono ?_;rintro e w4 h4;rw[hn]at h4;obtain⟨rfl,VL,H4⟩:=h4;obtain⟨k0,k1⟩:=H4.cells;have hN:w4.heap[w.heap.size]?=some (.cells #[(0:Int),(0:Int),(0:Int),ByteArray.empty] 364 (0,0)):=(VL.block w zad zaa).trans (OH w _);have d0:w4.cell? w=some ↑(0:Int):=by rw[OA w4 _ 0 _ _ _ hN];rfl
    have d1:w4.cell? (w,1)=some ↑(0:Int):=by rw[OA w4 _ 1 _ _ _ hN];rfl
    have d2:w4.cell? (w,2)=some ↑(0:Int):=by rw[OA w4 _ 2 _ _ _ hN];rfl
    have d3:w4.cell? (w,3)=some ↑ByteArray.empty:=by rw[OA w4 _ 3 _ _ _ hN];rfl
    have f0:w4.frozen? w=false:=zat;have f1:w4.frozen? (w,1)=false:=zat;have f2:w4.frozen? (w,2)=false:=zat;have f3:w4.frozen? (w,3)=false:=zat;have TU:¬p=w.heap.size:=zaa;have hne2:¬w.heap.size=p:=zaa;dsimp only))
 go_wp2;have o1:=aa w4 w 0 (.int .i64 num);have o2:=aa (w4.setCell w (.int .i64 num)) w.heap.size 1 (.int .i64 dep);have o3:=aa ((w4.setCell w (.int .i64 num)).setCell (w,1) (.int .i64 dep)) w.heap.size 2 (.int .i64 k);have o4:=aa (((w4.setCell w (.int .i64 num)).setCell (w,1) (.int .i64 dep)).setCell (w,2) (.int .i64 k)) w.heap.size 3 (.string x);have oo:=((o1.trans o2).trans o3).trans o4;have g1:=OP w4 w 0 _ _ (.int .i64 num) hN;have g2:=OP _ w 1 _ _ (.int .i64 dep) g1;have g3:=OP _ w 2 _ _ (.int .i64 k) g2;have g4:=OP _ w 3 _ _ (.string x) g3;have ht:ak p w w4:=((ak.refl p w).alloc _).drew.trans VL;exact ee Ja _ 364 _ (0,0) _ rfl g4 underlying364 rfl il rfl ⟨rfl,ht.iS oo (Ow _),H4.only oo Uo⟩
theorem n5:Tryz.f194.results=#[.cell 2 364]:=rfl
namespace J
def pR:():=⟨#[100,101,101,112]⟩
def dw(l:List ()):Option ((()×Int)×List ()):=match pOf U.plain l with
 |none=>none
 |some (x,[])=>some ((x,3),[])
 |some (x,y::r)=>if y.toList == pR.toList then some ((x,4),r) else some ((x,3),y::r)
end J
theorem fT{a b c d:Value}(hN:w.heap[N]?=some (.cells #[a,b,c,d] t (0,0))):
  w.cell? N=some a/\w.cell? (N,1)=some b/\w.cell? (N,2)=some c/\w.cell? (N,3)=some d/\w.frozen? N=false/\w.frozen? (N,1)=false/\w.frozen? (N,2)=false/\w.frozen? (N,3)=false:=
 ⟨by rw[OA w _ 0 _ _ _ hN];rfl,by rw[OA w _ 1 _ _ _ hN];rfl,by rw[OA w _ 2 _ _ _ hN];rfl,by rw[OA w _ 3 _ _ _ hN];rfl,zat,zat,zat,zat⟩
theorem lZ{a b c d a' b' c' d':Value}(hN:w.heap[N]?=some (.cells #[a,b,c,d] t (0,0))):
  ((((w.setCell N a').setCell (N,1) b').setCell (N,2) c').setCell (N,3) d').heap[N]?=some (.cells #[a',b',c',d'] t (0,0))/\iF N w ((((w.setCell N a').setCell (N,1) b').setCell (N,2) c').setCell (N,3) d'):=by
 have g1:=OP w N 0 _ _ a' hN;have g2:=OP _ N 1 _ _ b' g1;have g3:=OP _ N 2 _ _ c' g2;have g4:=OP _ N 3 _ _ d' g3;exact⟨g4,(((aa _ _ _ _).trans (aa _ _ _ _)).trans (aa _ _ _ _)).trans (aa _ _ _ _)⟩
theorem qI(p:Nat)(num dep:Int)(l:List ())(w:World)(H:ah w p num dep l)(hv:bL p w):
  () 194 #[p] w (eU p num dep ((J.dw l).map fun q=>(.agg #[(num:Int),(dep:Int),(q.1.2:Int),.string q.1.1],q.2)) w):=by
 have Uo:=H.lt;cases hn:J.pOf U.plain l with
 |none=>
  have HS:Hid (J.dw l=none):=by unfold Hid J.dw;rw[hn]
  go_enter func194,ntmps194;go_wp2_with fail;refine(pG p num dep 3 l _ (H.alloc _) (hv.alloc _) hn).mono ?_;rintro e w1 h1;obtain⟨ht,b,h4,h5,rfl⟩:=h1;dsimp only;refine⟨rfl,?_⟩;exact zeJ
 |some q=>
  obtain⟨x,l2⟩:=q;go_enter func194,ntmps194;go_wp2_with fail;refine(ni p num dep 3 l l2 x _ (H.alloc _) (hv.alloc _) hn).mono ?_;rintro e w1 ⟨rfl,TR,H1⟩;dsimp only;have hN:w1.heap[w.heap.size]?=some (.cells #[(0:Int),(0:Int),(0:Int),ByteArray.empty] 364 (0,0)):=(TR.block w zad zaa).trans (OH w _);have hNl:w.heap.size<w1.heap.size:=(Ov.1 hN).1;have ht:ak p w w1:=((ak.refl p w).alloc _).trans TR;have hp1:=H1.lt;clear TR;have H2:=H1.alloc (.cells #[(num:Int),(dep:Int),(3:Int),x] 364);have hN2:(w1.alloc (.cells #[(num:Int),(dep:Int),(3:Int),x] 364)).heap[w.heap.size]?=some (.cells #[(0:Int),(0:Int),(0:Int),ByteArray.empty] 364 (0,0)):=by rw[Pz _ _ _ hNl];exact hN
  have Ur:ak p w (w1.alloc (.cells #[(num:Int),(dep:Int),(3:Int),x] 364)):=ht.alloc _;have Vh:=OH w1 (.cells #[(num:Int),(dep:Int),(3:Int),x] 364);have TU:¬w.heap.size=w1.heap.size:=zaa;have hne':¬w1.heap.size=w.heap.size:=zaa;cases l2 with
  |nil=>
   have HS:Hid (J.dw l=some ((x,3),[])):=by unfold Hid J.dw;rw[hn]
   go_wp2_with fail;refine(skip_none p num dep J.pR _ H2).mono ?_;rintro e w9 ⟨rfl,Pg⟩;rw[Pg];clear Pg w9 hN;generalize w1.alloc (.cells #[(num:Int),(dep:Int),(3:Int),x] 364)=w2 at *;obtain⟨a0,a1,a2,a3,b0,b1,b2,b3⟩:=fT hN2;obtain⟨c0,c1,c2,c3,_,_,_,_⟩:=fT Vh;have gg:=lZ (a':=.int .i64 num) (b':=.int .i64 dep) (c':=.int .i64 3) (d':=.string x) hN2;have GG:Hid _:=gg;clear gg;exact zdJ
  |cons y r=>
   cases hy:(y.toList == J.pR.toList)
   ·have HS:Hid (J.dw l=some ((x,3),y::r)):=zcr;go_wp2_with fail;refine(rM p num dep y r J.pR _ H2 hy).mono ?_;rintro e w9 ⟨rfl,Pg⟩;rw[Pg];clear Pg w9 hN;generalize w1.alloc (.cells #[(num:Int),(dep:Int),(3:Int),x] 364)=w2 at *;obtain⟨a0,a1,a2,a3,b0,b1,b2,b3⟩:=fT hN2;obtain⟨c0,c1,c2,c3,_,_,_,_⟩:=fT Vh;have GG:Hid _:=lZ (a':=.int .i64 num) (b':=.int .i64 dep) (c':=.int .i64 3) (d':=.string x) hN2;exact zdJ
   ·have HS:Hid (J.dw l=some ((x,4),r)):=zcr;go_wp2_with fail;refine(kr p num dep y r J.pR _ H2 hy).mono ?_;rintro e w3 ⟨rfl,Xu,H3⟩;have hN3:=(Xu.block w zaa).trans hN2;have Vi:=(Xu.block w1 zaa).trans Vh;have U0:=Ur.trans Xu.ai;have XX:=OP w3 w1 2 _ _ (.int .i64 4) Vi;have oM:=aa w3 w1 2 (.int .i64 4);have hN4:=(oM.block w TU).trans hN3;have VL:=U0.iS oM zaa;have H4:=H3.only oM zaa;obtain⟨_,_,m2,_,_,_,m6,_⟩:=fT Vi;clear hN hN2 Vh Xu U0 H3 Vi hN3 oM;dsimp only
    go_upto_region 4 with fail
    generalize w3.setCell (w1,2) (.int .i64 4)=w4 at *;obtain⟨a0,a1,a2,a3,b0,b1,b2,b3⟩:=fT hN4;obtain⟨c0,c1,c2,c3,_,_,_,_⟩:=fT (a:=.int .i64 num) (b:=.int .i64 dep) (c:=.int .i64 4) (d:=.string x) XX;have GG:Hid _:=lZ (a':=.int .i64 num) (b':=.int .i64 dep) (c':=.int .i64 4) (d':=.string x) hN4;go_wp2;refine ee n5 _ 364 _ (0,0) _ rfl GG.out.1 underlying364 rfl il rfl ?_;unfold eU;rw[HS.out];exact⟨rfl,VL.iS GG.out.2 (Ow _),H4.only GG.out.2 Uo⟩
