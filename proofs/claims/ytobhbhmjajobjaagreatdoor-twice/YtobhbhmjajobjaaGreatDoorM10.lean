import Derived.Test.YtobhbhmjajobjaaGreatDoorM00
import Derived.Test.YtobhbhmjajobjaaGreatDoorSh
import Derived.Lib.AppendIntMem
import Derived.Deep.RegionHeld3
import Derived.Deep.AppendLies
set_option maxRecDepth 100000
set_option maxHeartbeats 8000000
namespace Go.Proofs.YtobhbhmjajobjaaGreatDoor
variable {zp:Prop}
theorem zc2 (h:zp:=by
 go_enter func250,ntmps250;go_wp2_with fail;refine (aF p num dep x r _ H).mono ?_;rintro e w1 ⟨rfl,ho,H1⟩;have ht1:=ho.ai;clear ho;dsimp only;go_wp2_with fail;refine (fs p num dep r _ H1 (hv.ai ht1)).mono ?_;rintro e w2 hq;rw [hn] at hq;obtain ⟨ht,b,h4,h5,rfl⟩:=hq;dsimp only;refine ⟨rfl,?_⟩;rw [HS.out];exact ⟨ht1.trans ht,b,Mv ht1.size h4,h5,rfl⟩):zp:=h
theorem zc6 (h:zp:=by
 have HP:Hid _:=hp;have HL:Hid _:=hl;clear hp hl;go_enter func223,ntmps223;go_wp2_with (first
  | (go_at_call 219;refine (gy s _ zag).mono ?_;rintro e w9 ⟨rfl,hw9⟩;rw [hw9,HP.out];clear hw9 w9)
  | (go_at_call 252;refine (lg s _ hs hv).mono ?_;rintro e w9 ⟨rfl,hb9⟩;rw [HL.out]))
 go_ret;exact ⟨by rw [HC.out];rfl,hb9⟩):zp:=h
theorem zdb (h:zp:=by
 go_simp;refine hK _ _ ?_;clear hK K;refine zA 2 rfl fun K hK => ?_;go_simp
 (refine (fW p num dep r _ H3d hv3).mono ?_;rintro e w4 h4;rw [hr] at h4;obtain ⟨ht,b,h5,h6,rfl⟩:=h4;dsimp only;refine ⟨rfl,?_⟩;rw [HS2.out];exact ⟨ht3.trans ((al.refl p w3).drew.trans ht),b,Mv ht3.size h5,h6,rfl⟩)):zp:=h
theorem zdc (h:zp:=by
 go_wp2_with (first | (go_at_call 248;refine (dx _ _).mono ?_;rintro e w9 ⟨rfl,hw9⟩;rw [hw9,H1.out];clear hw9 w9) | (go_at_call 249;refine (ld _ _).mono ?_;rintro e w9 ⟨rfl,hw9⟩;rw [hw9,H2.out];clear hw9 w9))
 go_round
 case rel=>exact ⟨k+1,zaa,zah,HS.out⟩
 case measure=>simp [intOf];omega):zp:=h
theorem zdq (h:zp:=by
 go_simp
 (refine (ed p num dep l _ H1 hv1).mono ?_;rintro e w4 h4;rw [hn] at h4;obtain ⟨ht,b,h5,h6,rfl⟩:=h4;dsimp only;exact ⟨rfl,((al.refl p w).alloc _).drew.trans ht,b,by simp at h5;omega,h6,rfl⟩)):zp:=h
theorem zdB (h:zp:=by
 dsimp only;go_wp2;refine dP nu _ 352 _ (0,0) _ rfl GG.out.1 underlying352 rfl gF rfl ?_;unfold eB;rw [HS.out];exact ⟨rfl,ht2.iu GG.out.2 (Mt _),H2.only GG.out.2 hpl⟩):zp:=h
theorem zdL (h:zp:=by
 rintro e w9 ⟨rfl,hw9⟩;rw [hw9];clear hw9 w9;dsimp only;go_wp2;go_ret;unfold eB;rw [HS.out];exact ⟨rfl,ht.alloc _,H2.alloc _⟩):zp:=h
theorem zeg (h:zp:=by
 obtain ⟨⟨n,r'⟩,h1,h2⟩:=MZ.1 h;cases h2
 have:=qB h1;dsimp only at this ⊢;omega):zp:=h
theorem zeq (h:zp:=by
 go_ret;exact ⟨rfl,aa _ _ _ _,H.gj hp hbp hbw hst zaa (fun _=>rfl)⟩):zp:=h
theorem zer (h:zp:=by
 go_ret;exact ⟨rfl,aa _ _ _ _,H.gj hp hbp hbw hst zaa (fun h=>zaa)⟩):zp:=h
theorem zev (h:zp:=by
 rw [HS.out];exact ⟨((al.refl p w).alloc _).trans ht,b,zaP,h5,rfl⟩):zp:=h
theorem zeK (h:zp:=by
 go_enter func219,ntmps219;go_wp2;go_ret;exact ⟨za0,rfl⟩):zp:=h
theorem ze2 (h:zp:=by
 simp only [Value.slice.injEq] at hv';exact hv'.2.1):zp:=h
theorem ze3 (h:zp:=by
 go_wp2;go_ret;exact ⟨by rw [HR.out];simp,hb1⟩):zp:=h
theorem ze7 (h:zp:=by
 unfold Ref.ga;split
 ·omega
 ·split <;> omega):zp:=h
theorem ze9 (h:zp:=by
 go_wp2;go_meet
 case rel=>exact ⟨rfl,rfl⟩):zp:=h
theorem zfs (h:zp:=by
 go_ret;exact ⟨za0,rfl⟩):zp:=h
theorem zar (h:zp:=by rw [NA];rfl):zp:=h
theorem zas (h:zp:=by simp [World.frozen?,hN]):zp:=h
theorem zaz (h:zp:=by rw [Pro.pOf,hx];rfl):zp:=h
theorem zaE (h:zp:=by rw [My w p 2 _ _ _ hp];rfl):zp:=h
theorem zaP (h:zp:=by simp at h4;omega):zp:=h
theorem za0 (h:zp:=by rw [HP.out];rfl):zp:=h
theorem za1 (h:zp:=by simpa using h3):zp:=h
theorem zbm (h:zp:=by simpa using hown):zp:=h
theorem zbK (h:zp:=by rw [My w p 0 _ _ _ hp];rfl):zp:=h
theorem zbL (h:zp:=by rw [My w p 1 _ _ _ hp];rfl):zp:=h
theorem zbM (h:zp:=by unfold Hid Pro.cG;rw [ha]):zp:=h
theorem zbS (h:zp:=by simp [World.frozen?,hp]):zp:=h
theorem zb8 (h:zp:=by unfold Hid Pro.dr;rw [hn];simp only;rw [hd];simp only;rw [hy];rfl):zp:=h
theorem zca (h:zp:=by unfold Hid;rw [Pro.bF,Ref.eS,h1,Ref.kX,h2,Ref.eJ,h3,hn];rfl):zp:=h
theorem zch (h:zp:=by unfold Hid;rw [Pro.bF,Ref.eS,h1,Ref.kX,h2,hn];rfl):zp:=h
theorem zcj (h:zp:=by unfold Hid Pro.de;rw [hn];simp only;rw [hy];rfl):zp:=h
open Tryz
variable {s x:ByteArray} {k p cap N n g base size:Nat} {w w' b a c w1 w2:World} {v:Value} {num dep:Int} {r l:List ByteArray} {e t:TypeId} {xs:List Value} {row:Option Nat}
section
open Go.RowKit
open Go.PlainAid (bt get_bt bt_nonneg bt_le bt_end)
theorem dx (c:Int) (w:World):() 248 #[.int .u8 c] w fun e w'=>e = .returned (.bool (Ref.small c))/\w'=w:=by
 by_cases h1:97<=c
 ·by_cases h2:c<=122
  ·go_enter func248,ntmps248;go_wp2;go_ret;exact ⟨by simp [Ref.small,h1,h2],rfl⟩
  ·go_enter func248,ntmps248;go_wp2;go_ret;exact ⟨by rw [Ref.small,No (show ¬ c<=122 by omega),Oj];rfl,rfl⟩
 ·go_enter func248,ntmps248;go_wp2;go_ret;exact ⟨by rw [Ref.small,No (show ¬ 97<=c by omega),OR];rfl,rfl⟩
theorem ld (c:Int) (w:World):() 249 #[.int .u8 c] w fun e w'=>e = .returned (.bool (Ref.jH c))/\w'=w:=by
 by_cases h1:48<=c
 ·by_cases h2:c<=57
  ·go_enter func249,ntmps249;go_wp2;go_ret;exact ⟨by simp [Ref.jH,h1,h2],rfl⟩
  ·go_enter func249,ntmps249;go_wp2;go_ret;exact ⟨by rw [Ref.jH,No (show ¬ c<=57 by omega),Oj];rfl,rfl⟩
 ·go_enter func249,ntmps249;go_wp2;go_ret;exact ⟨by rw [Ref.jH,No (show ¬ 48<=c by omega),OR];rfl,rfl⟩
namespace Ref
theorem xm (h0:small (bt s 0)=true) (h:(small (bt s k)||(jH (bt s k)||decide (bt s k=95)))=true):iT s k=true:=by
 by_cases hk:k=0
 ·rw [hk,uW];exact h0
 ·unfold iT more;unfold jH at h;rw [NC (show k≠0 from hk),P3,Bool.or_comm (decide (bt s k=95))];exact h
theorem GI (h1:small (bt s k)=false) (h2:jH (bt s k)=false) (h3:¬ bt s k=95):iT s k=false:=by
 unfold iT more;unfold jH at h2;rw [h1,h2,No h3,Qh,Oj,Qh]
theorem zF (hk:k<s.size) (h:iT s k=false):plain s=false:=by
 rw [plain,tP hk h,OR]
end Ref
theorem gy (s:ByteArray) (w:World) (hs:s.size<=maxLen):() 219 #[s] w fun e w'=>e = .returned (.bool (Ref.plain s))/\w'=w:=by
 unfold maxLen at hs;have hb:=get_bt s;by_cases he:s.size=0
 ·have he':(s.toList == [])=true:=by rw [Q3,<- Pm,Ref.isEmpty_eq];exact NC he
  have HP:Hid (Ref.plain s=false):=by unfold Hid Ref.plain;rw [No (show ¬ 0<s.size by omega),OR,Oj]
  exact zeK
 ·have he':(s.toList == [])=false:=by
   rw [Ot];intro h;have:=Ref.isEmpty_eq s;rw [h] at this;exact he (Pa this.symm)
  by_cases h8:8<s.size
  ·have HP:Hid (Ref.plain s=false):=by unfold Hid Ref.plain;rw [No (show ¬ s.size<=8 by omega),Oj,Oj]
   exact zeK
  ·cases hm:Ref.small (bt s 0)
   ·have HP:Hid (Ref.plain s=false):=Ref.zF (k:=0) zaa (by rw [Ref.uW];exact hm);have HM:Hid _:=hm;clear hm;go_enter func219,ntmps219;go_wp2_with (go_at_call 248;refine (dx _ _).mono ?_;rintro e w9 ⟨rfl,hw9⟩;rw [hw9,HM.out];clear hw9 w9);exact zfs
   ·have HM:Hid _:=hm;clear hm;go_enter func219,ntmps219;go_wp2_with (go_at_call 248;refine (dx _ _).mono ?_;rintro e w9 ⟨rfl,hw9⟩;rw [hw9,HM.out];clear hw9 w9)
    go_loop [20] (fun i=>∃ k:Nat,k<=s.size/\i = .int .i64 k/\∀ j,j<k->Ref.iT s j=true) (fun i=>s.size-(intOf i).toNat)
    case atStart=>exact ⟨0,MJ _,rfl,fun _ h=>zaa⟩
    case round =>
     obtain ⟨k,hk,rfl,hok⟩:=hrel;have Hok:Hid (∀ j,j<k->Ref.iT s j=true):=hok;clear hok;by_cases hlt:k<s.size
     ·cases h1:Ref.small (bt s k)
      ·cases h2:Ref.jH (bt s k)
       ·by_cases h3:bt s k=95
        ·have HS:Hid _:=Ref.xp Hok (Ref.xm HM.out (by rw [NC h3,QW,QW]));have H1:Hid _:=h1;have H2:Hid _:=h2;have h3':(bt s k != 95)=false:=by rw [h3];rfl
         clear h1 h2 h3;exact zdc
        ·have HP:Hid (Ref.plain s=false):=Ref.zF hlt (Ref.GI h1 h2 h3);have H1:Hid _:=h1;have H2:Hid _:=h2;have h3':(bt s k != 95)=true:=za1;clear h1 h2 h3;go_wp2_with (first | (go_at_call 248;refine (dx _ _).mono ?_;rintro e w9 ⟨rfl,hw9⟩;rw [hw9,H1.out];clear hw9 w9) | (go_at_call 249;refine (ld _ _).mono ?_;rintro e w9 ⟨rfl,hw9⟩;rw [hw9,H2.out];clear hw9 w9));exact zfs
       ·have HS:Hid _:=Ref.xp Hok (Ref.xm HM.out (by rw [h2,Pf,QW]));have H1:Hid _:=h1;have H2:Hid _:=h2;clear h1 h2;exact zdc
      ·have HS:Hid _:=Ref.xp Hok (Ref.xm HM.out (by rw [h1,Pf]));have H1:Hid _:=h1;clear h1;go_wp2_with (go_at_call 248;refine (dx _ _).mono ?_;rintro e w9 ⟨rfl,hw9⟩;rw [hw9,H1.out];clear hw9 w9)
       go_round
       case rel=>exact ⟨k+1,zaa,zah,HS.out⟩
       case measure=>simp [intOf];omega
     ·obtain rfl:k=s.size:=zaa;have HP:Hid (Ref.plain s=true):=by
       unfold Hid Ref.plain;rw [Ref.Dj Hok.out,P3,NC (show 0<s.size by omega),NC (show s.size<=8 by omega)];rfl
      clear hb;go_wp2;exact zfs
structure gB (w:World):Prop where
 syn:∃ ev,w.cell? ⟨7,0,none⟩=some ev/\(ev = .nilIface\/∃ te pe,ev = .iface te pe)
 rng:∃ ev,w.cell? ⟨8,0,none⟩=some ev/\(ev = .nilIface\/∃ te pe,ev = .iface te pe)
def Il (s:ByteArray) (w:World) (e:Ending) (w':World):Prop:=Below w w w'/\∃ u:Int,e = .returned (.tuple #[.int .u64 u,.bool (Ref.cA s)])/\(Ref.cA s=true->u=Ref.dV s)
theorem o6 (w:World) (t:TypeId) (s:ByteArray):Below w w (Lib.bytesWorld w t s):=by
 unfold Lib.bytesWorld;exact Lib.below_freeze ((Below.drew (Mw _ w)).alloc (Mt _) _) (p:=⟨w,_,none⟩) (Mt _) 1
theorem uo {p:Addr} (h:w.cell? p=some v) (hb:Below w w w'):w'.cell? p=some v:=by
 rw [hb.cell (MQ w _ h)];exact h
theorem gB.ak (h:gB w) (hb:Below w w w'):gB w' :=
 let ⟨e1,h1,h2⟩:=h.syn
 let ⟨e3,h3,h4⟩:=h.rng
 ⟨⟨e1,uo h1 hb,h2⟩,⟨e3,uo h3 hb,h4⟩⟩
theorem gw (s p:ByteArray):Lib.hasPrefix s.data.toList p.data.toList=Ref.cy s p:=by
 rw [<- Lib.hasPrefix_raw,Ref.cy,Ref.CJ]
theorem mP {p:ByteArray} (h:Ref.cy s p=true):(⟨(Lib.trimPrefix s.data.toList p.data.toList).toArray⟩:ByteArray)=s.extract p.size s.size:=by
 refine Lib.trimPrefix_hit s p (Ref.pM h) ?_;rw [Ref.CJ];rw [Ref.cy,Na] at h;exact h.2
theorem ni (s:ByteArray) (w:World) (hs:s.size<=1073741824) (hv:gB w):() 225 #[s] w (Il s w):=by
 have hb:=get_bt s;by_cases h0:1<s.size/\bt s 0=48
 ·obtain ⟨h1,h2⟩:=h0;have HD:Hid (Ref.cA s=false):=by
   unfold Hid;rw [Ref.cA,Ref.qU,NC h1,NC h2,P3,QW,Pf,Pf,Bool.not_true,Oj]
  have h2':(bt s 0 == 48)=true:=by rw [h2];rfl
  clear h2;go_enter func225,ntmps225;go_wp2;go_ret2;exact ⟨Mw _ _,0,by rw [HD.out];rfl,fun h=>by rw [HD.out] at h;cases h⟩
 ·have HN:Hid _:=Num.GF s h0;have HD0:Hid (decide (1<s.size)=true->(bt s 0 == 48)=false):=fun h=>by
   rw [Ot];exact fun e=>h0 ⟨Pa h,e⟩
  clear h0;go_enter func225,ntmps225
  go_upto_region 1 with fail
  go_cut [13] (fun c wx=>c = .bool false/\wx=w)
  case first =>
   by_cases h1:1<s.size
   ·have h2':=HD0.out (NC h1);exact ze9
   ·exact ze9
  case rest =>
   obtain ⟨rfl,hwc⟩:=hcut;rw [hwc];clear hwc wc;cases hp:Lib.parseUintB 64 s.data.toList with
   | ok u =>
    have HU:Hid _:=HN.out.1 u hp;go_wp2_with fail;refine (strconv_ParseUint_10_at64_ok s zaa u hp _).mono ?_;rintro e w1 ⟨rfl,hw1⟩;have hb1:Below w w w1:=by
     rcases hw1 with h | h
     ·rw [h];exact Mw _ _
     ·rw [h];exact o6 _ _ _
    clear hw1 hp;dsimp only;go_wp2
    go_quiet (fail)
    go_wp2;go_ret2;exact ⟨OJ hb1 _,u,by rw [HU.out.1];rfl,fun _=>HU.out.2.symm⟩
   | «syntax» =>
    have HU:Hid _:=HN.out.2 (fun u h=>by rw [hp] at h;cases h);obtain ⟨ev,hv1,hv2⟩:=hv.syn;go_wp2_with fail;refine (strconv_ParseUint_10_at64_syntax s zaa hp ev _ hv1 hv2).mono ?_;rintro e w1 ⟨N,rfl,hN,hcell,hb1⟩;clear hp hcell;dsimp only;go_wp2
    go_quiet (fail)
    go_wp2;go_ret2;exact ⟨OJ hb1 _,0,by rw [HU.out];rfl,fun h=>by rw [HU.out] at h;cases h⟩
   | range =>
    have HU:Hid _:=HN.out.2 (fun u h=>by rw [hp] at h;cases h);obtain ⟨ev,hv1,hv2⟩:=hv.rng;go_wp2_with fail;refine (strconv_ParseUint_10_at64_range s zaa hp ev _ hv1 hv2).mono ?_;rintro e w1 ⟨N,rfl,hN,hcell,hb1⟩;clear hp hcell;dsimp only;go_wp2
    go_quiet (fail)
    go_wp2;go_ret2;exact ⟨OJ hb1 _,18446744073709551615,by rw [HU.out];rfl,fun h=>by rw [HU.out] at h;cases h⟩
theorem lg (s:ByteArray) (w:World) (hs:s.size<=1073741824) (hv:gB w):() 252 #[s] w fun e w'=>e = .returned (.bool (Ref.lu s))/\Below w w w':=by
 cases hb:Ref.cy s Ref.bL
 ·have HL:Hid (Ref.lu s=false):=by unfold Hid Ref.lu;rw [hb,OR]
  have HB:Hid _:=(gw s Ref.bL).trans hb;clear hb;go_enter func252,ntmps252;go_wp2_with fail;refine (strings_CutPrefix s Ref.bL _).mono ?_;rintro e w9 ⟨rfl,hw9⟩;rw [hw9,HB.out];clear hw9 w9;dsimp only;go_wp2;go_ret;exact ⟨by rw [HL.out];rfl,Mw _ _⟩
 ·have HL:Hid (Ref.lu s=(Ref.cA (s.extract 6 s.size)&&(decide (0<Ref.dV (s.extract 6 s.size))&&decide (Ref.dV (s.extract 6 s.size)<=1500)))):=by unfold Hid Ref.lu;rw [hb,P3]
  have HB:Hid _:=(gw s Ref.bL).trans hb;have HC:Hid ((⟨(Lib.trimPrefix s.data.toList Ref.bL.data.toList).toArray⟩:ByteArray)=s.extract 6 s.size):=mP hb;have hr:(s.extract 6 s.size).size<=1073741824:=zaf;clear hb;go_enter func252,ntmps252;go_wp2_with fail;refine (strings_CutPrefix s Ref.bL _).mono ?_;rintro e w9 ⟨rfl,hw9⟩;rw [hw9,HB.out,HC.out];clear hw9 w9 HC;generalize s.extract 6 s.size=r at *;dsimp only;go_wp2_with fail;refine (ni r _ hr hv).mono ?_;rintro e w1 ⟨hb1,u,rfl,hu⟩;have HU:Hid _:=hu;clear hu;dsimp only;cases hk:Ref.cA r
  ·have HK:Hid _:=hk;clear hk;go_wp2;go_ret;exact ⟨by rw [HL.out,HK.out];rfl,hb1⟩
  ·have HV:Hid _:=HU.out hk;have HK:Hid _:=hk;clear hk HU;by_cases h1:1<=u
   ·by_cases h2:u<=1500
    ·have HR:Hid (Ref.lu s=true):=by unfold Hid;rw [HL.out,HK.out,<- HV.out,NC (show 0<u by omega),NC h2];rfl
     exact ze3
    ·have HR:Hid (Ref.lu s=false):=by unfold Hid;rw [HL.out,HK.out,<- HV.out,No h2,Oj];rfl
     have h2':decide (u<=1500)=false:=No h2;exact ze3
   ·have HR:Hid (Ref.lu s=false):=by unfold Hid;rw [HL.out,HK.out,<- HV.out,No (show ¬ 0<u by omega),OR];rfl
    go_wp2;go_ret;exact ⟨by rw [HR.out];rfl,hb1⟩
theorem iJ (s:ByteArray) (w:World) (hs:s.size<=1073741824) (hv:gB w):() 223 #[s] w fun e w'=>e = .returned (.bool (Ref.called s))/\Below w w w':=by
 cases hp:Ref.plain s
 ·cases hl:Ref.lu s
  ·have HC:Hid (Ref.called s=false):=by unfold Hid Ref.called;rw [hp,hl];rfl
   exact zc6
  ·have HC:Hid (Ref.called s=true):=by unfold Hid Ref.called;rw [hp,hl];rfl
   exact zc6
 ·have HC:Hid (Ref.called s=true):=by unfold Hid Ref.called;rw [hp,Pf]
  have HP:Hid _:=hp;clear hp;go_enter func223,ntmps223;go_wp2_with (go_at_call 219;refine (gy s _ zag).mono ?_;rintro e w9 ⟨rfl,hw9⟩;rw [hw9,HP.out];clear hw9 w9);go_ret;exact ⟨by rw [HC.out];rfl,Mw _ _⟩
theorem rM (s:ByteArray) (w:World) (hs:s.size<=1073741824) (hb:Ref.cy s Ref.jI=true) (hp:Ref.plain (s.extract 5 s.size)=true):() 189 #[s] w fun e w'=>e = .returned (.bool (Ref.bZ s))/\Below w w w':=by
 have HR:Hid (Ref.bZ s=true):=by unfold Hid Ref.bZ;rw [hb,hp,Bool.and_self,QW]
 have HB:Hid _:=(gw s Ref.jI).trans hb;have HC:Hid ((⟨(Lib.trimPrefix s.data.toList Ref.jI.data.toList).toArray⟩:ByteArray)=s.extract 5 s.size):=mP hb;have HP:Hid _:=hp;have hr:(s.extract 5 s.size).size<=1073741824:=zaf;clear hb hp;go_enter func189,ntmps189;go_wp2_with fail;refine (strings_CutPrefix s Ref.jI _).mono ?_;rintro e w9 ⟨rfl,hw9⟩;rw [hw9,HB.out,HC.out];clear hw9 w9 HC;generalize s.extract 5 s.size=r at *;dsimp only;go_wp2_with (go_at_call 219;refine (gy r _ zag).mono ?_;rintro e w9 ⟨rfl,hw9⟩;rw [hw9,HP.out];clear hw9 w9);go_ret;exact ⟨by rw [HR.out];rfl,Mw _ _⟩
theorem rO (s:ByteArray) (w:World) (hs:s.size<=1073741824) (hv:gB w) (hb:Ref.cy s Ref.jI=false):() 189 #[s] w fun e w'=>e = .returned (.bool (Ref.bZ s))/\Below w w w':=by
 have HR:Hid (Ref.bZ s=Ref.called s):=by unfold Hid Ref.bZ;rw [hb,OR,Qh]
 have HB:Hid _:=(gw s Ref.jI).trans hb;clear hb;cases hc:Ref.called s
 all_goals
  have HC:Hid _:=hc;clear hc;go_enter func189,ntmps189;go_wp2_with fail;refine (strings_CutPrefix s Ref.jI _).mono ?_;rintro e w9 ⟨rfl,hw9⟩;rw [hw9,HB.out];clear hw9 w9;dsimp only;go_wp2_with (go_at_call 223;refine (iJ s _ hs hv).mono ?_;rintro e w9 ⟨rfl,hb9⟩;rw [HC.out]);go_ret;exact ⟨by rw [HR.out,HC.out];rfl,hb9⟩
theorem wL (s:ByteArray) (w:World) (hs:s.size<=1073741824) (hv:gB w) (hb:Ref.cy s Ref.jI=true) (hp:Ref.plain (s.extract 5 s.size)=false):() 189 #[s] w fun e w'=>e = .returned (.bool (Ref.bZ s))/\Below w w w':=by
 have HR:Hid (Ref.bZ s=Ref.called s):=by unfold Hid Ref.bZ;rw [hb,hp,Oj,Qh]
 have HB:Hid _:=(gw s Ref.jI).trans hb;have HC0:Hid ((⟨(Lib.trimPrefix s.data.toList Ref.jI.data.toList).toArray⟩:ByteArray)=s.extract 5 s.size):=mP hb;have HP:Hid _:=hp;have hr:(s.extract 5 s.size).size<=1073741824:=zaf;clear hb hp;cases hc:Ref.called s
 all_goals
  have HC:Hid _:=hc;clear hc;go_enter func189,ntmps189;go_wp2_with fail;refine (strings_CutPrefix s Ref.jI _).mono ?_;rintro e w9 ⟨rfl,hw9⟩;rw [hw9,HB.out,HC0.out];clear hw9 w9 HC0;generalize s.extract 5 s.size=r at *;dsimp only;go_wp2_with (first
   | (go_at_call 219;refine (gy r _ zag).mono ?_;rintro e w9 ⟨rfl,hw9⟩;rw [hw9,HP.out];clear hw9 w9)
   | (go_at_call 223;refine (iJ s _ hs hv).mono ?_;rintro e w9 ⟨rfl,hb9⟩;rw [HC.out]))
  go_ret;exact ⟨by rw [HR.out,HC.out];rfl,hb9⟩
theorem tI (s:ByteArray) (w:World) (hs:s.size<=1073741824) (hv:gB w):() 189 #[s] w fun e w'=>e = .returned (.bool (Ref.bZ s))/\Below w w w':=by
 cases hb:Ref.cy s Ref.jI
 ·exact rO s w hs hv hb
 ·cases hp:Ref.plain (s.extract 5 s.size)
  ·exact wL s w hs hv hb hp
  ·exact rM s w hs hb hp
structure Env (w:World):Prop where
 err:gB w
 tab:Lib.TabIs prog w "internal/strconv.uint64pow10" .u64 Lib.pow10Tab
theorem Env.ak (h:Env w) (hb:Below w w w'):Env w':=⟨h.err.ak hb,Lib.tabBelow_of_tabIs h.tab w' hb⟩
theorem iP (n:Nat) (w:World) (hn:n<=1073741824) (hv:Env w):() 190 #[(n:Int)] w fun e w'=>e = .returned (.string (Ref.bL++Ref.dec n))/\Below w w w':=by
 have hd:(Ref.dec n).size<=20:=Ref.rh zaa;have HI:Hid ((⟨(Lib.itoa n).toArray⟩:ByteArray)=Ref.dec n):=by
  unfold Hid Lib.itoa Ref.dec;rw [Mz zaa];rfl
 go_enter func190,ntmps190;go_wp2_with fail;refine (strconv_Itoa n zaa zaa _ hv.tab).mono ?_;rintro e w1 ⟨rfl,k,os,hw1⟩;have hb1:Below w w w1:=by rw [hw1];exact Lib.below_grow _ _ (Mt _) _ _
 rw [HI.out];clear hw1;dsimp only;go_wp2;go_ret;exact ⟨rfl,hb1⟩
def aY (er line:Int) (w:World) (e:Ending) (w':World):Prop:=Below w w w'/\∃ b,w.heap.size<=b/\w'.heap[b]?=some (.cells #[(er:Int),(line:Int)] 120 (0,0))/\e = .panicked [{ v := .iface 143 (.agg #[.pointer (some ⟨b,0,none⟩)]),recovered:=false }]
theorem aU (num dep er:Int) (w:World):() 88 #[.agg #[(num:Int),(dep:Int)],(er:Int)] w (aY er num w):=by
 go_enter func88,ntmps88;go_wp2;refine ⟨rfl,((Mw _ _).alloc (Mt _) _).alloc zad _,w.heap.size+1,zaa,?_,rfl⟩;have h:=MD (w.alloc (.cells #[(num:Int),(dep:Int)] 224)) (.cells #[(er:Int),(num:Int)] 120);simpa using h
structure ah (w:World) (p:Nat) (num dep:Int) (l:List ByteArray):Prop where
 row:∃ a cap,w.heap[p]?=some (.cells #[(num:Int),(dep:Int),.slice a l.length cap] 310 (0,0))/\l.length<=cap/\(0<l.length->∃ b off,a=some ⟨b,off,none⟩/\b<p/\b<w.heap.size/\qL w b off l)
 len:l.length<=1073741824
 sizes:∀ x∈l,x.size<=1073741824
theorem ah.gj {b off cap':Nat} {a':Option Addr} (H:ah w p num dep (x::r)) (hp:w.heap[p]?=some (.cells #[(num:Int),(dep:Int),.slice (some ⟨b,off,none⟩) (x::r).length cap] 310 (0,0)))
  (hbp:b<p) (hbw:b<w.heap.size) (hst:qL w b off (x::r)) (hc:r.length<=cap') (ha:0<r.length->a'=some ⟨b,off+1,none⟩):ah (w.setCell ⟨p,2,none⟩ (.slice a' r.length cap')) p num dep r:=by
 have ho:=aa w p 2 (.slice a' r.length cap');refine ⟨⟨a',cap',?_,hc,fun h=>⟨b,off+1,ha h,hbp,by rw [ho.size];exact hbw,?_⟩⟩,by have:=H.len;simp at this;omega,fun y hy=>H.sizes y (Nl _ hy)⟩
 ·rw [MO w p 2 _ _ _ hp];rfl
 ·intro i hi;have:=hst.drop 1 i zbp;rw [ho.cell (p:=⟨b,off+1+i,none⟩) (Rp hbp),this];rfl
theorem l8 (p:Nat) (num dep:Int) (w:World) (H:ah w p num dep []) :
  () 184 #[p] w (aY 2 num w):=by
 obtain ⟨a,cap,hp,hc,hs⟩:=H.row;have c0:w.cell? p=some ↑(num:Int):=zbK;have c1:w.cell? ⟨p,1,none⟩=some ↑(dep:Int):=zbL;have c2:w.cell? ⟨p,2,none⟩=some (.slice a 0 cap):=zaE;go_enter func184,ntmps184;go_wp2_with fail;refine (aU num dep 2 _).mono ?_;rintro e w1 h1;obtain ⟨hb,b,h2,h3,rfl⟩:=h1;dsimp only;exact ⟨rfl,hb,b,h2,h3,rfl⟩
theorem aF (p:Nat) (num dep:Int) (x:ByteArray) (r:List ByteArray) (w:World) (H:ah w p num dep (x::r)) :
  () 184 #[p] w fun e w'=>e = .returned x/\gV p w w'/\ah w' p num dep r:=by
 obtain ⟨a,cap,hp,hc,hs⟩:=H.row;have c2:w.cell? ⟨p,2,none⟩=some (.slice a (x::r).length cap):=zaE;have fr:w.frozen? ⟨p,2,none⟩=false:=zbS;obtain ⟨b,off,rfl,hbp,hbw,hst⟩:=hs zad;have d0:=hst 0 zad;simp only [Ref.at',List.getD_cons_zero,Nat.add_zero] at d0;have hc1:r.length+1<=cap:=by simpa using hc
 go_enter func184,ntmps184;go_wp2
 ·exact zer
 ·exact zeq
theorem skip_none (p:Nat) (num dep:Int) (k:ByteArray) (w:World) (H:ah w p num dep []) :
  () 220 #[p,k] w fun e w'=>e = .returned false/\w'=w:=by
 obtain ⟨a,cap,hp,hc,hs⟩:=H.row;have c2:w.cell? ⟨p,2,none⟩=some (.slice a 0 cap):=zaE;go_enter func220,ntmps220;go_wp2;go_ret;exact ⟨rfl,rfl⟩
theorem qD (p:Nat) (num dep:Int) (x:ByteArray) (r:List ByteArray) (k:ByteArray) (w:World) (H:ah w p num dep (x::r)) (hk:(x.toList == k.toList)=false) :
  () 220 #[p,k] w fun e w'=>e = .returned false/\w'=w:=by
 obtain ⟨a,cap,hp,hc,hs⟩:=H.row;have c2:w.cell? ⟨p,2,none⟩=some (.slice a (x::r).length cap):=zaE;obtain ⟨b,off,rfl,hbp,hbw,hst⟩:=hs zad;have d0:=hst 0 zad;simp only [Ref.at',List.getD_cons_zero,Nat.add_zero] at d0;have hk':(x.toList != k.toList)=true:=by rw [bne,hk];rfl
 go_enter func220,ntmps220;go_wp2;go_ret;exact ⟨rfl,rfl⟩
theorem jO (p:Nat) (num dep:Int) (x:ByteArray) (r:List ByteArray) (k:ByteArray) (w:World) (H:ah w p num dep (x::r)) (hk:(x.toList == k.toList)=true) :
  () 220 #[p,k] w fun e w'=>e = .returned true/\gV p w w'/\ah w' p num dep r:=by
 obtain ⟨a,cap,hp,hc,hs⟩:=H.row;have c2:w.cell? ⟨p,2,none⟩=some (.slice a (x::r).length cap):=zaE;have fr:w.frozen? ⟨p,2,none⟩=false:=zbS;obtain ⟨b,off,rfl,hbp,hbw,hst⟩:=hs zad;have d0:=hst 0 zad;simp only [Ref.at',List.getD_cons_zero,Nat.add_zero] at d0;have hc1:r.length+1<=cap:=by simpa using hc
 have hk':(x.toList != k.toList)=false:=by rw [bne,hk];rfl
 go_enter func220,ntmps220;go_wp2
 ·exact zer
 ·exact zeq
theorem KP (p:Nat) (num dep:Int) (w:World) (H:ah w p num dep []) :
  () 143 #[p] w fun e w'=>e = .returned (.tuple #[])/\w'=w:=by
 obtain ⟨a,cap,hp,hc,hs⟩:=H.row;have c2:w.cell? ⟨p,2,none⟩=some (.slice a 0 cap):=zaE;go_enter func143,ntmps143;go_wp2;go_end0;exact ⟨rfl,rfl⟩
theorem IU (p:Nat) (num dep:Int) (l:List ByteArray) (w:World) (H:ah w p num dep l) (h0:0<l.length) :
  () 143 #[p] w (aY 2 num w):=by
 obtain ⟨a,cap,hp,hc,hs⟩:=H.row;have c0:w.cell? p=some ↑(num:Int):=zbK;have c1:w.cell? ⟨p,1,none⟩=some ↑(dep:Int):=zbL;have c2:w.cell? ⟨p,2,none⟩=some (.slice a l.length cap):=zaE;go_enter func143,ntmps143;go_wp2_with fail;refine (aU num dep 2 _).mono ?_;rintro e w1 h1;obtain ⟨hb,b,h2,h3,rfl⟩:=h1;dsimp only;exact ⟨rfl,hb,b,h2,h3,rfl⟩
end
section
open Go.RowKit
structure al (p:Nat) (w w':World):Prop where
 os:w'.os=w.os
 tape:w'.tape=w.tape
 output:w'.output=w.output
 size:w.heap.size<=w'.heap.size
 block:∀ k,k<w.heap.size->k≠p->w'.heap[k]?=w.heap[k]?
theorem al.refl (p:Nat) (w:World):al p w w:=⟨rfl,rfl,rfl,Mt _,fun _ _ _=>rfl⟩
theorem al.trans (h:al p a b) (k:al p b c):al p a c :=
 ⟨k.os.trans h.os,k.tape.trans h.tape,k.output.trans h.output,Mv h.size k.size,fun i hi hp=>(k.block i (MR hi h.size) hp).trans (h.block i hi hp)⟩
theorem gV.ai (h:gV p w w'):al p w w':=⟨h.os,h.tape,h.output,zbg,fun k _ hp=>h.block k hp⟩
theorem aP (h:Below w w w'):al p w w':=⟨h.os,h.tape,h.output,h.size,fun k hk _=>h.block k hk⟩
theorem al.below {B:Nat} (h:al p w w') (hb:Below B a w) (hB:B<=p) (hs:B<=w.heap.size):Below B a w' :=
 hb.trans ⟨h.os,h.tape,h.output,h.size,fun k hk=>h.block k zaa zaa⟩
def bH (p:Nat) (w:World):Prop:=∃ w0:World,w0.heap.size<=p/\Env w0/\Below w0 w0 w
theorem bH.here (h:bH p w):Env w:=let ⟨_,_,h2,h3⟩:=h;h2.ak h3
theorem bH.ai (h:bH p w) (ht:al p w w'):bH p w' :=
 let ⟨w0,h1,h2,h3⟩:=h
 ⟨w0,h1,h2,ht.below h3 h1 h3.size⟩
theorem ah.ak (H:ah w p num dep l) (hb:Below w w w'):ah w' p num dep l:=by
 obtain ⟨a,cap,hp,hc,hs⟩:=H.row;refine ⟨⟨a,cap,?_,hc,fun h => ?_⟩,H.len,H.sizes⟩
 ·rw [hb.block p (Ms.1 hp).1];exact hp
 ·obtain ⟨b,off,h1,h2,h3,h4⟩:=hs h;exact ⟨b,off,h1,h2,MR h3 hb.size,h4.below hb h3⟩
def cR (p:Nat) (er line:Int) (w:World) (e:Ending) (w':World):Prop:=al p w w'/\∃ b,w.heap.size<=b/\w'.heap[b]?=some (.cells #[(er:Int),(line:Int)] 120 (0,0))/\e = .panicked [{ v := .iface 143 (.agg #[.pointer (some ⟨b,0,none⟩)]),recovered:=false }]
theorem cC {er line:Int} {w0:World} {e:Ending} (ht:al p w0 w) (h:aY er line w e w'):cR p er line w0 e w':=by
 obtain ⟨hb,b,h2,h3,h4⟩:=h;exact ⟨ht.trans (aP hb),b,Mv ht.size h2,h3,h4⟩
theorem ah.cells (H:ah w p num dep l):w.cell? p=some ↑(num:Int)/\w.cell? ⟨p,1,none⟩=some ↑(dep:Int):=by
 obtain ⟨a,cap,hp,hc,hs⟩:=H.row;exact ⟨zbK,zbL⟩
def Fa (f:Nat) (P:ByteArray->Bool):Prop:=∀ (s:ByteArray) (w:World),s.size<=1073741824->Env w->() f #[s] w fun e w'=>e = .returned (.bool (P s))/\Below w w w'
theorem sZ:Fa 219 Ref.plain:=fun s w hs _=>(gy s w zag).mono (by rintro e w' ⟨rfl,rfl⟩;exact ⟨rfl,Mw _ _⟩)
theorem vI:Fa 223 Ref.called:=fun s w hs hv=>iJ s w hs hv.err
theorem mL:Fa 189 Ref.bZ:=fun s w hs hv=>tI s w hs hv.err
theorem i7 (p:Nat) (num dep:Int) (f:Nat) (w:World) (H:ah w p num dep []) :
  () 188 #[p,.func (.func f) #[] #[]] w (cR p 2 num w):=by
 go_enter func188,ntmps188;go_wp2_with fail;refine (l8 p num dep _ H).mono ?_;rintro e w1 h1;have h2:=cC (al.refl p w) h1;obtain ⟨ht,b,h3,h4,rfl⟩:=h2;dsimp only;exact ⟨rfl,ht,b,h3,h4,rfl⟩
theorem r9 (p:Nat) (num dep:Int) (x:ByteArray) (r:List ByteArray) (w:World) (H:ah w p num dep (x::r)) (hv:bH p w) (hx:Ref.plain x=false) :
  () 188 #[p,.func (.func 219) #[] #[]] w (cR p 2 num w):=by
 have hsz:=H.sizes x zad;go_enter func188,ntmps188;go_wp2_with fail;refine (aF p num dep x r _ H).mono ?_;rintro e w1 ⟨rfl,ho,H1⟩;have ht1:=ho.ai;have hv1:=hv.ai ht1;clear ho;dsimp only;go_wp2_with fail;refine (sZ x _ hsz hv1.here).mono ?_;rintro e w2 ⟨rfl,hb2⟩;rw [hx];have H2:=H1.ak hb2;obtain ⟨c0,c1⟩:=H2.cells;have ht2:al p w w2:=ht1.trans (aP hb2);clear H1 hb2 ht1 hv1;dsimp only;go_wp2_with fail;refine (aU num dep 2 _).mono ?_;rintro e w3 h3;obtain ⟨ht,b,h4,h5,rfl⟩:=cC ht2 h3;dsimp only;exact ⟨rfl,ht,b,h4,h5,rfl⟩
theorem qh (p:Nat) (num dep:Int) (x:ByteArray) (r:List ByteArray) (w:World) (H:ah w p num dep (x::r)) (hv:bH p w) (hx:Ref.plain x=true) :
  () 188 #[p,.func (.func 219) #[] #[]] w fun e w'=>e = .returned x/\al p w w'/\ah w' p num dep r:=by
 have hsz:=H.sizes x zad;go_enter func188,ntmps188;go_wp2_with fail;refine (aF p num dep x r _ H).mono ?_;rintro e w1 ⟨rfl,ho,H1⟩;have ht1:=ho.ai;have hv1:=hv.ai ht1;clear ho;dsimp only;go_wp2_with fail;refine (sZ x _ hsz hv1.here).mono ?_;rintro e w2 ⟨rfl,hb2⟩;rw [hx];have H2:=H1.ak hb2;have ht2:al p w w2:=ht1.trans (aP hb2);clear H1 hb2 ht1 hv1;dsimp only;go_wp2;go_ret;exact ⟨rfl,ht2,H2⟩
theorem mJ (p:Nat) (num dep:Int) (x:ByteArray) (r:List ByteArray) (w:World) (H:ah w p num dep (x::r)) (hv:bH p w) (hx:Ref.called x=false) :
  () 188 #[p,.func (.func 223) #[] #[]] w (cR p 2 num w):=by
 have hsz:=H.sizes x zad;go_enter func188,ntmps188;go_wp2_with fail;refine (aF p num dep x r _ H).mono ?_;rintro e w1 ⟨rfl,ho,H1⟩;have ht1:=ho.ai;have hv1:=hv.ai ht1;clear ho;dsimp only;go_wp2_with fail;refine (vI x _ hsz hv1.here).mono ?_;rintro e w2 ⟨rfl,hb2⟩;rw [hx];have H2:=H1.ak hb2;obtain ⟨c0,c1⟩:=H2.cells;have ht2:al p w w2:=ht1.trans (aP hb2);clear H1 hb2 ht1 hv1;dsimp only;go_wp2_with fail;refine (aU num dep 2 _).mono ?_;rintro e w3 h3;obtain ⟨ht,b,h4,h5,rfl⟩:=cC ht2 h3;dsimp only;exact ⟨rfl,ht,b,h4,h5,rfl⟩
theorem lB (p:Nat) (num dep:Int) (x:ByteArray) (r:List ByteArray) (w:World) (H:ah w p num dep (x::r)) (hv:bH p w) (hx:Ref.called x=true) :
  () 188 #[p,.func (.func 223) #[] #[]] w fun e w'=>e = .returned x/\al p w w'/\ah w' p num dep r:=by
 have hsz:=H.sizes x zad;go_enter func188,ntmps188;go_wp2_with fail;refine (aF p num dep x r _ H).mono ?_;rintro e w1 ⟨rfl,ho,H1⟩;have ht1:=ho.ai;have hv1:=hv.ai ht1;clear ho;dsimp only;go_wp2_with fail;refine (vI x _ hsz hv1.here).mono ?_;rintro e w2 ⟨rfl,hb2⟩;rw [hx];have H2:=H1.ak hb2;have ht2:al p w w2:=ht1.trans (aP hb2);clear H1 hb2 ht1 hv1;dsimp only;go_wp2;go_ret;exact ⟨rfl,ht2,H2⟩
theorem n9 (p:Nat) (num dep:Int) (x:ByteArray) (r:List ByteArray) (w:World) (H:ah w p num dep (x::r)) (hv:bH p w) (hx:Ref.bZ x=false) :
  () 188 #[p,.func (.func 189) #[] #[]] w (cR p 2 num w):=by
 have hsz:=H.sizes x zad;go_enter func188,ntmps188;go_wp2_with fail;refine (aF p num dep x r _ H).mono ?_;rintro e w1 ⟨rfl,ho,H1⟩;have ht1:=ho.ai;have hv1:=hv.ai ht1;clear ho;dsimp only;go_wp2_with fail;refine (mL x _ hsz hv1.here).mono ?_;rintro e w2 ⟨rfl,hb2⟩;rw [hx];have H2:=H1.ak hb2;obtain ⟨c0,c1⟩:=H2.cells;have ht2:al p w w2:=ht1.trans (aP hb2);clear H1 hb2 ht1 hv1;dsimp only;go_wp2_with fail;refine (aU num dep 2 _).mono ?_;rintro e w3 h3;obtain ⟨ht,b,h4,h5,rfl⟩:=cC ht2 h3;dsimp only;exact ⟨rfl,ht,b,h4,h5,rfl⟩
theorem nh (p:Nat) (num dep:Int) (x:ByteArray) (r:List ByteArray) (w:World) (H:ah w p num dep (x::r)) (hv:bH p w) (hx:Ref.bZ x=true) :
  () 188 #[p,.func (.func 189) #[] #[]] w fun e w'=>e = .returned x/\al p w w'/\ah w' p num dep r:=by
 have hsz:=H.sizes x zad;go_enter func188,ntmps188;go_wp2_with fail;refine (aF p num dep x r _ H).mono ?_;rintro e w1 ⟨rfl,ho,H1⟩;have ht1:=ho.ai;have hv1:=hv.ai ht1;clear ho;dsimp only;go_wp2_with fail;refine (mL x _ hsz hv1.here).mono ?_;rintro e w2 ⟨rfl,hb2⟩;rw [hx];have H2:=H1.ak hb2;have ht2:al p w w2:=ht1.trans (aP hb2);clear H1 hb2 ht1 hv1;dsimp only;go_wp2;go_ret;exact ⟨rfl,ht2,H2⟩
theorem AT (p:Nat) (num dep:Int) (w:World) (H:ah w p num dep []) :
  () 191 #[p] w (cR p 2 num w):=by
 go_enter func191,ntmps191;go_wp2_with fail;refine (l8 p num dep _ H).mono ?_;rintro e w1 h1;have h2:=cC (al.refl p w) h1;obtain ⟨ht,b,h3,h4,rfl⟩:=h2;dsimp only;exact ⟨rfl,ht,b,h3,h4,rfl⟩
theorem FN (p:Nat) (num dep:Int) (x:ByteArray) (r:List ByteArray) (w:World) (H:ah w p num dep (x::r)) (hv:bH p w) (hx:Ref.cA x=false) :
  () 191 #[p] w (cR p 2 num w):=by
 have hsz:=H.sizes x zad;go_enter func191,ntmps191;go_wp2_with fail;refine (aF p num dep x r _ H).mono ?_;rintro e w1 ⟨rfl,ho,H1⟩;have ht1:=ho.ai;have hv1:=hv.ai ht1;clear ho;dsimp only;go_wp2_with fail;refine (ni x _ hsz hv1.here.err).mono ?_;rintro e w2 ⟨hb2,u,rfl,_⟩;rw [hx];have H2:=H1.ak hb2;obtain ⟨c0,c1⟩:=H2.cells;have ht2:al p w w2:=ht1.trans (aP hb2);clear H1 hb2 ht1 hv1;dsimp only;go_wp2_with fail;refine (aU num dep 2 _).mono ?_;rintro e w3 h3;obtain ⟨ht,b,h4,h5,rfl⟩:=cC ht2 h3;dsimp only;exact ⟨rfl,ht,b,h4,h5,rfl⟩
theorem DG (p:Nat) (num dep:Int) (x:ByteArray) (r:List ByteArray) (w:World) (H:ah w p num dep (x::r)) (hv:bH p w) (hx:Ref.cA x=true) :
  () 191 #[p] w fun e w'=>e = .returned (.int .u64 (Ref.dV x))/\al p w w'/\ah w' p num dep r:=by
 have hsz:=H.sizes x zad;go_enter func191,ntmps191;go_wp2_with fail;refine (aF p num dep x r _ H).mono ?_;rintro e w1 ⟨rfl,ho,H1⟩;have ht1:=ho.ai;have hv1:=hv.ai ht1;clear ho;dsimp only;go_wp2_with fail;refine (ni x _ hsz hv1.here.err).mono ?_;rintro e w2 ⟨hb2,u,rfl,hu⟩;rw [hx,hu hx];have H2:=H1.ak hb2;have ht2:al p w w2:=ht1.trans (aP hb2);clear H1 hb2 ht1 hv1 hu u;dsimp only;go_wp2;go_ret;exact ⟨rfl,ht2,H2⟩
theorem al.B2 {o:Nat} (h:al p w w1) (hN:w.heap.size<=N):al p w (w1.setCell ⟨N,o,none⟩ v):=by
 have ho:=aa w1 N o v;exact ⟨ho.os.trans h.os,ho.tape.trans h.tape,ho.output.trans h.output,by rw [ho.size];exact h.size,fun k hk hp=>(ho.block k zaa).trans (h.block k hk hp)⟩
theorem al.alloc (h:al p w w1) (o:Obj):al p w (w1.alloc o):=h.trans (aP ((Mw _ _).alloc (Mt _) _))
theorem al.drew (h:al p w w1):al p w w1.drew:=⟨h.os,h.tape,h.output,h.size,h.block⟩
theorem ah.only (H:ah w p num dep l) (ho:gV N w w') (hN:p<N):ah w' p num dep l:=by
 obtain ⟨a,cap,hp,hc,hs⟩:=H.row;refine ⟨⟨a,cap,?_,hc,fun h => ?_⟩,H.len,H.sizes⟩
 ·rw [ho.block p zaa];exact hp
 ·obtain ⟨b,off,h1,h2,h3,h4⟩:=hs h;refine ⟨b,off,h1,h2,by rw [ho.size];exact h3,fun i hi => ?_⟩;rw [ho.cell (p:=⟨b,off+i,none⟩) (show b≠N by omega)];exact h4 i hi
theorem ah.lt (H:ah w p num dep l):p<w.heap.size:=by
 obtain ⟨a,cap,hp,hc,hs⟩:=H.row;exact (Ms.1 hp).1
theorem ah.drew (H:ah w p num dep l):ah w.drew p num dep l:=H.ak (Mw _ _).drew
theorem bH.alloc (h:bH p w) (o:Obj):bH p (w.alloc o):=h.ai ((al.refl p w).alloc o)
theorem ah.alloc (H:ah w p num dep l) (o:Obj):ah (w.alloc o) p num dep l:=H.ak ((Mw _ _).alloc (Mt _) _)
theorem G8:Tryz.f272.results=#[.cell 2 254]:=rfl
theorem EI:(Tryz.prog.info? 254).map (·.size)=some 1:=zab
theorem Eh (p:Nat) (num dep:Int) (x:ByteArray) (r:List ByteArray) (w:World) (H:ah w p num dep (x::r)) (hv:bH p w) (hx:Ref.called x=true) :
  () 272 #[p] w fun e w'=>e = .returned (.agg #[x])/\al p w w'/\ah w' p num dep r:=by
 have hpl:=H.lt;go_enter func272,ntmps272;go_wp2_with fail;refine (lB p num dep x r _ (H.alloc _) (hv.alloc _) hx).mono ?_;rintro e w1 ⟨rfl,ht1,H1⟩;dsimp only;have hN:w1.heap[w.heap.size]?=some (.cells #[ByteArray.empty] 254 (0,0)):=by
  rw [ht1.block w zad zaa];exact MD w _
 have cN:w1.cell? w=some ↑ByteArray.empty:=by rw [My w1 _ 0 _ _ _ hN];rfl
 have fN:w1.frozen? ⟨w,0,none⟩=false:=zas;have ht:al p w w1:=((al.refl p w).alloc _).trans ht1;clear ht1;go_wp2;have h2:=MO w1 w 0 _ _ (.string x) hN;exact dP G8 _ 254 _ (0,0) _ rfl h2 underlying254 rfl EI rfl ⟨rfl,ht.B2 (Mt _),H1.only (aa _ _ _ _) hpl⟩
theorem BG (p:Nat) (num dep:Int) (w:World) (H:ah w p num dep []) :
  () 272 #[p] w (cR p 2 num w):=by
 go_enter func272,ntmps272;go_wp2_with fail;refine (i7 p num dep _ _ (H.alloc _)).mono ?_;rintro e w1 ⟨ht,b,h3,h4,rfl⟩;dsimp only;exact ⟨rfl,((al.refl p w).alloc _).trans ht,b,by simp at h3;omega,h4,rfl⟩
theorem Gz (p:Nat) (num dep:Int) (x:ByteArray) (r:List ByteArray) (w:World) (H:ah w p num dep (x::r)) (hv:bH p w) (hx:Ref.called x=false) :
  () 272 #[p] w (cR p 2 num w):=by
 go_enter func272,ntmps272;go_wp2_with fail;refine (mJ p num dep x r _ (H.alloc _) (hv.alloc _) hx).mono ?_;rintro e w1 ⟨ht,b,h3,h4,rfl⟩;dsimp only;exact ⟨rfl,((al.refl p w).alloc _).trans ht,b,by simp at h3;omega,h4,rfl⟩
namespace Pro
def pOf (P:ByteArray->Bool):List ByteArray->Option (ByteArray×List ByteArray)
 | []=>none
 | x::r=>if P x then some (x,r) else none
def gA:List ByteArray->Option (Int×List ByteArray)
 | []=>none
 | x::r=>if Ref.cA x then some (Ref.dV x,r) else none
def oY:ByteArray:=⟨#[114,97,105,115,101]⟩
def mE:ByteArray:=⟨#[115,101,110,100]⟩
def gC:ByteArray:=⟨#[99,97,110,99,101,108]⟩
def bAs:ByteArray:=⟨#[97,115]⟩
def dr (l:List ByteArray):Option ((ByteArray×Int×Option ByteArray)×List ByteArray) :=
 match pOf Ref.called l with
 | none=>none
 | some (x,l1)=>match gA l1 with
  | none=>none
  | some (d,[])=>some ((x,d,none),[])
  | some (d,y::r)=>if y.toList == bAs.toList then
    match pOf Ref.called r with
    | none=>none
    | some (a,l3)=>some ((x,d,some a),l3)
   else some ((x,d,none),y::r)
end Pro
theorem al.cell (h:al p w w') {a:Addr} (hb:a.block<w.heap.size) (hp:¬ a.block=p):w'.cell? a=w.cell? a:=MK (w:=w) (h.block a.block hb hp)
def eB (p:Nat) (num dep:Int) (res:Option (Value×List ByteArray)) (w:World) (e:Ending) (w':World):Prop:=match res with
 | none=>cR p 2 num w e w'
 | some (v,r)=>e = .returned v/\al p w w'/\ah w' p num dep r
theorem fs (p:Nat) (num dep:Int) (l:List ByteArray) (w:World) (H:ah w p num dep l) (hv:bH p w) :
  () 272 #[p] w (eB p num dep ((Pro.pOf Ref.called l).map fun q=>(.agg #[.string q.1],q.2)) w):=by
 cases l with
 | nil=>exact BG p num dep w H
 | cons x r =>
  cases hx:Ref.called x
  ·have:Pro.pOf Ref.called (x::r)=none:=zaz;rw [this];exact Gz p num dep x r w H hv hx
  ·have:Pro.pOf Ref.called (x::r)=some (x,r):=zaz;rw [this];exact Eh p num dep x r w H hv hx
theorem jA (p:Nat) (num dep:Int) (l:List ByteArray) (w:World) (H:ah w p num dep l) (hv:bH p w) :
  () 191 #[p] w (eB p num dep ((Pro.gA l).map fun q=>(.int .u64 q.1,q.2)) w):=by
 cases l with
 | nil=>exact AT p num dep w H
 | cons x r =>
  cases hx:Ref.cA x
  ·have:Pro.gA (x::r)=none:=by rw [Pro.gA,hx];rfl
   rw [this];exact FN p num dep x r w H hv hx
  ·have:Pro.gA (x::r)=some (Ref.dV x,r):=by rw [Pro.gA,hx];rfl
   rw [this];exact DG p num dep x r w H hv hx
theorem fW (p:Nat) (num dep:Int) (l:List ByteArray) (w:World) (H:ah w p num dep l) (hv:bH p w) :
  () 188 #[p,.func (.func 223) #[] #[]] w (eB p num dep ((Pro.pOf Ref.called l).map fun q=>(.string q.1,q.2)) w):=by
 cases l with
 | nil=>exact i7 p num dep _ w H
 | cons x r =>
  cases hx:Ref.called x
  ·have:Pro.pOf Ref.called (x::r)=none:=zaz;rw [this];exact mJ p num dep x r w H hv hx
  ·have:Pro.pOf Ref.called (x::r)=some (x,r):=zaz;rw [this];exact lB p num dep x r w H hv hx
def vx (x:ByteArray) (d:Int):Option ByteArray->Value
 | none => .iface 256 (.agg #[.string x,.int .u64 d])
 | some a => .iface 258 (.agg #[.string x,.int .u64 d,.string a])
theorem zR (p:Nat) (num dep:Int) (l:List ByteArray) (w:World) (H:ah w p num dep l) (hv:bH p w) :
  () 273 #[p] w (eB p num dep ((Pro.dr l).map fun q=>(vx q.1.1 q.1.2.1 q.1.2.2,q.2)) w):=by
 have hpl:=H.lt;cases hn:Pro.pOf Ref.called l with
 | none =>
  have HS:Hid (Pro.dr l=none):=by unfold Hid Pro.dr;rw [hn]
  go_enter func273,ntmps273;go_wp2_with fail;refine (fs p num dep l _ H hv).mono ?_;rintro e w1 h1;rw [hn] at h1;obtain ⟨ht,b,h3,h4,rfl⟩:=h1;dsimp only;refine ⟨rfl,?_⟩;rw [HS.out];exact ⟨ht,b,h3,h4,rfl⟩
 | some q =>
  obtain ⟨x,l1⟩:=q;cases hd:Pro.gA l1 with
  | none =>
   have HS:Hid (Pro.dr l=none):=by unfold Hid Pro.dr;rw [hn];simp only;rw [hd]
   go_enter func273,ntmps273;go_wp2_with fail;refine (fs p num dep l _ H hv).mono ?_;rintro e w1 h1;rw [hn] at h1;obtain ⟨rfl,ht1,H1⟩:=h1;dsimp only;go_wp2_with fail;refine (jA p num dep l1 _ H1 (hv.ai ht1)).mono ?_;rintro e w2 h2;rw [hd] at h2;obtain ⟨ht,b,h3,h4,rfl⟩:=h2;dsimp only;refine ⟨rfl,?_⟩;rw [HS.out];exact ⟨ht1.trans ht,b,Mv ht1.size h3,h4,rfl⟩
  | some q =>
   obtain ⟨d,l2⟩:=q;go_enter func273,ntmps273;go_wp2_with fail;refine (fs p num dep l _ H hv).mono ?_;rintro e w1 h1;rw [hn] at h1;obtain ⟨rfl,ht1,H1⟩:=h1;dsimp only;go_wp2_with fail;refine (jA p num dep l1 _ H1 (hv.ai ht1)).mono ?_;rintro e w2 h2;rw [hd] at h2;obtain ⟨rfl,ht2,H2⟩:=h2;dsimp only;have ht:=ht1.trans ht2;have hs2:=ht.size;clear ht1 ht2 H1;cases l2 with
   | nil =>
    have HS:Hid (Pro.dr l=some ((x,d,none),[])):=by unfold Hid Pro.dr;rw [hn];simp only;rw [hd]
    clear hn hd;go_wp2_with fail;refine (skip_none p num dep Pro.bAs _ (H2.alloc _)).mono ?_;exact zdL
   | cons y r =>
    cases hy:(y.toList == Pro.bAs.toList)
    ·have HS:Hid (Pro.dr l=some ((x,d,none),y::r)):=zb8;clear hn hd;go_wp2_with fail;refine (qD p num dep y r Pro.bAs _ (H2.alloc _) hy).mono ?_;exact zdL
    ·have HS:Hid (Pro.dr l=match Pro.pOf Ref.called r with | none=>none | some (a,l3)=>some ((x,d,some a),l3)):=zb8;clear hn hd;go_wp2_with fail;refine (jO p num dep y r Pro.bAs _ (H2.alloc _) hy).mono ?_;rintro e w3 ⟨rfl,ho3,H3⟩;have hp2:=H2.lt;have ht3:al p w w3:=(ht.alloc _).trans ho3.ai;have hN:w3.heap[w2.heap.size]?=some (.cells #[x,.int .u64 d] 256 (0,0)):=by
      rw [ho3.block w2 zaa];exact MD w2 _
     have cN0:w3.cell? w2=some ↑x:=by rw [My w3 _ 0 _ _ _ hN];rfl
     have cN1:w3.cell? ⟨w2,1,none⟩=some (.int .u64 d):=by rw [My w3 _ 1 _ _ _ hN];rfl
     have hNl:w2.heap.size<w3.heap.size:=(Ms.1 hN).1;clear ho3;dsimp only;go_wp2_with fail;have hv3:bH p w3.drew:=(hv.ai ht3).ai (al.refl p w3).drew;have H3d:ah w3.drew p num dep r:=H3.drew;have HN:Hid (w2.heap.size<w3.heap.size/\¬ w2.heap.size=p):=⟨hNl,zaa⟩;cases hr:Pro.pOf Ref.called r with
     | none =>
      have HS2:Hid (Pro.dr l=none):=by unfold Hid;rw [HS.out,hr]
      refine Oh zab ?_;change wpAny _ _ _ _ _ _ _ (World.drew _);refine yA [0,1] ?_;refine MA rfl (fun K hK => ?_) (MA rfl (fun K hK => ?_) MX)
      ·go_simp;refine hK _ _ ?_;clear hK K;refine zA 1 rfl fun K hK => ?_;exact zdb
      ·go_simp;refine hK _ _ ?_;clear hK K;refine yA [0,2] ?_;refine MA rfl (fun K hK => ?_) (MA rfl (fun K hK => ?_) MX)
       ·exact zdb
       ·go_simp
        (refine (fW p num dep r _ H3d hv3).mono ?_;rintro e w4 h4;rw [hr] at h4;obtain ⟨ht,b,h5,h6,rfl⟩:=h4;dsimp only;refine ⟨rfl,?_⟩;rw [HS2.out];exact ⟨ht3.trans ((al.refl p w3).drew.trans ht),b,Mv ht3.size h5,h6,rfl⟩)
     | some q =>
      obtain ⟨a,l3⟩:=q;have HS2:Hid (Pro.dr l=some ((x,d,some a),l3)):=by unfold Hid;rw [HS.out,hr]
      go_region_held3 (fun W=>W.cell? w2=some ↑x/\W.cell? ⟨w2,1,none⟩=some (.int .u64 d)) (first | go_keep | exact ⟨k0,k1⟩)
       ((go_at_call 188;refine (fW p num dep r _ H3d hv3).mono ?_;rintro e w4 h4;rw [hr] at h4;obtain ⟨rfl,ht4,H4⟩:=h4;have k0:=(ht4.cell (a:=⟨w2,0,none⟩) HN.out.1 HN.out.2).trans cN0;have k1:=(ht4.cell (a:=⟨w2,1,none⟩) HN.out.1 HN.out.2).trans cN1;dsimp only))
      go_wp2;go_ret;unfold eB;rw [HS2.out];exact ⟨rfl,ht3.trans ((al.refl p w3).drew.trans ht4),H4⟩
namespace Pro
def bF:List ByteArray->Option (Ref.Act×List ByteArray)
 | []=>none
 | x::r =>
  if x.toList == Ref.eS then (pOf Ref.called r).map fun q=>(⟨oY,q.1,ByteArray.empty,0⟩,q.2)
  else if x.toList == Ref.kX then (dr r).map fun q=>(⟨mE,q.1.1,q.1.2.2.getD ByteArray.empty,q.1.2.1⟩,q.2)
  else if x.toList == Ref.eJ then (pOf Ref.called r).map fun q=>(⟨gC,ByteArray.empty,q.1,0⟩,q.2)
  else none
end Pro
def bh (a:Ref.Act):Value :=
 if a.how.toList == Ref.eS then .iface 423 (.agg #[a.event])
 else if a.how.toList == Ref.eJ then .iface 260 (.agg #[a.id])
 else vx a.event a.delay (if a.id.size=0 then none else some a.id)
theorem nr:Pro.oY.toList=Ref.eS:=zar
theorem mj:Pro.mE.toList=Ref.kX:=zar
theorem gJ:Pro.gC.toList=Ref.eJ:=zar
theorem Et (h:Ref.plain s=true):¬ s.size=0:=by
 rw [Ref.plain,Na,Na,Pu] at h;omega
theorem AN (h:Ref.called s=true):¬ s.size=0:=by
 rw [Ref.called,Bool.or_eq_true] at h
 rcases h with h | h
 ·exact Et h
 ·rw [Ref.lu,Na] at h;have:=Ref.pM h.1;have e:Ref.bL.size=6:=rfl;omega
theorem gU {P:ByteArray->Bool} {l r:List ByteArray} {x:ByteArray} (h:Pro.pOf P l=some (x,r)):P x=true/\l=x::r:=by
 cases l with
 | nil=>cases h
 | cons y t =>
  rw [Pro.pOf] at h;split at h
  ·cases h;exact ⟨zam,rfl⟩
  ·cases h
theorem GO {d:Int} {a:ByteArray} (h:Pro.dr l=some ((x,d,some a),r)):¬ a.size=0:=by
 unfold Pro.dr at h;split at h
 ·cases h
 ·split at h
  ·cases h
  ·cases h
  ·split at h
   ·split at h
    ·cases h
    ·rename_i hq;cases h
     exact AN (gU hq).1
   ·cases h
theorem Ay (n:ByteArray):bh ⟨Pro.oY,n,ByteArray.empty,0⟩ = .iface 423 (.agg #[n]):=by
 unfold bh;rw [nr,MB zac]
theorem xR (n:ByteArray):bh ⟨Pro.gC,ByteArray.empty,n,0⟩ = .iface 260 (.agg #[n]):=by
 unfold bh;rw [gJ,Mz zac,MB zac]
theorem Dh {l r:List ByteArray} {x:ByteArray} {d:Int} {o:Option ByteArray} (h:Pro.dr l=some ((x,d,o),r)):bh ⟨Pro.mE,x,o.getD ByteArray.empty,d⟩=vx x d o:=by
 unfold bh;rw [mj,Mz zac,Mz zac];cases o with
 | none=>rfl
 | some a=>rw [Mz (show ¬ (Option.getD (some a) ByteArray.empty).size=0 from GO h)];rfl
theorem qM (p:Nat) (num dep:Int) (l:List ByteArray) (w:World) (H:ah w p num dep l) (hv:bH p w) :
  () 250 #[p] w (eB p num dep ((Pro.bF l).map fun q=>(bh q.1,q.2)) w):=by
 cases l with
 | nil =>
  go_enter func250,ntmps250;go_wp2_with fail;refine (l8 p num dep _ H).mono ?_;rintro e w1 h1;obtain ⟨ht,b,h3,h4,rfl⟩:=cC (al.refl p w) h1;dsimp only;exact ⟨rfl,ht,b,h3,h4,rfl⟩
 | cons x r =>
  cases h1:(x.toList == [114,97,105,115,101])
  ·cases h2:(x.toList == [115,101,110,100])
   ·cases h3:(x.toList == [99,97,110,99,101,108])
    ·have HS:Hid (Pro.bF (x::r)=none):=by unfold Hid;rw [Pro.bF,Ref.eS,h1,Ref.kX,h2,Ref.eJ,h3];rfl
     go_enter func250,ntmps250;go_wp2_with fail;refine (aF p num dep x r _ H).mono ?_;rintro e w1 ⟨rfl,ho,H1⟩;have ht1:=ho.ai;obtain ⟨c0,c1⟩:=H1.cells;clear ho;dsimp only;go_wp2_with fail;refine (aU num dep 2 _).mono ?_;rintro e w2 hq;obtain ⟨ht,b,h4,h5,rfl⟩:=cC ht1 hq;dsimp only;refine ⟨rfl,?_⟩;rw [HS.out];exact ⟨ht,b,h4,h5,rfl⟩
    ·cases hn:Pro.pOf Ref.called r with
     | none =>
      have HS:Hid (Pro.bF (x::r)=none):=zca;exact zc2
     | some q =>
      obtain ⟨n,r'⟩:=q;have HS:Hid (Pro.bF (x::r)=some (⟨Pro.gC,ByteArray.empty,n,0⟩,r')):=zca;go_enter func250,ntmps250;go_wp2_with fail;refine (aF p num dep x r _ H).mono ?_;rintro e w1 ⟨rfl,ho,H1⟩;have ht1:=ho.ai;clear ho;dsimp only;go_wp2_with fail;refine (fs p num dep r _ H1 (hv.ai ht1)).mono ?_;rintro e w2 hq;rw [hn] at hq;obtain ⟨rfl,ht2,H2⟩:=hq;clear hn;dsimp only;go_wp2;go_ret;unfold eB;rw [HS.out];exact ⟨by rw [xR];rfl,ht1.trans ht2,H2⟩
   ·cases hn:Pro.dr r with
    | none =>
     have HS:Hid (Pro.bF (x::r)=none):=zch;go_enter func250,ntmps250;go_wp2_with fail;refine (aF p num dep x r _ H).mono ?_;rintro e w1 ⟨rfl,ho,H1⟩;have ht1:=ho.ai;clear ho;dsimp only;go_wp2_with fail;refine (zR p num dep r _ H1 (hv.ai ht1)).mono ?_;rintro e w2 hq;rw [hn] at hq;obtain ⟨ht,b,h4,h5,rfl⟩:=hq;dsimp only;refine ⟨rfl,?_⟩;rw [HS.out];exact ⟨ht1.trans ht,b,Mv ht1.size h4,h5,rfl⟩
    | some q =>
     obtain ⟨⟨n,d,o⟩,r'⟩:=q;have HS:Hid (Pro.bF (x::r)=some (⟨Pro.mE,n,o.getD ByteArray.empty,d⟩,r')):=zch;have HV:Hid _:=Dh hn;go_enter func250,ntmps250;go_wp2_with fail;refine (aF p num dep x r _ H).mono ?_;rintro e w1 ⟨rfl,ho,H1⟩;have ht1:=ho.ai;clear ho;dsimp only;go_wp2_with fail;refine (zR p num dep r _ H1 (hv.ai ht1)).mono ?_;rintro e w2 hq;rw [hn] at hq;obtain ⟨rfl,ht2,H2⟩:=hq;clear hn;dsimp only;go_wp2;go_ret;unfold eB;rw [HS.out];exact ⟨by rw [HV.out];rfl,ht1.trans ht2,H2⟩
  ·cases hn:Pro.pOf Ref.called r with
   | none =>
    have HS:Hid (Pro.bF (x::r)=none):=by unfold Hid;rw [Pro.bF,Ref.eS,h1,hn];rfl
    exact zc2
   | some q =>
    obtain ⟨n,r'⟩:=q;have HS:Hid (Pro.bF (x::r)=some (⟨Pro.oY,n,ByteArray.empty,0⟩,r')):=by unfold Hid;rw [Pro.bF,Ref.eS,h1,hn];rfl
    go_enter func250,ntmps250;go_wp2_with fail;refine (aF p num dep x r _ H).mono ?_;rintro e w1 ⟨rfl,ho,H1⟩;have ht1:=ho.ai;clear ho;dsimp only;go_wp2_with fail;refine (fs p num dep r _ H1 (hv.ai ht1)).mono ?_;rintro e w2 hq;rw [hn] at hq;obtain ⟨rfl,ht2,H2⟩:=hq;clear hn;dsimp only;go_wp2;go_ret;unfold eB;rw [HS.out];exact ⟨by rw [Ay];rfl,ht1.trans ht2,H2⟩
namespace Ref
structure EY (a:Act):Prop where
 how:a.how.size<=1073741824
 event:a.event.size<=1073741824
 id:a.id.size<=1073741824
 delay:∃ n:Nat,a.delay=n/\n<=18446744073709551615
def CR (k:Int) (x:SV):Bool:=decide (x.s.up=k) && !(x.s.word.toList == bj)
def sG (X:List SV) (k:Int):Nat->List Nat
 | 0=>[]
 | i+1=>if (X[i]?.map (CR k)).getD false then sG X k i++[i] else sG X k i
def regions (X:List SV) (k:Int):List Nat:=sG X k X.length
end Ref
def Aq (w:World) (v:Value) (A:List Ref.Act):Prop:=Row w 220 4 Ref.Fc v A
namespace Ref
def Cn (X:List SV) (k:Int):SV:=X.getD k.toNat ⟨⟨ByteArray.empty,ByteArray.empty,false,0,0,0,[],[],[],0,0⟩,Sl.nil,Sl.nil,Sl.nil⟩
def sg (X:List SV) (u:Int):Bool:=X.all fun y => !decide (y.s.up=u)
def fits (X:List SV) (x:SV):Bool :=
 if decide (X.length=24)||(decide (5<x.s.depth)||(decide (x.s.up<0)&&(x.s.word.toList == bj))) then false
 else if x.s.up<0 then true
 else if ((Cn X x.s.up).s.word.toList == bX)||((Cn X x.s.up).s.word.toList == bj) then false
 else if (Cn X x.s.up).s.word.toList == aM then !(x.s.word.toList == bX)
 else !sg X x.s.up || !(x.s.word.toList == bj)
def C7 (ms:List Move):Bool:=ms.any (·.after)
def vJ (X:List SV):Bool:=X.any fun x=>C7 x.s.aj
def km (X:List SV) (t:Bool) (m:Move):Bool:=(!(m.to.toList == [])&&decide (place X m.to<0))||(t&&(b7 m.aw||(!m.after&&cy m.event bL)))
def sQ (X:List SV) (t:Bool) (at':Int) (m:Move):Int:=if km X t m then fi at' m.line else at'
def Hr (t:Bool) (a2:Int) (x:State):Int :=
 if t&&b7 x.leave then fi (if t&&b7 x.enter then fi a2 x.has0 else a2) x.has1 else if t&&b7 x.enter then fi a2 x.has0 else a2
def pI (X:List SV) (t:Bool) (k:Nat) (at':Int) (x:State):Int :=
 Hr t (x.aj.foldl (sQ X t) (if place X x.name<k then fi at' x.line else at')) x
def n8 (X:List SV) (t:Bool):Nat->Int
 | 0=>0
 | k+1=>match X[k]? with
  | some x=>pI X t k (n8 X t k) x.s
  | none=>n8 X t k
def named (X:List SV):Int:=n8 X (vJ X) X.length
end Ref
def Ik (w:World) (vm:Ref.Sl) (M:List Ref.MV):Prop:=Row w 203 6 Ref.JE vm.v M/\∀ x∈M,Aq w x.v.v x.m.aw
structure Kv (m:Ref.Move):Prop where
 event:m.event.size<=1073741824
 dst:m.to.size<=1073741824
 aw:∀ a∈m.aw,Ref.EY a
 len:m.aw.length<=1048576
structure Deep (w:World) (x:Ref.SV):Prop where
 aj:∃ M:List Ref.MV,M.map (·.m)=x.s.aj/\Ik w x.vm M
 enter:Aq w x.ve.v x.s.enter
 leave:Aq w x.vl.v x.s.leave
 okM:∀ m∈x.s.aj,Kv m
 okE:∀ a∈x.s.enter,Ref.EY a
 okL:∀ a∈x.s.leave,Ref.EY a
 lenM:x.s.aj.length<=1048576
 lenE:x.s.enter.length<=1048576
 lenL:x.s.leave.length<=1048576
 name:x.s.name.size<=1073741824
namespace Ref
def emb (s:State):SV:=⟨s,Sl.nil,Sl.nil,Sl.nil⟩
def st0:State:=⟨ByteArray.empty,ByteArray.empty,false,0,0,0,[],[],[],0,0⟩
def ga (S:List State) (d:Int):Nat->Int
 | 0 => -1
 | k+1=>if (S.getD k st0).depth=d-1 then (k:Int) else if (S.getD k st0).depth<d-1 then -1 else ga S d k
def dv (S:List State) (d:Int):Int:=if 0<d then ga S d S.length else -1
def jL (x:jU) (up d:Int):State:=⟨x.word,x.name,x.deep,up,d,x.sline,[],[],[],0,0⟩
def gj (S:List State) (k:Nat) (f:State->State):List State:=S.set k (f (S.getD k st0))
def bB (S:List State) (i:Nat) (x:jU) (d:Int):Option (List State) :=
 if 0<d/\dv S d<0 then none
 else if x.kind=115 then
  if fits (S.map emb) (emb (jL x (dv S d) d)) then some (S++[jL x (dv S d) d]) else none
 else if dv S d<0 then none
 else if (S.getD (dv S d).toNat st0).word.toList == bj then none
 else if x.kind=109 then
  if (S.getD (dv S d).toNat st0).word.toList == bX then none
  else some (gj S (dv S d).toNat fun p=>{ p with aj:=p.aj++[x.m] })
 else if x.kind=101 then
  if 0<(S.getD (dv S d).toNat st0).has0 then none
  else some (gj S (dv S d).toNat fun p=>{ p with has0:=i+1,enter:=x.aw })
 else if x.kind=108 then
  if 0<(S.getD (dv S d).toNat st0).has1 then none
  else some (gj S (dv S d).toNat fun p=>{ p with has1:=i+1,leave:=x.aw })
 else some S
def a8 (A:List (jU×Int)):Nat->Option (List State)
 | 0=>some []
 | i+1=>match a8 A i with
  | none=>none
  | some S=>match A[i]? with
   | none=>some S
   | some (x,d)=>bB S i x d
def dK (S:List State):Nat->Option Int
 | 0=>none
 | k+1=>match dK S k with
  | some l=>some l
  | none=>if ((S.getD k st0).word.toList == aM)&&(regions (S.map emb) k).isEmpty then some (S.getD k st0).line else none
theorem su {S:List State} {i:Nat} {l:Int} (h:dK S i=some l):∀ j,i<=j->dK S j=some l
 | 0,hj=>by rw [Rz.1 hj] at h;exact h
 | j+1,hj=>by
  by_cases e:i=j+1
  ·rw [<- e];exact h
  ·rw [dK,su h j zaa]
structure LV where
 L:jU
 vm:Sl
 vd:Sl
end Ref
def eo (n:Nat):List Value:=[(n:Int)]
namespace Ref
def gD (y:SV) (i:Int) (A:List Act) (v:Sl):SV:={ y with s:={ y.s with has0:=i,enter:=A },ve:=v }
def gE (y:SV) (i:Int) (A:List Act) (v:Sl):SV:={ y with s:={ y.s with has1:=i,leave:=A },vl:=v }
end Ref
theorem Row.range {α:Type} {f:α->List Value} {X:List α} (hf:∀ x,(f x).length=n) (h:Row w e n f (.slice g X.length cap) X) {i:Nat} (hi:i<X.length) :
  w.rangeAt g (i*n) (f X[i]):=by
 intro j v hj;have hjn:j<n:=by rw [<- hf X[i]];exact (Mx.1 hj).1
 rw [Row.cell hf h hjn hi];exact hj
theorem lO (S:List Ref.State) (d:Int):∀ m:Nat,Ref.ga S d m<m
 | 0=>by simp [Ref.ga]
 | m+1=>by
  have:=lO S d m;exact ze7
theorem oS (S:List Ref.State) (d:Int) (h:¬ Ref.dv S d<0):Ref.dv S d<S.length:=by
 unfold Ref.dv at h ⊢;split
 ·exact lO S d S.length
 ·rename_i h0;rw [Mz h0] at h;exact absurd zac h
theorem lN (S:List Ref.State) (d:Int):∀ m:Nat,-1<=Ref.ga S d m
 | 0=>by simp [Ref.ga]
 | m+1=>by
  have:=lN S d m;exact ze7
theorem C8 (S:List Ref.State) (d:Int) : -1<=Ref.dv S d:=by
 unfold Ref.dv;split
 ·exact lN S d S.length
 ·decide
theorem rD {α:Type} {f:α->List Value} {n:Nat} (hf:∀ x,(f x).length=n):∀ (X:List α) (i j:Nat) (v:Value) (x':α),j<n->∀ (h:i<X.length),f x'=(f X[i]).set j v->(X.flatMap f).set (i*n+j) v=(X.set i x').flatMap f
 | [],i,j,v,x',_,h,_=>by simp at h
 | x::X,0,j,v,x',hj,_,e=>by
  rw [NT,Qq,OM,List.set_append_left _ _ (by rw [hf];exact hj),List.set_cons_zero,NT,e];rfl
 | x::X,i+1,j,v,x',hj,h,e=>by
  have hlen:(f x).length=n:=hf x;rw [NT,QV,P5 _ _ (by rw [hlen];omega),hlen,List.set_cons_succ,NT];rw [show i*n+n+j-n=i*n+j from by omega,rD hf X i j v x' hj zaC e]
theorem mg {e':TypeId} {c:Array Value} {fz:Nat×Nat} (h:w.ownsRow base e size v n xs) (ho:gV g w w') (hg:w.heap[g]?=some (.cells c e' fz)) (hne:e≠e'):w'.ownsRow base e size v n xs:=by
 refine ⟨h.1,?_⟩
 rcases h.2 with h' | ⟨k,cap,cur,hv,hb,hk,r⟩
 ·exact .inl h'
 ·have hkg:k≠g:=by
   intro e0;subst e0;rw [hg] at hk;simp only [Option.some.injEq,Obj.cells.injEq] at hk;exact hne hk.2.1.symm
  exact .inr ⟨k,cap,cur,hv,hb,by rw [ho.block k hkg];exact hk,r⟩
theorem bf (h:w.ownsRow base e size v n xs) (hb:Below w w w'):w'.ownsRow base e size v n xs:=by
 refine ⟨h.1,?_⟩
 rcases h.2 with h' | ⟨g,cap,cur,hv,hb',hg,r⟩
 ·exact .inl h'
 ·exact .inr ⟨g,cap,cur,hv,hb',by rw [hb.block g ((Ms.1 hg).1)];exact hg,r⟩
theorem fK {A:List (Ref.jU×Int)} {i:Nat} (h:Ref.a8 A i=none):∀ j,i<=j->Ref.a8 A j=none
 | 0,hj=>by rw [Rz.1 hj] at h;exact h
 | j+1,hj=>by
  by_cases e:i=j+1
  ·rw [<- e];exact h
  ·rw [Ref.a8,fK h j zaa]
namespace Pro
def bDo:ByteArray:=⟨#[100,111]⟩
def gn:Nat->List ByteArray->Option (List Ref.Act×List ByteArray)
 | 0,l=>some ([],l)
 | _+1,[]=>some ([],[])
 | f+1,x::r =>
  if x.toList == bDo.toList then
   match bF r with
   | none=>none
   | some (a,r')=>match gn f r' with
    | none=>none
    | some (A,t)=>some (a::A,t)
  else some ([],x::r)
def a7 (l:List ByteArray):Option (List Ref.Act×List ByteArray):=gn l.length l
theorem qB {P:ByteArray->Bool} (h:pOf P l=some (x,r)):r.length+1=l.length:=by
 rw [(gU h).2];rfl
theorem nj {l r:List ByteArray} {d:Int} (h:gA l=some (d,r)):r.length+1=l.length:=by
 cases l with
 | nil=>cases h
 | cons y t =>
  rw [gA] at h;split at h
  ·cases h;rfl
  ·cases h
theorem Eo {q:ByteArray×Int×Option ByteArray} (h:dr l=some (q,r)):r.length<l.length:=by
 unfold dr at h;split at h
 ·cases h
 ·rename_i x l1 h1;have e1:=qB h1;split at h
  ·cases h
  ·rename_i d h2;have e2:=nj h2;cases h;simp at e2 ⊢;omega
  ·rename_i d y t h2;have e2:=nj h2;simp only [List.length_cons] at e2;split at h
   ·split at h
    ·cases h
    ·rename_i a l3 h3;have e3:=qB h3;cases h;omega
   ·cases h;simp only [List.length_cons];omega
theorem ja {l r:List ByteArray} {a:Ref.Act} (h:bF l=some (a,r)):r.length<l.length:=by
 cases l with
 | nil=>cases h
 | cons x t =>
  rw [bF] at h;simp only [List.length_cons];split at h
  ·exact zeg
  ·split at h
   ·obtain ⟨⟨n,r'⟩,h1,h2⟩:=MZ.1 h;cases h2
    have:=Eo h1;dsimp only at this ⊢;omega
   ·split at h
    ·exact zeg
    ·cases h
theorem so:∀ (f g:Nat) (l:List ByteArray),l.length<=f->l.length<=g->gn f l=gn g l
 | 0,0,l,_,_=>rfl
 | 0,g+1,[],_,_=>rfl
 | f+1,0,[],_,_=>rfl
 | f+1,g+1,[],_,_=>rfl
 | 0,_,x::r,h,_=>by simp at h
 | _+1,0,x::r,_,h=>by simp at h
 | f+1,g+1,x::r,hf,hg=>by
  simp only [gn];split
  ·cases h:bF r with
   | none=>rfl
   | some q =>
    obtain ⟨a,r'⟩:=q;have:=ja h;simp only [List.length_cons] at hf hg;simp only;rw [so f g r' zaa zaa]
  ·rfl
theorem jo (h:(x.toList == bDo.toList)=false):a7 (x::r)=some ([],x::r):=by
 show gn (r.length+1) (x::r)=_;rw [gn,h];rfl
theorem jn (h:(x.toList == bDo.toList)=true) (h2:bF r=none):a7 (x::r)=none:=by
 show gn (r.length+1) (x::r)=_;rw [gn,h,h2];rfl
theorem jm {x:ByteArray} {r r':List ByteArray} {a:Ref.Act} (h:(x.toList == bDo.toList)=true) (h2:bF r=some (a,r')):a7 (x::r)=(a7 r').map fun q=>(a::q.1,q.2):=by
 have:=ja h2;show gn (r.length+1) (x::r)=_;rw [gn,h,MB rfl,h2];simp only;rw [so r.length r'.length r' zaa (Mt _)];show _=(gn r'.length r').map _;cases gn r'.length r' with
 | none=>rfl
 | some q=>rfl
end Pro
theorem sj (h:w.ownsRow base e size v n xs) (ht:al p w w') (hp:p<base):w'.ownsRow base e size v n xs:=by
 refine ⟨h.1,?_⟩
 rcases h.2 with h' | ⟨k,cap,cur,hv,hb,hk,r⟩
 ·exact .inl h'
 ·exact .inr ⟨k,cap,cur,hv,hb,by rw [ht.block k (Ms.1 hk).1 zaa];exact hk,r⟩
theorem al.grown (h:al p w w1) (hg:w1.grownBy w2 row) (hr:∀ k,row=some k->w.heap.size<=k):al p w w2 :=
 ⟨hg.os.trans h.os,hg.tape.trans h.tape,hg.output.trans h.output,Mv h.size hg.size,fun k hk hp=>(hg.block k (MR hk h.size) (fun e=>by have:=hr k e.symm;omega)).trans (h.block k hk hp)⟩
theorem ah.grown (H:ah w p num dep l) (hg:w.grownBy w' row) (hr:∀ k,row=some k->p<k):ah w' p num dep l:=by
 obtain ⟨a,cap,hp,hc,hs⟩:=H.row;refine ⟨⟨a,cap,?_,hc,fun h => ?_⟩,H.len,H.sizes⟩
 ·rw [hg.block p (Ms.1 hp).1 (fun e=>by have:=hr p e.symm;omega)];exact hp
 ·obtain ⟨b,off,h1,h2,h3,h4⟩:=hs h;refine ⟨b,off,h1,h2,MR h3 hg.size,fun i hi => ?_⟩;rw [hg.cell_far ⟨b,off+i,none⟩ h3 (fun e=>by have:=hr b e.symm;omega)];exact h4 i hi
theorem mX:(Tryz.prog.info? 251).map (fun i=>(i.zero,i.size,i.bytes))=some (some .nilIface,1,16):=zab
def gG (p:Nat) (num dep:Int) (l:List ByteArray) (w:World) (e:Ending) (w':World):Prop:=match Pro.a7 l with
 | none=>cR p 2 num w e w'
 | some (A,r)=>∃ a n c,e = .returned (.slice a n c)/\w'.ownsRow w.heap.size 251 1 (.slice a n c) A.length (A.map bh)/\al p w w'/\ah w' p num dep r
theorem Aw (a:Ref.Act):∃ t u,bh a = .iface t u:=by
 unfold bh vx
 repeat' split
 all_goals exact ⟨_,_,rfl⟩
theorem iV (p:Nat) (num dep:Int) (l:List ByteArray) (w:World) (H:ah w p num dep l) (hv:bH p w) :
  () 221 #[p] w (gG p num dep l w):=by
 have hpl:=H.lt;have hll:=H.len;obtain ⟨i0,hi0,hz0,hz1,hz2⟩:=N4 mX;go_enter func221,ntmps221;go_wp2_with fail
 go_loopg [3] l.length (fun q v wr=>∃ (va:Option Addr) (vn vc:Nat) (A:List Ref.Act) (l':List ByteArray),q=l'.length/\v = .slice va vn vc/\A.length+l'.length<=l.length/\Pro.a7 l=(Pro.a7 l').map (fun q=>(A++q.1,q.2))/\wr.ownsRow w 251 1 (.slice va vn vc) A.length (A.map bh)/\al p w wr/\ah wr p num dep l')
 case atStart=>exact ⟨none,0,0,[],l,rfl,rfl,zad,by cases Pro.a7 l <;> rfl,ND _ _ _ _,al.refl _ _,H⟩
 case round =>
  obtain ⟨va,vn,vc,A,l',hq,rfl,hlen,hP,hown,ht,H'⟩:=hrel;have HP:Hid _:=hP;clear hP;have hsz:=ht.size;cases l' with
  | nil =>
   go_wp2_with (go_at_call 220;refine (skip_none p num dep Pro.bDo _ H').mono ?_;rintro e w9 ⟨rfl,hw9⟩;rw [hw9];clear hw9 w9);go_ret;unfold gG;rw [HP.out];exact ⟨va,vn,vc,rfl,zbm,ht,H'⟩
  | cons x r =>
   cases hx:(x.toList == Pro.bDo.toList)
   ·have HS:Hid _:=Pro.jo (r:=r) hx;go_wp2_with (go_at_call 220;refine (qD p num dep x r Pro.bDo _ H' hx).mono ?_;rintro e w9 ⟨rfl,hw9⟩;rw [hw9];clear hw9 w9);go_ret;unfold gG;rw [HP.out,HS.out];exact ⟨va,vn,vc,rfl,zbm,ht,H'⟩
   ·cases ha:Pro.bF r with
    | none =>
     have HS:Hid (Pro.a7 l=none):=by unfold Hid;rw [HP.out,Pro.jn hx ha];rfl
     go_wp2_with fail;refine (jO p num dep x r Pro.bDo _ H' hx).mono ?_;rintro e w1 ⟨rfl,ho1,H1⟩;have ht1:=ht.trans ho1.ai;clear ho1;dsimp only;go_wp2_with fail;refine (qM p num dep r _ H1 (hv.ai ht1)).mono ?_;rintro e w2 hq2;rw [ha] at hq2;obtain ⟨ht2,b,h4,h5,rfl⟩:=hq2;dsimp only;refine ⟨rfl,?_⟩;unfold gG;rw [HS.out];exact ⟨ht1.trans ht2,b,Mv ht1.size h4,h5,rfl⟩
    | some q =>
     obtain ⟨a,r'⟩:=q;have hal:=Pro.ja ha;have HS:Hid (Pro.a7 l=(Pro.a7 r').map (fun q=>((A++[a])++q.1,q.2))):=by
      unfold Hid;rw [HP.out,Pro.jm hx ha];cases Pro.a7 r' with
      | none=>rfl
      | some q=>simp
     go_wp2_with fail;refine (jO p num dep x r Pro.bDo _ H' hx).mono ?_;rintro e w1 ⟨rfl,ho1,H1⟩;have ht1:=ht.trans ho1.ai;have hown1:=sj hown ho1.ai hpl;clear ho1;dsimp only;go_wp2_with fail;refine (qM p num dep r _ H1 (hv.ai ht1)).mono ?_;rintro e w2 hq2;rw [ha] at hq2;obtain ⟨rfl,ht2,H2⟩:=hq2;have hown2:=sj hown1 ht2 hpl;have ht3:=ht1.trans ht2;have hs3:=ht3.size;clear ha H1 ht1 ht2 hown1 hown;simp only [List.length_cons] at hlen;dsimp only;obtain ⟨at1,au1,hav⟩:=Aw a;rw [hav];have HAV:Hid _:=hav;clear hav;go_wp2_with (at_builtin;refine wpList_append_lies _ zae (.tmp 6) (.tmp 9) _ zae w.heap.size 251 i0 _ 1 16 underlying160 hi0 hz0 hz1 hz2 rfl zac (.slice va vn vc) A.length (A.map bh) zae (OG hown2 _) ⟨w2,0,none⟩ 1 1 [.iface at1 au1] zae zae (World.news_of_block (cs:=#[.iface at1 au1]) (t:=251) (fr:=(0,0)) (MD w2 _)) (by intro u hu;rw [ME.1 hu];rfl) zaa zag zaa zaf (w2.heap.size+1) zad ?_;intro g5 cap5 w5 hown5 hgrow hat hlt5)
     go_roundg r'.length
     case measure=>omega
     case rel =>
      refine ⟨some ⟨g5,0,none⟩,A.length+1,cap5,A++[a],r',rfl,rfl,zaf,HS.out,?_,(ht3.alloc _).grown hgrow (fun k e=>(Nc hown2 k e).1),(H2.alloc _).grown hgrow (fun k e=>MR hpl (Nc hown2 k e).1)⟩;rw [MN,Ny,OQ,List.map_nil,HAV.out];exact hown5
theorem EB:Tryz.f192.results=#[.cell 2 360]:=rfl
theorem B4:(Tryz.prog.info? 360).map (·.size)=some 3:=zab
namespace Pro
def cG (l:List ByteArray):Option (List Ref.Act×List ByteArray):=match a7 l with
 | none=>none
 | some ([],_)=>none
 | some (a::A,r)=>some (a::A,r)
end Pro
def ew (p:Nat) (num dep:Int) (l:List ByteArray) (w:World) (e:Ending) (w':World):Prop:=match Pro.cG l with
 | none=>cR p 2 num w e w'
 | some (A,r)=>∃ a n c,e = .returned (.agg #[.int .i64 num,.int .i64 dep,.slice a n c])/\w'.ownsRow w.heap.size 251 1 (.slice a n c) A.length (A.map bh)/\al p w w'/\ah w' p num dep r
theorem gV.trans (h:gV g a b) (k:gV g b c):gV g a c:=⟨k.os.trans h.os,k.tape.trans h.tape,k.output.trans h.output,k.size.trans h.size,fun i hi=>(k.block i hi).trans (h.block i hi)⟩
theorem al.iu (h:al p w w1) (ho:gV N w1 w2) (hN:w.heap.size<=N):al p w w2 :=
 ⟨ho.os.trans h.os,ho.tape.trans h.tape,ho.output.trans h.output,by rw [ho.size];exact h.size,fun k hk hp=>(ho.block k zaa).trans (h.block k hk hp)⟩
theorem jZ (p:Nat) (num dep:Int) (l:List ByteArray) (w:World) (H:ah w p num dep l) (hv:bH p w) :
  () 192 #[p] w (ew p num dep l w):=by
 have hpl:=H.lt;cases ha:Pro.a7 l with
 | none =>
  have HS:Hid (Pro.cG l=none):=zbM;go_enter func192,ntmps192;go_wp2_with fail;refine (iV p num dep l _ (H.alloc _) (hv.alloc _)).mono ?_;rintro e w1 h1;unfold gG at h1;rw [ha] at h1;obtain ⟨ht,b,h4,h5,rfl⟩:=h1;dsimp only;refine ⟨rfl,?_⟩;unfold ew;exact zev
 | some q =>
  obtain ⟨A,r⟩:=q;cases A with
  | nil =>
   have HS:Hid (Pro.cG l=none):=zbM;go_enter func192,ntmps192;go_wp2_with fail;refine (iV p num dep l _ (H.alloc _) (hv.alloc _)).mono ?_;rintro e w1 h1;unfold gG at h1;rw [ha] at h1;obtain ⟨a,n,c,rfl,hown,ht1,H1⟩:=h1;obtain rfl:n=0:=by
    rcases hown.2 with ⟨hv',_⟩ | ⟨g,cap,cur,hv',_⟩
    ·exact ze2
    ·exact ze2
   obtain ⟨c0,c1⟩:=H1.cells;have ht:al p w w1:=((al.refl p w).alloc _).trans ht1;clear ht1 hown ha;dsimp only;go_wp2_with fail;refine (aU num dep 2 _).mono ?_;rintro e w2 hq;obtain ⟨ht',b,h4,h5,rfl⟩:=cC ht hq;dsimp only;refine ⟨rfl,?_⟩;unfold ew;rw [HS.out];exact ⟨ht',b,h4,h5,rfl⟩
  | cons a0 A =>
   have HS:Hid (Pro.cG l=some (a0::A,r)):=zbM;go_enter func192,ntmps192;go_wp2_with fail;refine (iV p num dep l _ (H.alloc _) (hv.alloc _)).mono ?_;rintro e w1 h1;unfold gG at h1;rw [ha] at h1;obtain ⟨a,n,c,rfl,hown,ht1,H1⟩:=h1;obtain rfl:n=(a0::A).length:=by
    rcases hown.2 with ⟨hv',h0⟩ | ⟨g,cap,cur,hv',_⟩
    ·simp only [Value.slice.injEq] at hv';rw [h0];exact hv'.2.1
    ·exact ze2
   have hN:w1.heap[w.heap.size]?=some (.cells #[(0:Int),(0:Int),.slice none 0 0] 360 (0,0)):=by
    rw [ht1.block w zad zaa];exact MD w _
   have d0:w1.cell? w=some ↑(0:Int):=by rw [My w1 _ 0 _ _ _ hN];rfl
   have d1:w1.cell? ⟨w,1,none⟩=some ↑(0:Int):=by rw [My w1 _ 1 _ _ _ hN];rfl
   have d2:w1.cell? ⟨w,2,none⟩=some (.slice none 0 0):=by rw [My w1 _ 2 _ _ _ hN];rfl
   have f0:w1.frozen? ⟨w,0,none⟩=false:=zas;have f1:w1.frozen? ⟨w,1,none⟩=false:=zas;have f2:w1.frozen? ⟨w,2,none⟩=false:=zas;obtain ⟨c0,c1⟩:=H1.cells;have ht:al p w w1:=((al.refl p w).alloc _).trans ht1;have hown':=aD hown (show w.heap.size<=(w.alloc (.cells #[(0:Int),(0:Int),.slice none 0 0] 360)).heap.size by simp);have hpos:(((a0::A).length:Int) == 0)=false:=zaf;clear ht1 ha hown;generalize hm:(a0::A).length=m at *;have HM:Hid _:=hm;clear hm;dsimp only;go_wp2;have o1:=aa w1 w 0 (.int .i64 num);have o2:=aa (w1.setCell w (.int .i64 num)) w.heap.size 1 (.int .i64 dep);have o3:=aa ((w1.setCell w (.int .i64 num)).setCell ⟨w,1,none⟩ (.int .i64 dep)) w.heap.size 2 (.slice a m c);have oo:=(o1.trans o2).trans o3;have g1:=MO w1 w 0 _ _ (.int .i64 num) hN;have g2:=MO _ w 1 _ _ (.int .i64 dep) g1;have g3:=MO _ w 2 _ _ (.slice a m c) g2;refine dP EB _ 360 _ (0,0) _ rfl g3 underlying360 rfl B4 rfl ?_;unfold ew;rw [HS.out];exact ⟨a,m,c,rfl,by rw [HM.out];exact mg hown' oo hN zac,ht.iu oo (Mt _),H1.only oo hpl⟩
theorem ed (p:Nat) (num dep:Int) (l:List ByteArray) (w:World) (H:ah w p num dep l) (hv:bH p w) :
  () 188 #[p,.func (.func 219) #[] #[]] w (eB p num dep ((Pro.pOf Ref.plain l).map fun q=>(.string q.1,q.2)) w):=by
 cases l with
 | nil=>exact i7 p num dep _ w H
 | cons x r =>
  cases hx:Ref.plain x
  ·have:Pro.pOf Ref.plain (x::r)=none:=zaz;rw [this];exact r9 p num dep x r w H hv hx
  ·have:Pro.pOf Ref.plain (x::r)=some (x,r):=zaz;rw [this];exact qh p num dep x r w H hv hx
theorem fu (p:Nat) (num dep:Int) (l:List ByteArray) (w:World) (H:ah w p num dep l) (hv:bH p w) :
  () 188 #[p,.func (.func 189) #[] #[]] w (eB p num dep ((Pro.pOf Ref.bZ l).map fun q=>(.string q.1,q.2)) w):=by
 cases l with
 | nil=>exact i7 p num dep _ w H
 | cons x r =>
  cases hx:Ref.bZ x
  ·have:Pro.pOf Ref.bZ (x::r)=none:=zaz;rw [this];exact n9 p num dep x r w H hv hx
  ·have:Pro.pOf Ref.bZ (x::r)=some (x,r):=zaz;rw [this];exact nh p num dep x r w H hv hx
theorem G9:Tryz.f185.results=#[.cell 4 352]:=rfl
theorem gF:(Tryz.prog.info? 352).map (·.size)=some 4:=zab
theorem oN (p:Nat) (num dep k:Int) (l:List ByteArray) (w:World) (H:ah w p num dep l) (hv:bH p w) (hn:Pro.pOf Ref.plain l=none) :
  () 185 #[p,(k:Int)] w (cR p 2 num w):=by
 have hpl:=H.lt;obtain ⟨c0,c1⟩:=H.cells;go_enter func185,ntmps185;go_wp2_with fail;have H1:=(H.alloc (.cells #[(0:Int),(0:Int),(0:Int),ByteArray.empty] 352)).drew;have hv1:bH p (w.alloc (.cells #[(0:Int),(0:Int),(0:Int),ByteArray.empty] 352)).drew:=(hv.alloc _).ai (al.refl p _).drew;refine Oh zab ?_;change wpAny _ _ _ _ _ _ _ (World.drew _);refine tA 0 p rfl ?_;refine tA 1 p rfl ?_;refine tA 2 p rfl ?_;refine tA 4 (.int .i64 k) rfl ?_;refine tA 5 p rfl ?_;refine yA [3,6] ?_;refine MA rfl (fun K hK => ?_) (MA rfl (fun K hK => ?_) MX)
 ·go_simp;refine hK _ _ ?_;clear hK K;refine zA 6 rfl fun K hK => ?_;exact zdq
 ·exact zdq
theorem mu (p:Nat) (num dep k:Int) (l r:List ByteArray) (x:ByteArray) (w:World) (H:ah w p num dep l) (hv:bH p w) (hn:Pro.pOf Ref.plain l=some (x,r)) :
  () 185 #[p,(k:Int)] w fun e w'=>e = .returned (.agg #[(num:Int),(dep:Int),(k:Int),x])/\al p w w'/\ah w' p num dep r:=by
 have hpl:=H.lt;obtain ⟨c0,c1⟩:=H.cells;go_enter func185,ntmps185;go_wp2_with fail;have H1:=(H.alloc (.cells #[(0:Int),(0:Int),(0:Int),ByteArray.empty] 352)).drew;have hv1:bH p (w.alloc (.cells #[(0:Int),(0:Int),(0:Int),ByteArray.empty] 352)).drew:=(hv.alloc _).ai (al.refl p _).drew;go_region_held3 (fun W=>W.cell? p=some ↑(num:Int)/\W.cell? ⟨p,1,none⟩=some ↑(dep:Int)) (first | go_keep | exact ⟨k0,k1⟩ | exact ⟨k2,k3⟩)
  ((go_at_call 188;refine (ed p num dep l _ H1 hv1).mono ?_;rintro e w4 h4;rw [hn] at h4;obtain ⟨rfl,ht4,H4⟩:=h4;obtain ⟨k0,k1⟩:=H4.cells;have hN:w4.heap[w.heap.size]?=some (.cells #[(0:Int),(0:Int),(0:Int),ByteArray.empty] 352 (0,0)):=(ht4.block w zad zaa).trans (MD w _);have d0:w4.cell? w=some ↑(0:Int):=by rw [My w4 _ 0 _ _ _ hN];rfl
    have d1:w4.cell? ⟨w,1,none⟩=some ↑(0:Int):=by rw [My w4 _ 1 _ _ _ hN];rfl
    have d2:w4.cell? ⟨w,2,none⟩=some ↑(0:Int):=by rw [My w4 _ 2 _ _ _ hN];rfl
    have d3:w4.cell? ⟨w,3,none⟩=some ↑ByteArray.empty:=by rw [My w4 _ 3 _ _ _ hN];rfl
    have f0:w4.frozen? ⟨w,0,none⟩=false:=zas;have f1:w4.frozen? ⟨w,1,none⟩=false:=zas;have f2:w4.frozen? ⟨w,2,none⟩=false:=zas;have f3:w4.frozen? ⟨w,3,none⟩=false:=zas;have hne:¬ p=w.heap.size:=zaa;have hne2:¬ w.heap.size=p:=zaa;dsimp only))
 go_wp2;have o1:=aa w4 w 0 (.int .i64 num);have o2:=aa (w4.setCell w (.int .i64 num)) w.heap.size 1 (.int .i64 dep);have o3:=aa ((w4.setCell w (.int .i64 num)).setCell ⟨w,1,none⟩ (.int .i64 dep)) w.heap.size 2 (.int .i64 k);have o4:=aa (((w4.setCell w (.int .i64 num)).setCell ⟨w,1,none⟩ (.int .i64 dep)).setCell ⟨w,2,none⟩ (.int .i64 k)) w.heap.size 3 (.string x);have oo:=((o1.trans o2).trans o3).trans o4;have g1:=MO w4 w 0 _ _ (.int .i64 num) hN;have g2:=MO _ w 1 _ _ (.int .i64 dep) g1;have g3:=MO _ w 2 _ _ (.int .i64 k) g2;have g4:=MO _ w 3 _ _ (.string x) g3;have ht:al p w w4:=((al.refl p w).alloc _).drew.trans ht4;exact dP G9 _ 352 _ (0,0) _ rfl g4 underlying352 rfl gF rfl ⟨rfl,ht.iu oo (Mt _),H4.only oo hpl⟩
theorem nu:Tryz.f186.results=#[.cell 2 352]:=rfl
namespace Pro
def oX:ByteArray:=⟨#[100,101,101,112]⟩
def de (l:List ByteArray):Option ((ByteArray×Int)×List ByteArray):=match pOf Ref.plain l with
 | none=>none
 | some (x,[])=>some ((x,3),[])
 | some (x,y::r)=>if y.toList == oX.toList then some ((x,4),r) else some ((x,3),y::r)
end Pro
theorem fo {a b c d:Value} (hN:w.heap[N]?=some (.cells #[a,b,c,d] t (0,0))) :
  w.cell? N=some a/\w.cell? ⟨N,1,none⟩=some b/\w.cell? ⟨N,2,none⟩=some c/\w.cell? ⟨N,3,none⟩=some d/\w.frozen? ⟨N,0,none⟩=false/\w.frozen? ⟨N,1,none⟩=false/\w.frozen? ⟨N,2,none⟩=false/\w.frozen? ⟨N,3,none⟩=false :=
 ⟨by rw [My w _ 0 _ _ _ hN];rfl,by rw [My w _ 1 _ _ _ hN];rfl,by rw [My w _ 2 _ _ _ hN];rfl,by rw [My w _ 3 _ _ _ hN];rfl,zas,zas,zas,zas⟩
theorem lr {a b c d a' b' c' d':Value} (hN:w.heap[N]?=some (.cells #[a,b,c,d] t (0,0))) :
  ((((w.setCell N a').setCell ⟨N,1,none⟩ b').setCell ⟨N,2,none⟩ c').setCell ⟨N,3,none⟩ d').heap[N]?=some (.cells #[a',b',c',d'] t (0,0))/\gV N w ((((w.setCell N a').setCell ⟨N,1,none⟩ b').setCell ⟨N,2,none⟩ c').setCell ⟨N,3,none⟩ d'):=by
 have g1:=MO w N 0 _ _ a' hN;have g2:=MO _ N 1 _ _ b' g1;have g3:=MO _ N 2 _ _ c' g2;have g4:=MO _ N 3 _ _ d' g3;exact ⟨g4,(((aa _ _ _ _).trans (aa _ _ _ _)).trans (aa _ _ _ _)).trans (aa _ _ _ _)⟩
theorem pT (p:Nat) (num dep:Int) (l:List ByteArray) (w:World) (H:ah w p num dep l) (hv:bH p w) :
  () 186 #[p] w (eB p num dep ((Pro.de l).map fun q=>(.agg #[(num:Int),(dep:Int),(q.1.2:Int),.string q.1.1],q.2)) w):=by
 have hpl:=H.lt;cases hn:Pro.pOf Ref.plain l with
 | none =>
  have HS:Hid (Pro.de l=none):=by unfold Hid Pro.de;rw [hn]
  go_enter func186,ntmps186;go_wp2_with fail;refine (oN p num dep 3 l _ (H.alloc _) (hv.alloc _) hn).mono ?_;rintro e w1 h1;obtain ⟨ht,b,h4,h5,rfl⟩:=h1;dsimp only;refine ⟨rfl,?_⟩;exact zev
 | some q =>
  obtain ⟨x,l2⟩:=q;go_enter func186,ntmps186;go_wp2_with fail;refine (mu p num dep 3 l l2 x _ (H.alloc _) (hv.alloc _) hn).mono ?_;rintro e w1 ⟨rfl,ht1,H1⟩;dsimp only;have hN:w1.heap[w.heap.size]?=some (.cells #[(0:Int),(0:Int),(0:Int),ByteArray.empty] 352 (0,0)):=(ht1.block w zad zaa).trans (MD w _);have hNl:w.heap.size<w1.heap.size:=(Ms.1 hN).1;have ht:al p w w1:=((al.refl p w).alloc _).trans ht1;have hp1:=H1.lt;clear ht1;have H2:=H1.alloc (.cells #[(num:Int),(dep:Int),(3:Int),x] 352);have hN2:(w1.alloc (.cells #[(num:Int),(dep:Int),(3:Int),x] 352)).heap[w.heap.size]?=some (.cells #[(0:Int),(0:Int),(0:Int),ByteArray.empty] 352 (0,0)):=by rw [NI _ _ _ hNl];exact hN
  have ht2:al p w (w1.alloc (.cells #[(num:Int),(dep:Int),(3:Int),x] 352)):=ht.alloc _;have hM2:=MD w1 (.cells #[(num:Int),(dep:Int),(3:Int),x] 352);have hne:¬ w.heap.size=w1.heap.size:=zaa;have hne':¬ w1.heap.size=w.heap.size:=zaa;cases l2 with
  | nil =>
   have HS:Hid (Pro.de l=some ((x,3),[])):=by unfold Hid Pro.de;rw [hn]
   go_wp2_with fail;refine (skip_none p num dep Pro.oX _ H2).mono ?_;rintro e w9 ⟨rfl,hw9⟩;rw [hw9];clear hw9 w9 hN;generalize w1.alloc (.cells #[(num:Int),(dep:Int),(3:Int),x] 352)=w2 at *;obtain ⟨a0,a1,a2,a3,b0,b1,b2,b3⟩:=fo hN2;obtain ⟨c0,c1,c2,c3,_,_,_,_⟩:=fo hM2;have gg:=lr (a' := .int .i64 num) (b' := .int .i64 dep) (c' := .int .i64 3) (d' := .string x) hN2;have GG:Hid _:=gg;clear gg;exact zdB
  | cons y r =>
   cases hy:(y.toList == Pro.oX.toList)
   ·have HS:Hid (Pro.de l=some ((x,3),y::r)):=zcj;go_wp2_with fail;refine (qD p num dep y r Pro.oX _ H2 hy).mono ?_;rintro e w9 ⟨rfl,hw9⟩;rw [hw9];clear hw9 w9 hN;generalize w1.alloc (.cells #[(num:Int),(dep:Int),(3:Int),x] 352)=w2 at *;obtain ⟨a0,a1,a2,a3,b0,b1,b2,b3⟩:=fo hN2;obtain ⟨c0,c1,c2,c3,_,_,_,_⟩:=fo hM2;have GG:Hid _:=lr (a' := .int .i64 num) (b' := .int .i64 dep) (c' := .int .i64 3) (d' := .string x) hN2;exact zdB
   ·have HS:Hid (Pro.de l=some ((x,4),r)):=zcj;go_wp2_with fail;refine (jO p num dep y r Pro.oX _ H2 hy).mono ?_;rintro e w3 ⟨rfl,ho3,H3⟩;have hN3:=(ho3.block w zaa).trans hN2;have hM3:=(ho3.block w1 zaa).trans hM2;have ht3:=ht2.trans ho3.ai;have hM4:=MO w3 w1 2 _ _ (.int .i64 4) hM3;have oM:=aa w3 w1 2 (.int .i64 4);have hN4:=(oM.block w hne).trans hN3;have ht4:=ht3.iu oM zaa;have H4:=H3.only oM zaa;obtain ⟨_,_,m2,_,_,_,m6,_⟩:=fo hM3;clear hN hN2 hM2 ho3 ht3 H3 hM3 hN3 oM;dsimp only
    go_upto_region 4 with fail
    generalize w3.setCell ⟨w1,2,none⟩ (.int .i64 4)=w4 at *;obtain ⟨a0,a1,a2,a3,b0,b1,b2,b3⟩:=fo hN4;obtain ⟨c0,c1,c2,c3,_,_,_,_⟩:=fo (a := .int .i64 num) (b := .int .i64 dep) (c := .int .i64 4) (d := .string x) hM4;have GG:Hid _:=lr (a' := .int .i64 num) (b' := .int .i64 dep) (c' := .int .i64 4) (d' := .string x) hN4;go_wp2;refine dP nu _ 352 _ (0,0) _ rfl GG.out.1 underlying352 rfl gF rfl ?_;unfold eB;rw [HS.out];exact ⟨rfl,ht4.iu GG.out.2 (Mt _),H4.only GG.out.2 hpl⟩
