import Derived.Test.YtlmdcnflglmkeaaGreatDoorM00
import Derived.Test.YtlmdcnflglmkeaaGreatDoorSh
import Derived.Lib.AppendIntMem
import Derived.Deep.RegionHeld3
import Derived.Deep.AppendLies
set_option maxRecDepth 100000
set_option maxHeartbeats 8000000
namespace Go.Proofs.YtlmdcnflglmkeaaGreatDoor
variable {zp:Prop}
theorem zc2 (h:zp:=by
 go_enter func256,ntmps256;go_wp2_with fail;refine (aF p num dep x r _ H).mono ?_;rintro e w1 ⟨rfl,ho,H1⟩;have ht1:=ho.ai;clear ho;dsimp only;go_wp2_with fail;refine (fs p num dep r _ H1 (hv.ai ht1)).mono ?_;rintro e w2 hq;rw [hn] at hq;obtain ⟨ht,b,h4,h5,rfl⟩:=hq;dsimp only;refine ⟨rfl,?_⟩;rw [HS.out];exact ⟨ht1.trans ht,b,Fq ht1.size h4,h5,rfl⟩):zp:=h
theorem zc6 (h:zp:=by
 have HP:Hid _:=hp;have HL:Hid _:=hl;clear hp hl;go_enter func225,ntmps225;go_wp2_with (first
  | (go_at_call 221;refine (gz s _ zag).mono ?_;rintro e w9 ⟨rfl,hw9⟩;rw [hw9,HP.out];clear hw9 w9)
  | (go_at_call 258;refine (k9 s _ hs hv).mono ?_;rintro e w9 ⟨rfl,hb9⟩;rw [HL.out]))
 go_ret;exact ⟨by rw [HC.out];rfl,hb9⟩):zp:=h
theorem zdb (h:zp:=by
 go_simp;refine hK _ _ ?_;clear hK K;refine zA 2 rfl fun K hK => ?_;go_simp
 (refine (fT p num dep r _ H3d hv3).mono ?_;rintro e w4 h4;rw [hr] at h4;obtain ⟨ht,b,h5,h6,rfl⟩:=h4;dsimp only;refine ⟨rfl,?_⟩;rw [HS2.out];exact ⟨ht3.trans ((ak.refl p w3).drew.trans ht),b,Fq ht3.size h5,h6,rfl⟩)):zp:=h
theorem zdc (h:zp:=by
 go_wp2_with (first | (go_at_call 254;refine (dz _ _).mono ?_;rintro e w9 ⟨rfl,hw9⟩;rw [hw9,H1.out];clear hw9 w9) | (go_at_call 255;refine (kZ _ _).mono ?_;rintro e w9 ⟨rfl,hw9⟩;rw [hw9,H2.out];clear hw9 w9))
 go_round
 case rel=>exact ⟨k+1,zaa,zah,HS.out⟩
 case measure=>simp [intOf];omega):zp:=h
theorem zdq (h:zp:=by
 go_simp
 (refine (ed p num dep l _ H1 hv1).mono ?_;rintro e w4 h4;rw [hn] at h4;obtain ⟨ht,b,h5,h6,rfl⟩:=h4;dsimp only;exact ⟨rfl,((ak.refl p w).alloc _).drew.trans ht,b,by simp at h5;omega,h6,rfl⟩)):zp:=h
theorem zdB (h:zp:=by
 dsimp only;go_wp2;refine dQ nr _ 354 _ (0,0) _ rfl GG.out.1 underlying354 rfl gG rfl ?_;unfold eB;rw [HS.out];exact ⟨rfl,ht2.iu GG.out.2 (u0 _),H2.only GG.out.2 hpl⟩):zp:=h
theorem zdK (h:zp:=by
 rintro e w9 ⟨rfl,hw9⟩;rw [hw9];clear hw9 w9;dsimp only;go_wp2;go_ret;unfold eB;rw [HS.out];exact ⟨rfl,ht.alloc _,H2.alloc _⟩):zp:=h
theorem zee (h:zp:=by
 obtain ⟨⟨n,r'⟩,h1,h2⟩:=LZ.1 h;cases h2
 have:=qy h1;dsimp only at this ⊢;omega):zp:=h
theorem zep (h:zp:=by
 go_ret;exact ⟨rfl,aa _ _ _ _,H.gh hp hbp hbw hst zaa (fun _=>rfl)⟩):zp:=h
theorem zeq (h:zp:=by
 go_ret;exact ⟨rfl,aa _ _ _ _,H.gh hp hbp hbw hst zaa (fun h=>zaa)⟩):zp:=h
theorem zeu (h:zp:=by
 rw [HS.out];exact ⟨((ak.refl p w).alloc _).trans ht,b,zaO,h5,rfl⟩):zp:=h
theorem zeI (h:zp:=by
 go_enter func221,ntmps221;go_wp2;go_ret;exact ⟨za1,rfl⟩):zp:=h
theorem ze0 (h:zp:=by
 simp only [Value.slice.injEq] at hv';exact hv'.2.1):zp:=h
theorem ze1 (h:zp:=by
 go_wp2;go_ret;exact ⟨by rw [HR.out];simp,hb1⟩):zp:=h
theorem ze4 (h:zp:=by
 unfold Ref.fY;split
 ·omega
 ·split <;> omega):zp:=h
theorem ze6 (h:zp:=by
 go_wp2;go_meet
 case rel=>exact ⟨rfl,rfl⟩):zp:=h
theorem zfq (h:zp:=by
 go_ret;exact ⟨za1,rfl⟩):zp:=h
theorem zaq (h:zp:=by rw [Mt];rfl):zp:=h
theorem zar (h:zp:=by simp [World.frozen?,hN]):zp:=h
theorem zay (h:zp:=by rw [Pro.pOf,hx];rfl):zp:=h
theorem zaD (h:zp:=by rw [JJ w p 2 _ _ _ hp];rfl):zp:=h
theorem zaO (h:zp:=by simp at h4;omega):zp:=h
theorem za1 (h:zp:=by rw [HP.out];rfl):zp:=h
theorem za3 (h:zp:=by simpa using h3):zp:=h
theorem zbn (h:zp:=by simpa using hown):zp:=h
theorem zbK (h:zp:=by rw [JJ w p 0 _ _ _ hp];rfl):zp:=h
theorem zbL (h:zp:=by rw [JJ w p 1 _ _ _ hp];rfl):zp:=h
theorem zbN (h:zp:=by unfold Hid Pro.cG;rw [ha]):zp:=h
theorem zbS (h:zp:=by simp [World.frozen?,hp]):zp:=h
theorem zb8 (h:zp:=by unfold Hid Pro.dt;rw [hn];simp only;rw [hd];simp only;rw [hy];rfl):zp:=h
theorem zca (h:zp:=by unfold Hid;rw [Pro.bE,Ref.eS,h1,Ref.kU,h2,Ref.eL,h3,hn];rfl):zp:=h
theorem zch (h:zp:=by unfold Hid;rw [Pro.bE,Ref.eS,h1,Ref.kU,h2,hn];rfl):zp:=h
theorem zcj (h:zp:=by unfold Hid Pro.dd;rw [hn];simp only;rw [hy];rfl):zp:=h
open Tryz
variable {s x:ByteArray} {k p cap N n g base size:Nat} {w w' b a c w1 w2:World} {v:Value} {num dep:Int} {r l:List ByteArray} {e t:TypeId} {xs:List Value} {row:Option Nat}
section
open Go.RowKit
open Go.PlainAid (bt get_bt bt_nonneg bt_le bt_end)
theorem dz (c:Int) (w:World):() 254 #[.int .u8 c] w fun e w'=>e = .returned (.bool (Ref.small c))/\w'=w:=by
 by_cases h1:97<=c
 ·by_cases h2:c<=122
  ·go_enter func254,ntmps254;go_wp2;go_ret;exact ⟨by simp [Ref.small,h1,h2],rfl⟩
  ·go_enter func254,ntmps254;go_wp2;go_ret;exact ⟨by rw [Ref.small,Mk (show ¬ c<=122 by omega),Nq];rfl,rfl⟩
 ·go_enter func254,ntmps254;go_wp2;go_ret;exact ⟨by rw [Ref.small,Mk (show ¬ 97<=c by omega),NS];rfl,rfl⟩
theorem kZ (c:Int) (w:World):() 255 #[.int .u8 c] w fun e w'=>e = .returned (.bool (Ref.jF c))/\w'=w:=by
 by_cases h1:48<=c
 ·by_cases h2:c<=57
  ·go_enter func255,ntmps255;go_wp2;go_ret;exact ⟨by simp [Ref.jF,h1,h2],rfl⟩
  ·go_enter func255,ntmps255;go_wp2;go_ret;exact ⟨by rw [Ref.jF,Mk (show ¬ c<=57 by omega),Nq];rfl,rfl⟩
 ·go_enter func255,ntmps255;go_wp2;go_ret;exact ⟨by rw [Ref.jF,Mk (show ¬ 48<=c by omega),NS];rfl,rfl⟩
namespace Ref
theorem wQ (h0:small (bt s 0)=true) (h:(small (bt s k)||(jF (bt s k)||decide (bt s k=95)))=true):iU s k=true:=by
 by_cases hk:k=0
 ·rw [hk,uG];exact h0
 ·unfold iU more;unfold jF at h;rw [Mx (show k≠0 from hk),OX,Bool.or_comm (decide (bt s k=95))];exact h
theorem Gi (h1:small (bt s k)=false) (h2:jF (bt s k)=false) (h3:¬ bt s k=95):iU s k=false:=by
 unfold iU more;unfold jF at h2;rw [h1,h2,Mk h3,Pe,Nq,Pe]
theorem zi (hk:k<s.size) (h:iU s k=false):plain s=false:=by
 rw [plain,tB hk h,NS]
end Ref
theorem gz (s:ByteArray) (w:World) (hs:s.size<=maxLen):() 221 #[s] w fun e w'=>e = .returned (.bool (Ref.plain s))/\w'=w:=by
 unfold maxLen at hs;have hb:=get_bt s;by_cases he:s.size=0
 ·have he':(s.toList == [])=true:=by rw [Qf,<- Om,Ref.isEmpty_eq];exact Mx he
  have HP:Hid (Ref.plain s=false):=by unfold Hid Ref.plain;rw [Mk (show ¬ 0<s.size by omega),NS,Nq]
  exact zeI
 ·have he':(s.toList == [])=false:=by
   rw [Nw];intro h;have:=Ref.isEmpty_eq s;rw [h] at this;exact he (Nh this.symm)
  by_cases h8:8<s.size
  ·have HP:Hid (Ref.plain s=false):=by unfold Hid Ref.plain;rw [Mk (show ¬ s.size<=8 by omega),Nq,Nq]
   exact zeI
  ·cases hm:Ref.small (bt s 0)
   ·have HP:Hid (Ref.plain s=false):=Ref.zi (k:=0) zaa (by rw [Ref.uG];exact hm);have HM:Hid _:=hm;clear hm;go_enter func221,ntmps221;go_wp2_with (go_at_call 254;refine (dz _ _).mono ?_;rintro e w9 ⟨rfl,hw9⟩;rw [hw9,HM.out];clear hw9 w9);exact zfq
   ·have HM:Hid _:=hm;clear hm;go_enter func221,ntmps221;go_wp2_with (go_at_call 254;refine (dz _ _).mono ?_;rintro e w9 ⟨rfl,hw9⟩;rw [hw9,HM.out];clear hw9 w9)
    go_loop [20] (fun i=>∃ k:Nat,k<=s.size/\i = .int .i64 k/\∀ j,j<k->Ref.iU s j=true) (fun i=>s.size-(intOf i).toNat)
    case atStart=>exact ⟨0,LL _,rfl,fun _ h=>zaa⟩
    case round =>
     obtain ⟨k,hk,rfl,hok⟩:=hrel;have Hok:Hid (∀ j,j<k->Ref.iU s j=true):=hok;clear hok;by_cases hlt:k<s.size
     ·cases h1:Ref.small (bt s k)
      ·cases h2:Ref.jF (bt s k)
       ·by_cases h3:bt s k=95
        ·have HS:Hid _:=Ref.wR Hok (Ref.wQ HM.out (by rw [Mx h3,P7,P7]));have H1:Hid _:=h1;have H2:Hid _:=h2;have h3':(bt s k != 95)=false:=by rw [h3];rfl
         clear h1 h2 h3;exact zdc
        ·have HP:Hid (Ref.plain s=false):=Ref.zi hlt (Ref.Gi h1 h2 h3);have H1:Hid _:=h1;have H2:Hid _:=h2;have h3':(bt s k != 95)=true:=za3;clear h1 h2 h3;go_wp2_with (first | (go_at_call 254;refine (dz _ _).mono ?_;rintro e w9 ⟨rfl,hw9⟩;rw [hw9,H1.out];clear hw9 w9) | (go_at_call 255;refine (kZ _ _).mono ?_;rintro e w9 ⟨rfl,hw9⟩;rw [hw9,H2.out];clear hw9 w9));exact zfq
       ·have HS:Hid _:=Ref.wR Hok (Ref.wQ HM.out (by rw [h2,Oi,P7]));have H1:Hid _:=h1;have H2:Hid _:=h2;clear h1 h2;exact zdc
      ·have HS:Hid _:=Ref.wR Hok (Ref.wQ HM.out (by rw [h1,Oi]));have H1:Hid _:=h1;clear h1;go_wp2_with (go_at_call 254;refine (dz _ _).mono ?_;rintro e w9 ⟨rfl,hw9⟩;rw [hw9,H1.out];clear hw9 w9)
       go_round
       case rel=>exact ⟨k+1,zaa,zah,HS.out⟩
       case measure=>simp [intOf];omega
     ·obtain rfl:k=s.size:=zaa;have HP:Hid (Ref.plain s=true):=by
       unfold Hid Ref.plain;rw [Ref.CU Hok.out,OX,Mx (show 0<s.size by omega),Mx (show s.size<=8 by omega)];rfl
      clear hb;go_wp2;exact zfq
structure gC (w:World):Prop where
 syn:∃ ev,w.cell? ⟨7,0,none⟩=some ev/\(ev = .nilIface\/∃ te pe,ev = .iface te pe)
 rng:∃ ev,w.cell? ⟨8,0,none⟩=some ev/\(ev = .nilIface\/∃ te pe,ev = .iface te pe)
def Hf (s:ByteArray) (w:World) (e:Ending) (w':World):Prop:=Below w w w'/\∃ u:Int,e = .returned (.tuple #[.int .u64 u,.bool (Ref.cA s)])/\(Ref.cA s=true->u=Ref.dV s)
theorem oV (w:World) (t:TypeId) (s:ByteArray):Below w w (Lib.bytesWorld w t s):=by
 unfold Lib.bytesWorld;exact Lib.below_freeze ((Below.drew (FP _ w)).alloc (u0 _) _) (p:=⟨w,_,none⟩) (u0 _) 1
theorem tV {p:Addr} (h:w.cell? p=some v) (hb:Below w w w'):w'.cell? p=some v:=by
 rw [hb.cell (LY w _ h)];exact h
theorem gC.aw (h:gC w) (hb:Below w w w'):gC w' :=
 let ⟨e1,h1,h2⟩:=h.syn
 let ⟨e3,h3,h4⟩:=h.rng
 ⟨⟨e1,tV h1 hb,h2⟩,⟨e3,tV h3 hb,h4⟩⟩
theorem gx (s p:ByteArray):Lib.hasPrefix s.data.toList p.data.toList=Ref.cn s p:=by
 rw [<- Lib.hasPrefix_raw,Ref.cn,Ref.Cm]
theorem mK {p:ByteArray} (h:Ref.cn s p=true):(⟨(Lib.trimPrefix s.data.toList p.data.toList).toArray⟩:ByteArray)=s.extract p.size s.size:=by
 refine Lib.trimPrefix_hit s p (Ref.pI h) ?_;rw [Ref.Cm];rw [Ref.cn,L1] at h;exact h.2
theorem ng (s:ByteArray) (w:World) (hs:s.size<=1073741824) (hv:gC w):() 227 #[s] w (Hf s w):=by
 have hb:=get_bt s;by_cases h0:1<s.size/\bt s 0=48
 ·obtain ⟨h1,h2⟩:=h0;have HD:Hid (Ref.cA s=false):=by
   unfold Hid;rw [Ref.cA,Ref.qP,Mx h1,Mx h2,OX,P7,Oi,Oi,PG,Nq]
  have h2':(bt s 0 == 48)=true:=by rw [h2];rfl
  clear h2;go_enter func227,ntmps227;go_wp2;go_ret2;exact ⟨FP _ _,0,by rw [HD.out];rfl,fun h=>by rw [HD.out] at h;cases h⟩
 ·have HN:Hid _:=Num.Gg s h0;have HD0:Hid (decide (1<s.size)=true->(bt s 0 == 48)=false):=fun h=>by
   rw [Nw];exact fun e=>h0 ⟨Nh h,e⟩
  clear h0;go_enter func227,ntmps227
  go_upto_region 1 with fail
  go_cut [13] (fun c wx=>c = .bool false/\wx=w)
  case first =>
   by_cases h1:1<s.size
   ·have h2':=HD0.out (Mx h1);exact ze6
   ·exact ze6
  case rest =>
   obtain ⟨rfl,hwc⟩:=hcut;rw [hwc];clear hwc wc;cases hp:Lib.parseUintB 64 s.data.toList with
   | ok u =>
    have HU:Hid _:=HN.out.1 u hp;go_wp2_with fail;refine (strconv_ParseUint_10_at64_ok s zaa u hp _).mono ?_;rintro e w1 ⟨rfl,hw1⟩;have hb1:Below w w w1:=by
     rcases hw1 with h | h
     ·rw [h];exact FP _ _
     ·rw [h];exact oV _ _ _
    clear hw1 hp;dsimp only;go_wp2
    go_quiet (fail)
    go_wp2;go_ret2;exact ⟨NY hb1 _,u,by rw [HU.out.1];rfl,fun _=>HU.out.2.symm⟩
   | «syntax» =>
    have HU:Hid _:=HN.out.2 (fun u h=>by rw [hp] at h;cases h);obtain ⟨ev,hv1,hv2⟩:=hv.syn;go_wp2_with fail;refine (strconv_ParseUint_10_at64_syntax s zaa hp ev _ hv1 hv2).mono ?_;rintro e w1 ⟨N,rfl,hN,hcell,hb1⟩;clear hp hcell;dsimp only;go_wp2
    go_quiet (fail)
    go_wp2;go_ret2;exact ⟨NY hb1 _,0,by rw [HU.out];rfl,fun h=>by rw [HU.out] at h;cases h⟩
   | range =>
    have HU:Hid _:=HN.out.2 (fun u h=>by rw [hp] at h;cases h);obtain ⟨ev,hv1,hv2⟩:=hv.rng;go_wp2_with fail;refine (strconv_ParseUint_10_at64_range s zaa hp ev _ hv1 hv2).mono ?_;rintro e w1 ⟨N,rfl,hN,hcell,hb1⟩;clear hp hcell;dsimp only;go_wp2
    go_quiet (fail)
    go_wp2;go_ret2;exact ⟨NY hb1 _,18446744073709551615,by rw [HU.out];rfl,fun h=>by rw [HU.out] at h;cases h⟩
theorem k9 (s:ByteArray) (w:World) (hs:s.size<=1073741824) (hv:gC w):() 258 #[s] w fun e w'=>e = .returned (.bool (Ref.lg s))/\Below w w w':=by
 cases hb:Ref.cn s Ref.bK
 ·have HL:Hid (Ref.lg s=false):=by unfold Hid Ref.lg;rw [hb,NS]
  have HB:Hid _:=(gx s Ref.bK).trans hb;clear hb;go_enter func258,ntmps258;go_wp2_with fail;refine (strings_CutPrefix s Ref.bK _).mono ?_;rintro e w9 ⟨rfl,hw9⟩;rw [hw9,HB.out];clear hw9 w9;dsimp only;go_wp2;go_ret;exact ⟨by rw [HL.out];rfl,FP _ _⟩
 ·have HL:Hid (Ref.lg s=(Ref.cA (s.extract 6 s.size)&&(decide (0<Ref.dV (s.extract 6 s.size))&&decide (Ref.dV (s.extract 6 s.size)<=1500)))):=by unfold Hid Ref.lg;rw [hb,OX]
  have HB:Hid _:=(gx s Ref.bK).trans hb;have HC:Hid ((⟨(Lib.trimPrefix s.data.toList Ref.bK.data.toList).toArray⟩:ByteArray)=s.extract 6 s.size):=mK hb;have hr:(s.extract 6 s.size).size<=1073741824:=zaf;clear hb;go_enter func258,ntmps258;go_wp2_with fail;refine (strings_CutPrefix s Ref.bK _).mono ?_;rintro e w9 ⟨rfl,hw9⟩;rw [hw9,HB.out,HC.out];clear hw9 w9 HC;generalize s.extract 6 s.size=r at *;dsimp only;go_wp2_with fail;refine (ng r _ hr hv).mono ?_;rintro e w1 ⟨hb1,u,rfl,hu⟩;have HU:Hid _:=hu;clear hu;dsimp only;cases hk:Ref.cA r
  ·have HK:Hid _:=hk;clear hk;go_wp2;go_ret;exact ⟨by rw [HL.out,HK.out];rfl,hb1⟩
  ·have HV:Hid _:=HU.out hk;have HK:Hid _:=hk;clear hk HU;by_cases h1:1<=u
   ·by_cases h2:u<=1500
    ·have HR:Hid (Ref.lg s=true):=by unfold Hid;rw [HL.out,HK.out,<- HV.out,Mx (show 0<u by omega),Mx h2];rfl
     exact ze1
    ·have HR:Hid (Ref.lg s=false):=by unfold Hid;rw [HL.out,HK.out,<- HV.out,Mk h2,Nq];rfl
     have h2':decide (u<=1500)=false:=Mk h2;exact ze1
   ·have HR:Hid (Ref.lg s=false):=by unfold Hid;rw [HL.out,HK.out,<- HV.out,Mk (show ¬ 0<u by omega),NS];rfl
    go_wp2;go_ret;exact ⟨by rw [HR.out];rfl,hb1⟩
theorem iJ (s:ByteArray) (w:World) (hs:s.size<=1073741824) (hv:gC w):() 225 #[s] w fun e w'=>e = .returned (.bool (Ref.called s))/\Below w w w':=by
 cases hp:Ref.plain s
 ·cases hl:Ref.lg s
  ·have HC:Hid (Ref.called s=false):=by unfold Hid Ref.called;rw [hp,hl];rfl
   exact zc6
  ·have HC:Hid (Ref.called s=true):=by unfold Hid Ref.called;rw [hp,hl];rfl
   exact zc6
 ·have HC:Hid (Ref.called s=true):=by unfold Hid Ref.called;rw [hp,Oi]
  have HP:Hid _:=hp;clear hp;go_enter func225,ntmps225;go_wp2_with (go_at_call 221;refine (gz s _ zag).mono ?_;rintro e w9 ⟨rfl,hw9⟩;rw [hw9,HP.out];clear hw9 w9);go_ret;exact ⟨by rw [HC.out];rfl,FP _ _⟩
theorem rC (s:ByteArray) (w:World) (hs:s.size<=1073741824) (hb:Ref.cn s Ref.jG=true) (hp:Ref.plain (s.extract 5 s.size)=true):() 180 #[s] w fun e w'=>e = .returned (.bool (Ref.bX s))/\Below w w w':=by
 have HR:Hid (Ref.bX s=true):=by unfold Hid Ref.bX;rw [hb,hp,Bool.and_self,P7]
 have HB:Hid _:=(gx s Ref.jG).trans hb;have HC:Hid ((⟨(Lib.trimPrefix s.data.toList Ref.jG.data.toList).toArray⟩:ByteArray)=s.extract 5 s.size):=mK hb;have HP:Hid _:=hp;have hr:(s.extract 5 s.size).size<=1073741824:=zaf;clear hb hp;go_enter func180,ntmps180;go_wp2_with fail;refine (strings_CutPrefix s Ref.jG _).mono ?_;rintro e w9 ⟨rfl,hw9⟩;rw [hw9,HB.out,HC.out];clear hw9 w9 HC;generalize s.extract 5 s.size=r at *;dsimp only;go_wp2_with (go_at_call 221;refine (gz r _ zag).mono ?_;rintro e w9 ⟨rfl,hw9⟩;rw [hw9,HP.out];clear hw9 w9);go_ret;exact ⟨by rw [HR.out];rfl,FP _ _⟩
theorem rD (s:ByteArray) (w:World) (hs:s.size<=1073741824) (hv:gC w) (hb:Ref.cn s Ref.jG=false):() 180 #[s] w fun e w'=>e = .returned (.bool (Ref.bX s))/\Below w w w':=by
 have HR:Hid (Ref.bX s=Ref.called s):=by unfold Hid Ref.bX;rw [hb,NS,Pe]
 have HB:Hid _:=(gx s Ref.jG).trans hb;clear hb;cases hc:Ref.called s
 all_goals
  have HC:Hid _:=hc;clear hc;go_enter func180,ntmps180;go_wp2_with fail;refine (strings_CutPrefix s Ref.jG _).mono ?_;rintro e w9 ⟨rfl,hw9⟩;rw [hw9,HB.out];clear hw9 w9;dsimp only;go_wp2_with (go_at_call 225;refine (iJ s _ hs hv).mono ?_;rintro e w9 ⟨rfl,hb9⟩;rw [HC.out]);go_ret;exact ⟨by rw [HR.out,HC.out];rfl,hb9⟩
theorem wo (s:ByteArray) (w:World) (hs:s.size<=1073741824) (hv:gC w) (hb:Ref.cn s Ref.jG=true) (hp:Ref.plain (s.extract 5 s.size)=false):() 180 #[s] w fun e w'=>e = .returned (.bool (Ref.bX s))/\Below w w w':=by
 have HR:Hid (Ref.bX s=Ref.called s):=by unfold Hid Ref.bX;rw [hb,hp,Nq,Pe]
 have HB:Hid _:=(gx s Ref.jG).trans hb;have HC0:Hid ((⟨(Lib.trimPrefix s.data.toList Ref.jG.data.toList).toArray⟩:ByteArray)=s.extract 5 s.size):=mK hb;have HP:Hid _:=hp;have hr:(s.extract 5 s.size).size<=1073741824:=zaf;clear hb hp;cases hc:Ref.called s
 all_goals
  have HC:Hid _:=hc;clear hc;go_enter func180,ntmps180;go_wp2_with fail;refine (strings_CutPrefix s Ref.jG _).mono ?_;rintro e w9 ⟨rfl,hw9⟩;rw [hw9,HB.out,HC0.out];clear hw9 w9 HC0;generalize s.extract 5 s.size=r at *;dsimp only;go_wp2_with (first
   | (go_at_call 221;refine (gz r _ zag).mono ?_;rintro e w9 ⟨rfl,hw9⟩;rw [hw9,HP.out];clear hw9 w9)
   | (go_at_call 225;refine (iJ s _ hs hv).mono ?_;rintro e w9 ⟨rfl,hb9⟩;rw [HC.out]))
  go_ret;exact ⟨by rw [HR.out,HC.out];rfl,hb9⟩
theorem tp (s:ByteArray) (w:World) (hs:s.size<=1073741824) (hv:gC w):() 180 #[s] w fun e w'=>e = .returned (.bool (Ref.bX s))/\Below w w w':=by
 cases hb:Ref.cn s Ref.jG
 ·exact rD s w hs hv hb
 ·cases hp:Ref.plain (s.extract 5 s.size)
  ·exact wo s w hs hv hb hp
  ·exact rC s w hs hb hp
structure Env (w:World):Prop where
 err:gC w
 tab:Lib.TabIs prog w "internal/strconv.uint64pow10" .u64 Lib.pow10Tab
theorem Env.aw (h:Env w) (hb:Below w w w'):Env w':=⟨h.err.aw hb,Lib.tabBelow_of_tabIs h.tab w' hb⟩
theorem iQ (n:Nat) (w:World) (hn:n<=1073741824) (hv:Env w):() 181 #[(n:Int)] w fun e w'=>e = .returned (.string (Ref.bK++Ref.dec n))/\Below w w w':=by
 have hd:(Ref.dec n).size<=20:=Ref.qV zaa;have HI:Hid ((⟨(Lib.itoa n).toArray⟩:ByteArray)=Ref.dec n):=by
  unfold Hid Lib.itoa Ref.dec;rw [KQ zaa];rfl
 go_enter func181,ntmps181;go_wp2_with fail;refine (strconv_Itoa n zaa zaa _ hv.tab).mono ?_;rintro e w1 ⟨rfl,k,os,hw1⟩;have hb1:Below w w w1:=by rw [hw1];exact Lib.below_grow _ _ (u0 _) _ _
 rw [HI.out];clear hw1;dsimp only;go_wp2;go_ret;exact ⟨rfl,hb1⟩
def aY (er line:Int) (w:World) (e:Ending) (w':World):Prop:=Below w w w'/\∃ b,w.heap.size<=b/\w'.heap[b]?=some (.cells #[(er:Int),(line:Int)] 87 (0,0))/\e = .panicked [{ v := .iface 110 (.agg #[.pointer (some ⟨b,0,none⟩)]),recovered:=false }]
theorem aU (num dep er:Int) (w:World):() 74 #[.agg #[(num:Int),(dep:Int)],(er:Int)] w (aY er num w):=by
 go_enter func74,ntmps74;go_wp2;refine ⟨rfl,((FP _ _).alloc (u0 _) _).alloc zad _,w.heap.size+1,zaa,?_,rfl⟩;have h:=LC (w.alloc (.cells #[(num:Int),(dep:Int)] 206)) (.cells #[(er:Int),(num:Int)] 87);simpa using h
structure ah (w:World) (p:Nat) (num dep:Int) (l:List ByteArray):Prop where
 row:∃ a cap,w.heap[p]?=some (.cells #[(num:Int),(dep:Int),.slice a l.length cap] 298 (0,0))/\l.length<=cap/\(0<l.length->∃ b off,a=some ⟨b,off,none⟩/\b<p/\b<w.heap.size/\qG w b off l)
 len:l.length<=1073741824
 sizes:∀ x∈l,x.size<=1073741824
theorem ah.gh {b off cap':Nat} {a':Option Addr} (H:ah w p num dep (x::r)) (hp:w.heap[p]?=some (.cells #[(num:Int),(dep:Int),.slice (some ⟨b,off,none⟩) (x::r).length cap] 298 (0,0)))
  (hbp:b<p) (hbw:b<w.heap.size) (hst:qG w b off (x::r)) (hc:r.length<=cap') (ha:0<r.length->a'=some ⟨b,off+1,none⟩):ah (w.setCell ⟨p,2,none⟩ (.slice a' r.length cap')) p num dep r:=by
 have ho:=aa w p 2 (.slice a' r.length cap');refine ⟨⟨a',cap',?_,hc,fun h=>⟨b,off+1,ha h,hbp,by rw [ho.size];exact hbw,?_⟩⟩,by have:=H.len;simp at this;omega,fun y hy=>H.sizes y (Mg _ hy)⟩
 ·rw [LP w p 2 _ _ _ hp];rfl
 ·intro i hi;have:=hst.drop 1 i zbq;rw [ho.cell (p:=⟨b,off+1+i,none⟩) (Qx hbp),this];rfl
theorem lX (p:Nat) (num dep:Int) (w:World) (H:ah w p num dep []) :
  () 175 #[p] w (aY 2 num w):=by
 obtain ⟨a,cap,hp,hc,hs⟩:=H.row;have c0:w.cell? p=some ↑(num:Int):=zbK;have c1:w.cell? ⟨p,1,none⟩=some ↑(dep:Int):=zbL;have c2:w.cell? ⟨p,2,none⟩=some (.slice a 0 cap):=zaD;go_enter func175,ntmps175;go_wp2_with fail;refine (aU num dep 2 _).mono ?_;rintro e w1 h1;obtain ⟨hb,b,h2,h3,rfl⟩:=h1;dsimp only;exact ⟨rfl,hb,b,h2,h3,rfl⟩
theorem aF (p:Nat) (num dep:Int) (x:ByteArray) (r:List ByteArray) (w:World) (H:ah w p num dep (x::r)) :
  () 175 #[p] w fun e w'=>e = .returned x/\gV p w w'/\ah w' p num dep r:=by
 obtain ⟨a,cap,hp,hc,hs⟩:=H.row;have c2:w.cell? ⟨p,2,none⟩=some (.slice a (x::r).length cap):=zaD;have fr:w.frozen? ⟨p,2,none⟩=false:=zbS;obtain ⟨b,off,rfl,hbp,hbw,hst⟩:=hs zad;have d0:=hst 0 zad;simp only [Ref.at',List.getD_cons_zero,Nat.add_zero] at d0;have hc1:r.length+1<=cap:=by simpa using hc
 go_enter func175,ntmps175;go_wp2
 ·exact zeq
 ·exact zep
theorem skip_none (p:Nat) (num dep:Int) (k:ByteArray) (w:World) (H:ah w p num dep []) :
  () 222 #[p,k] w fun e w'=>e = .returned false/\w'=w:=by
 obtain ⟨a,cap,hp,hc,hs⟩:=H.row;have c2:w.cell? ⟨p,2,none⟩=some (.slice a 0 cap):=zaD;go_enter func222,ntmps222;go_wp2;go_ret;exact ⟨rfl,rfl⟩
theorem qA (p:Nat) (num dep:Int) (x:ByteArray) (r:List ByteArray) (k:ByteArray) (w:World) (H:ah w p num dep (x::r)) (hk:(x.toList == k.toList)=false) :
  () 222 #[p,k] w fun e w'=>e = .returned false/\w'=w:=by
 obtain ⟨a,cap,hp,hc,hs⟩:=H.row;have c2:w.cell? ⟨p,2,none⟩=some (.slice a (x::r).length cap):=zaD;obtain ⟨b,off,rfl,hbp,hbw,hst⟩:=hs zad;have d0:=hst 0 zad;simp only [Ref.at',List.getD_cons_zero,Nat.add_zero] at d0;have hk':(x.toList != k.toList)=true:=by rw [bne,hk];rfl
 go_enter func222,ntmps222;go_wp2;go_ret;exact ⟨rfl,rfl⟩
theorem jM (p:Nat) (num dep:Int) (x:ByteArray) (r:List ByteArray) (k:ByteArray) (w:World) (H:ah w p num dep (x::r)) (hk:(x.toList == k.toList)=true) :
  () 222 #[p,k] w fun e w'=>e = .returned true/\gV p w w'/\ah w' p num dep r:=by
 obtain ⟨a,cap,hp,hc,hs⟩:=H.row;have c2:w.cell? ⟨p,2,none⟩=some (.slice a (x::r).length cap):=zaD;have fr:w.frozen? ⟨p,2,none⟩=false:=zbS;obtain ⟨b,off,rfl,hbp,hbw,hst⟩:=hs zad;have d0:=hst 0 zad;simp only [Ref.at',List.getD_cons_zero,Nat.add_zero] at d0;have hc1:r.length+1<=cap:=by simpa using hc
 have hk':(x.toList != k.toList)=false:=by rw [bne,hk];rfl
 go_enter func222,ntmps222;go_wp2
 ·exact zeq
 ·exact zep
theorem J7 (p:Nat) (num dep:Int) (w:World) (H:ah w p num dep []) :
  () 123 #[p] w fun e w'=>e = .returned (.tuple #[])/\w'=w:=by
 obtain ⟨a,cap,hp,hc,hs⟩:=H.row;have c2:w.cell? ⟨p,2,none⟩=some (.slice a 0 cap):=zaD;go_enter func123,ntmps123;go_wp2;go_end0;exact ⟨rfl,rfl⟩
theorem Il (p:Nat) (num dep:Int) (l:List ByteArray) (w:World) (H:ah w p num dep l) (h0:0<l.length) :
  () 123 #[p] w (aY 2 num w):=by
 obtain ⟨a,cap,hp,hc,hs⟩:=H.row;have c0:w.cell? p=some ↑(num:Int):=zbK;have c1:w.cell? ⟨p,1,none⟩=some ↑(dep:Int):=zbL;have c2:w.cell? ⟨p,2,none⟩=some (.slice a l.length cap):=zaD;go_enter func123,ntmps123;go_wp2_with fail;refine (aU num dep 2 _).mono ?_;rintro e w1 h1;obtain ⟨hb,b,h2,h3,rfl⟩:=h1;dsimp only;exact ⟨rfl,hb,b,h2,h3,rfl⟩
end
section
open Go.RowKit
structure ak (p:Nat) (w w':World):Prop where
 os:w'.os=w.os
 tape:w'.tape=w.tape
 output:w'.output=w.output
 size:w.heap.size<=w'.heap.size
 block:∀ k,k<w.heap.size->k≠p->w'.heap[k]?=w.heap[k]?
theorem ak.refl (p:Nat) (w:World):ak p w w:=⟨rfl,rfl,rfl,u0 _,fun _ _ _=>rfl⟩
theorem ak.trans (h:ak p a b) (k:ak p b c):ak p a c :=
 ⟨k.os.trans h.os,k.tape.trans h.tape,k.output.trans h.output,Fq h.size k.size,fun i hi hp=>(k.block i (LU hi h.size) hp).trans (h.block i hi hp)⟩
theorem gV.ai (h:gV p w w'):ak p w w':=⟨h.os,h.tape,h.output,zbh,fun k _ hp=>h.block k hp⟩
theorem aP (h:Below w w w'):ak p w w':=⟨h.os,h.tape,h.output,h.size,fun k hk _=>h.block k hk⟩
theorem ak.below {B:Nat} (h:ak p w w') (hb:Below B a w) (hB:B<=p) (hs:B<=w.heap.size):Below B a w' :=
 hb.trans ⟨h.os,h.tape,h.output,h.size,fun k hk=>h.block k zaa zaa⟩
def bH (p:Nat) (w:World):Prop:=∃ w0:World,w0.heap.size<=p/\Env w0/\Below w0 w0 w
theorem bH.here (h:bH p w):Env w:=let ⟨_,_,h2,h3⟩:=h;h2.aw h3
theorem bH.ai (h:bH p w) (ht:ak p w w'):bH p w' :=
 let ⟨w0,h1,h2,h3⟩:=h
 ⟨w0,h1,h2,ht.below h3 h1 h3.size⟩
theorem ah.aw (H:ah w p num dep l) (hb:Below w w w'):ah w' p num dep l:=by
 obtain ⟨a,cap,hp,hc,hs⟩:=H.row;refine ⟨⟨a,cap,?_,hc,fun h => ?_⟩,H.len,H.sizes⟩
 ·rw [hb.block p (ph.1 hp).1];exact hp
 ·obtain ⟨b,off,h1,h2,h3,h4⟩:=hs h;exact ⟨b,off,h1,h2,LU h3 hb.size,h4.below hb h3⟩
def cQ (p:Nat) (er line:Int) (w:World) (e:Ending) (w':World):Prop:=ak p w w'/\∃ b,w.heap.size<=b/\w'.heap[b]?=some (.cells #[(er:Int),(line:Int)] 87 (0,0))/\e = .panicked [{ v := .iface 110 (.agg #[.pointer (some ⟨b,0,none⟩)]),recovered:=false }]
theorem cC {er line:Int} {w0:World} {e:Ending} (ht:ak p w0 w) (h:aY er line w e w'):cQ p er line w0 e w':=by
 obtain ⟨hb,b,h2,h3,h4⟩:=h;exact ⟨ht.trans (aP hb),b,Fq ht.size h2,h3,h4⟩
theorem ah.cells (H:ah w p num dep l):w.cell? p=some ↑(num:Int)/\w.cell? ⟨p,1,none⟩=some ↑(dep:Int):=by
 obtain ⟨a,cap,hp,hc,hs⟩:=H.row;exact ⟨zbK,zbL⟩
def EM (f:Nat) (P:ByteArray->Bool):Prop:=∀ (s:ByteArray) (w:World),s.size<=1073741824->Env w->() f #[s] w fun e w'=>e = .returned (.bool (P s))/\Below w w w'
theorem sQ:EM 221 Ref.plain:=fun s w hs _=>(gz s w zag).mono (by rintro e w' ⟨rfl,rfl⟩;exact ⟨rfl,FP _ _⟩)
theorem vh:EM 225 Ref.called:=fun s w hs hv=>iJ s w hs hv.err
theorem mG:EM 180 Ref.bX:=fun s w hs hv=>tp s w hs hv.err
theorem ja (p:Nat) (num dep:Int) (f:Nat) (w:World) (H:ah w p num dep []) :
  () 179 #[p,.func (.func f) #[] #[]] w (cQ p 2 num w):=by
 go_enter func179,ntmps179;go_wp2_with fail;refine (lX p num dep _ H).mono ?_;rintro e w1 h1;have h2:=cC (ak.refl p w) h1;obtain ⟨ht,b,h3,h4,rfl⟩:=h2;dsimp only;exact ⟨rfl,ht,b,h3,h4,rfl⟩
theorem rR (p:Nat) (num dep:Int) (x:ByteArray) (r:List ByteArray) (w:World) (H:ah w p num dep (x::r)) (hv:bH p w) (hx:Ref.plain x=false) :
  () 179 #[p,.func (.func 221) #[] #[]] w (cQ p 2 num w):=by
 have hsz:=H.sizes x zad;go_enter func179,ntmps179;go_wp2_with fail;refine (aF p num dep x r _ H).mono ?_;rintro e w1 ⟨rfl,ho,H1⟩;have ht1:=ho.ai;have hv1:=hv.ai ht1;clear ho;dsimp only;go_wp2_with fail;refine (sQ x _ hsz hv1.here).mono ?_;rintro e w2 ⟨rfl,hb2⟩;rw [hx];have H2:=H1.aw hb2;obtain ⟨c0,c1⟩:=H2.cells;have ht2:ak p w w2:=ht1.trans (aP hb2);clear H1 hb2 ht1 hv1;dsimp only;go_wp2_with fail;refine (aU num dep 2 _).mono ?_;rintro e w3 h3;obtain ⟨ht,b,h4,h5,rfl⟩:=cC ht2 h3;dsimp only;exact ⟨rfl,ht,b,h4,h5,rfl⟩
theorem qd (p:Nat) (num dep:Int) (x:ByteArray) (r:List ByteArray) (w:World) (H:ah w p num dep (x::r)) (hv:bH p w) (hx:Ref.plain x=true) :
  () 179 #[p,.func (.func 221) #[] #[]] w fun e w'=>e = .returned x/\ak p w w'/\ah w' p num dep r:=by
 have hsz:=H.sizes x zad;go_enter func179,ntmps179;go_wp2_with fail;refine (aF p num dep x r _ H).mono ?_;rintro e w1 ⟨rfl,ho,H1⟩;have ht1:=ho.ai;have hv1:=hv.ai ht1;clear ho;dsimp only;go_wp2_with fail;refine (sQ x _ hsz hv1.here).mono ?_;rintro e w2 ⟨rfl,hb2⟩;rw [hx];have H2:=H1.aw hb2;have ht2:ak p w w2:=ht1.trans (aP hb2);clear H1 hb2 ht1 hv1;dsimp only;go_wp2;go_ret;exact ⟨rfl,ht2,H2⟩
theorem mE (p:Nat) (num dep:Int) (x:ByteArray) (r:List ByteArray) (w:World) (H:ah w p num dep (x::r)) (hv:bH p w) (hx:Ref.called x=false) :
  () 179 #[p,.func (.func 225) #[] #[]] w (cQ p 2 num w):=by
 have hsz:=H.sizes x zad;go_enter func179,ntmps179;go_wp2_with fail;refine (aF p num dep x r _ H).mono ?_;rintro e w1 ⟨rfl,ho,H1⟩;have ht1:=ho.ai;have hv1:=hv.ai ht1;clear ho;dsimp only;go_wp2_with fail;refine (vh x _ hsz hv1.here).mono ?_;rintro e w2 ⟨rfl,hb2⟩;rw [hx];have H2:=H1.aw hb2;obtain ⟨c0,c1⟩:=H2.cells;have ht2:ak p w w2:=ht1.trans (aP hb2);clear H1 hb2 ht1 hv1;dsimp only;go_wp2_with fail;refine (aU num dep 2 _).mono ?_;rintro e w3 h3;obtain ⟨ht,b,h4,h5,rfl⟩:=cC ht2 h3;dsimp only;exact ⟨rfl,ht,b,h4,h5,rfl⟩
theorem lx (p:Nat) (num dep:Int) (x:ByteArray) (r:List ByteArray) (w:World) (H:ah w p num dep (x::r)) (hv:bH p w) (hx:Ref.called x=true) :
  () 179 #[p,.func (.func 225) #[] #[]] w fun e w'=>e = .returned x/\ak p w w'/\ah w' p num dep r:=by
 have hsz:=H.sizes x zad;go_enter func179,ntmps179;go_wp2_with fail;refine (aF p num dep x r _ H).mono ?_;rintro e w1 ⟨rfl,ho,H1⟩;have ht1:=ho.ai;have hv1:=hv.ai ht1;clear ho;dsimp only;go_wp2_with fail;refine (vh x _ hsz hv1.here).mono ?_;rintro e w2 ⟨rfl,hb2⟩;rw [hx];have H2:=H1.aw hb2;have ht2:ak p w w2:=ht1.trans (aP hb2);clear H1 hb2 ht1 hv1;dsimp only;go_wp2;go_ret;exact ⟨rfl,ht2,H2⟩
theorem n7 (p:Nat) (num dep:Int) (x:ByteArray) (r:List ByteArray) (w:World) (H:ah w p num dep (x::r)) (hv:bH p w) (hx:Ref.bX x=false) :
  () 179 #[p,.func (.func 180) #[] #[]] w (cQ p 2 num w):=by
 have hsz:=H.sizes x zad;go_enter func179,ntmps179;go_wp2_with fail;refine (aF p num dep x r _ H).mono ?_;rintro e w1 ⟨rfl,ho,H1⟩;have ht1:=ho.ai;have hv1:=hv.ai ht1;clear ho;dsimp only;go_wp2_with fail;refine (mG x _ hsz hv1.here).mono ?_;rintro e w2 ⟨rfl,hb2⟩;rw [hx];have H2:=H1.aw hb2;obtain ⟨c0,c1⟩:=H2.cells;have ht2:ak p w w2:=ht1.trans (aP hb2);clear H1 hb2 ht1 hv1;dsimp only;go_wp2_with fail;refine (aU num dep 2 _).mono ?_;rintro e w3 h3;obtain ⟨ht,b,h4,h5,rfl⟩:=cC ht2 h3;dsimp only;exact ⟨rfl,ht,b,h4,h5,rfl⟩
theorem mZ (p:Nat) (num dep:Int) (x:ByteArray) (r:List ByteArray) (w:World) (H:ah w p num dep (x::r)) (hv:bH p w) (hx:Ref.bX x=true) :
  () 179 #[p,.func (.func 180) #[] #[]] w fun e w'=>e = .returned x/\ak p w w'/\ah w' p num dep r:=by
 have hsz:=H.sizes x zad;go_enter func179,ntmps179;go_wp2_with fail;refine (aF p num dep x r _ H).mono ?_;rintro e w1 ⟨rfl,ho,H1⟩;have ht1:=ho.ai;have hv1:=hv.ai ht1;clear ho;dsimp only;go_wp2_with fail;refine (mG x _ hsz hv1.here).mono ?_;rintro e w2 ⟨rfl,hb2⟩;rw [hx];have H2:=H1.aw hb2;have ht2:ak p w w2:=ht1.trans (aP hb2);clear H1 hb2 ht1 hv1;dsimp only;go_wp2;go_ret;exact ⟨rfl,ht2,H2⟩
theorem Ay (p:Nat) (num dep:Int) (w:World) (H:ah w p num dep []) :
  () 182 #[p] w (cQ p 2 num w):=by
 go_enter func182,ntmps182;go_wp2_with fail;refine (lX p num dep _ H).mono ?_;rintro e w1 h1;have h2:=cC (ak.refl p w) h1;obtain ⟨ht,b,h3,h4,rfl⟩:=h2;dsimp only;exact ⟨rfl,ht,b,h3,h4,rfl⟩
theorem Fu (p:Nat) (num dep:Int) (x:ByteArray) (r:List ByteArray) (w:World) (H:ah w p num dep (x::r)) (hv:bH p w) (hx:Ref.cA x=false) :
  () 182 #[p] w (cQ p 2 num w):=by
 have hsz:=H.sizes x zad;go_enter func182,ntmps182;go_wp2_with fail;refine (aF p num dep x r _ H).mono ?_;rintro e w1 ⟨rfl,ho,H1⟩;have ht1:=ho.ai;have hv1:=hv.ai ht1;clear ho;dsimp only;go_wp2_with fail;refine (ng x _ hsz hv1.here.err).mono ?_;rintro e w2 ⟨hb2,u,rfl,_⟩;rw [hx];have H2:=H1.aw hb2;obtain ⟨c0,c1⟩:=H2.cells;have ht2:ak p w w2:=ht1.trans (aP hb2);clear H1 hb2 ht1 hv1;dsimp only;go_wp2_with fail;refine (aU num dep 2 _).mono ?_;rintro e w3 h3;obtain ⟨ht,b,h4,h5,rfl⟩:=cC ht2 h3;dsimp only;exact ⟨rfl,ht,b,h4,h5,rfl⟩
theorem Dg (p:Nat) (num dep:Int) (x:ByteArray) (r:List ByteArray) (w:World) (H:ah w p num dep (x::r)) (hv:bH p w) (hx:Ref.cA x=true) :
  () 182 #[p] w fun e w'=>e = .returned (.int .u64 (Ref.dV x))/\ak p w w'/\ah w' p num dep r:=by
 have hsz:=H.sizes x zad;go_enter func182,ntmps182;go_wp2_with fail;refine (aF p num dep x r _ H).mono ?_;rintro e w1 ⟨rfl,ho,H1⟩;have ht1:=ho.ai;have hv1:=hv.ai ht1;clear ho;dsimp only;go_wp2_with fail;refine (ng x _ hsz hv1.here.err).mono ?_;rintro e w2 ⟨hb2,u,rfl,hu⟩;rw [hx,hu hx];have H2:=H1.aw hb2;have ht2:ak p w w2:=ht1.trans (aP hb2);clear H1 hb2 ht1 hv1 hu u;dsimp only;go_wp2;go_ret;exact ⟨rfl,ht2,H2⟩
theorem ak.BI {o:Nat} (h:ak p w w1) (hN:w.heap.size<=N):ak p w (w1.setCell ⟨N,o,none⟩ v):=by
 have ho:=aa w1 N o v;exact ⟨ho.os.trans h.os,ho.tape.trans h.tape,ho.output.trans h.output,by rw [ho.size];exact h.size,fun k hk hp=>(ho.block k zaa).trans (h.block k hk hp)⟩
theorem ak.alloc (h:ak p w w1) (o:Obj):ak p w (w1.alloc o):=h.trans (aP ((FP _ _).alloc (u0 _) _))
theorem ak.drew (h:ak p w w1):ak p w w1.drew:=⟨h.os,h.tape,h.output,h.size,h.block⟩
theorem ah.only (H:ah w p num dep l) (ho:gV N w w') (hN:p<N):ah w' p num dep l:=by
 obtain ⟨a,cap,hp,hc,hs⟩:=H.row;refine ⟨⟨a,cap,?_,hc,fun h => ?_⟩,H.len,H.sizes⟩
 ·rw [ho.block p zaa];exact hp
 ·obtain ⟨b,off,h1,h2,h3,h4⟩:=hs h;refine ⟨b,off,h1,h2,by rw [ho.size];exact h3,fun i hi => ?_⟩;rw [ho.cell (p:=⟨b,off+i,none⟩) (show b≠N by omega)];exact h4 i hi
theorem ah.lt (H:ah w p num dep l):p<w.heap.size:=by
 obtain ⟨a,cap,hp,hc,hs⟩:=H.row;exact (ph.1 hp).1
theorem ah.drew (H:ah w p num dep l):ah w.drew p num dep l:=H.aw (FP _ _).drew
theorem bH.alloc (h:bH p w) (o:Obj):bH p (w.alloc o):=h.ai ((ak.refl p w).alloc o)
theorem ah.alloc (H:ah w p num dep l) (o:Obj):ah (w.alloc o) p num dep l:=H.aw ((FP _ _).alloc (u0 _) _)
theorem Gv:Tryz.f274.results=#[.cell 2 238]:=rfl
theorem El:(Tryz.prog.info? 238).map (·.size)=some 1:=zab
theorem DU (p:Nat) (num dep:Int) (x:ByteArray) (r:List ByteArray) (w:World) (H:ah w p num dep (x::r)) (hv:bH p w) (hx:Ref.called x=true) :
  () 274 #[p] w fun e w'=>e = .returned (.agg #[x])/\ak p w w'/\ah w' p num dep r:=by
 have hpl:=H.lt;go_enter func274,ntmps274;go_wp2_with fail;refine (lx p num dep x r _ (H.alloc _) (hv.alloc _) hx).mono ?_;rintro e w1 ⟨rfl,ht1,H1⟩;dsimp only;have hN:w1.heap[w.heap.size]?=some (.cells #[ByteArray.empty] 238 (0,0)):=by
  rw [ht1.block w zad zaa];exact LC w _
 have cN:w1.cell? w=some ↑ByteArray.empty:=by rw [JJ w1 _ 0 _ _ _ hN];rfl
 have fN:w1.frozen? ⟨w,0,none⟩=false:=zar;have ht:ak p w w1:=((ak.refl p w).alloc _).trans ht1;clear ht1;go_wp2;have h2:=LP w1 w 0 _ _ (.string x) hN;exact dQ Gv _ 238 _ (0,0) _ rfl h2 underlying238 rfl El rfl ⟨rfl,ht.BI (u0 _),H1.only (aa _ _ _ _) hpl⟩
theorem Bi (p:Nat) (num dep:Int) (w:World) (H:ah w p num dep []) :
  () 274 #[p] w (cQ p 2 num w):=by
 go_enter func274,ntmps274;go_wp2_with fail;refine (ja p num dep _ _ (H.alloc _)).mono ?_;rintro e w1 ⟨ht,b,h3,h4,rfl⟩;dsimp only;exact ⟨rfl,((ak.refl p w).alloc _).trans ht,b,by simp at h3;omega,h4,rfl⟩
theorem F9 (p:Nat) (num dep:Int) (x:ByteArray) (r:List ByteArray) (w:World) (H:ah w p num dep (x::r)) (hv:bH p w) (hx:Ref.called x=false) :
  () 274 #[p] w (cQ p 2 num w):=by
 go_enter func274,ntmps274;go_wp2_with fail;refine (mE p num dep x r _ (H.alloc _) (hv.alloc _) hx).mono ?_;rintro e w1 ⟨ht,b,h3,h4,rfl⟩;dsimp only;exact ⟨rfl,((ak.refl p w).alloc _).trans ht,b,by simp at h3;omega,h4,rfl⟩
namespace Pro
def pOf (P:ByteArray->Bool):List ByteArray->Option (ByteArray×List ByteArray)
 | []=>none
 | x::r=>if P x then some (x,r) else none
def gB:List ByteArray->Option (Int×List ByteArray)
 | []=>none
 | x::r=>if Ref.cA x then some (Ref.dV x,r) else none
def oU:ByteArray:=⟨#[114,97,105,115,101]⟩
def mA:ByteArray:=⟨#[115,101,110,100]⟩
def gD:ByteArray:=⟨#[99,97,110,99,101,108]⟩
def bAs:ByteArray:=⟨#[97,115]⟩
def dt (l:List ByteArray):Option ((ByteArray×Int×Option ByteArray)×List ByteArray) :=
 match pOf Ref.called l with
 | none=>none
 | some (x,l1)=>match gB l1 with
  | none=>none
  | some (d,[])=>some ((x,d,none),[])
  | some (d,y::r)=>if y.toList == bAs.toList then
    match pOf Ref.called r with
    | none=>none
    | some (a,l3)=>some ((x,d,some a),l3)
   else some ((x,d,none),y::r)
end Pro
theorem ak.cell (h:ak p w w') {a:Addr} (hb:a.block<w.heap.size) (hp:¬ a.block=p):w'.cell? a=w.cell? a:=LM (w:=w) (h.block a.block hb hp)
def eB (p:Nat) (num dep:Int) (res:Option (Value×List ByteArray)) (w:World) (e:Ending) (w':World):Prop:=match res with
 | none=>cQ p 2 num w e w'
 | some (v,r)=>e = .returned v/\ak p w w'/\ah w' p num dep r
theorem fs (p:Nat) (num dep:Int) (l:List ByteArray) (w:World) (H:ah w p num dep l) (hv:bH p w) :
  () 274 #[p] w (eB p num dep ((Pro.pOf Ref.called l).map fun q=>(.agg #[.string q.1],q.2)) w):=by
 cases l with
 | nil=>exact Bi p num dep w H
 | cons x r =>
  cases hx:Ref.called x
  ·have:Pro.pOf Ref.called (x::r)=none:=zay;rw [this];exact F9 p num dep x r w H hv hx
  ·have:Pro.pOf Ref.called (x::r)=some (x,r):=zay;rw [this];exact DU p num dep x r w H hv hx
theorem jz (p:Nat) (num dep:Int) (l:List ByteArray) (w:World) (H:ah w p num dep l) (hv:bH p w) :
  () 182 #[p] w (eB p num dep ((Pro.gB l).map fun q=>(.int .u64 q.1,q.2)) w):=by
 cases l with
 | nil=>exact Ay p num dep w H
 | cons x r =>
  cases hx:Ref.cA x
  ·have:Pro.gB (x::r)=none:=by rw [Pro.gB,hx];rfl
   rw [this];exact Fu p num dep x r w H hv hx
  ·have:Pro.gB (x::r)=some (Ref.dV x,r):=by rw [Pro.gB,hx];rfl
   rw [this];exact Dg p num dep x r w H hv hx
theorem fT (p:Nat) (num dep:Int) (l:List ByteArray) (w:World) (H:ah w p num dep l) (hv:bH p w) :
  () 179 #[p,.func (.func 225) #[] #[]] w (eB p num dep ((Pro.pOf Ref.called l).map fun q=>(.string q.1,q.2)) w):=by
 cases l with
 | nil=>exact ja p num dep _ w H
 | cons x r =>
  cases hx:Ref.called x
  ·have:Pro.pOf Ref.called (x::r)=none:=zay;rw [this];exact mE p num dep x r w H hv hx
  ·have:Pro.pOf Ref.called (x::r)=some (x,r):=zay;rw [this];exact lx p num dep x r w H hv hx
def uS (x:ByteArray) (d:Int):Option ByteArray->Value
 | none => .iface 240 (.agg #[.string x,.int .u64 d])
 | some a => .iface 242 (.agg #[.string x,.int .u64 d,.string a])
theorem zw (p:Nat) (num dep:Int) (l:List ByteArray) (w:World) (H:ah w p num dep l) (hv:bH p w) :
  () 275 #[p] w (eB p num dep ((Pro.dt l).map fun q=>(uS q.1.1 q.1.2.1 q.1.2.2,q.2)) w):=by
 have hpl:=H.lt;cases hn:Pro.pOf Ref.called l with
 | none =>
  have HS:Hid (Pro.dt l=none):=by unfold Hid Pro.dt;rw [hn]
  go_enter func275,ntmps275;go_wp2_with fail;refine (fs p num dep l _ H hv).mono ?_;rintro e w1 h1;rw [hn] at h1;obtain ⟨ht,b,h3,h4,rfl⟩:=h1;dsimp only;refine ⟨rfl,?_⟩;rw [HS.out];exact ⟨ht,b,h3,h4,rfl⟩
 | some q =>
  obtain ⟨x,l1⟩:=q;cases hd:Pro.gB l1 with
  | none =>
   have HS:Hid (Pro.dt l=none):=by unfold Hid Pro.dt;rw [hn];simp only;rw [hd]
   go_enter func275,ntmps275;go_wp2_with fail;refine (fs p num dep l _ H hv).mono ?_;rintro e w1 h1;rw [hn] at h1;obtain ⟨rfl,ht1,H1⟩:=h1;dsimp only;go_wp2_with fail;refine (jz p num dep l1 _ H1 (hv.ai ht1)).mono ?_;rintro e w2 h2;rw [hd] at h2;obtain ⟨ht,b,h3,h4,rfl⟩:=h2;dsimp only;refine ⟨rfl,?_⟩;rw [HS.out];exact ⟨ht1.trans ht,b,Fq ht1.size h3,h4,rfl⟩
  | some q =>
   obtain ⟨d,l2⟩:=q;go_enter func275,ntmps275;go_wp2_with fail;refine (fs p num dep l _ H hv).mono ?_;rintro e w1 h1;rw [hn] at h1;obtain ⟨rfl,ht1,H1⟩:=h1;dsimp only;go_wp2_with fail;refine (jz p num dep l1 _ H1 (hv.ai ht1)).mono ?_;rintro e w2 h2;rw [hd] at h2;obtain ⟨rfl,ht2,H2⟩:=h2;dsimp only;have ht:=ht1.trans ht2;have hs2:=ht.size;clear ht1 ht2 H1;cases l2 with
   | nil =>
    have HS:Hid (Pro.dt l=some ((x,d,none),[])):=by unfold Hid Pro.dt;rw [hn];simp only;rw [hd]
    clear hn hd;go_wp2_with fail;refine (skip_none p num dep Pro.bAs _ (H2.alloc _)).mono ?_;exact zdK
   | cons y r =>
    cases hy:(y.toList == Pro.bAs.toList)
    ·have HS:Hid (Pro.dt l=some ((x,d,none),y::r)):=zb8;clear hn hd;go_wp2_with fail;refine (qA p num dep y r Pro.bAs _ (H2.alloc _) hy).mono ?_;exact zdK
    ·have HS:Hid (Pro.dt l=match Pro.pOf Ref.called r with | none=>none | some (a,l3)=>some ((x,d,some a),l3)):=zb8;clear hn hd;go_wp2_with fail;refine (jM p num dep y r Pro.bAs _ (H2.alloc _) hy).mono ?_;rintro e w3 ⟨rfl,ho3,H3⟩;have hp2:=H2.lt;have ht3:ak p w w3:=(ht.alloc _).trans ho3.ai;have hN:w3.heap[w2.heap.size]?=some (.cells #[x,.int .u64 d] 240 (0,0)):=by
      rw [ho3.block w2 zaa];exact LC w2 _
     have cN0:w3.cell? w2=some ↑x:=by rw [JJ w3 _ 0 _ _ _ hN];rfl
     have cN1:w3.cell? ⟨w2,1,none⟩=some (.int .u64 d):=by rw [JJ w3 _ 1 _ _ _ hN];rfl
     have hNl:w2.heap.size<w3.heap.size:=(ph.1 hN).1;clear ho3;dsimp only;go_wp2_with fail;have hv3:bH p w3.drew:=(hv.ai ht3).ai (ak.refl p w3).drew;have H3d:ah w3.drew p num dep r:=H3.drew;have HN:Hid (w2.heap.size<w3.heap.size/\¬ w2.heap.size=p):=⟨hNl,zaa⟩;cases hr:Pro.pOf Ref.called r with
     | none =>
      have HS2:Hid (Pro.dt l=none):=by unfold Hid;rw [HS.out,hr]
      refine No zab ?_;change wpAny _ _ _ _ _ _ _ (World.drew _);refine yA [0,1] ?_;refine Li rfl (fun K hK => ?_) (Li rfl (fun K hK => ?_) LW)
      ·go_simp;refine hK _ _ ?_;clear hK K;refine zA 1 rfl fun K hK => ?_;exact zdb
      ·go_simp;refine hK _ _ ?_;clear hK K;refine yA [0,2] ?_;refine Li rfl (fun K hK => ?_) (Li rfl (fun K hK => ?_) LW)
       ·exact zdb
       ·go_simp
        (refine (fT p num dep r _ H3d hv3).mono ?_;rintro e w4 h4;rw [hr] at h4;obtain ⟨ht,b,h5,h6,rfl⟩:=h4;dsimp only;refine ⟨rfl,?_⟩;rw [HS2.out];exact ⟨ht3.trans ((ak.refl p w3).drew.trans ht),b,Fq ht3.size h5,h6,rfl⟩)
     | some q =>
      obtain ⟨a,l3⟩:=q;have HS2:Hid (Pro.dt l=some ((x,d,some a),l3)):=by unfold Hid;rw [HS.out,hr]
      go_region_held3 (fun W=>W.cell? w2=some ↑x/\W.cell? ⟨w2,1,none⟩=some (.int .u64 d)) (first | go_keep | exact ⟨k0,k1⟩)
       ((go_at_call 179;refine (fT p num dep r _ H3d hv3).mono ?_;rintro e w4 h4;rw [hr] at h4;obtain ⟨rfl,ht4,H4⟩:=h4;have k0:=(ht4.cell (a:=⟨w2,0,none⟩) HN.out.1 HN.out.2).trans cN0;have k1:=(ht4.cell (a:=⟨w2,1,none⟩) HN.out.1 HN.out.2).trans cN1;dsimp only))
      go_wp2;go_ret;unfold eB;rw [HS2.out];exact ⟨rfl,ht3.trans ((ak.refl p w3).drew.trans ht4),H4⟩
namespace Pro
def bE:List ByteArray->Option (Ref.Act×List ByteArray)
 | []=>none
 | x::r =>
  if x.toList == Ref.eS then (pOf Ref.called r).map fun q=>(⟨oU,q.1,ByteArray.empty,0⟩,q.2)
  else if x.toList == Ref.kU then (dt r).map fun q=>(⟨mA,q.1.1,q.1.2.2.getD ByteArray.empty,q.1.2.1⟩,q.2)
  else if x.toList == Ref.eL then (pOf Ref.called r).map fun q=>(⟨gD,ByteArray.empty,q.1,0⟩,q.2)
  else none
end Pro
def bg (a:Ref.Act):Value :=
 if a.how.toList == Ref.eS then .iface 428 (.agg #[a.event])
 else if a.how.toList == Ref.eL then .iface 244 (.agg #[a.id])
 else uS a.event a.delay (if a.id.size=0 then none else some a.id)
theorem np:Pro.oU.toList=Ref.eS:=zaq
theorem l9:Pro.mA.toList=Ref.kU:=zaq
theorem gL:Pro.gD.toList=Ref.eL:=zaq
theorem D7 (h:Ref.plain s=true):¬ s.size=0:=by
 rw [Ref.plain,L1,L1,Ox] at h;omega
theorem Ar (h:Ref.called s=true):¬ s.size=0:=by
 rw [Ref.called,Bool.or_eq_true] at h
 rcases h with h | h
 ·exact D7 h
 ·rw [Ref.lg,L1] at h;have:=Ref.pI h.1;have e:Ref.bK.size=6:=rfl;omega
theorem gU {P:ByteArray->Bool} {l r:List ByteArray} {x:ByteArray} (h:Pro.pOf P l=some (x,r)):P x=true/\l=x::r:=by
 cases l with
 | nil=>cases h
 | cons y t =>
  rw [Pro.pOf] at h;split at h
  ·cases h;exact ⟨zam,rfl⟩
  ·cases h
theorem Gp {d:Int} {a:ByteArray} (h:Pro.dt l=some ((x,d,some a),r)):¬ a.size=0:=by
 unfold Pro.dt at h;split at h
 ·cases h
 ·split at h
  ·cases h
  ·cases h
  ·split at h
   ·split at h
    ·cases h
    ·rename_i hq;cases h
     exact Ar (gU hq).1
   ·cases h
theorem Ae (n:ByteArray):bg ⟨Pro.oU,n,ByteArray.empty,0⟩ = .iface 428 (.agg #[n]):=by
 unfold bg;rw [np,LA zac]
theorem xz (n:ByteArray):bg ⟨Pro.gD,ByteArray.empty,n,0⟩ = .iface 244 (.agg #[n]):=by
 unfold bg;rw [gL,KQ zac,LA zac]
theorem CS {l r:List ByteArray} {x:ByteArray} {d:Int} {o:Option ByteArray} (h:Pro.dt l=some ((x,d,o),r)):bg ⟨Pro.mA,x,o.getD ByteArray.empty,d⟩=uS x d o:=by
 unfold bg;rw [l9,KQ zac,KQ zac];cases o with
 | none=>rfl
 | some a=>rw [KQ (show ¬ (Option.getD (some a) ByteArray.empty).size=0 from Gp h)];rfl
theorem qH (p:Nat) (num dep:Int) (l:List ByteArray) (w:World) (H:ah w p num dep l) (hv:bH p w) :
  () 256 #[p] w (eB p num dep ((Pro.bE l).map fun q=>(bg q.1,q.2)) w):=by
 cases l with
 | nil =>
  go_enter func256,ntmps256;go_wp2_with fail;refine (lX p num dep _ H).mono ?_;rintro e w1 h1;obtain ⟨ht,b,h3,h4,rfl⟩:=cC (ak.refl p w) h1;dsimp only;exact ⟨rfl,ht,b,h3,h4,rfl⟩
 | cons x r =>
  cases h1:(x.toList == [114,97,105,115,101])
  ·cases h2:(x.toList == [115,101,110,100])
   ·cases h3:(x.toList == [99,97,110,99,101,108])
    ·have HS:Hid (Pro.bE (x::r)=none):=by unfold Hid;rw [Pro.bE,Ref.eS,h1,Ref.kU,h2,Ref.eL,h3];rfl
     go_enter func256,ntmps256;go_wp2_with fail;refine (aF p num dep x r _ H).mono ?_;rintro e w1 ⟨rfl,ho,H1⟩;have ht1:=ho.ai;obtain ⟨c0,c1⟩:=H1.cells;clear ho;dsimp only;go_wp2_with fail;refine (aU num dep 2 _).mono ?_;rintro e w2 hq;obtain ⟨ht,b,h4,h5,rfl⟩:=cC ht1 hq;dsimp only;refine ⟨rfl,?_⟩;rw [HS.out];exact ⟨ht,b,h4,h5,rfl⟩
    ·cases hn:Pro.pOf Ref.called r with
     | none =>
      have HS:Hid (Pro.bE (x::r)=none):=zca;exact zc2
     | some q =>
      obtain ⟨n,r'⟩:=q;have HS:Hid (Pro.bE (x::r)=some (⟨Pro.gD,ByteArray.empty,n,0⟩,r')):=zca;go_enter func256,ntmps256;go_wp2_with fail;refine (aF p num dep x r _ H).mono ?_;rintro e w1 ⟨rfl,ho,H1⟩;have ht1:=ho.ai;clear ho;dsimp only;go_wp2_with fail;refine (fs p num dep r _ H1 (hv.ai ht1)).mono ?_;rintro e w2 hq;rw [hn] at hq;obtain ⟨rfl,ht2,H2⟩:=hq;clear hn;dsimp only;go_wp2;go_ret;unfold eB;rw [HS.out];exact ⟨by rw [xz];rfl,ht1.trans ht2,H2⟩
   ·cases hn:Pro.dt r with
    | none =>
     have HS:Hid (Pro.bE (x::r)=none):=zch;go_enter func256,ntmps256;go_wp2_with fail;refine (aF p num dep x r _ H).mono ?_;rintro e w1 ⟨rfl,ho,H1⟩;have ht1:=ho.ai;clear ho;dsimp only;go_wp2_with fail;refine (zw p num dep r _ H1 (hv.ai ht1)).mono ?_;rintro e w2 hq;rw [hn] at hq;obtain ⟨ht,b,h4,h5,rfl⟩:=hq;dsimp only;refine ⟨rfl,?_⟩;rw [HS.out];exact ⟨ht1.trans ht,b,Fq ht1.size h4,h5,rfl⟩
    | some q =>
     obtain ⟨⟨n,d,o⟩,r'⟩:=q;have HS:Hid (Pro.bE (x::r)=some (⟨Pro.mA,n,o.getD ByteArray.empty,d⟩,r')):=zch;have HV:Hid _:=CS hn;go_enter func256,ntmps256;go_wp2_with fail;refine (aF p num dep x r _ H).mono ?_;rintro e w1 ⟨rfl,ho,H1⟩;have ht1:=ho.ai;clear ho;dsimp only;go_wp2_with fail;refine (zw p num dep r _ H1 (hv.ai ht1)).mono ?_;rintro e w2 hq;rw [hn] at hq;obtain ⟨rfl,ht2,H2⟩:=hq;clear hn;dsimp only;go_wp2;go_ret;unfold eB;rw [HS.out];exact ⟨by rw [HV.out];rfl,ht1.trans ht2,H2⟩
  ·cases hn:Pro.pOf Ref.called r with
   | none =>
    have HS:Hid (Pro.bE (x::r)=none):=by unfold Hid;rw [Pro.bE,Ref.eS,h1,hn];rfl
    exact zc2
   | some q =>
    obtain ⟨n,r'⟩:=q;have HS:Hid (Pro.bE (x::r)=some (⟨Pro.oU,n,ByteArray.empty,0⟩,r')):=by unfold Hid;rw [Pro.bE,Ref.eS,h1,hn];rfl
    go_enter func256,ntmps256;go_wp2_with fail;refine (aF p num dep x r _ H).mono ?_;rintro e w1 ⟨rfl,ho,H1⟩;have ht1:=ho.ai;clear ho;dsimp only;go_wp2_with fail;refine (fs p num dep r _ H1 (hv.ai ht1)).mono ?_;rintro e w2 hq;rw [hn] at hq;obtain ⟨rfl,ht2,H2⟩:=hq;clear hn;dsimp only;go_wp2;go_ret;unfold eB;rw [HS.out];exact ⟨by rw [Ae];rfl,ht1.trans ht2,H2⟩
namespace Ref
structure EC (a:Act):Prop where
 how:a.how.size<=1073741824
 event:a.event.size<=1073741824
 id:a.id.size<=1073741824
 delay:∃ n:Nat,a.delay=n/\n<=18446744073709551615
def Ct (k:Int) (x:SV):Bool:=decide (x.s.up=k) && !(x.s.word.toList == bh)
def sr (X:List SV) (k:Int):Nat->List Nat
 | 0=>[]
 | i+1=>if (X[i]?.map (Ct k)).getD false then sr X k i++[i] else sr X k i
def regions (X:List SV) (k:Int):List Nat:=sr X k X.length
end Ref
def z7 (w:World) (v:Value) (A:List Ref.Act):Prop:=Row w 292 4 Ref.EP v A
namespace Ref
def BW (X:List SV) (k:Int):SV:=X.getD k.toNat ⟨⟨ByteArray.empty,ByteArray.empty,false,0,0,0,[],[],[],0,0⟩,Sl.nil,Sl.nil,Sl.nil⟩
def rU (X:List SV) (u:Int):Bool:=X.all fun y => !decide (y.s.up=u)
def fits (X:List SV) (x:SV):Bool :=
 if decide (X.length=24)||(decide (5<x.s.depth)||(decide (x.s.up<0)&&(x.s.word.toList == bh))) then false
 else if x.s.up<0 then true
 else if ((BW X x.s.up).s.word.toList == bW)||((BW X x.s.up).s.word.toList == bh) then false
 else if (BW X x.s.up).s.word.toList == aM then !(x.s.word.toList == bW)
 else !rU X x.s.up || !(x.s.word.toList == bh)
def CJ (ms:List Move):Bool:=ms.any (·.after)
def vi (X:List SV):Bool:=X.any fun x=>CJ x.s.aj
def kg (X:List SV) (t:Bool) (m:Move):Bool:=(!(m.to.toList == [])&&decide (place X m.to<0))||(t&&(bY m.au||(!m.after&&cn m.event bK)))
def sG (X:List SV) (t:Bool) (at':Int) (m:Move):Int:=if kg X t m then fj at' m.line else at'
def GQ (t:Bool) (a2:Int) (x:State):Int :=
 if t&&bY x.leave then fj (if t&&bY x.enter then fj a2 x.has0 else a2) x.has1 else if t&&bY x.enter then fj a2 x.has0 else a2
def pE (X:List SV) (t:Bool) (k:Nat) (at':Int) (x:State):Int :=
 GQ t (x.aj.foldl (sG X t) (if place X x.name<k then fj at' x.line else at')) x
def n5 (X:List SV) (t:Bool):Nat->Int
 | 0=>0
 | k+1=>match X[k]? with
  | some x=>pE X t k (n5 X t k) x.s
  | none=>n5 X t k
def named (X:List SV):Int:=n5 X (vi X) X.length
end Ref
def He (w:World) (vm:Ref.Sl) (M:List Ref.MV):Prop:=Row w 278 6 Ref.I5 vm.v M/\∀ x∈M,z7 w x.v.v x.m.au
structure JT (m:Ref.Move):Prop where
 event:m.event.size<=1073741824
 dst:m.to.size<=1073741824
 au:∀ a∈m.au,Ref.EC a
 len:m.au.length<=1048576
structure Deep (w:World) (x:Ref.SV):Prop where
 aj:∃ M:List Ref.MV,M.map (·.m)=x.s.aj/\He w x.vm M
 enter:z7 w x.ve.v x.s.enter
 leave:z7 w x.vl.v x.s.leave
 okM:∀ m∈x.s.aj,JT m
 okE:∀ a∈x.s.enter,Ref.EC a
 okL:∀ a∈x.s.leave,Ref.EC a
 lenM:x.s.aj.length<=1048576
 lenE:x.s.enter.length<=1048576
 lenL:x.s.leave.length<=1048576
 name:x.s.name.size<=1073741824
namespace Ref
def emb (s:State):SV:=⟨s,Sl.nil,Sl.nil,Sl.nil⟩
def st0:State:=⟨ByteArray.empty,ByteArray.empty,false,0,0,0,[],[],[],0,0⟩
def fY (S:List State) (d:Int):Nat->Int
 | 0 => -1
 | k+1=>if (S.getD k st0).depth=d-1 then (k:Int) else if (S.getD k st0).depth<d-1 then -1 else fY S d k
def dx (S:List State) (d:Int):Int:=if 0<d then fY S d S.length else -1
def jJ (x:jS) (up d:Int):State:=⟨x.word,x.name,x.deep,up,d,x.sline,[],[],[],0,0⟩
def gh (S:List State) (k:Nat) (f:State->State):List State:=S.set k (f (S.getD k st0))
def bB (S:List State) (i:Nat) (x:jS) (d:Int):Option (List State) :=
 if 0<d/\dx S d<0 then none
 else if x.kind=115 then
  if fits (S.map emb) (emb (jJ x (dx S d) d)) then some (S++[jJ x (dx S d) d]) else none
 else if dx S d<0 then none
 else if (S.getD (dx S d).toNat st0).word.toList == bh then none
 else if x.kind=109 then
  if (S.getD (dx S d).toNat st0).word.toList == bW then none
  else some (gh S (dx S d).toNat fun p=>{ p with aj:=p.aj++[x.m] })
 else if x.kind=101 then
  if 0<(S.getD (dx S d).toNat st0).has0 then none
  else some (gh S (dx S d).toNat fun p=>{ p with has0:=i+1,enter:=x.au })
 else if x.kind=108 then
  if 0<(S.getD (dx S d).toNat st0).has1 then none
  else some (gh S (dx S d).toNat fun p=>{ p with has1:=i+1,leave:=x.au })
 else some S
def a8 (A:List (jS×Int)):Nat->Option (List State)
 | 0=>some []
 | i+1=>match a8 A i with
  | none=>none
  | some S=>match A[i]? with
   | none=>some S
   | some (x,d)=>bB S i x d
def dN (S:List State):Nat->Option Int
 | 0=>none
 | k+1=>match dN S k with
  | some l=>some l
  | none=>if ((S.getD k st0).word.toList == aM)&&(regions (S.map emb) k).isEmpty then some (S.getD k st0).line else none
theorem rZ {S:List State} {i:Nat} {l:Int} (h:dN S i=some l):∀ j,i<=j->dN S j=some l
 | 0,hj=>by rw [QE.1 hj] at h;exact h
 | j+1,hj=>by
  by_cases e:i=j+1
  ·rw [<- e];exact h
  ·rw [dN,rZ h j zaa]
structure LV where
 L:jS
 vm:Sl
 vd:Sl
end Ref
def eo (n:Nat):List Value:=[(n:Int)]
namespace Ref
def gE (y:SV) (i:Int) (A:List Act) (v:Sl):SV:={ y with s:={ y.s with has0:=i,enter:=A },ve:=v }
def gF (y:SV) (i:Int) (A:List Act) (v:Sl):SV:={ y with s:={ y.s with has1:=i,leave:=A },vl:=v }
end Ref
theorem Row.range {α:Type} {f:α->List Value} {X:List α} (hf:∀ x,(f x).length=n) (h:Row w e n f (.slice g X.length cap) X) {i:Nat} (hi:i<X.length) :
  w.rangeAt g (i*n) (f X[i]):=by
 intro j v hj;have hjn:j<n:=by rw [<- hf X[i]];exact (Ku.1 hj).1
 rw [Row.cell hf h hjn hi];exact hj
theorem lJ (S:List Ref.State) (d:Int):∀ m:Nat,Ref.fY S d m<m
 | 0=>by simp [Ref.fY]
 | m+1=>by
  have:=lJ S d m;exact ze4
theorem oP (S:List Ref.State) (d:Int) (h:¬ Ref.dx S d<0):Ref.dx S d<S.length:=by
 unfold Ref.dx at h ⊢;split
 ·exact lJ S d S.length
 ·rename_i h0;rw [KQ h0] at h;exact absurd zac h
theorem lI (S:List Ref.State) (d:Int):∀ m:Nat,-1<=Ref.fY S d m
 | 0=>by simp [Ref.fY]
 | m+1=>by
  have:=lI S d m;exact ze4
theorem CK (S:List Ref.State) (d:Int) : -1<=Ref.dx S d:=by
 unfold Ref.dx;split
 ·exact lI S d S.length
 ·decide
theorem rh {α:Type} {f:α->List Value} {n:Nat} (hf:∀ x,(f x).length=n):∀ (X:List α) (i j:Nat) (v:Value) (x':α),j<n->∀ (h:i<X.length),f x'=(f X[i]).set j v->(X.flatMap f).set (i*n+j) v=(X.set i x').flatMap f
 | [],i,j,v,x',_,h,_=>by simp at h
 | x::X,0,j,v,x',hj,_,e=>by
  rw [MP,Ps,NM,List.set_append_left _ _ (by rw [hf];exact hj),List.set_cons_zero,MP,e];rfl
 | x::X,i+1,j,v,x',hj,h,e=>by
  have hlen:(f x).length=n:=hf x;rw [MP,P6,OZ _ _ (by rw [hlen];omega),hlen,List.set_cons_succ,MP];rw [show i*n+n+j-n=i*n+j from by omega,rh hf X i j v x' hj zaB e]
theorem l6 {e':TypeId} {c:Array Value} {fz:Nat×Nat} (h:w.ownsRow base e size v n xs) (ho:gV g w w') (hg:w.heap[g]?=some (.cells c e' fz)) (hne:e≠e'):w'.ownsRow base e size v n xs:=by
 refine ⟨h.1,?_⟩
 rcases h.2 with h' | ⟨k,cap,cur,hv,hb,hk,r⟩
 ·exact .inl h'
 ·have hkg:k≠g:=by
   intro e0;subst e0;rw [hg] at hk;simp only [Option.some.injEq,Obj.cells.injEq] at hk;exact hne hk.2.1.symm
  exact .inr ⟨k,cap,cur,hv,hb,by rw [ho.block k hkg];exact hk,r⟩
theorem bc (h:w.ownsRow base e size v n xs) (hb:Below w w w'):w'.ownsRow base e size v n xs:=by
 refine ⟨h.1,?_⟩
 rcases h.2 with h' | ⟨g,cap,cur,hv,hb',hg,r⟩
 ·exact .inl h'
 ·exact .inr ⟨g,cap,cur,hv,hb',by rw [hb.block g ((ph.1 hg).1)];exact hg,r⟩
theorem fI {A:List (Ref.jS×Int)} {i:Nat} (h:Ref.a8 A i=none):∀ j,i<=j->Ref.a8 A j=none
 | 0,hj=>by rw [QE.1 hj] at h;exact h
 | j+1,hj=>by
  by_cases e:i=j+1
  ·rw [<- e];exact h
  ·rw [Ref.a8,fI h j zaa]
namespace Pro
def bDo:ByteArray:=⟨#[100,111]⟩
def gq:Nat->List ByteArray->Option (List Ref.Act×List ByteArray)
 | 0,l=>some ([],l)
 | _+1,[]=>some ([],[])
 | f+1,x::r =>
  if x.toList == bDo.toList then
   match bE r with
   | none=>none
   | some (a,r')=>match gq f r' with
    | none=>none
    | some (A,t)=>some (a::A,t)
  else some ([],x::r)
def a7 (l:List ByteArray):Option (List Ref.Act×List ByteArray):=gq l.length l
theorem qy {P:ByteArray->Bool} (h:pOf P l=some (x,r)):r.length+1=l.length:=by
 rw [(gU h).2];rfl
theorem nh {l r:List ByteArray} {d:Int} (h:gB l=some (d,r)):r.length+1=l.length:=by
 cases l with
 | nil=>cases h
 | cons y t =>
  rw [gB] at h;split at h
  ·cases h;rfl
  ·cases h
theorem DZ {q:ByteArray×Int×Option ByteArray} (h:dt l=some (q,r)):r.length<l.length:=by
 unfold dt at h;split at h
 ·cases h
 ·rename_i x l1 h1;have e1:=qy h1;split at h
  ·cases h
  ·rename_i d h2;have e2:=nh h2;cases h;simp at e2 ⊢;omega
  ·rename_i d y t h2;have e2:=nh h2;simp only [List.length_cons] at e2;split at h
   ·split at h
    ·cases h
    ·rename_i a l3 h3;have e3:=qy h3;cases h;omega
   ·cases h;simp only [List.length_cons];omega
theorem jb {l r:List ByteArray} {a:Ref.Act} (h:bE l=some (a,r)):r.length<l.length:=by
 cases l with
 | nil=>cases h
 | cons x t =>
  rw [bE] at h;simp only [List.length_cons];split at h
  ·exact zee
  ·split at h
   ·obtain ⟨⟨n,r'⟩,h1,h2⟩:=LZ.1 h;cases h2
    have:=DZ h1;dsimp only at this ⊢;omega
   ·split at h
    ·exact zee
    ·cases h
theorem rX:∀ (f g:Nat) (l:List ByteArray),l.length<=f->l.length<=g->gq f l=gq g l
 | 0,0,l,_,_=>rfl
 | 0,g+1,[],_,_=>rfl
 | f+1,0,[],_,_=>rfl
 | f+1,g+1,[],_,_=>rfl
 | 0,_,x::r,h,_=>by simp at h
 | _+1,0,x::r,_,h=>by simp at h
 | f+1,g+1,x::r,hf,hg=>by
  simp only [gq];split
  ·cases h:bE r with
   | none=>rfl
   | some q =>
    obtain ⟨a,r'⟩:=q;have:=jb h;simp only [List.length_cons] at hf hg;simp only;rw [rX f g r' zaa zaa]
  ·rfl
theorem jm (h:(x.toList == bDo.toList)=false):a7 (x::r)=some ([],x::r):=by
 show gq (r.length+1) (x::r)=_;rw [gq,h];rfl
theorem jk (h:(x.toList == bDo.toList)=true) (h2:bE r=none):a7 (x::r)=none:=by
 show gq (r.length+1) (x::r)=_;rw [gq,h,h2];rfl
theorem ji {x:ByteArray} {r r':List ByteArray} {a:Ref.Act} (h:(x.toList == bDo.toList)=true) (h2:bE r=some (a,r')):a7 (x::r)=(a7 r').map fun q=>(a::q.1,q.2):=by
 have:=jb h2;show gq (r.length+1) (x::r)=_;rw [gq,h,LA rfl,h2];simp only;rw [rX r.length r'.length r' zaa (u0 _)];show _=(gq r'.length r').map _;cases gq r'.length r' with
 | none=>rfl
 | some q=>rfl
end Pro
theorem rW (h:w.ownsRow base e size v n xs) (ht:ak p w w') (hp:p<base):w'.ownsRow base e size v n xs:=by
 refine ⟨h.1,?_⟩
 rcases h.2 with h' | ⟨k,cap,cur,hv,hb,hk,r⟩
 ·exact .inl h'
 ·exact .inr ⟨k,cap,cur,hv,hb,by rw [ht.block k (ph.1 hk).1 zaa];exact hk,r⟩
theorem ak.grown (h:ak p w w1) (hg:w1.grownBy w2 row) (hr:∀ k,row=some k->w.heap.size<=k):ak p w w2 :=
 ⟨hg.os.trans h.os,hg.tape.trans h.tape,hg.output.trans h.output,Fq h.size hg.size,fun k hk hp=>(hg.block k (LU hk h.size) (fun e=>by have:=hr k e.symm;omega)).trans (h.block k hk hp)⟩
theorem ah.grown (H:ah w p num dep l) (hg:w.grownBy w' row) (hr:∀ k,row=some k->p<k):ah w' p num dep l:=by
 obtain ⟨a,cap,hp,hc,hs⟩:=H.row;refine ⟨⟨a,cap,?_,hc,fun h => ?_⟩,H.len,H.sizes⟩
 ·rw [hg.block p (ph.1 hp).1 (fun e=>by have:=hr p e.symm;omega)];exact hp
 ·obtain ⟨b,off,h1,h2,h3,h4⟩:=hs h;refine ⟨b,off,h1,h2,LU h3 hg.size,fun i hi => ?_⟩;rw [hg.cell_far ⟨b,off+i,none⟩ h3 (fun e=>by have:=hr b e.symm;omega)];exact h4 i hi
theorem mT:(Tryz.prog.info? 235).map (fun i=>(i.zero,i.size,i.bytes))=some (some .nilIface,1,16):=zab
def gH (p:Nat) (num dep:Int) (l:List ByteArray) (w:World) (e:Ending) (w':World):Prop:=match Pro.a7 l with
 | none=>cQ p 2 num w e w'
 | some (A,r)=>∃ a n c,e = .returned (.slice a n c)/\w'.ownsRow w.heap.size 235 1 (.slice a n c) A.length (A.map bg)/\ak p w w'/\ah w' p num dep r
theorem Ad (a:Ref.Act):∃ t u,bg a = .iface t u:=by
 unfold bg uS
 repeat' split
 all_goals exact ⟨_,_,rfl⟩
theorem iW (p:Nat) (num dep:Int) (l:List ByteArray) (w:World) (H:ah w p num dep l) (hv:bH p w) :
  () 223 #[p] w (gH p num dep l w):=by
 have hpl:=H.lt;have hll:=H.len;obtain ⟨i0,hi0,hz0,hz1,hz2⟩:=M6 mT;go_enter func223,ntmps223;go_wp2_with fail
 go_loopg [3] l.length (fun q v wr=>∃ (va:Option Addr) (vn vc:Nat) (A:List Ref.Act) (l':List ByteArray),q=l'.length/\v = .slice va vn vc/\A.length+l'.length<=l.length/\Pro.a7 l=(Pro.a7 l').map (fun q=>(A++q.1,q.2))/\wr.ownsRow w 235 1 (.slice va vn vc) A.length (A.map bg)/\ak p w wr/\ah wr p num dep l')
 case atStart=>exact ⟨none,0,0,[],l,rfl,rfl,zad,by cases Pro.a7 l <;> rfl,Mz _ _ _ _,ak.refl _ _,H⟩
 case round =>
  obtain ⟨va,vn,vc,A,l',hq,rfl,hlen,hP,hown,ht,H'⟩:=hrel;have HP:Hid _:=hP;clear hP;have hsz:=ht.size;cases l' with
  | nil =>
   go_wp2_with (go_at_call 222;refine (skip_none p num dep Pro.bDo _ H').mono ?_;rintro e w9 ⟨rfl,hw9⟩;rw [hw9];clear hw9 w9);go_ret;unfold gH;rw [HP.out];exact ⟨va,vn,vc,rfl,zbn,ht,H'⟩
  | cons x r =>
   cases hx:(x.toList == Pro.bDo.toList)
   ·have HS:Hid _:=Pro.jm (r:=r) hx;go_wp2_with (go_at_call 222;refine (qA p num dep x r Pro.bDo _ H' hx).mono ?_;rintro e w9 ⟨rfl,hw9⟩;rw [hw9];clear hw9 w9);go_ret;unfold gH;rw [HP.out,HS.out];exact ⟨va,vn,vc,rfl,zbn,ht,H'⟩
   ·cases ha:Pro.bE r with
    | none =>
     have HS:Hid (Pro.a7 l=none):=by unfold Hid;rw [HP.out,Pro.jk hx ha];rfl
     go_wp2_with fail;refine (jM p num dep x r Pro.bDo _ H' hx).mono ?_;rintro e w1 ⟨rfl,ho1,H1⟩;have ht1:=ht.trans ho1.ai;clear ho1;dsimp only;go_wp2_with fail;refine (qH p num dep r _ H1 (hv.ai ht1)).mono ?_;rintro e w2 hq2;rw [ha] at hq2;obtain ⟨ht2,b,h4,h5,rfl⟩:=hq2;dsimp only;refine ⟨rfl,?_⟩;unfold gH;rw [HS.out];exact ⟨ht1.trans ht2,b,Fq ht1.size h4,h5,rfl⟩
    | some q =>
     obtain ⟨a,r'⟩:=q;have hal:=Pro.jb ha;have HS:Hid (Pro.a7 l=(Pro.a7 r').map (fun q=>((A++[a])++q.1,q.2))):=by
      unfold Hid;rw [HP.out,Pro.ji hx ha];cases Pro.a7 r' with
      | none=>rfl
      | some q=>simp
     go_wp2_with fail;refine (jM p num dep x r Pro.bDo _ H' hx).mono ?_;rintro e w1 ⟨rfl,ho1,H1⟩;have ht1:=ht.trans ho1.ai;have hown1:=rW hown ho1.ai hpl;clear ho1;dsimp only;go_wp2_with fail;refine (qH p num dep r _ H1 (hv.ai ht1)).mono ?_;rintro e w2 hq2;rw [ha] at hq2;obtain ⟨rfl,ht2,H2⟩:=hq2;have hown2:=rW hown1 ht2 hpl;have ht3:=ht1.trans ht2;have hs3:=ht3.size;clear ha H1 ht1 ht2 hown1 hown;simp only [List.length_cons] at hlen;dsimp only;obtain ⟨at1,au1,hav⟩:=Ad a;rw [hav];have HAV:Hid _:=hav;clear hav;go_wp2_with (at_builtin;refine wpList_append_lies _ zae (.tmp 6) (.tmp 9) _ zae w.heap.size 235 i0 _ 1 16 underlying143 hi0 hz0 hz1 hz2 rfl zac (.slice va vn vc) A.length (A.map bg) zae (NH hown2 _) ⟨w2,0,none⟩ 1 1 [.iface at1 au1] zae zae (World.news_of_block (cs:=#[.iface at1 au1]) (t:=235) (fr:=(0,0)) (LC w2 _)) (by intro u hu;rw [LD.1 hu];rfl) zaa zag zaa zaf (w2.heap.size+1) zad ?_;intro g5 cap5 w5 hown5 hgrow hat hlt5)
     go_roundg r'.length
     case measure=>omega
     case rel =>
      refine ⟨some ⟨g5,0,none⟩,A.length+1,cap5,A++[a],r',rfl,rfl,zaf,HS.out,?_,(ht3.alloc _).grown hgrow (fun k e=>(L9 hown2 k e).1),(H2.alloc _).grown hgrow (fun k e=>LU hpl (L9 hown2 k e).1)⟩;rw [LO,Mu,NR,List.map_nil,HAV.out];exact hown5
theorem Ef:Tryz.f183.results=#[.cell 2 362]:=rfl
theorem BJ:(Tryz.prog.info? 362).map (·.size)=some 3:=zab
namespace Pro
def cG (l:List ByteArray):Option (List Ref.Act×List ByteArray):=match a7 l with
 | none=>none
 | some ([],_)=>none
 | some (a::A,r)=>some (a::A,r)
end Pro
def ew (p:Nat) (num dep:Int) (l:List ByteArray) (w:World) (e:Ending) (w':World):Prop:=match Pro.cG l with
 | none=>cQ p 2 num w e w'
 | some (A,r)=>∃ a n c,e = .returned (.agg #[.int .i64 num,.int .i64 dep,.slice a n c])/\w'.ownsRow w.heap.size 235 1 (.slice a n c) A.length (A.map bg)/\ak p w w'/\ah w' p num dep r
theorem gV.trans (h:gV g a b) (k:gV g b c):gV g a c:=⟨k.os.trans h.os,k.tape.trans h.tape,k.output.trans h.output,k.size.trans h.size,fun i hi=>(k.block i hi).trans (h.block i hi)⟩
theorem ak.iu (h:ak p w w1) (ho:gV N w1 w2) (hN:w.heap.size<=N):ak p w w2 :=
 ⟨ho.os.trans h.os,ho.tape.trans h.tape,ho.output.trans h.output,by rw [ho.size];exact h.size,fun k hk hp=>(ho.block k zaa).trans (h.block k hk hp)⟩
theorem jY (p:Nat) (num dep:Int) (l:List ByteArray) (w:World) (H:ah w p num dep l) (hv:bH p w) :
  () 183 #[p] w (ew p num dep l w):=by
 have hpl:=H.lt;cases ha:Pro.a7 l with
 | none =>
  have HS:Hid (Pro.cG l=none):=zbN;go_enter func183,ntmps183;go_wp2_with fail;refine (iW p num dep l _ (H.alloc _) (hv.alloc _)).mono ?_;rintro e w1 h1;unfold gH at h1;rw [ha] at h1;obtain ⟨ht,b,h4,h5,rfl⟩:=h1;dsimp only;refine ⟨rfl,?_⟩;unfold ew;exact zeu
 | some q =>
  obtain ⟨A,r⟩:=q;cases A with
  | nil =>
   have HS:Hid (Pro.cG l=none):=zbN;go_enter func183,ntmps183;go_wp2_with fail;refine (iW p num dep l _ (H.alloc _) (hv.alloc _)).mono ?_;rintro e w1 h1;unfold gH at h1;rw [ha] at h1;obtain ⟨a,n,c,rfl,hown,ht1,H1⟩:=h1;obtain rfl:n=0:=by
    rcases hown.2 with ⟨hv',_⟩ | ⟨g,cap,cur,hv',_⟩
    ·exact ze0
    ·exact ze0
   obtain ⟨c0,c1⟩:=H1.cells;have ht:ak p w w1:=((ak.refl p w).alloc _).trans ht1;clear ht1 hown ha;dsimp only;go_wp2_with fail;refine (aU num dep 2 _).mono ?_;rintro e w2 hq;obtain ⟨ht',b,h4,h5,rfl⟩:=cC ht hq;dsimp only;refine ⟨rfl,?_⟩;unfold ew;rw [HS.out];exact ⟨ht',b,h4,h5,rfl⟩
  | cons a0 A =>
   have HS:Hid (Pro.cG l=some (a0::A,r)):=zbN;go_enter func183,ntmps183;go_wp2_with fail;refine (iW p num dep l _ (H.alloc _) (hv.alloc _)).mono ?_;rintro e w1 h1;unfold gH at h1;rw [ha] at h1;obtain ⟨a,n,c,rfl,hown,ht1,H1⟩:=h1;obtain rfl:n=(a0::A).length:=by
    rcases hown.2 with ⟨hv',h0⟩ | ⟨g,cap,cur,hv',_⟩
    ·simp only [Value.slice.injEq] at hv';rw [h0];exact hv'.2.1
    ·exact ze0
   have hN:w1.heap[w.heap.size]?=some (.cells #[(0:Int),(0:Int),.slice none 0 0] 362 (0,0)):=by
    rw [ht1.block w zad zaa];exact LC w _
   have d0:w1.cell? w=some ↑(0:Int):=by rw [JJ w1 _ 0 _ _ _ hN];rfl
   have d1:w1.cell? ⟨w,1,none⟩=some ↑(0:Int):=by rw [JJ w1 _ 1 _ _ _ hN];rfl
   have d2:w1.cell? ⟨w,2,none⟩=some (.slice none 0 0):=by rw [JJ w1 _ 2 _ _ _ hN];rfl
   have f0:w1.frozen? ⟨w,0,none⟩=false:=zar;have f1:w1.frozen? ⟨w,1,none⟩=false:=zar;have f2:w1.frozen? ⟨w,2,none⟩=false:=zar;obtain ⟨c0,c1⟩:=H1.cells;have ht:ak p w w1:=((ak.refl p w).alloc _).trans ht1;have hown':=aD hown (show w.heap.size<=(w.alloc (.cells #[(0:Int),(0:Int),.slice none 0 0] 362)).heap.size by simp);have hpos:(((a0::A).length:Int) == 0)=false:=zaf;clear ht1 ha hown;generalize hm:(a0::A).length=m at *;have HM:Hid _:=hm;clear hm;dsimp only;go_wp2;have o1:=aa w1 w 0 (.int .i64 num);have o2:=aa (w1.setCell w (.int .i64 num)) w.heap.size 1 (.int .i64 dep);have o3:=aa ((w1.setCell w (.int .i64 num)).setCell ⟨w,1,none⟩ (.int .i64 dep)) w.heap.size 2 (.slice a m c);have oo:=(o1.trans o2).trans o3;have g1:=LP w1 w 0 _ _ (.int .i64 num) hN;have g2:=LP _ w 1 _ _ (.int .i64 dep) g1;have g3:=LP _ w 2 _ _ (.slice a m c) g2;refine dQ Ef _ 362 _ (0,0) _ rfl g3 underlying362 rfl BJ rfl ?_;unfold ew;rw [HS.out];exact ⟨a,m,c,rfl,by rw [HM.out];exact l6 hown' oo hN zac,ht.iu oo (u0 _),H1.only oo hpl⟩
theorem ed (p:Nat) (num dep:Int) (l:List ByteArray) (w:World) (H:ah w p num dep l) (hv:bH p w) :
  () 179 #[p,.func (.func 221) #[] #[]] w (eB p num dep ((Pro.pOf Ref.plain l).map fun q=>(.string q.1,q.2)) w):=by
 cases l with
 | nil=>exact ja p num dep _ w H
 | cons x r =>
  cases hx:Ref.plain x
  ·have:Pro.pOf Ref.plain (x::r)=none:=zay;rw [this];exact rR p num dep x r w H hv hx
  ·have:Pro.pOf Ref.plain (x::r)=some (x,r):=zay;rw [this];exact qd p num dep x r w H hv hx
theorem fu (p:Nat) (num dep:Int) (l:List ByteArray) (w:World) (H:ah w p num dep l) (hv:bH p w) :
  () 179 #[p,.func (.func 180) #[] #[]] w (eB p num dep ((Pro.pOf Ref.bX l).map fun q=>(.string q.1,q.2)) w):=by
 cases l with
 | nil=>exact ja p num dep _ w H
 | cons x r =>
  cases hx:Ref.bX x
  ·have:Pro.pOf Ref.bX (x::r)=none:=zay;rw [this];exact n7 p num dep x r w H hv hx
  ·have:Pro.pOf Ref.bX (x::r)=some (x,r):=zay;rw [this];exact mZ p num dep x r w H hv hx
theorem Gw:Tryz.f176.results=#[.cell 4 354]:=rfl
theorem gG:(Tryz.prog.info? 354).map (·.size)=some 4:=zab
theorem oK (p:Nat) (num dep k:Int) (l:List ByteArray) (w:World) (H:ah w p num dep l) (hv:bH p w) (hn:Pro.pOf Ref.plain l=none) :
  () 176 #[p,(k:Int)] w (cQ p 2 num w):=by
 have hpl:=H.lt;obtain ⟨c0,c1⟩:=H.cells;go_enter func176,ntmps176;go_wp2_with fail;have H1:=(H.alloc (.cells #[(0:Int),(0:Int),(0:Int),ByteArray.empty] 354)).drew;have hv1:bH p (w.alloc (.cells #[(0:Int),(0:Int),(0:Int),ByteArray.empty] 354)).drew:=(hv.alloc _).ai (ak.refl p _).drew;refine No zab ?_;change wpAny _ _ _ _ _ _ _ (World.drew _);refine tA 0 p rfl ?_;refine tA 1 p rfl ?_;refine tA 2 p rfl ?_;refine tA 4 (.int .i64 k) rfl ?_;refine tA 5 p rfl ?_;refine yA [3,6] ?_;refine Li rfl (fun K hK => ?_) (Li rfl (fun K hK => ?_) LW)
 ·go_simp;refine hK _ _ ?_;clear hK K;refine zA 6 rfl fun K hK => ?_;exact zdq
 ·exact zdq
theorem mh (p:Nat) (num dep k:Int) (l r:List ByteArray) (x:ByteArray) (w:World) (H:ah w p num dep l) (hv:bH p w) (hn:Pro.pOf Ref.plain l=some (x,r)) :
  () 176 #[p,(k:Int)] w fun e w'=>e = .returned (.agg #[(num:Int),(dep:Int),(k:Int),x])/\ak p w w'/\ah w' p num dep r:=by
 have hpl:=H.lt;obtain ⟨c0,c1⟩:=H.cells;go_enter func176,ntmps176;go_wp2_with fail;have H1:=(H.alloc (.cells #[(0:Int),(0:Int),(0:Int),ByteArray.empty] 354)).drew;have hv1:bH p (w.alloc (.cells #[(0:Int),(0:Int),(0:Int),ByteArray.empty] 354)).drew:=(hv.alloc _).ai (ak.refl p _).drew;go_region_held3 (fun W=>W.cell? p=some ↑(num:Int)/\W.cell? ⟨p,1,none⟩=some ↑(dep:Int)) (first | go_keep | exact ⟨k0,k1⟩ | exact ⟨k2,k3⟩)
  ((go_at_call 179;refine (ed p num dep l _ H1 hv1).mono ?_;rintro e w4 h4;rw [hn] at h4;obtain ⟨rfl,ht4,H4⟩:=h4;obtain ⟨k0,k1⟩:=H4.cells;have hN:w4.heap[w.heap.size]?=some (.cells #[(0:Int),(0:Int),(0:Int),ByteArray.empty] 354 (0,0)):=(ht4.block w zad zaa).trans (LC w _);have d0:w4.cell? w=some ↑(0:Int):=by rw [JJ w4 _ 0 _ _ _ hN];rfl
    have d1:w4.cell? ⟨w,1,none⟩=some ↑(0:Int):=by rw [JJ w4 _ 1 _ _ _ hN];rfl
    have d2:w4.cell? ⟨w,2,none⟩=some ↑(0:Int):=by rw [JJ w4 _ 2 _ _ _ hN];rfl
    have d3:w4.cell? ⟨w,3,none⟩=some ↑ByteArray.empty:=by rw [JJ w4 _ 3 _ _ _ hN];rfl
    have f0:w4.frozen? ⟨w,0,none⟩=false:=zar;have f1:w4.frozen? ⟨w,1,none⟩=false:=zar;have f2:w4.frozen? ⟨w,2,none⟩=false:=zar;have f3:w4.frozen? ⟨w,3,none⟩=false:=zar;have hne:¬ p=w.heap.size:=zaa;have hne2:¬ w.heap.size=p:=zaa;dsimp only))
 go_wp2;have o1:=aa w4 w 0 (.int .i64 num);have o2:=aa (w4.setCell w (.int .i64 num)) w.heap.size 1 (.int .i64 dep);have o3:=aa ((w4.setCell w (.int .i64 num)).setCell ⟨w,1,none⟩ (.int .i64 dep)) w.heap.size 2 (.int .i64 k);have o4:=aa (((w4.setCell w (.int .i64 num)).setCell ⟨w,1,none⟩ (.int .i64 dep)).setCell ⟨w,2,none⟩ (.int .i64 k)) w.heap.size 3 (.string x);have oo:=((o1.trans o2).trans o3).trans o4;have g1:=LP w4 w 0 _ _ (.int .i64 num) hN;have g2:=LP _ w 1 _ _ (.int .i64 dep) g1;have g3:=LP _ w 2 _ _ (.int .i64 k) g2;have g4:=LP _ w 3 _ _ (.string x) g3;have ht:ak p w w4:=((ak.refl p w).alloc _).drew.trans ht4;exact dQ Gw _ 354 _ (0,0) _ rfl g4 underlying354 rfl gG rfl ⟨rfl,ht.iu oo (u0 _),H4.only oo hpl⟩
theorem nr:Tryz.f177.results=#[.cell 2 354]:=rfl
namespace Pro
def oT:ByteArray:=⟨#[100,101,101,112]⟩
def dd (l:List ByteArray):Option ((ByteArray×Int)×List ByteArray):=match pOf Ref.plain l with
 | none=>none
 | some (x,[])=>some ((x,3),[])
 | some (x,y::r)=>if y.toList == oT.toList then some ((x,4),r) else some ((x,3),y::r)
end Pro
theorem fo {a b c d:Value} (hN:w.heap[N]?=some (.cells #[a,b,c,d] t (0,0))) :
  w.cell? N=some a/\w.cell? ⟨N,1,none⟩=some b/\w.cell? ⟨N,2,none⟩=some c/\w.cell? ⟨N,3,none⟩=some d/\w.frozen? ⟨N,0,none⟩=false/\w.frozen? ⟨N,1,none⟩=false/\w.frozen? ⟨N,2,none⟩=false/\w.frozen? ⟨N,3,none⟩=false :=
 ⟨by rw [JJ w _ 0 _ _ _ hN];rfl,by rw [JJ w _ 1 _ _ _ hN];rfl,by rw [JJ w _ 2 _ _ _ hN];rfl,by rw [JJ w _ 3 _ _ _ hN];rfl,zar,zar,zar,zar⟩
theorem lf {a b c d a' b' c' d':Value} (hN:w.heap[N]?=some (.cells #[a,b,c,d] t (0,0))) :
  ((((w.setCell N a').setCell ⟨N,1,none⟩ b').setCell ⟨N,2,none⟩ c').setCell ⟨N,3,none⟩ d').heap[N]?=some (.cells #[a',b',c',d'] t (0,0))/\gV N w ((((w.setCell N a').setCell ⟨N,1,none⟩ b').setCell ⟨N,2,none⟩ c').setCell ⟨N,3,none⟩ d'):=by
 have g1:=LP w N 0 _ _ a' hN;have g2:=LP _ N 1 _ _ b' g1;have g3:=LP _ N 2 _ _ c' g2;have g4:=LP _ N 3 _ _ d' g3;exact ⟨g4,(((aa _ _ _ _).trans (aa _ _ _ _)).trans (aa _ _ _ _)).trans (aa _ _ _ _)⟩
theorem pP (p:Nat) (num dep:Int) (l:List ByteArray) (w:World) (H:ah w p num dep l) (hv:bH p w) :
  () 177 #[p] w (eB p num dep ((Pro.dd l).map fun q=>(.agg #[(num:Int),(dep:Int),(q.1.2:Int),.string q.1.1],q.2)) w):=by
 have hpl:=H.lt;cases hn:Pro.pOf Ref.plain l with
 | none =>
  have HS:Hid (Pro.dd l=none):=by unfold Hid Pro.dd;rw [hn]
  go_enter func177,ntmps177;go_wp2_with fail;refine (oK p num dep 3 l _ (H.alloc _) (hv.alloc _) hn).mono ?_;rintro e w1 h1;obtain ⟨ht,b,h4,h5,rfl⟩:=h1;dsimp only;refine ⟨rfl,?_⟩;exact zeu
 | some q =>
  obtain ⟨x,l2⟩:=q;go_enter func177,ntmps177;go_wp2_with fail;refine (mh p num dep 3 l l2 x _ (H.alloc _) (hv.alloc _) hn).mono ?_;rintro e w1 ⟨rfl,ht1,H1⟩;dsimp only;have hN:w1.heap[w.heap.size]?=some (.cells #[(0:Int),(0:Int),(0:Int),ByteArray.empty] 354 (0,0)):=(ht1.block w zad zaa).trans (LC w _);have hNl:w.heap.size<w1.heap.size:=(ph.1 hN).1;have ht:ak p w w1:=((ak.refl p w).alloc _).trans ht1;have hp1:=H1.lt;clear ht1;have H2:=H1.alloc (.cells #[(num:Int),(dep:Int),(3:Int),x] 354);have hN2:(w1.alloc (.cells #[(num:Int),(dep:Int),(3:Int),x] 354)).heap[w.heap.size]?=some (.cells #[(0:Int),(0:Int),(0:Int),ByteArray.empty] 354 (0,0)):=by rw [MB _ _ _ hNl];exact hN
  have ht2:ak p w (w1.alloc (.cells #[(num:Int),(dep:Int),(3:Int),x] 354)):=ht.alloc _;have hM2:=LC w1 (.cells #[(num:Int),(dep:Int),(3:Int),x] 354);have hne:¬ w.heap.size=w1.heap.size:=zaa;have hne':¬ w1.heap.size=w.heap.size:=zaa;cases l2 with
  | nil =>
   have HS:Hid (Pro.dd l=some ((x,3),[])):=by unfold Hid Pro.dd;rw [hn]
   go_wp2_with fail;refine (skip_none p num dep Pro.oT _ H2).mono ?_;rintro e w9 ⟨rfl,hw9⟩;rw [hw9];clear hw9 w9 hN;generalize w1.alloc (.cells #[(num:Int),(dep:Int),(3:Int),x] 354)=w2 at *;obtain ⟨a0,a1,a2,a3,b0,b1,b2,b3⟩:=fo hN2;obtain ⟨c0,c1,c2,c3,_,_,_,_⟩:=fo hM2;have gg:=lf (a' := .int .i64 num) (b' := .int .i64 dep) (c' := .int .i64 3) (d' := .string x) hN2;have GG:Hid _:=gg;clear gg;exact zdB
  | cons y r =>
   cases hy:(y.toList == Pro.oT.toList)
   ·have HS:Hid (Pro.dd l=some ((x,3),y::r)):=zcj;go_wp2_with fail;refine (qA p num dep y r Pro.oT _ H2 hy).mono ?_;rintro e w9 ⟨rfl,hw9⟩;rw [hw9];clear hw9 w9 hN;generalize w1.alloc (.cells #[(num:Int),(dep:Int),(3:Int),x] 354)=w2 at *;obtain ⟨a0,a1,a2,a3,b0,b1,b2,b3⟩:=fo hN2;obtain ⟨c0,c1,c2,c3,_,_,_,_⟩:=fo hM2;have GG:Hid _:=lf (a' := .int .i64 num) (b' := .int .i64 dep) (c' := .int .i64 3) (d' := .string x) hN2;exact zdB
   ·have HS:Hid (Pro.dd l=some ((x,4),r)):=zcj;go_wp2_with fail;refine (jM p num dep y r Pro.oT _ H2 hy).mono ?_;rintro e w3 ⟨rfl,ho3,H3⟩;have hN3:=(ho3.block w zaa).trans hN2;have hM3:=(ho3.block w1 zaa).trans hM2;have ht3:=ht2.trans ho3.ai;have hM4:=LP w3 w1 2 _ _ (.int .i64 4) hM3;have oM:=aa w3 w1 2 (.int .i64 4);have hN4:=(oM.block w hne).trans hN3;have ht4:=ht3.iu oM zaa;have H4:=H3.only oM zaa;obtain ⟨_,_,m2,_,_,_,m6,_⟩:=fo hM3;clear hN hN2 hM2 ho3 ht3 H3 hM3 hN3 oM;dsimp only
    go_upto_region 4 with fail
    generalize w3.setCell ⟨w1,2,none⟩ (.int .i64 4)=w4 at *;obtain ⟨a0,a1,a2,a3,b0,b1,b2,b3⟩:=fo hN4;obtain ⟨c0,c1,c2,c3,_,_,_,_⟩:=fo (a := .int .i64 num) (b := .int .i64 dep) (c := .int .i64 4) (d := .string x) hM4;have GG:Hid _:=lf (a' := .int .i64 num) (b' := .int .i64 dep) (c' := .int .i64 4) (d' := .string x) hN4;go_wp2;refine dQ nr _ 354 _ (0,0) _ rfl GG.out.1 underlying354 rfl gG rfl ?_;unfold eB;rw [HS.out];exact ⟨rfl,ht4.iu GG.out.2 (u0 _),H4.only GG.out.2 hpl⟩
