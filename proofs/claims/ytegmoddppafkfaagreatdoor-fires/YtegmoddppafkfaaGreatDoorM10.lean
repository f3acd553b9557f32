import Derived.Test.YtegmoddppafkfaaGreatDoorM00
import Derived.Test.YtegmoddppafkfaaGreatDoorSh
import Derived.Lib.AppendIntMem
import Derived.Deep.RegionHeld3
import Derived.Deep.AppendLies
set_option maxRecDepth 100000
set_option maxHeartbeats 8000000
namespace Go.Proofs.YtegmoddppafkfaaGreatDoor
variable {zp:Prop}
theorem zc1 (h:zp:=by
 go_enter func274,ntmps274;go_wp2_with fail;refine (aF p num dep x r _ H).mono ?_;rintro e w1 ⟨rfl,ho,H1⟩;have ht1:=ho.ai;clear ho;dsimp only;go_wp2_with fail;refine (fg p num dep r _ H1 (hv.ai ht1)).mono ?_;rintro e w2 hq;rw [hn] at hq;obtain ⟨ht,b,h4,h5,rfl⟩:=hq;dsimp only;refine ⟨rfl,?_⟩;rw [HS.out];exact ⟨ht1.trans ht,b,La ht1.size h4,h5,rfl⟩):zp:=h
theorem zc5 (h:zp:=by
 have HP:Hid _:=hp;have HL:Hid _:=hl;clear hp hl;go_enter func248,ntmps248;go_wp2_with (first
  | (go_at_call 244;refine (gd s _ zag).mono ?_;rintro e w9 ⟨rfl,hw9⟩;rw [hw9,HP.out];clear hw9 w9)
  | (go_at_call 276;refine (kQ s _ hs hv).mono ?_;rintro e w9 ⟨rfl,hb9⟩;rw [HL.out]))
 go_ret;exact ⟨by rw [HC.out];rfl,hb9⟩):zp:=h
theorem zda (h:zp:=by
 go_simp;refine hK _ _ ?_;clear hK K;refine zA 2 rfl fun K hK => ?_;go_simp
 (refine (fG p num dep r _ H3d hv3).mono ?_;rintro e w4 h4;rw [hr] at h4;obtain ⟨ht,b,h5,h6,rfl⟩:=h4;dsimp only;refine ⟨rfl,?_⟩;rw [HS2.out];exact ⟨ht3.trans ((ak.refl p w3).drew.trans ht),b,La ht3.size h5,h6,rfl⟩)):zp:=h
theorem zdb (h:zp:=by
 go_wp2_with (first | (go_at_call 272;refine (dt _ _).mono ?_;rintro e w9 ⟨rfl,hw9⟩;rw [hw9,H1.out];clear hw9 w9) | (go_at_call 273;refine (kO _ _).mono ?_;rintro e w9 ⟨rfl,hw9⟩;rw [hw9,H2.out];clear hw9 w9))
 go_round
 case rel=>exact ⟨k+1,zaa,zah,HS.out⟩
 case measure=>simp [intOf];omega):zp:=h
theorem zdp (h:zp:=by
 go_simp
 (refine (dS p num dep l _ H1 hv1).mono ?_;rintro e w4 h4;rw [hn] at h4;obtain ⟨ht,b,h5,h6,rfl⟩:=h4;dsimp only;exact ⟨rfl,((ak.refl p w).alloc _).drew.trans ht,b,by simp at h5;omega,h6,rfl⟩)):zp:=h
theorem zdA (h:zp:=by
 dsimp only;go_wp2;refine dJ mR _ 376 _ (0,0) _ rfl GG.out.1 underlying376 rfl gx rfl ?_;unfold eh;rw [HS.out];exact ⟨rfl,ht2.gY GG.out.2 (K7 _),H2.only GG.out.2 hpl⟩):zp:=h
theorem zdK (h:zp:=by
 rintro e w9 ⟨rfl,hw9⟩;rw [hw9];clear hw9 w9;dsimp only;go_wp2;go_ret;unfold eh;rw [HS.out];exact ⟨rfl,ht.alloc _,H2.alloc _⟩):zp:=h
theorem zec (h:zp:=by
 obtain ⟨⟨n,r'⟩,h1,h2⟩:=LD.1 h;cases h2
 have:=qe h1;dsimp only at this ⊢;omega):zp:=h
theorem zem (h:zp:=by
 go_ret;exact ⟨rfl,aa _ _ _ _,H.fR hp hbp hbw hst zaa (fun _=>rfl)⟩):zp:=h
theorem zen (h:zp:=by
 go_ret;exact ⟨rfl,aa _ _ _ _,H.fR hp hbp hbw hst zaa (fun h=>zaa)⟩):zp:=h
theorem zer (h:zp:=by
 rw [HS.out];exact ⟨((ak.refl p w).alloc _).trans ht,b,zaP,h5,rfl⟩):zp:=h
theorem zeI (h:zp:=by
 go_enter func244,ntmps244;go_wp2;go_ret;exact ⟨zaY,rfl⟩):zp:=h
theorem ze0 (h:zp:=by
 simp only [Value.slice.injEq] at hv';exact hv'.2.1):zp:=h
theorem ze1 (h:zp:=by
 go_wp2;go_ret;exact ⟨by rw [HR.out];simp,hb1⟩):zp:=h
theorem ze4 (h:zp:=by
 unfold Ref.fM;split
 ·omega
 ·split <;> omega):zp:=h
theorem ze6 (h:zp:=by
 go_wp2;go_meet
 case rel=>exact ⟨rfl,rfl⟩):zp:=h
theorem zfo (h:zp:=by
 go_ret;exact ⟨zaY,rfl⟩):zp:=h
theorem zas (h:zp:=by rw [L8];rfl):zp:=h
theorem zat (h:zp:=by simp [World.frozen?,hN]):zp:=h
theorem zaA (h:zp:=by rw [Pro.pOf,hx];rfl):zp:=h
theorem zaF (h:zp:=by rw [Lb w p 2 _ _ _ hp];rfl):zp:=h
theorem zaP (h:zp:=by simp at h4;omega):zp:=h
theorem zaY (h:zp:=by rw [HP.out];rfl):zp:=h
theorem za0 (h:zp:=by simpa using h3):zp:=h
theorem zbj (h:zp:=by simpa using hown):zp:=h
theorem zbH (h:zp:=by rw [Lb w p 0 _ _ _ hp];rfl):zp:=h
theorem zbI (h:zp:=by rw [Lb w p 1 _ _ _ hp];rfl):zp:=h
theorem zbJ (h:zp:=by unfold Hid Pro.cD;rw [ha]):zp:=h
theorem zbO (h:zp:=by simp [World.frozen?,hp]):zp:=h
theorem zb7 (h:zp:=by unfold Hid Pro.dh;rw [hn];simp only;rw [hd];simp only;rw [hy];rfl):zp:=h
theorem zb9 (h:zp:=by unfold Hid;rw [Pro.bB,Ref.eK,h1,Ref.kK,h2,Ref.eE,h3,hn];rfl):zp:=h
theorem zcg (h:zp:=by unfold Hid;rw [Pro.bB,Ref.eK,h1,Ref.kK,h2,hn];rfl):zp:=h
theorem zci (h:zp:=by unfold Hid Pro.cZ;rw [hn];simp only;rw [hy];rfl):zp:=h
open Tryz
variable {s x:ByteArray} {k p cap N n g base size:Nat} {w w' b a c w1 w2:World} {v:Value} {num dep:Int} {r l:List ByteArray} {e t:TypeId} {xs:List Value} {row:Option Nat}
section
open Go.RowKit
open Go.PlainAid (bt get_bt bt_nonneg bt_le bt_end)
theorem dt (c:Int) (w:World):() 272 #[.int .u8 c] w fun e w'=>e = .returned (.bool (Ref.small c))/\w'=w:=by
 by_cases h1:97<=c
 ·by_cases h2:c<=122
  ·go_enter func272,ntmps272;go_wp2;go_ret;exact ⟨by simp [Ref.small,h1,h2],rfl⟩
  ·go_enter func272,ntmps272;go_wp2;go_ret;exact ⟨by rw [Ref.small,LM (show ¬ c<=122 by omega),MZ];rfl,rfl⟩
 ·go_enter func272,ntmps272;go_wp2;go_ret;exact ⟨by rw [Ref.small,LM (show ¬ 97<=c by omega),Nv];rfl,rfl⟩
theorem kO (c:Int) (w:World):() 273 #[.int .u8 c] w fun e w'=>e = .returned (.bool (Ref.jy c))/\w'=w:=by
 by_cases h1:48<=c
 ·by_cases h2:c<=57
  ·go_enter func273,ntmps273;go_wp2;go_ret;exact ⟨by simp [Ref.jy,h1,h2],rfl⟩
  ·go_enter func273,ntmps273;go_wp2;go_ret;exact ⟨by rw [Ref.jy,LM (show ¬ c<=57 by omega),MZ];rfl,rfl⟩
 ·go_enter func273,ntmps273;go_wp2;go_ret;exact ⟨by rw [Ref.jy,LM (show ¬ 48<=c by omega),Nv];rfl,rfl⟩
namespace Ref
theorem wv (h0:small (bt s 0)=true) (h:(small (bt s k)||(jy (bt s k)||decide (bt s k=95)))=true):iN s k=true:=by
 by_cases hk:k=0
 ·rw [hk,um];exact h0
 ·unfold iN more;unfold jy at h;rw [Ma (show k≠0 from hk),Ou,Bool.or_comm (decide (bt s k=95))];exact h
theorem FK (h1:small (bt s k)=false) (h2:jy (bt s k)=false) (h3:¬ bt s k=95):iN s k=false:=by
 unfold iN more;unfold jy at h2;rw [h1,h2,LM h3,OL,MZ,OL]
theorem yO (hk:k<s.size) (h:iN s k=false):plain s=false:=by
 rw [plain,tf hk h,Nv]
end Ref
theorem gd (s:ByteArray) (w:World) (hs:s.size<=maxLen):() 244 #[s] w fun e w'=>e = .returned (.bool (Ref.plain s))/\w'=w:=by
 unfold maxLen at hs;have hb:=get_bt s;by_cases he:s.size=0
 ·have he':(s.toList == [])=true:=by rw [PE,<- NX,Ref.isEmpty_eq];exact Ma he
  have HP:Hid (Ref.plain s=false):=by unfold Hid Ref.plain;rw [LM (show ¬ 0<s.size by omega),Nv,MZ]
  exact zeI
 ·have he':(s.toList == [])=false:=by
   rw [MO];intro h;have:=Ref.isEmpty_eq s;rw [h] at this;exact he (Nz this.symm)
  by_cases h8:8<s.size
  ·have HP:Hid (Ref.plain s=false):=by unfold Hid Ref.plain;rw [LM (show ¬ s.size<=8 by omega),MZ,MZ]
   exact zeI
  ·cases hm:Ref.small (bt s 0)
   ·have HP:Hid (Ref.plain s=false):=Ref.yO (k:=0) zaa (by rw [Ref.um];exact hm);have HM:Hid _:=hm;clear hm;go_enter func244,ntmps244;go_wp2_with (go_at_call 272;refine (dt _ _).mono ?_;rintro e w9 ⟨rfl,hw9⟩;rw [hw9,HM.out];clear hw9 w9);exact zfo
   ·have HM:Hid _:=hm;clear hm;go_enter func244,ntmps244;go_wp2_with (go_at_call 272;refine (dt _ _).mono ?_;rintro e w9 ⟨rfl,hw9⟩;rw [hw9,HM.out];clear hw9 w9)
    go_loop [20] (fun i=>∃ k:Nat,k<=s.size/\i = .int .i64 k/\∀ j,j<k->Ref.iN s j=true) (fun i=>s.size-(intOf i).toNat)
    case atStart=>exact ⟨0,Lk _,rfl,fun _ h=>zaa⟩
    case round =>
     obtain ⟨k,hk,rfl,hok⟩:=hrel;have Hok:Hid (∀ j,j<k->Ref.iN s j=true):=hok;clear hok;by_cases hlt:k<s.size
     ·cases h1:Ref.small (bt s k)
      ·cases h2:Ref.jy (bt s k)
       ·by_cases h3:bt s k=95
        ·have HS:Hid _:=Ref.wy Hok (Ref.wv HM.out (by rw [Ma h3,Pw,Pw]));have H1:Hid _:=h1;have H2:Hid _:=h2;have h3':(bt s k != 95)=false:=by rw [h3];rfl
         clear h1 h2 h3;exact zdb
        ·have HP:Hid (Ref.plain s=false):=Ref.yO hlt (Ref.FK h1 h2 h3);have H1:Hid _:=h1;have H2:Hid _:=h2;have h3':(bt s k != 95)=true:=za0;clear h1 h2 h3;go_wp2_with (first | (go_at_call 272;refine (dt _ _).mono ?_;rintro e w9 ⟨rfl,hw9⟩;rw [hw9,H1.out];clear hw9 w9) | (go_at_call 273;refine (kO _ _).mono ?_;rintro e w9 ⟨rfl,hw9⟩;rw [hw9,H2.out];clear hw9 w9));exact zfo
       ·have HS:Hid _:=Ref.wy Hok (Ref.wv HM.out (by rw [h2,NT,Pw]));have H1:Hid _:=h1;have H2:Hid _:=h2;clear h1 h2;exact zdb
      ·have HS:Hid _:=Ref.wy Hok (Ref.wv HM.out (by rw [h1,NT]));have H1:Hid _:=h1;clear h1;go_wp2_with (go_at_call 272;refine (dt _ _).mono ?_;rintro e w9 ⟨rfl,hw9⟩;rw [hw9,H1.out];clear hw9 w9)
       go_round
       case rel=>exact ⟨k+1,zaa,zah,HS.out⟩
       case measure=>simp [intOf];omega
     ·obtain rfl:k=s.size:=zaa;have HP:Hid (Ref.plain s=true):=by
       unfold Hid Ref.plain;rw [Ref.CF Hok.out,Ou,Ma (show 0<s.size by omega),Ma (show s.size<=8 by omega)];rfl
      clear hb;go_wp2;exact zfo
structure gn (w:World):Prop where
 syn:∃ ev,w.cell? ⟨7,0,none⟩=some ev/\(ev = .nilIface\/∃ te pe,ev = .iface te pe)
 rng:∃ ev,w.cell? ⟨8,0,none⟩=some ev/\(ev = .nilIface\/∃ te pe,ev = .iface te pe)
def GI (s:ByteArray) (w:World) (e:Ending) (w':World):Prop:=Below w w w'/\∃ u:Int,e = .returned (.tuple #[.int .u64 u,.bool (Ref.cd s)])/\(Ref.cd s=true->u=Ref.dN s)
theorem oG (w:World) (t:TypeId) (s:ByteArray):Below w w (Lib.bytesWorld w t s):=by
 unfold Lib.bytesWorld;exact Lib.below_freeze ((Below.drew (K9 _ w)).alloc (K7 _) _) (p:=⟨w,_,none⟩) (K7 _) 1
theorem tJ {p:Addr} (h:w.cell? p=some v) (hb:Below w w w'):w'.cell? p=some v:=by
 rw [hb.cell (LC w _ h)];exact h
theorem gn.aq (h:gn w) (hb:Below w w w'):gn w' :=
 let ⟨e1,h1,h2⟩:=h.syn
 let ⟨e3,h3,h4⟩:=h.rng
 ⟨⟨e1,tJ h1 hb,h2⟩,⟨e3,tJ h3 hb,h4⟩⟩
theorem fZ (s p:ByteArray):Lib.hasPrefix s.data.toList p.data.toList=Ref.b8 s p:=by
 rw [<- Lib.hasPrefix_raw,Ref.b8,Ref.BZ]
theorem my {p:ByteArray} (h:Ref.b8 s p=true):(⟨(Lib.trimPrefix s.data.toList p.data.toList).toArray⟩:ByteArray)=s.extract p.size s.size:=by
 refine Lib.trimPrefix_hit s p (Ref.ph h) ?_;rw [Ref.BZ];rw [Ref.b8,LJ] at h;exact h.2
theorem mM (s:ByteArray) (w:World) (hs:s.size<=1073741824) (hv:gn w):() 250 #[s] w (GI s w):=by
 have hb:=get_bt s;by_cases h0:1<s.size/\bt s 0=48
 ·obtain ⟨h1,h2⟩:=h0;have HD:Hid (Ref.cd s=false):=by
   unfold Hid;rw [Ref.cd,Ref.qD,Ma h1,Ma h2,Ou,Pw,NT,NT,Bool.not_true,MZ]
  have h2':(bt s 0 == 48)=true:=by rw [h2];rfl
  clear h2;go_enter func250,ntmps250;go_wp2;go_ret2;exact ⟨K9 _ _,0,by rw [HD.out];rfl,fun h=>by rw [HD.out] at h;cases h⟩
 ·have HN:Hid _:=Num.FI s h0;have HD0:Hid (decide (1<s.size)=true->(bt s 0 == 48)=false):=fun h=>by
   rw [MO];exact fun e=>h0 ⟨Nz h,e⟩
  clear h0;go_enter func250,ntmps250
  go_upto_region 1 with fail
  go_cut [13] (fun c wx=>c = .bool false/\wx=w)
  case first =>
   by_cases h1:1<s.size
   ·have h2':=HD0.out (Ma h1);exact ze6
   ·exact ze6
  case rest =>
   obtain ⟨rfl,hwc⟩:=hcut;rw [hwc];clear hwc wc;cases hp:Lib.parseUintB 64 s.data.toList with
   | ok u =>
    have HU:Hid _:=HN.out.1 u hp;go_wp2_with fail;refine (strconv_ParseUint_10_at64_ok s zaa u hp _).mono ?_;rintro e w1 ⟨rfl,hw1⟩;have hb1:Below w w w1:=by
     rcases hw1 with h | h
     ·rw [h];exact K9 _ _
     ·rw [h];exact oG _ _ _
    clear hw1 hp;dsimp only;go_wp2
    go_quiet (fail)
    go_wp2;go_ret2;exact ⟨Ng hb1 _,u,by rw [HU.out.1];rfl,fun _=>HU.out.2.symm⟩
   | «syntax» =>
    have HU:Hid _:=HN.out.2 (fun u h=>by rw [hp] at h;cases h);obtain ⟨ev,hv1,hv2⟩:=hv.syn;go_wp2_with fail;refine (strconv_ParseUint_10_at64_syntax s zaa hp ev _ hv1 hv2).mono ?_;rintro e w1 ⟨N,rfl,hN,hcell,hb1⟩;clear hp hcell;dsimp only;go_wp2
    go_quiet (fail)
    go_wp2;go_ret2;exact ⟨Ng hb1 _,0,by rw [HU.out];rfl,fun h=>by rw [HU.out] at h;cases h⟩
   | range =>
    have HU:Hid _:=HN.out.2 (fun u h=>by rw [hp] at h;cases h);obtain ⟨ev,hv1,hv2⟩:=hv.rng;go_wp2_with fail;refine (strconv_ParseUint_10_at64_range s zaa hp ev _ hv1 hv2).mono ?_;rintro e w1 ⟨N,rfl,hN,hcell,hb1⟩;clear hp hcell;dsimp only;go_wp2
    go_quiet (fail)
    go_wp2;go_ret2;exact ⟨Ng hb1 _,18446744073709551615,by rw [HU.out];rfl,fun h=>by rw [HU.out] at h;cases h⟩
theorem kQ (s:ByteArray) (w:World) (hs:s.size<=1073741824) (hv:gn w):() 276 #[s] w fun e w'=>e = .returned (.bool (Ref.kT s))/\Below w w w':=by
 cases hb:Ref.b8 s Ref.bI
 ·have HL:Hid (Ref.kT s=false):=by unfold Hid Ref.kT;rw [hb,Nv]
  have HB:Hid _:=(fZ s Ref.bI).trans hb;clear hb;go_enter func276,ntmps276;go_wp2_with fail;refine (strings_CutPrefix s Ref.bI _).mono ?_;rintro e w9 ⟨rfl,hw9⟩;rw [hw9,HB.out];clear hw9 w9;dsimp only;go_wp2;go_ret;exact ⟨by rw [HL.out];rfl,K9 _ _⟩
 ·have HL:Hid (Ref.kT s=(Ref.cd (s.extract 6 s.size)&&(decide (0<Ref.dN (s.extract 6 s.size))&&decide (Ref.dN (s.extract 6 s.size)<=1500)))):=by unfold Hid Ref.kT;rw [hb,Ou]
  have HB:Hid _:=(fZ s Ref.bI).trans hb;have HC:Hid ((⟨(Lib.trimPrefix s.data.toList Ref.bI.data.toList).toArray⟩:ByteArray)=s.extract 6 s.size):=my hb;have hr:(s.extract 6 s.size).size<=1073741824:=zaf;clear hb;go_enter func276,ntmps276;go_wp2_with fail;refine (strings_CutPrefix s Ref.bI _).mono ?_;rintro e w9 ⟨rfl,hw9⟩;rw [hw9,HB.out,HC.out];clear hw9 w9 HC;generalize s.extract 6 s.size=r at *;dsimp only;go_wp2_with fail;refine (mM r _ hr hv).mono ?_;rintro e w1 ⟨hb1,u,rfl,hu⟩;have HU:Hid _:=hu;clear hu;dsimp only;cases hk:Ref.cd r
  ·have HK:Hid _:=hk;clear hk;go_wp2;go_ret;exact ⟨by rw [HL.out,HK.out];rfl,hb1⟩
  ·have HV:Hid _:=HU.out hk;have HK:Hid _:=hk;clear hk HU;by_cases h1:1<=u
   ·by_cases h2:u<=1500
    ·have HR:Hid (Ref.kT s=true):=by unfold Hid;rw [HL.out,HK.out,<- HV.out,Ma (show 0<u by omega),Ma h2];rfl
     exact ze1
    ·have HR:Hid (Ref.kT s=false):=by unfold Hid;rw [HL.out,HK.out,<- HV.out,LM h2,MZ];rfl
     have h2':decide (u<=1500)=false:=LM h2;exact ze1
   ·have HR:Hid (Ref.kT s=false):=by unfold Hid;rw [HL.out,HK.out,<- HV.out,LM (show ¬ 0<u by omega),Nv];rfl
    go_wp2;go_ret;exact ⟨by rw [HR.out];rfl,hb1⟩
theorem iA (s:ByteArray) (w:World) (hs:s.size<=1073741824) (hv:gn w):() 248 #[s] w fun e w'=>e = .returned (.bool (Ref.called s))/\Below w w w':=by
 cases hp:Ref.plain s
 ·cases hl:Ref.kT s
  ·have HC:Hid (Ref.called s=false):=by unfold Hid Ref.called;rw [hp,hl];rfl
   exact zc5
  ·have HC:Hid (Ref.called s=true):=by unfold Hid Ref.called;rw [hp,hl];rfl
   exact zc5
 ·have HC:Hid (Ref.called s=true):=by unfold Hid Ref.called;rw [hp,NT]
  have HP:Hid _:=hp;clear hp;go_enter func248,ntmps248;go_wp2_with (go_at_call 244;refine (gd s _ zag).mono ?_;rintro e w9 ⟨rfl,hw9⟩;rw [hw9,HP.out];clear hw9 w9);go_ret;exact ⟨by rw [HC.out];rfl,K9 _ _⟩
theorem re (s:ByteArray) (w:World) (hs:s.size<=1073741824) (hb:Ref.b8 s Ref.jz=true) (hp:Ref.plain (s.extract 5 s.size)=true):() 220 #[s] w fun e w'=>e = .returned (.bool (Ref.bW s))/\Below w w w':=by
 have HR:Hid (Ref.bW s=true):=by unfold Hid Ref.bW;rw [hb,hp,Bool.and_self,Pw]
 have HB:Hid _:=(fZ s Ref.jz).trans hb;have HC:Hid ((⟨(Lib.trimPrefix s.data.toList Ref.jz.data.toList).toArray⟩:ByteArray)=s.extract 5 s.size):=my hb;have HP:Hid _:=hp;have hr:(s.extract 5 s.size).size<=1073741824:=zaf;clear hb hp;go_enter func220,ntmps220;go_wp2_with fail;refine (strings_CutPrefix s Ref.jz _).mono ?_;rintro e w9 ⟨rfl,hw9⟩;rw [hw9,HB.out,HC.out];clear hw9 w9 HC;generalize s.extract 5 s.size=r at *;dsimp only;go_wp2_with (go_at_call 244;refine (gd r _ zag).mono ?_;rintro e w9 ⟨rfl,hw9⟩;rw [hw9,HP.out];clear hw9 w9);go_ret;exact ⟨by rw [HR.out];rfl,K9 _ _⟩
theorem rh (s:ByteArray) (w:World) (hs:s.size<=1073741824) (hv:gn w) (hb:Ref.b8 s Ref.jz=false):() 220 #[s] w fun e w'=>e = .returned (.bool (Ref.bW s))/\Below w w w':=by
 have HR:Hid (Ref.bW s=Ref.called s):=by unfold Hid Ref.bW;rw [hb,Nv,OL]
 have HB:Hid _:=(fZ s Ref.jz).trans hb;clear hb;cases hc:Ref.called s
 all_goals
  have HC:Hid _:=hc;clear hc;go_enter func220,ntmps220;go_wp2_with fail;refine (strings_CutPrefix s Ref.jz _).mono ?_;rintro e w9 ⟨rfl,hw9⟩;rw [hw9,HB.out];clear hw9 w9;dsimp only;go_wp2_with (go_at_call 248;refine (iA s _ hs hv).mono ?_;rintro e w9 ⟨rfl,hb9⟩;rw [HC.out]);go_ret;exact ⟨by rw [HR.out,HC.out];rfl,hb9⟩
theorem vS (s:ByteArray) (w:World) (hs:s.size<=1073741824) (hv:gn w) (hb:Ref.b8 s Ref.jz=true) (hp:Ref.plain (s.extract 5 s.size)=false):() 220 #[s] w fun e w'=>e = .returned (.bool (Ref.bW s))/\Below w w w':=by
 have HR:Hid (Ref.bW s=Ref.called s):=by unfold Hid Ref.bW;rw [hb,hp,MZ,OL]
 have HB:Hid _:=(fZ s Ref.jz).trans hb;have HC0:Hid ((⟨(Lib.trimPrefix s.data.toList Ref.jz.data.toList).toArray⟩:ByteArray)=s.extract 5 s.size):=my hb;have HP:Hid _:=hp;have hr:(s.extract 5 s.size).size<=1073741824:=zaf;clear hb hp;cases hc:Ref.called s
 all_goals
  have HC:Hid _:=hc;clear hc;go_enter func220,ntmps220;go_wp2_with fail;refine (strings_CutPrefix s Ref.jz _).mono ?_;rintro e w9 ⟨rfl,hw9⟩;rw [hw9,HB.out,HC0.out];clear hw9 w9 HC0;generalize s.extract 5 s.size=r at *;dsimp only;go_wp2_with (first
   | (go_at_call 244;refine (gd r _ zag).mono ?_;rintro e w9 ⟨rfl,hw9⟩;rw [hw9,HP.out];clear hw9 w9)
   | (go_at_call 248;refine (iA s _ hs hv).mono ?_;rintro e w9 ⟨rfl,hb9⟩;rw [HC.out]))
  go_ret;exact ⟨by rw [HR.out,HC.out];rfl,hb9⟩
theorem sV (s:ByteArray) (w:World) (hs:s.size<=1073741824) (hv:gn w):() 220 #[s] w fun e w'=>e = .returned (.bool (Ref.bW s))/\Below w w w':=by
 cases hb:Ref.b8 s Ref.jz
 ·exact rh s w hs hv hb
 ·cases hp:Ref.plain (s.extract 5 s.size)
  ·exact vS s w hs hv hb hp
  ·exact re s w hs hb hp
structure Env (w:World):Prop where
 err:gn w
 tab:Lib.TabIs prog w "internal/strconv.uint64pow10" .u64 Lib.pow10Tab
theorem Env.aq (h:Env w) (hb:Below w w w'):Env w':=⟨h.err.aq hb,Lib.tabBelow_of_tabIs h.tab w' hb⟩
theorem iH (n:Nat) (w:World) (hn:n<=1073741824) (hv:Env w):() 221 #[(n:Int)] w fun e w'=>e = .returned (.string (Ref.bI++Ref.dec n))/\Below w w w':=by
 have hd:(Ref.dec n).size<=20:=Ref.qJ zaa;have HI:Hid ((⟨(Lib.itoa n).toArray⟩:ByteArray)=Ref.dec n):=by
  unfold Hid Lib.itoa Ref.dec;rw [Ld zaa];rfl
 go_enter func221,ntmps221;go_wp2_with fail;refine (strconv_Itoa n zaa zaa _ hv.tab).mono ?_;rintro e w1 ⟨rfl,k,os,hw1⟩;have hb1:Below w w w1:=by rw [hw1];exact Lib.below_grow _ _ (K7 _) _ _
 rw [HI.out];clear hw1;dsimp only;go_wp2;go_ret;exact ⟨rfl,hb1⟩
def aW (er line:Int) (w:World) (e:Ending) (w':World):Prop:=Below w w w'/\∃ b,w.heap.size<=b/\w'.heap[b]?=some (.cells #[(er:Int),(line:Int)] 163 (0,0))/\e = .panicked [{ v := .iface 218 (.agg #[.pointer (some ⟨b,0,none⟩)]),recovered:=false }]
theorem aT (num dep er:Int) (w:World):() 139 #[.agg #[(num:Int),(dep:Int)],(er:Int)] w (aW er num w):=by
 go_enter func139,ntmps139;go_wp2;refine ⟨rfl,((K9 _ _).alloc (K7 _) _).alloc zad _,w.heap.size+1,zaa,?_,rfl⟩;have h:=Lf (w.alloc (.cells #[(num:Int),(dep:Int)] 286)) (.cells #[(er:Int),(num:Int)] 163);simpa using h
structure ah (w:World) (p:Nat) (num dep:Int) (l:List ByteArray):Prop where
 row:∃ a cap,w.heap[p]?=some (.cells #[(num:Int),(dep:Int),.slice a l.length cap] 343 (0,0))/\l.length<=cap/\(0<l.length->∃ b off,a=some ⟨b,off,none⟩/\b<p/\b<w.heap.size/\qq w b off l)
 len:l.length<=1073741824
 sizes:∀ x∈l,x.size<=1073741824
theorem ah.fR {b off cap':Nat} {a':Option Addr} (H:ah w p num dep (x::r)) (hp:w.heap[p]?=some (.cells #[(num:Int),(dep:Int),.slice (some ⟨b,off,none⟩) (x::r).length cap] 343 (0,0)))
  (hbp:b<p) (hbw:b<w.heap.size) (hst:qq w b off (x::r)) (hc:r.length<=cap') (ha:0<r.length->a'=some ⟨b,off+1,none⟩):ah (w.setCell ⟨p,2,none⟩ (.slice a' r.length cap')) p num dep r:=by
 have ho:=aa w p 2 (.slice a' r.length cap');refine ⟨⟨a',cap',?_,hc,fun h=>⟨b,off+1,ha h,hbp,by rw [ho.size];exact hbw,?_⟩⟩,by have:=H.len;simp at this;omega,fun y hy=>H.sizes y (L4 _ hy)⟩
 ·rw [Lp w p 2 _ _ _ hp];rfl
 ·intro i hi;have:=hst.drop 1 i zbm;rw [ho.cell (p:=⟨b,off+1+i,none⟩) (Nat.ne_of_lt hbp),this];rfl
theorem lN (p:Nat) (num dep:Int) (w:World) (H:ah w p num dep []) :
  () 215 #[p] w (aW 2 num w):=by
 obtain ⟨a,cap,hp,hc,hs⟩:=H.row;have c0:w.cell? p=some ↑(num:Int):=zbH;have c1:w.cell? ⟨p,1,none⟩=some ↑(dep:Int):=zbI;have c2:w.cell? ⟨p,2,none⟩=some (.slice a 0 cap):=zaF;go_enter func215,ntmps215;go_wp2_with fail;refine (aT num dep 2 _).mono ?_;rintro e w1 h1;obtain ⟨hb,b,h2,h3,rfl⟩:=h1;dsimp only;exact ⟨rfl,hb,b,h2,h3,rfl⟩
theorem aF (p:Nat) (num dep:Int) (x:ByteArray) (r:List ByteArray) (w:World) (H:ah w p num dep (x::r)) :
  () 215 #[p] w fun e w'=>e = .returned x/\gJ p w w'/\ah w' p num dep r:=by
 obtain ⟨a,cap,hp,hc,hs⟩:=H.row;have c2:w.cell? ⟨p,2,none⟩=some (.slice a (x::r).length cap):=zaF;have fr:w.frozen? ⟨p,2,none⟩=false:=zbO;obtain ⟨b,off,rfl,hbp,hbw,hst⟩:=hs zad;have d0:=hst 0 zad;simp only [Ref.at',List.getD_cons_zero,Nat.add_zero] at d0;have hc1:r.length+1<=cap:=by simpa using hc
 go_enter func215,ntmps215;go_wp2
 ·exact zen
 ·exact zem
theorem skip_none (p:Nat) (num dep:Int) (k:ByteArray) (w:World) (H:ah w p num dep []) :
  () 245 #[p,k] w fun e w'=>e = .returned false/\w'=w:=by
 obtain ⟨a,cap,hp,hc,hs⟩:=H.row;have c2:w.cell? ⟨p,2,none⟩=some (.slice a 0 cap):=zaF;go_enter func245,ntmps245;go_wp2;go_ret;exact ⟨rfl,rfl⟩
theorem qi (p:Nat) (num dep:Int) (x:ByteArray) (r:List ByteArray) (k:ByteArray) (w:World) (H:ah w p num dep (x::r)) (hk:(x.toList == k.toList)=false) :
  () 245 #[p,k] w fun e w'=>e = .returned false/\w'=w:=by
 obtain ⟨a,cap,hp,hc,hs⟩:=H.row;have c2:w.cell? ⟨p,2,none⟩=some (.slice a (x::r).length cap):=zaF;obtain ⟨b,off,rfl,hbp,hbw,hst⟩:=hs zad;have d0:=hst 0 zad;simp only [Ref.at',List.getD_cons_zero,Nat.add_zero] at d0;have hk':(x.toList != k.toList)=true:=by rw [bne,hk];rfl
 go_enter func245,ntmps245;go_wp2;go_ret;exact ⟨rfl,rfl⟩
theorem jF (p:Nat) (num dep:Int) (x:ByteArray) (r:List ByteArray) (k:ByteArray) (w:World) (H:ah w p num dep (x::r)) (hk:(x.toList == k.toList)=true) :
  () 245 #[p,k] w fun e w'=>e = .returned true/\gJ p w w'/\ah w' p num dep r:=by
 obtain ⟨a,cap,hp,hc,hs⟩:=H.row;have c2:w.cell? ⟨p,2,none⟩=some (.slice a (x::r).length cap):=zaF;have fr:w.frozen? ⟨p,2,none⟩=false:=zbO;obtain ⟨b,off,rfl,hbp,hbw,hst⟩:=hs zad;have d0:=hst 0 zad;simp only [Ref.at',List.getD_cons_zero,Nat.add_zero] at d0;have hc1:r.length+1<=cap:=by simpa using hc
 have hk':(x.toList != k.toList)=false:=by rw [bne,hk];rfl
 go_enter func245,ntmps245;go_wp2
 ·exact zen
 ·exact zem
theorem JL (p:Nat) (num dep:Int) (w:World) (H:ah w p num dep []) :
  () 177 #[p] w fun e w'=>e = .returned (.tuple #[])/\w'=w:=by
 obtain ⟨a,cap,hp,hc,hs⟩:=H.row;have c2:w.cell? ⟨p,2,none⟩=some (.slice a 0 cap):=zaF;go_enter func177,ntmps177;go_wp2;go_end0;exact ⟨rfl,rfl⟩
theorem Hl (p:Nat) (num dep:Int) (l:List ByteArray) (w:World) (H:ah w p num dep l) (h0:0<l.length) :
  () 177 #[p] w (aW 2 num w):=by
 obtain ⟨a,cap,hp,hc,hs⟩:=H.row;have c0:w.cell? p=some ↑(num:Int):=zbH;have c1:w.cell? ⟨p,1,none⟩=some ↑(dep:Int):=zbI;have c2:w.cell? ⟨p,2,none⟩=some (.slice a l.length cap):=zaF;go_enter func177,ntmps177;go_wp2_with fail;refine (aT num dep 2 _).mono ?_;rintro e w1 h1;obtain ⟨hb,b,h2,h3,rfl⟩:=h1;dsimp only;exact ⟨rfl,hb,b,h2,h3,rfl⟩
end
section
open Go.RowKit
structure ak (p:Nat) (w w':World):Prop where
 os:w'.os=w.os
 tape:w'.tape=w.tape
 output:w'.output=w.output
 size:w.heap.size<=w'.heap.size
 block:∀ k,k<w.heap.size->k≠p->w'.heap[k]?=w.heap[k]?
theorem ak.refl (p:Nat) (w:World):ak p w w:=⟨rfl,rfl,rfl,K7 _,fun _ _ _=>rfl⟩
theorem ak.trans (h:ak p a b) (k:ak p b c):ak p a c :=
 ⟨k.os.trans h.os,k.tape.trans h.tape,k.output.trans h.output,La h.size k.size,fun i hi hp=>(k.block i (Lu hi h.size) hp).trans (h.block i hi hp)⟩
theorem gJ.ai (h:gJ p w w'):ak p w w':=⟨h.os,h.tape,h.output,zbe,fun k _ hp=>h.block k hp⟩
theorem aO (h:Below w w w'):ak p w w':=⟨h.os,h.tape,h.output,h.size,fun k hk _=>h.block k hk⟩
theorem ak.below {B:Nat} (h:ak p w w') (hb:Below B a w) (hB:B<=p) (hs:B<=w.heap.size):Below B a w' :=
 hb.trans ⟨h.os,h.tape,h.output,h.size,fun k hk=>h.block k zaa zaa⟩
def bE (p:Nat) (w:World):Prop:=∃ w0:World,w0.heap.size<=p/\Env w0/\Below w0 w0 w
theorem bE.here (h:bE p w):Env w:=let ⟨_,_,h2,h3⟩:=h;h2.aq h3
theorem bE.ai (h:bE p w) (ht:ak p w w'):bE p w' :=
 let ⟨w0,h1,h2,h3⟩:=h
 ⟨w0,h1,h2,ht.below h3 h1 h3.size⟩
theorem ah.aq (H:ah w p num dep l) (hb:Below w w w'):ah w' p num dep l:=by
 obtain ⟨a,cap,hp,hc,hs⟩:=H.row;refine ⟨⟨a,cap,?_,hc,fun h => ?_⟩,H.len,H.sizes⟩
 ·rw [hb.block p (K6.1 hp).1];exact hp
 ·obtain ⟨b,off,h1,h2,h3,h4⟩:=hs h;exact ⟨b,off,h1,h2,Lu h3 hb.size,h4.below hb h3⟩
def cG (p:Nat) (er line:Int) (w:World) (e:Ending) (w':World):Prop:=ak p w w'/\∃ b,w.heap.size<=b/\w'.heap[b]?=some (.cells #[(er:Int),(line:Int)] 163 (0,0))/\e = .panicked [{ v := .iface 218 (.agg #[.pointer (some ⟨b,0,none⟩)]),recovered:=false }]
theorem cy {er line:Int} {w0:World} {e:Ending} (ht:ak p w0 w) (h:aW er line w e w'):cG p er line w0 e w':=by
 obtain ⟨hb,b,h2,h3,h4⟩:=h;exact ⟨ht.trans (aO hb),b,La ht.size h2,h3,h4⟩
theorem ah.cells (H:ah w p num dep l):w.cell? p=some ↑(num:Int)/\w.cell? ⟨p,1,none⟩=some ↑(dep:Int):=by
 obtain ⟨a,cap,hp,hc,hs⟩:=H.row;exact ⟨zbH,zbI⟩
def Em (f:Nat) (P:ByteArray->Bool):Prop:=∀ (s:ByteArray) (w:World),s.size<=1073741824->Env w->() f #[s] w fun e w'=>e = .returned (.bool (P s))/\Below w w w'
theorem sE:Em 244 Ref.plain:=fun s w hs _=>(gd s w zag).mono (by rintro e w' ⟨rfl,rfl⟩;exact ⟨rfl,K9 _ _⟩)
theorem uI:Em 248 Ref.called:=fun s w hs hv=>iA s w hs hv.err
theorem mw:Em 220 Ref.bW:=fun s w hs hv=>sV s w hs hv.err
theorem iX (p:Nat) (num dep:Int) (f:Nat) (w:World) (H:ah w p num dep []) :
  () 219 #[p,.func (.func f) #[] #[]] w (cG p 2 num w):=by
 go_enter func219,ntmps219;go_wp2_with fail;refine (lN p num dep _ H).mono ?_;rintro e w1 h1;have h2:=cy (ak.refl p w) h1;obtain ⟨ht,b,h3,h4,rfl⟩:=h2;dsimp only;exact ⟨rfl,ht,b,h3,h4,rfl⟩
theorem rF (p:Nat) (num dep:Int) (x:ByteArray) (r:List ByteArray) (w:World) (H:ah w p num dep (x::r)) (hv:bE p w) (hx:Ref.plain x=false) :
  () 219 #[p,.func (.func 244) #[] #[]] w (cG p 2 num w):=by
 have hsz:=H.sizes x zad;go_enter func219,ntmps219;go_wp2_with fail;refine (aF p num dep x r _ H).mono ?_;rintro e w1 ⟨rfl,ho,H1⟩;have ht1:=ho.ai;have hv1:=hv.ai ht1;clear ho;dsimp only;go_wp2_with fail;refine (sE x _ hsz hv1.here).mono ?_;rintro e w2 ⟨rfl,hb2⟩;rw [hx];have H2:=H1.aq hb2;obtain ⟨c0,c1⟩:=H2.cells;have ht2:ak p w w2:=ht1.trans (aO hb2);clear H1 hb2 ht1 hv1;dsimp only;go_wp2_with fail;refine (aT num dep 2 _).mono ?_;rintro e w3 h3;obtain ⟨ht,b,h4,h5,rfl⟩:=cy ht2 h3;dsimp only;exact ⟨rfl,ht,b,h4,h5,rfl⟩
theorem pU (p:Nat) (num dep:Int) (x:ByteArray) (r:List ByteArray) (w:World) (H:ah w p num dep (x::r)) (hv:bE p w) (hx:Ref.plain x=true) :
  () 219 #[p,.func (.func 244) #[] #[]] w fun e w'=>e = .returned x/\ak p w w'/\ah w' p num dep r:=by
 have hsz:=H.sizes x zad;go_enter func219,ntmps219;go_wp2_with fail;refine (aF p num dep x r _ H).mono ?_;rintro e w1 ⟨rfl,ho,H1⟩;have ht1:=ho.ai;have hv1:=hv.ai ht1;clear ho;dsimp only;go_wp2_with fail;refine (sE x _ hsz hv1.here).mono ?_;rintro e w2 ⟨rfl,hb2⟩;rw [hx];have H2:=H1.aq hb2;have ht2:ak p w w2:=ht1.trans (aO hb2);clear H1 hb2 ht1 hv1;dsimp only;go_wp2;go_ret;exact ⟨rfl,ht2,H2⟩
theorem mq (p:Nat) (num dep:Int) (x:ByteArray) (r:List ByteArray) (w:World) (H:ah w p num dep (x::r)) (hv:bE p w) (hx:Ref.called x=false) :
  () 219 #[p,.func (.func 248) #[] #[]] w (cG p 2 num w):=by
 have hsz:=H.sizes x zad;go_enter func219,ntmps219;go_wp2_with fail;refine (aF p num dep x r _ H).mono ?_;rintro e w1 ⟨rfl,ho,H1⟩;have ht1:=ho.ai;have hv1:=hv.ai ht1;clear ho;dsimp only;go_wp2_with fail;refine (uI x _ hsz hv1.here).mono ?_;rintro e w2 ⟨rfl,hb2⟩;rw [hx];have H2:=H1.aq hb2;obtain ⟨c0,c1⟩:=H2.cells;have ht2:ak p w w2:=ht1.trans (aO hb2);clear H1 hb2 ht1 hv1;dsimp only;go_wp2_with fail;refine (aT num dep 2 _).mono ?_;rintro e w3 h3;obtain ⟨ht,b,h4,h5,rfl⟩:=cy ht2 h3;dsimp only;exact ⟨rfl,ht,b,h4,h5,rfl⟩
theorem kX (p:Nat) (num dep:Int) (x:ByteArray) (r:List ByteArray) (w:World) (H:ah w p num dep (x::r)) (hv:bE p w) (hx:Ref.called x=true) :
  () 219 #[p,.func (.func 248) #[] #[]] w fun e w'=>e = .returned x/\ak p w w'/\ah w' p num dep r:=by
 have hsz:=H.sizes x zad;go_enter func219,ntmps219;go_wp2_with fail;refine (aF p num dep x r _ H).mono ?_;rintro e w1 ⟨rfl,ho,H1⟩;have ht1:=ho.ai;have hv1:=hv.ai ht1;clear ho;dsimp only;go_wp2_with fail;refine (uI x _ hsz hv1.here).mono ?_;rintro e w2 ⟨rfl,hb2⟩;rw [hx];have H2:=H1.aq hb2;have ht2:ak p w w2:=ht1.trans (aO hb2);clear H1 hb2 ht1 hv1;dsimp only;go_wp2;go_ret;exact ⟨rfl,ht2,H2⟩
theorem nP (p:Nat) (num dep:Int) (x:ByteArray) (r:List ByteArray) (w:World) (H:ah w p num dep (x::r)) (hv:bE p w) (hx:Ref.bW x=false) :
  () 219 #[p,.func (.func 220) #[] #[]] w (cG p 2 num w):=by
 have hsz:=H.sizes x zad;go_enter func219,ntmps219;go_wp2_with fail;refine (aF p num dep x r _ H).mono ?_;rintro e w1 ⟨rfl,ho,H1⟩;have ht1:=ho.ai;have hv1:=hv.ai ht1;clear ho;dsimp only;go_wp2_with fail;refine (mw x _ hsz hv1.here).mono ?_;rintro e w2 ⟨rfl,hb2⟩;rw [hx];have H2:=H1.aq hb2;obtain ⟨c0,c1⟩:=H2.cells;have ht2:ak p w w2:=ht1.trans (aO hb2);clear H1 hb2 ht1 hv1;dsimp only;go_wp2_with fail;refine (aT num dep 2 _).mono ?_;rintro e w3 h3;obtain ⟨ht,b,h4,h5,rfl⟩:=cy ht2 h3;dsimp only;exact ⟨rfl,ht,b,h4,h5,rfl⟩
theorem mL (p:Nat) (num dep:Int) (x:ByteArray) (r:List ByteArray) (w:World) (H:ah w p num dep (x::r)) (hv:bE p w) (hx:Ref.bW x=true) :
  () 219 #[p,.func (.func 220) #[] #[]] w fun e w'=>e = .returned x/\ak p w w'/\ah w' p num dep r:=by
 have hsz:=H.sizes x zad;go_enter func219,ntmps219;go_wp2_with fail;refine (aF p num dep x r _ H).mono ?_;rintro e w1 ⟨rfl,ho,H1⟩;have ht1:=ho.ai;have hv1:=hv.ai ht1;clear ho;dsimp only;go_wp2_with fail;refine (mw x _ hsz hv1.here).mono ?_;rintro e w2 ⟨rfl,hb2⟩;rw [hx];have H2:=H1.aq hb2;have ht2:ak p w w2:=ht1.trans (aO hb2);clear H1 hb2 ht1 hv1;dsimp only;go_wp2;go_ret;exact ⟨rfl,ht2,H2⟩
theorem Ag (p:Nat) (num dep:Int) (w:World) (H:ah w p num dep []) :
  () 222 #[p] w (cG p 2 num w):=by
 go_enter func222,ntmps222;go_wp2_with fail;refine (lN p num dep _ H).mono ?_;rintro e w1 h1;have h2:=cy (ak.refl p w) h1;obtain ⟨ht,b,h3,h4,rfl⟩:=h2;dsimp only;exact ⟨rfl,ht,b,h3,h4,rfl⟩
theorem EW (p:Nat) (num dep:Int) (x:ByteArray) (r:List ByteArray) (w:World) (H:ah w p num dep (x::r)) (hv:bE p w) (hx:Ref.cd x=false) :
  () 222 #[p] w (cG p 2 num w):=by
 have hsz:=H.sizes x zad;go_enter func222,ntmps222;go_wp2_with fail;refine (aF p num dep x r _ H).mono ?_;rintro e w1 ⟨rfl,ho,H1⟩;have ht1:=ho.ai;have hv1:=hv.ai ht1;clear ho;dsimp only;go_wp2_with fail;refine (mM x _ hsz hv1.here.err).mono ?_;rintro e w2 ⟨hb2,u,rfl,_⟩;rw [hx];have H2:=H1.aq hb2;obtain ⟨c0,c1⟩:=H2.cells;have ht2:ak p w w2:=ht1.trans (aO hb2);clear H1 hb2 ht1 hv1;dsimp only;go_wp2_with fail;refine (aT num dep 2 _).mono ?_;rintro e w3 h3;obtain ⟨ht,b,h4,h5,rfl⟩:=cy ht2 h3;dsimp only;exact ⟨rfl,ht,b,h4,h5,rfl⟩
theorem CY (p:Nat) (num dep:Int) (x:ByteArray) (r:List ByteArray) (w:World) (H:ah w p num dep (x::r)) (hv:bE p w) (hx:Ref.cd x=true) :
  () 222 #[p] w fun e w'=>e = .returned (.int .u64 (Ref.dN x))/\ak p w w'/\ah w' p num dep r:=by
 have hsz:=H.sizes x zad;go_enter func222,ntmps222;go_wp2_with fail;refine (aF p num dep x r _ H).mono ?_;rintro e w1 ⟨rfl,ho,H1⟩;have ht1:=ho.ai;have hv1:=hv.ai ht1;clear ho;dsimp only;go_wp2_with fail;refine (mM x _ hsz hv1.here.err).mono ?_;rintro e w2 ⟨hb2,u,rfl,hu⟩;rw [hx,hu hx];have H2:=H1.aq hb2;have ht2:ak p w w2:=ht1.trans (aO hb2);clear H1 hb2 ht1 hv1 hu u;dsimp only;go_wp2;go_ret;exact ⟨rfl,ht2,H2⟩
theorem ak.Bl {o:Nat} (h:ak p w w1) (hN:w.heap.size<=N):ak p w (w1.setCell ⟨N,o,none⟩ v):=by
 have ho:=aa w1 N o v;exact ⟨ho.os.trans h.os,ho.tape.trans h.tape,ho.output.trans h.output,by rw [ho.size];exact h.size,fun k hk hp=>(ho.block k zaa).trans (h.block k hk hp)⟩
theorem ak.alloc (h:ak p w w1) (o:Obj):ak p w (w1.alloc o):=h.trans (aO ((K9 _ _).alloc (K7 _) _))
theorem ak.drew (h:ak p w w1):ak p w w1.drew:=⟨h.os,h.tape,h.output,h.size,h.block⟩
theorem ah.only (H:ah w p num dep l) (ho:gJ N w w') (hN:p<N):ah w' p num dep l:=by
 obtain ⟨a,cap,hp,hc,hs⟩:=H.row;refine ⟨⟨a,cap,?_,hc,fun h => ?_⟩,H.len,H.sizes⟩
 ·rw [ho.block p zaa];exact hp
 ·obtain ⟨b,off,h1,h2,h3,h4⟩:=hs h;refine ⟨b,off,h1,h2,by rw [ho.size];exact h3,fun i hi => ?_⟩;rw [ho.cell (p:=⟨b,off+i,none⟩) (show b≠N by omega)];exact h4 i hi
theorem ah.lt (H:ah w p num dep l):p<w.heap.size:=by
 obtain ⟨a,cap,hp,hc,hs⟩:=H.row;exact (K6.1 hp).1
theorem ah.drew (H:ah w p num dep l):ah w.drew p num dep l:=H.aq (K9 _ _).drew
theorem bE.alloc (h:bE p w) (o:Obj):bE p (w.alloc o):=h.ai ((ak.refl p w).alloc o)
theorem ah.alloc (H:ah w p num dep l) (o:Obj):ah (w.alloc o) p num dep l:=H.aq ((K9 _ _).alloc (K7 _) _)
theorem F1:Tryz.f289.results=#[.cell 2 327]:=rfl
theorem DZ:(Tryz.prog.info? 327).map (·.size)=some 1:=zab
theorem Dy (p:Nat) (num dep:Int) (x:ByteArray) (r:List ByteArray) (w:World) (H:ah w p num dep (x::r)) (hv:bE p w) (hx:Ref.called x=true) :
  () 289 #[p] w fun e w'=>e = .returned (.agg #[x])/\ak p w w'/\ah w' p num dep r:=by
 have hpl:=H.lt;go_enter func289,ntmps289;go_wp2_with fail;refine (kX p num dep x r _ (H.alloc _) (hv.alloc _) hx).mono ?_;rintro e w1 ⟨rfl,ht1,H1⟩;dsimp only;have hN:w1.heap[w.heap.size]?=some (.cells #[ByteArray.empty] 327 (0,0)):=by
  rw [ht1.block w zad zaa];exact Lf w _
 have cN:w1.cell? w=some ↑ByteArray.empty:=by rw [Lb w1 _ 0 _ _ _ hN];rfl
 have fN:w1.frozen? ⟨w,0,none⟩=false:=zat;have ht:ak p w w1:=((ak.refl p w).alloc _).trans ht1;clear ht1;go_wp2;have h2:=Lp w1 w 0 _ _ (.string x) hN;exact dJ F1 _ 327 _ (0,0) _ rfl h2 underlying327 rfl DZ rfl ⟨rfl,ht.Bl (K7 _),H1.only (aa _ _ _ _) hpl⟩
theorem AT (p:Nat) (num dep:Int) (w:World) (H:ah w p num dep []) :
  () 289 #[p] w (cG p 2 num w):=by
 go_enter func289,ntmps289;go_wp2_with fail;refine (iX p num dep _ _ (H.alloc _)).mono ?_;rintro e w1 ⟨ht,b,h3,h4,rfl⟩;dsimp only;exact ⟨rfl,((ak.refl p w).alloc _).trans ht,b,by simp at h3;omega,h4,rfl⟩
theorem FE (p:Nat) (num dep:Int) (x:ByteArray) (r:List ByteArray) (w:World) (H:ah w p num dep (x::r)) (hv:bE p w) (hx:Ref.called x=false) :
  () 289 #[p] w (cG p 2 num w):=by
 go_enter func289,ntmps289;go_wp2_with fail;refine (mq p num dep x r _ (H.alloc _) (hv.alloc _) hx).mono ?_;rintro e w1 ⟨ht,b,h3,h4,rfl⟩;dsimp only;exact ⟨rfl,((ak.refl p w).alloc _).trans ht,b,by simp at h3;omega,h4,rfl⟩
namespace Pro
def pOf (P:ByteArray->Bool):List ByteArray->Option (ByteArray×List ByteArray)
 | []=>none
 | x::r=>if P x then some (x,r) else none
def gi:List ByteArray->Option (Int×List ByteArray)
 | []=>none
 | x::r=>if Ref.cd x then some (Ref.dN x,r) else none
def oE:ByteArray:=⟨#[114,97,105,115,101]⟩
def mh:ByteArray:=⟨#[115,101,110,100]⟩
def gq:ByteArray:=⟨#[99,97,110,99,101,108]⟩
def bAs:ByteArray:=⟨#[97,115]⟩
def dh (l:List ByteArray):Option ((ByteArray×Int×Option ByteArray)×List ByteArray) :=
 match pOf Ref.called l with
 | none=>none
 | some (x,l1)=>match gi l1 with
  | none=>none
  | some (d,[])=>some ((x,d,none),[])
  | some (d,y::r)=>if y.toList == bAs.toList then
    match pOf Ref.called r with
    | none=>none
    | some (a,l3)=>some ((x,d,some a),l3)
   else some ((x,d,none),y::r)
end Pro
theorem ak.cell (h:ak p w w') {a:Addr} (hb:a.block<w.heap.size) (hp:¬ a.block=p):w'.cell? a=w.cell? a:=Ln (w:=w) (h.block a.block hb hp)
def eh (p:Nat) (num dep:Int) (res:Option (Value×List ByteArray)) (w:World) (e:Ending) (w':World):Prop:=match res with
 | none=>cG p 2 num w e w'
 | some (v,r)=>e = .returned v/\ak p w w'/\ah w' p num dep r
theorem fg (p:Nat) (num dep:Int) (l:List ByteArray) (w:World) (H:ah w p num dep l) (hv:bE p w) :
  () 289 #[p] w (eh p num dep ((Pro.pOf Ref.called l).map fun q=>(.agg #[.string q.1],q.2)) w):=by
 cases l with
 | nil=>exact AT p num dep w H
 | cons x r =>
  cases hx:Ref.called x
  ·have:Pro.pOf Ref.called (x::r)=none:=zaA;rw [this];exact FE p num dep x r w H hv hx
  ·have:Pro.pOf Ref.called (x::r)=some (x,r):=zaA;rw [this];exact Dy p num dep x r w H hv hx
theorem js (p:Nat) (num dep:Int) (l:List ByteArray) (w:World) (H:ah w p num dep l) (hv:bE p w) :
  () 222 #[p] w (eh p num dep ((Pro.gi l).map fun q=>(.int .u64 q.1,q.2)) w):=by
 cases l with
 | nil=>exact Ag p num dep w H
 | cons x r =>
  cases hx:Ref.cd x
  ·have:Pro.gi (x::r)=none:=by rw [Pro.gi,hx];rfl
   rw [this];exact EW p num dep x r w H hv hx
  ·have:Pro.gi (x::r)=some (Ref.dN x,r):=by rw [Pro.gi,hx];rfl
   rw [this];exact CY p num dep x r w H hv hx
theorem fG (p:Nat) (num dep:Int) (l:List ByteArray) (w:World) (H:ah w p num dep l) (hv:bE p w) :
  () 219 #[p,.func (.func 248) #[] #[]] w (eh p num dep ((Pro.pOf Ref.called l).map fun q=>(.string q.1,q.2)) w):=by
 cases l with
 | nil=>exact iX p num dep _ w H
 | cons x r =>
  cases hx:Ref.called x
  ·have:Pro.pOf Ref.called (x::r)=none:=zaA;rw [this];exact mq p num dep x r w H hv hx
  ·have:Pro.pOf Ref.called (x::r)=some (x,r):=zaA;rw [this];exact kX p num dep x r w H hv hx
def uA (x:ByteArray) (d:Int):Option ByteArray->Value
 | none => .iface 329 (.agg #[.string x,.int .u64 d])
 | some a => .iface 331 (.agg #[.string x,.int .u64 d,.string a])
theorem yX (p:Nat) (num dep:Int) (l:List ByteArray) (w:World) (H:ah w p num dep l) (hv:bE p w) :
  () 290 #[p] w (eh p num dep ((Pro.dh l).map fun q=>(uA q.1.1 q.1.2.1 q.1.2.2,q.2)) w):=by
 have hpl:=H.lt;cases hn:Pro.pOf Ref.called l with
 | none =>
  have HS:Hid (Pro.dh l=none):=by unfold Hid Pro.dh;rw [hn]
  go_enter func290,ntmps290;go_wp2_with fail;refine (fg p num dep l _ H hv).mono ?_;rintro e w1 h1;rw [hn] at h1;obtain ⟨ht,b,h3,h4,rfl⟩:=h1;dsimp only;refine ⟨rfl,?_⟩;rw [HS.out];exact ⟨ht,b,h3,h4,rfl⟩
 | some q =>
  obtain ⟨x,l1⟩:=q;cases hd:Pro.gi l1 with
  | none =>
   have HS:Hid (Pro.dh l=none):=by unfold Hid Pro.dh;rw [hn];simp only;rw [hd]
   go_enter func290,ntmps290;go_wp2_with fail;refine (fg p num dep l _ H hv).mono ?_;rintro e w1 h1;rw [hn] at h1;obtain ⟨rfl,ht1,H1⟩:=h1;dsimp only;go_wp2_with fail;refine (js p num dep l1 _ H1 (hv.ai ht1)).mono ?_;rintro e w2 h2;rw [hd] at h2;obtain ⟨ht,b,h3,h4,rfl⟩:=h2;dsimp only;refine ⟨rfl,?_⟩;rw [HS.out];exact ⟨ht1.trans ht,b,La ht1.size h3,h4,rfl⟩
  | some q =>
   obtain ⟨d,l2⟩:=q;go_enter func290,ntmps290;go_wp2_with fail;refine (fg p num dep l _ H hv).mono ?_;rintro e w1 h1;rw [hn] at h1;obtain ⟨rfl,ht1,H1⟩:=h1;dsimp only;go_wp2_with fail;refine (js p num dep l1 _ H1 (hv.ai ht1)).mono ?_;rintro e w2 h2;rw [hd] at h2;obtain ⟨rfl,ht2,H2⟩:=h2;dsimp only;have ht:=ht1.trans ht2;have hs2:=ht.size;clear ht1 ht2 H1;cases l2 with
   | nil =>
    have HS:Hid (Pro.dh l=some ((x,d,none),[])):=by unfold Hid Pro.dh;rw [hn];simp only;rw [hd]
    clear hn hd;go_wp2_with fail;refine (skip_none p num dep Pro.bAs _ (H2.alloc _)).mono ?_;exact zdK
   | cons y r =>
    cases hy:(y.toList == Pro.bAs.toList)
    ·have HS:Hid (Pro.dh l=some ((x,d,none),y::r)):=zb7;clear hn hd;go_wp2_with fail;refine (qi p num dep y r Pro.bAs _ (H2.alloc _) hy).mono ?_;exact zdK
    ·have HS:Hid (Pro.dh l=match Pro.pOf Ref.called r with | none=>none | some (a,l3)=>some ((x,d,some a),l3)):=zb7;clear hn hd;go_wp2_with fail;refine (jF p num dep y r Pro.bAs _ (H2.alloc _) hy).mono ?_;rintro e w3 ⟨rfl,ho3,H3⟩;have hp2:=H2.lt;have ht3:ak p w w3:=(ht.alloc _).trans ho3.ai;have hN:w3.heap[w2.heap.size]?=some (.cells #[x,.int .u64 d] 329 (0,0)):=by
      rw [ho3.block w2 zaa];exact Lf w2 _
     have cN0:w3.cell? w2=some ↑x:=by rw [Lb w3 _ 0 _ _ _ hN];rfl
     have cN1:w3.cell? ⟨w2,1,none⟩=some (.int .u64 d):=by rw [Lb w3 _ 1 _ _ _ hN];rfl
     have hNl:w2.heap.size<w3.heap.size:=(K6.1 hN).1;clear ho3;dsimp only;go_wp2_with fail;have hv3:bE p w3.drew:=(hv.ai ht3).ai (ak.refl p w3).drew;have H3d:ah w3.drew p num dep r:=H3.drew;have HN:Hid (w2.heap.size<w3.heap.size/\¬ w2.heap.size=p):=⟨hNl,zaa⟩;cases hr:Pro.pOf Ref.called r with
     | none =>
      have HS2:Hid (Pro.dh l=none):=by unfold Hid;rw [HS.out,hr]
      refine MX zab ?_;change wpAny _ _ _ _ _ _ _ (World.drew _);refine yA [0,1] ?_;refine Le rfl (fun K hK => ?_) (Le rfl (fun K hK => ?_) Lx)
      ·go_simp;refine hK _ _ ?_;clear hK K;refine zA 1 rfl fun K hK => ?_;exact zda
      ·go_simp;refine hK _ _ ?_;clear hK K;refine yA [0,2] ?_;refine Le rfl (fun K hK => ?_) (Le rfl (fun K hK => ?_) Lx)
       ·exact zda
       ·go_simp
        (refine (fG p num dep r _ H3d hv3).mono ?_;rintro e w4 h4;rw [hr] at h4;obtain ⟨ht,b,h5,h6,rfl⟩:=h4;dsimp only;refine ⟨rfl,?_⟩;rw [HS2.out];exact ⟨ht3.trans ((ak.refl p w3).drew.trans ht),b,La ht3.size h5,h6,rfl⟩)
     | some q =>
      obtain ⟨a,l3⟩:=q;have HS2:Hid (Pro.dh l=some ((x,d,some a),l3)):=by unfold Hid;rw [HS.out,hr]
      go_region_held3 (fun W=>W.cell? w2=some ↑x/\W.cell? ⟨w2,1,none⟩=some (.int .u64 d)) (first | go_keep | exact ⟨k0,k1⟩)
       ((go_at_call 219;refine (fG p num dep r _ H3d hv3).mono ?_;rintro e w4 h4;rw [hr] at h4;obtain ⟨rfl,ht4,H4⟩:=h4;have k0:=(ht4.cell (a:=⟨w2,0,none⟩) HN.out.1 HN.out.2).trans cN0;have k1:=(ht4.cell (a:=⟨w2,1,none⟩) HN.out.1 HN.out.2).trans cN1;dsimp only))
      go_wp2;go_ret;unfold eh;rw [HS2.out];exact ⟨rfl,ht3.trans ((ak.refl p w3).drew.trans ht4),H4⟩
namespace Pro
def bB:List ByteArray->Option (Ref.Act×List ByteArray)
 | []=>none
 | x::r =>
  if x.toList == Ref.eK then (pOf Ref.called r).map fun q=>(⟨oE,q.1,ByteArray.empty,0⟩,q.2)
  else if x.toList == Ref.kK then (dh r).map fun q=>(⟨mh,q.1.1,q.1.2.2.getD ByteArray.empty,q.1.2.1⟩,q.2)
  else if x.toList == Ref.eE then (pOf Ref.called r).map fun q=>(⟨gq,ByteArray.empty,q.1,0⟩,q.2)
  else none
end Pro
def bf (a:Ref.Act):Value :=
 if a.how.toList == Ref.eK then .iface 435 (.agg #[a.event])
 else if a.how.toList == Ref.eE then .iface 333 (.agg #[a.id])
 else uA a.event a.delay (if a.id.size=0 then none else some a.id)
theorem mQ:Pro.oE.toList=Ref.eK:=zas
theorem lU:Pro.mh.toList=Ref.kK:=zas
theorem gB:Pro.gq.toList=Ref.eE:=zas
theorem DK (h:Ref.plain s=true):¬ s.size=0:=by
 rw [Ref.plain,LJ,LJ,N6] at h;omega
theorem Aa (h:Ref.called s=true):¬ s.size=0:=by
 rw [Ref.called,Bool.or_eq_true] at h
 rcases h with h | h
 ·exact DK h
 ·rw [Ref.kT,LJ] at h;have:=Ref.ph h.1;have e:Ref.bI.size=6:=rfl;omega
theorem gI {P:ByteArray->Bool} {l r:List ByteArray} {x:ByteArray} (h:Pro.pOf P l=some (x,r)):P x=true/\l=x::r:=by
 cases l with
 | nil=>cases h
 | cons y t =>
  rw [Pro.pOf] at h;split at h
  ·cases h;exact ⟨zam,rfl⟩
  ·cases h
theorem FQ {d:Int} {a:ByteArray} (h:Pro.dh l=some ((x,d,some a),r)):¬ a.size=0:=by
 unfold Pro.dh at h;split at h
 ·cases h
 ·split at h
  ·cases h
  ·cases h
  ·split at h
   ·split at h
    ·cases h
    ·rename_i hq;cases h
     exact Aa (gI hq).1
   ·cases h
theorem zM (n:ByteArray):bf ⟨Pro.oE,n,ByteArray.empty,0⟩ = .iface 435 (.agg #[n]):=by
 unfold bf;rw [mQ,Lg zac]
theorem xd (n:ByteArray):bf ⟨Pro.gq,ByteArray.empty,n,0⟩ = .iface 333 (.agg #[n]):=by
 unfold bf;rw [gB,Ld zac,Lg zac]
theorem CD {l r:List ByteArray} {x:ByteArray} {d:Int} {o:Option ByteArray} (h:Pro.dh l=some ((x,d,o),r)):bf ⟨Pro.mh,x,o.getD ByteArray.empty,d⟩=uA x d o:=by
 unfold bf;rw [lU,Ld zac,Ld zac];cases o with
 | none=>rfl
 | some a=>rw [Ld (show ¬ (Option.getD (some a) ByteArray.empty).size=0 from FQ h)];rfl
theorem qt (p:Nat) (num dep:Int) (l:List ByteArray) (w:World) (H:ah w p num dep l) (hv:bE p w) :
  () 274 #[p] w (eh p num dep ((Pro.bB l).map fun q=>(bf q.1,q.2)) w):=by
 cases l with
 | nil =>
  go_enter func274,ntmps274;go_wp2_with fail;refine (lN p num dep _ H).mono ?_;rintro e w1 h1;obtain ⟨ht,b,h3,h4,rfl⟩:=cy (ak.refl p w) h1;dsimp only;exact ⟨rfl,ht,b,h3,h4,rfl⟩
 | cons x r =>
  cases h1:(x.toList == [114,97,105,115,101])
  ·cases h2:(x.toList == [115,101,110,100])
   ·cases h3:(x.toList == [99,97,110,99,101,108])
    ·have HS:Hid (Pro.bB (x::r)=none):=by unfold Hid;rw [Pro.bB,Ref.eK,h1,Ref.kK,h2,Ref.eE,h3];rfl
     go_enter func274,ntmps274;go_wp2_with fail;refine (aF p num dep x r _ H).mono ?_;rintro e w1 ⟨rfl,ho,H1⟩;have ht1:=ho.ai;obtain ⟨c0,c1⟩:=H1.cells;clear ho;dsimp only;go_wp2_with fail;refine (aT num dep 2 _).mono ?_;rintro e w2 hq;obtain ⟨ht,b,h4,h5,rfl⟩:=cy ht1 hq;dsimp only;refine ⟨rfl,?_⟩;rw [HS.out];exact ⟨ht,b,h4,h5,rfl⟩
    ·cases hn:Pro.pOf Ref.called r with
     | none =>
      have HS:Hid (Pro.bB (x::r)=none):=zb9;exact zc1
     | some q =>
      obtain ⟨n,r'⟩:=q;have HS:Hid (Pro.bB (x::r)=some (⟨Pro.gq,ByteArray.empty,n,0⟩,r')):=zb9;go_enter func274,ntmps274;go_wp2_with fail;refine (aF p num dep x r _ H).mono ?_;rintro e w1 ⟨rfl,ho,H1⟩;have ht1:=ho.ai;clear ho;dsimp only;go_wp2_with fail;refine (fg p num dep r _ H1 (hv.ai ht1)).mono ?_;rintro e w2 hq;rw [hn] at hq;obtain ⟨rfl,ht2,H2⟩:=hq;clear hn;dsimp only;go_wp2;go_ret;unfold eh;rw [HS.out];exact ⟨by rw [xd];rfl,ht1.trans ht2,H2⟩
   ·cases hn:Pro.dh r with
    | none =>
     have HS:Hid (Pro.bB (x::r)=none):=zcg;go_enter func274,ntmps274;go_wp2_with fail;refine (aF p num dep x r _ H).mono ?_;rintro e w1 ⟨rfl,ho,H1⟩;have ht1:=ho.ai;clear ho;dsimp only;go_wp2_with fail;refine (yX p num dep r _ H1 (hv.ai ht1)).mono ?_;rintro e w2 hq;rw [hn] at hq;obtain ⟨ht,b,h4,h5,rfl⟩:=hq;dsimp only;refine ⟨rfl,?_⟩;rw [HS.out];exact ⟨ht1.trans ht,b,La ht1.size h4,h5,rfl⟩
    | some q =>
     obtain ⟨⟨n,d,o⟩,r'⟩:=q;have HS:Hid (Pro.bB (x::r)=some (⟨Pro.mh,n,o.getD ByteArray.empty,d⟩,r')):=zcg;have HV:Hid _:=CD hn;go_enter func274,ntmps274;go_wp2_with fail;refine (aF p num dep x r _ H).mono ?_;rintro e w1 ⟨rfl,ho,H1⟩;have ht1:=ho.ai;clear ho;dsimp only;go_wp2_with fail;refine (yX p num dep r _ H1 (hv.ai ht1)).mono ?_;rintro e w2 hq;rw [hn] at hq;obtain ⟨rfl,ht2,H2⟩:=hq;clear hn;dsimp only;go_wp2;go_ret;unfold eh;rw [HS.out];exact ⟨by rw [HV.out];rfl,ht1.trans ht2,H2⟩
  ·cases hn:Pro.pOf Ref.called r with
   | none =>
    have HS:Hid (Pro.bB (x::r)=none):=by unfold Hid;rw [Pro.bB,Ref.eK,h1,hn];rfl
    exact zc1
   | some q =>
    obtain ⟨n,r'⟩:=q;have HS:Hid (Pro.bB (x::r)=some (⟨Pro.oE,n,ByteArray.empty,0⟩,r')):=by unfold Hid;rw [Pro.bB,Ref.eK,h1,hn];rfl
    go_enter func274,ntmps274;go_wp2_with fail;refine (aF p num dep x r _ H).mono ?_;rintro e w1 ⟨rfl,ho,H1⟩;have ht1:=ho.ai;clear ho;dsimp only;go_wp2_with fail;refine (fg p num dep r _ H1 (hv.ai ht1)).mono ?_;rintro e w2 hq;rw [hn] at hq;obtain ⟨rfl,ht2,H2⟩:=hq;clear hn;dsimp only;go_wp2;go_ret;unfold eh;rw [HS.out];exact ⟨by rw [zM];rfl,ht1.trans ht2,H2⟩
namespace Ref
structure Ef (a:Act):Prop where
 how:a.how.size<=1073741824
 event:a.event.size<=1073741824
 id:a.id.size<=1073741824
 delay:∃ n:Nat,a.delay=n/\n<=18446744073709551615
def Cd (k:Int) (x:SV):Bool:=decide (x.s.up=k) && !(x.s.word.toList == bg)
def rY (X:List SV) (k:Int):Nat->List Nat
 | 0=>[]
 | i+1=>if (X[i]?.map (Cd k)).getD false then rY X k i++[i] else rY X k i
def regions (X:List SV) (k:Int):List Nat:=rY X k X.length
end Ref
def zE (w:World) (v:Value) (A:List Ref.Act):Prop:=Row w 122 4 Ref.Ep v A
namespace Ref
def BE (X:List SV) (k:Int):SV:=X.getD k.toNat ⟨⟨ByteArray.empty,ByteArray.empty,false,0,0,0,[],[],[],0,0⟩,Sl.nil,Sl.nil,Sl.nil⟩
def rJ (X:List SV) (u:Int):Bool:=X.all fun y => !decide (y.s.up=u)
def fits (X:List SV) (x:SV):Bool :=
 if decide (X.length=24)||(decide (5<x.s.depth)||(decide (x.s.up<0)&&(x.s.word.toList == bg))) then false
 else if x.s.up<0 then true
 else if ((BE X x.s.up).s.word.toList == bV)||((BE X x.s.up).s.word.toList == bg) then false
 else if (BE X x.s.up).s.word.toList == aL then !(x.s.word.toList == bV)
 else !rJ X x.s.up || !(x.s.word.toList == bg)
def Cv (ms:List Move):Bool:=ms.any (·.after)
def uJ (X:List SV):Bool:=X.any fun x=>Cv x.s.aj
def j5 (X:List SV) (t:Bool) (m:Move):Bool:=(!(m.to.toList == [])&&decide (place X m.to<0))||(t&&(bX m.ax||(!m.after&&b8 m.event bI)))
def so (X:List SV) (t:Bool) (at':Int) (m:Move):Int:=if j5 X t m then eY at' m.line else at'
def Gm (t:Bool) (a2:Int) (x:State):Int :=
 if t&&bX x.leave then eY (if t&&bX x.enter then eY a2 x.has0 else a2) x.has1 else if t&&bX x.enter then eY a2 x.has0 else a2
def o8 (X:List SV) (t:Bool) (k:Nat) (at':Int) (x:State):Int :=
 Gm t (x.aj.foldl (so X t) (if place X x.name<k then eY at' x.line else at')) x
def nO (X:List SV) (t:Bool):Nat->Int
 | 0=>0
 | k+1=>match X[k]? with
  | some x=>o8 X t k (nO X t k) x.s
  | none=>nO X t k
def named (X:List SV):Int:=nO X (uJ X) X.length
end Ref
def GH (w:World) (vm:Ref.Sl) (M:List Ref.MV):Prop:=Row w 120 6 Ref.IG vm.v M/\∀ x∈M,zE w x.v.v x.m.ax
structure Ju (m:Ref.Move):Prop where
 event:m.event.size<=1073741824
 dst:m.to.size<=1073741824
 ax:∀ a∈m.ax,Ref.Ef a
 len:m.ax.length<=1048576
structure Deep (w:World) (x:Ref.SV):Prop where
 aj:∃ M:List Ref.MV,M.map (·.m)=x.s.aj/\GH w x.vm M
 enter:zE w x.ve.v x.s.enter
 leave:zE w x.vl.v x.s.leave
 okM:∀ m∈x.s.aj,Ju m
 okE:∀ a∈x.s.enter,Ref.Ef a
 okL:∀ a∈x.s.leave,Ref.Ef a
 lenM:x.s.aj.length<=1048576
 lenE:x.s.enter.length<=1048576
 lenL:x.s.leave.length<=1048576
 name:x.s.name.size<=1073741824
namespace Ref
def emb (s:State):SV:=⟨s,Sl.nil,Sl.nil,Sl.nil⟩
def st0:State:=⟨ByteArray.empty,ByteArray.empty,false,0,0,0,[],[],[],0,0⟩
def fM (S:List State) (d:Int):Nat->Int
 | 0 => -1
 | k+1=>if (S.getD k st0).depth=d-1 then (k:Int) else if (S.getD k st0).depth<d-1 then -1 else fM S d k
def dq (S:List State) (d:Int):Int:=if 0<d then fM S d S.length else -1
def jC (x:jL) (up d:Int):State:=⟨x.word,x.name,x.deep,up,d,x.sline,[],[],[],0,0⟩
def fR (S:List State) (k:Nat) (f:State->State):List State:=S.set k (f (S.getD k st0))
def bu (S:List State) (i:Nat) (x:jL) (d:Int):Option (List State) :=
 if 0<d/\dq S d<0 then none
 else if x.kind=115 then
  if fits (S.map emb) (emb (jC x (dq S d) d)) then some (S++[jC x (dq S d) d]) else none
 else if dq S d<0 then none
 else if (S.getD (dq S d).toNat st0).word.toList == bg then none
 else if x.kind=109 then
  if (S.getD (dq S d).toNat st0).word.toList == bV then none
  else some (fR S (dq S d).toNat fun p=>{ p with aj:=p.aj++[x.m] })
 else if x.kind=101 then
  if 0<(S.getD (dq S d).toNat st0).has0 then none
  else some (fR S (dq S d).toNat fun p=>{ p with has0:=i+1,enter:=x.ax })
 else if x.kind=108 then
  if 0<(S.getD (dq S d).toNat st0).has1 then none
  else some (fR S (dq S d).toNat fun p=>{ p with has1:=i+1,leave:=x.ax })
 else some S
def a7 (A:List (jL×Int)):Nat->Option (List State)
 | 0=>some []
 | i+1=>match a7 A i with
  | none=>none
  | some S=>match A[i]? with
   | none=>some S
   | some (x,d)=>bu S i x d
def dF (S:List State):Nat->Option Int
 | 0=>none
 | k+1=>match dF S k with
  | some l=>some l
  | none=>if ((S.getD k st0).word.toList == aL)&&(regions (S.map emb) k).isEmpty then some (S.getD k st0).line else none
theorem rP {S:List State} {i:Nat} {l:Int} (h:dF S i=some l):∀ j,i<=j->dF S j=some l
 | 0,hj=>by rw [P8.1 hj] at h;exact h
 | j+1,hj=>by
  by_cases e:i=j+1
  ·rw [<- e];exact h
  ·rw [dF,rP h j zaa]
structure LV where
 L:jL
 vm:Sl
 vd:Sl
end Ref
def dX (n:Nat):List Value:=[(n:Int)]
namespace Ref
def gu (y:SV) (i:Int) (A:List Act) (v:Sl):SV:={ y with s:={ y.s with has0:=i,enter:=A },ve:=v }
def gw (y:SV) (i:Int) (A:List Act) (v:Sl):SV:={ y with s:={ y.s with has1:=i,leave:=A },vl:=v }
end Ref
theorem Row.range {α:Type} {f:α->List Value} {X:List α} (hf:∀ x,(f x).length=n) (h:Row w e n f (.slice g X.length cap) X) {i:Nat} (hi:i<X.length) :
  w.rangeAt g (i*n) (f X[i]):=by
 intro j v hj;have hjn:j<n:=by rw [<- hf X[i]];exact (Lc.1 hj).1
 rw [Row.cell hf h hjn hi];exact hj
theorem lu (S:List Ref.State) (d:Int):∀ m:Nat,Ref.fM S d m<m
 | 0=>by simp [Ref.fM]
 | m+1=>by
  have:=lu S d m;exact ze4
theorem oz (S:List Ref.State) (d:Int) (h:¬ Ref.dq S d<0):Ref.dq S d<S.length:=by
 unfold Ref.dq at h ⊢;split
 ·exact lu S d S.length
 ·rename_i h0;rw [Ld h0] at h;exact absurd zac h
theorem lr (S:List Ref.State) (d:Int):∀ m:Nat,-1<=Ref.fM S d m
 | 0=>by simp [Ref.fM]
 | m+1=>by
  have:=lr S d m;exact ze4
theorem Cw (S:List Ref.State) (d:Int) : -1<=Ref.dq S d:=by
 unfold Ref.dq;split
 ·exact lr S d S.length
 ·decide
theorem qQ {α:Type} {f:α->List Value} {n:Nat} (hf:∀ x,(f x).length=n):∀ (X:List α) (i j:Nat) (v:Value) (x':α),j<n->∀ (h:i<X.length),f x'=(f X[i]).set j v->(X.flatMap f).set (i*n+j) v=(X.set i x').flatMap f
 | [],i,j,v,x',_,h,_=>by simp at h
 | x::X,0,j,v,x',hj,_,e=>by
  rw [Mr,OW,Nq,List.set_append_left _ _ (by rw [hf];exact hj),List.set_cons_zero,Mr,e];rfl
 | x::X,i+1,j,v,x',hj,h,e=>by
  have hlen:(f x).length=n:=hf x;rw [Mr,Pv,Ov _ _ (by rw [hlen];omega),hlen,List.set_cons_succ,Mr];rw [show i*n+n+j-n=i*n+j from by omega,qQ hf X i j v x' hj zaD e]
theorem lR {e':TypeId} {c:Array Value} {fz:Nat×Nat} (h:w.ownsRow base e size v n xs) (ho:gJ g w w') (hg:w.heap[g]?=some (.cells c e' fz)) (hne:e≠e'):w'.ownsRow base e size v n xs:=by
 refine ⟨h.1,?_⟩
 rcases h.2 with h' | ⟨k,cap,cur,hv,hb,hk,r⟩
 ·exact .inl h'
 ·have hkg:k≠g:=by
   intro e0;subst e0;rw [hg] at hk;simp only [Option.some.injEq,Obj.cells.injEq] at hk;exact hne hk.2.1.symm
  exact .inr ⟨k,cap,cur,hv,hb,by rw [ho.block k hkg];exact hk,r⟩
theorem aY (h:w.ownsRow base e size v n xs) (hb:Below w w w'):w'.ownsRow base e size v n xs:=by
 refine ⟨h.1,?_⟩
 rcases h.2 with h' | ⟨g,cap,cur,hv,hb',hg,r⟩
 ·exact .inl h'
 ·exact .inr ⟨g,cap,cur,hv,hb',by rw [hb.block g ((K6.1 hg).1)];exact hg,r⟩
theorem fy {A:List (Ref.jL×Int)} {i:Nat} (h:Ref.a7 A i=none):∀ j,i<=j->Ref.a7 A j=none
 | 0,hj=>by rw [P8.1 hj] at h;exact h
 | j+1,hj=>by
  by_cases e:i=j+1
  ·rw [<- e];exact h
  ·rw [Ref.a7,fy h j zaa]
namespace Pro
def bDo:ByteArray:=⟨#[100,111]⟩
def fV:Nat->List ByteArray->Option (List Ref.Act×List ByteArray)
 | 0,l=>some ([],l)
 | _+1,[]=>some ([],[])
 | f+1,x::r =>
  if x.toList == bDo.toList then
   match bB r with
   | none=>none
   | some (a,r')=>match fV f r' with
    | none=>none
    | some (A,t)=>some (a::A,t)
  else some ([],x::r)
def aZ (l:List ByteArray):Option (List Ref.Act×List ByteArray):=fV l.length l
theorem qe {P:ByteArray->Bool} (h:pOf P l=some (x,r)):r.length+1=l.length:=by
 rw [(gI h).2];rfl
theorem mN {l r:List ByteArray} {d:Int} (h:gi l=some (d,r)):r.length+1=l.length:=by
 cases l with
 | nil=>cases h
 | cons y t =>
  rw [gi] at h;split at h
  ·cases h;rfl
  ·cases h
theorem DF {q:ByteArray×Int×Option ByteArray} (h:dh l=some (q,r)):r.length<l.length:=by
 unfold dh at h;split at h
 ·cases h
 ·rename_i x l1 h1;have e1:=qe h1;split at h
  ·cases h
  ·rename_i d h2;have e2:=mN h2;cases h;simp at e2 ⊢;omega
  ·rename_i d y t h2;have e2:=mN h2;simp only [List.length_cons] at e2;split at h
   ·split at h
    ·cases h
    ·rename_i a l3 h3;have e3:=qe h3;cases h;omega
   ·cases h;simp only [List.length_cons];omega
theorem iZ {l r:List ByteArray} {a:Ref.Act} (h:bB l=some (a,r)):r.length<l.length:=by
 cases l with
 | nil=>cases h
 | cons x t =>
  rw [bB] at h;simp only [List.length_cons];split at h
  ·exact zec
  ·split at h
   ·obtain ⟨⟨n,r'⟩,h1,h2⟩:=LD.1 h;cases h2
    have:=DF h1;dsimp only at this ⊢;omega
   ·split at h
    ·exact zec
    ·cases h
theorem rM:∀ (f g:Nat) (l:List ByteArray),l.length<=f->l.length<=g->fV f l=fV g l
 | 0,0,l,_,_=>rfl
 | 0,g+1,[],_,_=>rfl
 | f+1,0,[],_,_=>rfl
 | f+1,g+1,[],_,_=>rfl
 | 0,_,x::r,h,_=>by simp at h
 | _+1,0,x::r,_,h=>by simp at h
 | f+1,g+1,x::r,hf,hg=>by
  simp only [fV];split
  ·cases h:bB r with
   | none=>rfl
   | some q =>
    obtain ⟨a,r'⟩:=q;have:=iZ h;simp only [List.length_cons] at hf hg;simp only;rw [rM f g r' zaa zaa]
  ·rfl
theorem jf (h:(x.toList == bDo.toList)=false):aZ (x::r)=some ([],x::r):=by
 show fV (r.length+1) (x::r)=_;rw [fV,h];rfl
theorem je (h:(x.toList == bDo.toList)=true) (h2:bB r=none):aZ (x::r)=none:=by
 show fV (r.length+1) (x::r)=_;rw [fV,h,h2];rfl
theorem jd {x:ByteArray} {r r':List ByteArray} {a:Ref.Act} (h:(x.toList == bDo.toList)=true) (h2:bB r=some (a,r')):aZ (x::r)=(aZ r').map fun q=>(a::q.1,q.2):=by
 have:=iZ h2;show fV (r.length+1) (x::r)=_;rw [fV,h,Lg rfl,h2];simp only;rw [rM r.length r'.length r' zaa (K7 _)];show _=(fV r'.length r').map _;cases fV r'.length r' with
 | none=>rfl
 | some q=>rfl
end Pro
theorem rL (h:w.ownsRow base e size v n xs) (ht:ak p w w') (hp:p<base):w'.ownsRow base e size v n xs:=by
 refine ⟨h.1,?_⟩
 rcases h.2 with h' | ⟨k,cap,cur,hv,hb,hk,r⟩
 ·exact .inl h'
 ·exact .inr ⟨k,cap,cur,hv,hb,by rw [ht.block k (K6.1 hk).1 zaa];exact hk,r⟩
theorem ak.grown (h:ak p w w1) (hg:w1.grownBy w2 row) (hr:∀ k,row=some k->w.heap.size<=k):ak p w w2 :=
 ⟨hg.os.trans h.os,hg.tape.trans h.tape,hg.output.trans h.output,La h.size hg.size,fun k hk hp=>(hg.block k (Lu hk h.size) (fun e=>by have:=hr k e.symm;omega)).trans (h.block k hk hp)⟩
theorem ah.grown (H:ah w p num dep l) (hg:w.grownBy w' row) (hr:∀ k,row=some k->p<k):ah w' p num dep l:=by
 obtain ⟨a,cap,hp,hc,hs⟩:=H.row;refine ⟨⟨a,cap,?_,hc,fun h => ?_⟩,H.len,H.sizes⟩
 ·rw [hg.block p (K6.1 hp).1 (fun e=>by have:=hr p e.symm;omega)];exact hp
 ·obtain ⟨b,off,h1,h2,h3,h4⟩:=hs h;refine ⟨b,off,h1,h2,Lu h3 hg.size,fun i hi => ?_⟩;rw [hg.cell_far ⟨b,off+i,none⟩ h3 (fun e=>by have:=hr b e.symm;omega)];exact h4 i hi
theorem mH:(Tryz.prog.info? 324).map (fun i=>(i.zero,i.size,i.bytes))=some (some .nilIface,1,16):=zab
def gy (p:Nat) (num dep:Int) (l:List ByteArray) (w:World) (e:Ending) (w':World):Prop:=match Pro.aZ l with
 | none=>cG p 2 num w e w'
 | some (A,r)=>∃ a n c,e = .returned (.slice a n c)/\w'.ownsRow w.heap.size 324 1 (.slice a n c) A.length (A.map bf)/\ak p w w'/\ah w' p num dep r
theorem zL (a:Ref.Act):∃ t u,bf a = .iface t u:=by
 unfold bf uA
 repeat' split
 all_goals exact ⟨_,_,rfl⟩
theorem iQ (p:Nat) (num dep:Int) (l:List ByteArray) (w:World) (H:ah w p num dep l) (hv:bE p w) :
  () 246 #[p] w (gy p num dep l w):=by
 have hpl:=H.lt;have hll:=H.len;obtain ⟨i0,hi0,hz0,hz1,hz2⟩:=MC mH;go_enter func246,ntmps246;go_wp2_with fail
 go_loopg [3] l.length (fun q v wr=>∃ (va:Option Addr) (vn vc:Nat) (A:List Ref.Act) (l':List ByteArray),q=l'.length/\v = .slice va vn vc/\A.length+l'.length<=l.length/\Pro.aZ l=(Pro.aZ l').map (fun q=>(A++q.1,q.2))/\wr.ownsRow w 324 1 (.slice va vn vc) A.length (A.map bf)/\ak p w wr/\ah wr p num dep l')
 case atStart=>exact ⟨none,0,0,[],l,rfl,rfl,zad,by cases Pro.aZ l <;> rfl,Mf _ _ _ _,ak.refl _ _,H⟩
 case round =>
  obtain ⟨va,vn,vc,A,l',hq,rfl,hlen,hP,hown,ht,H'⟩:=hrel;have HP:Hid _:=hP;clear hP;have hsz:=ht.size;cases l' with
  | nil =>
   go_wp2_with (go_at_call 245;refine (skip_none p num dep Pro.bDo _ H').mono ?_;rintro e w9 ⟨rfl,hw9⟩;rw [hw9];clear hw9 w9);go_ret;unfold gy;rw [HP.out];exact ⟨va,vn,vc,rfl,zbj,ht,H'⟩
  | cons x r =>
   cases hx:(x.toList == Pro.bDo.toList)
   ·have HS:Hid _:=Pro.jf (r:=r) hx;go_wp2_with (go_at_call 245;refine (qi p num dep x r Pro.bDo _ H' hx).mono ?_;rintro e w9 ⟨rfl,hw9⟩;rw [hw9];clear hw9 w9);go_ret;unfold gy;rw [HP.out,HS.out];exact ⟨va,vn,vc,rfl,zbj,ht,H'⟩
   ·cases ha:Pro.bB r with
    | none =>
     have HS:Hid (Pro.aZ l=none):=by unfold Hid;rw [HP.out,Pro.je hx ha];rfl
     go_wp2_with fail;refine (jF p num dep x r Pro.bDo _ H' hx).mono ?_;rintro e w1 ⟨rfl,ho1,H1⟩;have ht1:=ht.trans ho1.ai;clear ho1;dsimp only;go_wp2_with fail;refine (qt p num dep r _ H1 (hv.ai ht1)).mono ?_;rintro e w2 hq2;rw [ha] at hq2;obtain ⟨ht2,b,h4,h5,rfl⟩:=hq2;dsimp only;refine ⟨rfl,?_⟩;unfold gy;rw [HS.out];exact ⟨ht1.trans ht2,b,La ht1.size h4,h5,rfl⟩
    | some q =>
     obtain ⟨a,r'⟩:=q;have hal:=Pro.iZ ha;have HS:Hid (Pro.aZ l=(Pro.aZ r').map (fun q=>((A++[a])++q.1,q.2))):=by
      unfold Hid;rw [HP.out,Pro.jd hx ha];cases Pro.aZ r' with
      | none=>rfl
      | some q=>simp
     go_wp2_with fail;refine (jF p num dep x r Pro.bDo _ H' hx).mono ?_;rintro e w1 ⟨rfl,ho1,H1⟩;have ht1:=ht.trans ho1.ai;have hown1:=rL hown ho1.ai hpl;clear ho1;dsimp only;go_wp2_with fail;refine (qt p num dep r _ H1 (hv.ai ht1)).mono ?_;rintro e w2 hq2;rw [ha] at hq2;obtain ⟨rfl,ht2,H2⟩:=hq2;have hown2:=rL hown1 ht2 hpl;have ht3:=ht1.trans ht2;have hs3:=ht3.size;clear ha H1 ht1 ht2 hown1 hown;simp only [List.length_cons] at hlen;dsimp only;obtain ⟨at1,au1,hav⟩:=zL a;rw [hav];have HAV:Hid _:=hav;clear hav;go_wp2_with (at_builtin;refine wpList_append_lies _ zae (.tmp 6) (.tmp 9) _ zae w.heap.size 324 i0 _ 1 16 underlying239 hi0 hz0 hz1 hz2 rfl zac (.slice va vn vc) A.length (A.map bf) zae (Nn hown2 _) ⟨w2,0,none⟩ 1 1 [.iface at1 au1] zae zae (World.news_of_block (cs:=#[.iface at1 au1]) (t:=324) (fr:=(0,0)) (Lf w2 _)) (by intro u hu;rw [Li.1 hu];rfl) zaa zag zaa zaf (w2.heap.size+1) zad ?_;intro g5 cap5 w5 hown5 hgrow hat hlt5)
     go_roundg r'.length
     case measure=>omega
     case rel =>
      refine ⟨some ⟨g5,0,none⟩,A.length+1,cap5,A++[a],r',rfl,rfl,zaf,HS.out,?_,(ht3.alloc _).grown hgrow (fun k e=>(LL hown2 k e).1),(H2.alloc _).grown hgrow (fun k e=>Lu hpl (LL hown2 k e).1)⟩;rw [Ls,Mc,NM,List.map_nil,HAV.out];exact hown5
theorem DT:Tryz.f223.results=#[.cell 2 384]:=rfl
theorem Bm:(Tryz.prog.info? 384).map (·.size)=some 3:=zab
namespace Pro
def cD (l:List ByteArray):Option (List Ref.Act×List ByteArray):=match aZ l with
 | none=>none
 | some ([],_)=>none
 | some (a::A,r)=>some (a::A,r)
end Pro
def ee (p:Nat) (num dep:Int) (l:List ByteArray) (w:World) (e:Ending) (w':World):Prop:=match Pro.cD l with
 | none=>cG p 2 num w e w'
 | some (A,r)=>∃ a n c,e = .returned (.agg #[.int .i64 num,.int .i64 dep,.slice a n c])/\w'.ownsRow w.heap.size 324 1 (.slice a n c) A.length (A.map bf)/\ak p w w'/\ah w' p num dep r
theorem gJ.trans (h:gJ g a b) (k:gJ g b c):gJ g a c:=⟨k.os.trans h.os,k.tape.trans h.tape,k.output.trans h.output,k.size.trans h.size,fun i hi=>(k.block i hi).trans (h.block i hi)⟩
theorem ak.gY (h:ak p w w1) (ho:gJ N w1 w2) (hN:w.heap.size<=N):ak p w w2 :=
 ⟨ho.os.trans h.os,ho.tape.trans h.tape,ho.output.trans h.output,by rw [ho.size];exact h.size,fun k hk hp=>(ho.block k zaa).trans (h.block k hk hp)⟩
theorem jR (p:Nat) (num dep:Int) (l:List ByteArray) (w:World) (H:ah w p num dep l) (hv:bE p w) :
  () 223 #[p] w (ee p num dep l w):=by
 have hpl:=H.lt;cases ha:Pro.aZ l with
 | none =>
  have HS:Hid (Pro.cD l=none):=zbJ;go_enter func223,ntmps223;go_wp2_with fail;refine (iQ p num dep l _ (H.alloc _) (hv.alloc _)).mono ?_;rintro e w1 h1;unfold gy at h1;rw [ha] at h1;obtain ⟨ht,b,h4,h5,rfl⟩:=h1;dsimp only;refine ⟨rfl,?_⟩;unfold ee;exact zer
 | some q =>
  obtain ⟨A,r⟩:=q;cases A with
  | nil =>
   have HS:Hid (Pro.cD l=none):=zbJ;go_enter func223,ntmps223;go_wp2_with fail;refine (iQ p num dep l _ (H.alloc _) (hv.alloc _)).mono ?_;rintro e w1 h1;unfold gy at h1;rw [ha] at h1;obtain ⟨a,n,c,rfl,hown,ht1,H1⟩:=h1;obtain rfl:n=0:=by
    rcases hown.2 with ⟨hv',_⟩ | ⟨g,cap,cur,hv',_⟩
    ·exact ze0
    ·exact ze0
   obtain ⟨c0,c1⟩:=H1.cells;have ht:ak p w w1:=((ak.refl p w).alloc _).trans ht1;clear ht1 hown ha;dsimp only;go_wp2_with fail;refine (aT num dep 2 _).mono ?_;rintro e w2 hq;obtain ⟨ht',b,h4,h5,rfl⟩:=cy ht hq;dsimp only;refine ⟨rfl,?_⟩;unfold ee;rw [HS.out];exact ⟨ht',b,h4,h5,rfl⟩
  | cons a0 A =>
   have HS:Hid (Pro.cD l=some (a0::A,r)):=zbJ;go_enter func223,ntmps223;go_wp2_with fail;refine (iQ p num dep l _ (H.alloc _) (hv.alloc _)).mono ?_;rintro e w1 h1;unfold gy at h1;rw [ha] at h1;obtain ⟨a,n,c,rfl,hown,ht1,H1⟩:=h1;obtain rfl:n=(a0::A).length:=by
    rcases hown.2 with ⟨hv',h0⟩ | ⟨g,cap,cur,hv',_⟩
    ·simp only [Value.slice.injEq] at hv';rw [h0];exact hv'.2.1
    ·exact ze0
   have hN:w1.heap[w.heap.size]?=some (.cells #[(0:Int),(0:Int),.slice none 0 0] 384 (0,0)):=by
    rw [ht1.block w zad zaa];exact Lf w _
   have d0:w1.cell? w=some ↑(0:Int):=by rw [Lb w1 _ 0 _ _ _ hN];rfl
   have d1:w1.cell? ⟨w,1,none⟩=some ↑(0:Int):=by rw [Lb w1 _ 1 _ _ _ hN];rfl
   have d2:w1.cell? ⟨w,2,none⟩=some (.slice none 0 0):=by rw [Lb w1 _ 2 _ _ _ hN];rfl
   have f0:w1.frozen? ⟨w,0,none⟩=false:=zat;have f1:w1.frozen? ⟨w,1,none⟩=false:=zat;have f2:w1.frozen? ⟨w,2,none⟩=false:=zat;obtain ⟨c0,c1⟩:=H1.cells;have ht:ak p w w1:=((ak.refl p w).alloc _).trans ht1;have hown':=aD hown (show w.heap.size<=(w.alloc (.cells #[(0:Int),(0:Int),.slice none 0 0] 384)).heap.size by simp);have hpos:(((a0::A).length:Int) == 0)=false:=zaf;clear ht1 ha hown;generalize hm:(a0::A).length=m at *;have HM:Hid _:=hm;clear hm;dsimp only;go_wp2;have o1:=aa w1 w 0 (.int .i64 num);have o2:=aa (w1.setCell w (.int .i64 num)) w.heap.size 1 (.int .i64 dep);have o3:=aa ((w1.setCell w (.int .i64 num)).setCell ⟨w,1,none⟩ (.int .i64 dep)) w.heap.size 2 (.slice a m c);have oo:=(o1.trans o2).trans o3;have g1:=Lp w1 w 0 _ _ (.int .i64 num) hN;have g2:=Lp _ w 1 _ _ (.int .i64 dep) g1;have g3:=Lp _ w 2 _ _ (.slice a m c) g2;refine dJ DT _ 384 _ (0,0) _ rfl g3 underlying384 rfl Bm rfl ?_;unfold ee;rw [HS.out];exact ⟨a,m,c,rfl,by rw [HM.out];exact lR hown' oo hN zac,ht.gY oo (K7 _),H1.only oo hpl⟩
theorem dS (p:Nat) (num dep:Int) (l:List ByteArray) (w:World) (H:ah w p num dep l) (hv:bE p w) :
  () 219 #[p,.func (.func 244) #[] #[]] w (eh p num dep ((Pro.pOf Ref.plain l).map fun q=>(.string q.1,q.2)) w):=by
 cases l with
 | nil=>exact iX p num dep _ w H
 | cons x r =>
  cases hx:Ref.plain x
  ·have:Pro.pOf Ref.plain (x::r)=none:=zaA;rw [this];exact rF p num dep x r w H hv hx
  ·have:Pro.pOf Ref.plain (x::r)=some (x,r):=zaA;rw [this];exact pU p num dep x r w H hv hx
theorem fh (p:Nat) (num dep:Int) (l:List ByteArray) (w:World) (H:ah w p num dep l) (hv:bE p w) :
  () 219 #[p,.func (.func 220) #[] #[]] w (eh p num dep ((Pro.pOf Ref.bW l).map fun q=>(.string q.1,q.2)) w):=by
 cases l with
 | nil=>exact iX p num dep _ w H
 | cons x r =>
  cases hx:Ref.bW x
  ·have:Pro.pOf Ref.bW (x::r)=none:=zaA;rw [this];exact nP p num dep x r w H hv hx
  ·have:Pro.pOf Ref.bW (x::r)=some (x,r):=zaA;rw [this];exact mL p num dep x r w H hv hx
theorem F4:Tryz.f216.results=#[.cell 4 376]:=rfl
theorem gx:(Tryz.prog.info? 376).map (·.size)=some 4:=zab
theorem ou (p:Nat) (num dep k:Int) (l:List ByteArray) (w:World) (H:ah w p num dep l) (hv:bE p w) (hn:Pro.pOf Ref.plain l=none) :
  () 216 #[p,(k:Int)] w (cG p 2 num w):=by
 have hpl:=H.lt;obtain ⟨c0,c1⟩:=H.cells;go_enter func216,ntmps216;go_wp2_with fail;have H1:=(H.alloc (.cells #[(0:Int),(0:Int),(0:Int),ByteArray.empty] 376)).drew;have hv1:bE p (w.alloc (.cells #[(0:Int),(0:Int),(0:Int),ByteArray.empty] 376)).drew:=(hv.alloc _).ai (ak.refl p _).drew;refine MX zab ?_;change wpAny _ _ _ _ _ _ _ (World.drew _);refine tA 0 p rfl ?_;refine tA 1 p rfl ?_;refine tA 2 p rfl ?_;refine tA 4 (.int .i64 k) rfl ?_;refine tA 5 p rfl ?_;refine yA [3,6] ?_;refine Le rfl (fun K hK => ?_) (Le rfl (fun K hK => ?_) Lx)
 ·go_simp;refine hK _ _ ?_;clear hK K;refine zA 6 rfl fun K hK => ?_;exact zdp
 ·exact zdp
theorem lY (p:Nat) (num dep k:Int) (l r:List ByteArray) (x:ByteArray) (w:World) (H:ah w p num dep l) (hv:bE p w) (hn:Pro.pOf Ref.plain l=some (x,r)) :
  () 216 #[p,(k:Int)] w fun e w'=>e = .returned (.agg #[(num:Int),(dep:Int),(k:Int),x])/\ak p w w'/\ah w' p num dep r:=by
 have hpl:=H.lt;obtain ⟨c0,c1⟩:=H.cells;go_enter func216,ntmps216;go_wp2_with fail;have H1:=(H.alloc (.cells #[(0:Int),(0:Int),(0:Int),ByteArray.empty] 376)).drew;have hv1:bE p (w.alloc (.cells #[(0:Int),(0:Int),(0:Int),ByteArray.empty] 376)).drew:=(hv.alloc _).ai (ak.refl p _).drew;go_region_held3 (fun W=>W.cell? p=some ↑(num:Int)/\W.cell? ⟨p,1,none⟩=some ↑(dep:Int)) (first | go_keep | exact ⟨k0,k1⟩ | exact ⟨k2,k3⟩)
  ((go_at_call 219;refine (dS p num dep l _ H1 hv1).mono ?_;rintro e w4 h4;rw [hn] at h4;obtain ⟨rfl,ht4,H4⟩:=h4;obtain ⟨k0,k1⟩:=H4.cells;have hN:w4.heap[w.heap.size]?=some (.cells #[(0:Int),(0:Int),(0:Int),ByteArray.empty] 376 (0,0)):=(ht4.block w zad zaa).trans (Lf w _);have d0:w4.cell? w=some ↑(0:Int):=by rw [Lb w4 _ 0 _ _ _ hN];rfl
    have d1:w4.cell? ⟨w,1,none⟩=some ↑(0:Int):=by rw [Lb w4 _ 1 _ _ _ hN];rfl
    have d2:w4.cell? ⟨w,2,none⟩=some ↑(0:Int):=by rw [Lb w4 _ 2 _ _ _ hN];rfl
    have d3:w4.cell? ⟨w,3,none⟩=some ↑ByteArray.empty:=by rw [Lb w4 _ 3 _ _ _ hN];rfl
    have f0:w4.frozen? ⟨w,0,none⟩=false:=zat;have f1:w4.frozen? ⟨w,1,none⟩=false:=zat;have f2:w4.frozen? ⟨w,2,none⟩=false:=zat;have f3:w4.frozen? ⟨w,3,none⟩=false:=zat;have hne:¬ p=w.heap.size:=zaa;have hne2:¬ w.heap.size=p:=zaa;dsimp only))
 go_wp2;have o1:=aa w4 w 0 (.int .i64 num);have o2:=aa (w4.setCell w (.int .i64 num)) w.heap.size 1 (.int .i64 dep);have o3:=aa ((w4.setCell w (.int .i64 num)).setCell ⟨w,1,none⟩ (.int .i64 dep)) w.heap.size 2 (.int .i64 k);have o4:=aa (((w4.setCell w (.int .i64 num)).setCell ⟨w,1,none⟩ (.int .i64 dep)).setCell ⟨w,2,none⟩ (.int .i64 k)) w.heap.size 3 (.string x);have oo:=((o1.trans o2).trans o3).trans o4;have g1:=Lp w4 w 0 _ _ (.int .i64 num) hN;have g2:=Lp _ w 1 _ _ (.int .i64 dep) g1;have g3:=Lp _ w 2 _ _ (.int .i64 k) g2;have g4:=Lp _ w 3 _ _ (.string x) g3;have ht:ak p w w4:=((ak.refl p w).alloc _).drew.trans ht4;exact dJ F4 _ 376 _ (0,0) _ rfl g4 underlying376 rfl gx rfl ⟨rfl,ht.gY oo (K7 _),H4.only oo hpl⟩
theorem mR:Tryz.f217.results=#[.cell 2 376]:=rfl
namespace Pro
def oD:ByteArray:=⟨#[100,101,101,112]⟩
def cZ (l:List ByteArray):Option ((ByteArray×Int)×List ByteArray):=match pOf Ref.plain l with
 | none=>none
 | some (x,[])=>some ((x,3),[])
 | some (x,y::r)=>if y.toList == oD.toList then some ((x,4),r) else some ((x,3),y::r)
end Pro
theorem ff {a b c d:Value} (hN:w.heap[N]?=some (.cells #[a,b,c,d] t (0,0))) :
  w.cell? N=some a/\w.cell? ⟨N,1,none⟩=some b/\w.cell? ⟨N,2,none⟩=some c/\w.cell? ⟨N,3,none⟩=some d/\w.frozen? ⟨N,0,none⟩=false/\w.frozen? ⟨N,1,none⟩=false/\w.frozen? ⟨N,2,none⟩=false/\w.frozen? ⟨N,3,none⟩=false :=
 ⟨by rw [Lb w _ 0 _ _ _ hN];rfl,by rw [Lb w _ 1 _ _ _ hN];rfl,by rw [Lb w _ 2 _ _ _ hN];rfl,by rw [Lb w _ 3 _ _ _ hN];rfl,zat,zat,zat,zat⟩
theorem kS {a b c d a' b' c' d':Value} (hN:w.heap[N]?=some (.cells #[a,b,c,d] t (0,0))) :
  ((((w.setCell N a').setCell ⟨N,1,none⟩ b').setCell ⟨N,2,none⟩ c').setCell ⟨N,3,none⟩ d').heap[N]?=some (.cells #[a',b',c',d'] t (0,0))/\gJ N w ((((w.setCell N a').setCell ⟨N,1,none⟩ b').setCell ⟨N,2,none⟩ c').setCell ⟨N,3,none⟩ d'):=by
 have g1:=Lp w N 0 _ _ a' hN;have g2:=Lp _ N 1 _ _ b' g1;have g3:=Lp _ N 2 _ _ c' g2;have g4:=Lp _ N 3 _ _ d' g3;exact ⟨g4,(((aa _ _ _ _).trans (aa _ _ _ _)).trans (aa _ _ _ _)).trans (aa _ _ _ _)⟩
theorem pB (p:Nat) (num dep:Int) (l:List ByteArray) (w:World) (H:ah w p num dep l) (hv:bE p w) :
  () 217 #[p] w (eh p num dep ((Pro.cZ l).map fun q=>(.agg #[(num:Int),(dep:Int),(q.1.2:Int),.string q.1.1],q.2)) w):=by
 have hpl:=H.lt;cases hn:Pro.pOf Ref.plain l with
 | none =>
  have HS:Hid (Pro.cZ l=none):=by unfold Hid Pro.cZ;rw [hn]
  go_enter func217,ntmps217;go_wp2_with fail;refine (ou p num dep 3 l _ (H.alloc _) (hv.alloc _) hn).mono ?_;rintro e w1 h1;obtain ⟨ht,b,h4,h5,rfl⟩:=h1;dsimp only;refine ⟨rfl,?_⟩;exact zer
 | some q =>
  obtain ⟨x,l2⟩:=q;go_enter func217,ntmps217;go_wp2_with fail;refine (lY p num dep 3 l l2 x _ (H.alloc _) (hv.alloc _) hn).mono ?_;rintro e w1 ⟨rfl,ht1,H1⟩;dsimp only;have hN:w1.heap[w.heap.size]?=some (.cells #[(0:Int),(0:Int),(0:Int),ByteArray.empty] 376 (0,0)):=(ht1.block w zad zaa).trans (Lf w _);have hNl:w.heap.size<w1.heap.size:=(K6.1 hN).1;have ht:ak p w w1:=((ak.refl p w).alloc _).trans ht1;have hp1:=H1.lt;clear ht1;have H2:=H1.alloc (.cells #[(num:Int),(dep:Int),(3:Int),x] 376);have hN2:(w1.alloc (.cells #[(num:Int),(dep:Int),(3:Int),x] 376)).heap[w.heap.size]?=some (.cells #[(0:Int),(0:Int),(0:Int),ByteArray.empty] 376 (0,0)):=by rw [Mh _ _ _ hNl];exact hN
  have ht2:ak p w (w1.alloc (.cells #[(num:Int),(dep:Int),(3:Int),x] 376)):=ht.alloc _;have hM2:=Lf w1 (.cells #[(num:Int),(dep:Int),(3:Int),x] 376);have hne:¬ w.heap.size=w1.heap.size:=zaa;have hne':¬ w1.heap.size=w.heap.size:=zaa;cases l2 with
  | nil =>
   have HS:Hid (Pro.cZ l=some ((x,3),[])):=by unfold Hid Pro.cZ;rw [hn]
   go_wp2_with fail;refine (skip_none p num dep Pro.oD _ H2).mono ?_;rintro e w9 ⟨rfl,hw9⟩;rw [hw9];clear hw9 w9 hN;generalize w1.alloc (.cells #[(num:Int),(dep:Int),(3:Int),x] 376)=w2 at *;obtain ⟨a0,a1,a2,a3,b0,b1,b2,b3⟩:=ff hN2;obtain ⟨c0,c1,c2,c3,_,_,_,_⟩:=ff hM2;have gg:=kS (a' := .int .i64 num) (b' := .int .i64 dep) (c' := .int .i64 3) (d' := .string x) hN2;have GG:Hid _:=gg;clear gg;exact zdA
  | cons y r =>
   cases hy:(y.toList == Pro.oD.toList)
   ·have HS:Hid (Pro.cZ l=some ((x,3),y::r)):=zci;go_wp2_with fail;refine (qi p num dep y r Pro.oD _ H2 hy).mono ?_;rintro e w9 ⟨rfl,hw9⟩;rw [hw9];clear hw9 w9 hN;generalize w1.alloc (.cells #[(num:Int),(dep:Int),(3:Int),x] 376)=w2 at *;obtain ⟨a0,a1,a2,a3,b0,b1,b2,b3⟩:=ff hN2;obtain ⟨c0,c1,c2,c3,_,_,_,_⟩:=ff hM2;have GG:Hid _:=kS (a' := .int .i64 num) (b' := .int .i64 dep) (c' := .int .i64 3) (d' := .string x) hN2;exact zdA
   ·have HS:Hid (Pro.cZ l=some ((x,4),r)):=zci;go_wp2_with fail;refine (jF p num dep y r Pro.oD _ H2 hy).mono ?_;rintro e w3 ⟨rfl,ho3,H3⟩;have hN3:=(ho3.block w zaa).trans hN2;have hM3:=(ho3.block w1 zaa).trans hM2;have ht3:=ht2.trans ho3.ai;have hM4:=Lp w3 w1 2 _ _ (.int .i64 4) hM3;have oM:=aa w3 w1 2 (.int .i64 4);have hN4:=(oM.block w hne).trans hN3;have ht4:=ht3.gY oM zaa;have H4:=H3.only oM zaa;obtain ⟨_,_,m2,_,_,_,m6,_⟩:=ff hM3;clear hN hN2 hM2 ho3 ht3 H3 hM3 hN3 oM;dsimp only
    go_upto_region 4 with fail
    generalize w3.setCell ⟨w1,2,none⟩ (.int .i64 4)=w4 at *;obtain ⟨a0,a1,a2,a3,b0,b1,b2,b3⟩:=ff hN4;obtain ⟨c0,c1,c2,c3,_,_,_,_⟩:=ff (a := .int .i64 num) (b := .int .i64 dep) (c := .int .i64 4) (d := .string x) hM4;have GG:Hid _:=kS (a' := .int .i64 num) (b' := .int .i64 dep) (c' := .int .i64 4) (d' := .string x) hN4;go_wp2;refine dJ mR _ 376 _ (0,0) _ rfl GG.out.1 underlying376 rfl gx rfl ?_;unfold eh;rw [HS.out];exact ⟨rfl,ht4.gY GG.out.2 (K7 _),H4.only GG.out.2 hpl⟩
