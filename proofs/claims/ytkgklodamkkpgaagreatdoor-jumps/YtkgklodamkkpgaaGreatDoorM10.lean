import Derived.Test.YtkgklodamkkpgaaGreatDoorM00
import Derived.Test.YtkgklodamkkpgaaGreatDoorSh
import Derived.Lib.AppendIntMem
import Derived.Deep.RegionHeld3
import Derived.Deep.AppendLies
set_option maxRecDepth 100000
set_option maxHeartbeats 8000000
namespace Go.Proofs.YtkgklodamkkpgaaGreatDoor
variable {zp:Prop}
theorem zc4 (h:zp:=by
 go_enter func249,ntmps249;go_wp2_with fail;refine (aF p num dep x r _ H).mono ?_;rintro e w1 ⟨rfl,ho,H1⟩;have ht1:=ho.ai;clear ho;dsimp only;go_wp2_with fail;refine (fu p num dep r _ H1 (hv.ai ht1)).mono ?_;rintro e w2 hq;rw [hn] at hq;obtain ⟨ht,b,h4,h5,rfl⟩:=hq;dsimp only;refine ⟨rfl,?_⟩;rw [HS.out];exact ⟨ht1.trans ht,b,MX ht1.size h4,h5,rfl⟩):zp:=h
theorem zc8 (h:zp:=by
 have HP:Hid _:=hp;have HL:Hid _:=hl;clear hp hl;go_enter func222,ntmps222;go_wp2_with (first
  | (go_at_call 218;refine (gA s _ zag).mono ?_;rintro e w9 ⟨rfl,hw9⟩;rw [hw9,HP.out];clear hw9 w9)
  | (go_at_call 251;refine (lr s _ hs hv).mono ?_;rintro e w9 ⟨rfl,hb9⟩;rw [HL.out]))
 go_ret;exact ⟨by rw [HC.out];rfl,hb9⟩):zp:=h
theorem zdd (h:zp:=by
 go_simp;refine hK _ _ ?_;clear hK K;refine zA 2 rfl fun K hK => ?_;go_simp
 (refine (fY p num dep r _ H3d hv3).mono ?_;rintro e w4 h4;rw [hr] at h4;obtain ⟨ht,b,h5,h6,rfl⟩:=h4;dsimp only;refine ⟨rfl,?_⟩;rw [HS2.out];exact ⟨ht3.trans ((ak.refl p w3).drew.trans ht),b,MX ht3.size h5,h6,rfl⟩)):zp:=h
theorem zde (h:zp:=by
 go_wp2_with (first | (go_at_call 247;refine (dx _ _).mono ?_;rintro e w9 ⟨rfl,hw9⟩;rw [hw9,H1.out];clear hw9 w9) | (go_at_call 248;refine (lh _ _).mono ?_;rintro e w9 ⟨rfl,hw9⟩;rw [hw9,H2.out];clear hw9 w9))
 go_round
 case rel=>exact ⟨k+1,zaa,zah,HS.out⟩
 case measure=>simp [intOf];omega):zp:=h
theorem zdt (h:zp:=by
 go_simp
 (refine (ee p num dep l _ H1 hv1).mono ?_;rintro e w4 h4;rw [hn] at h4;obtain ⟨ht,b,h5,h6,rfl⟩:=h4;dsimp only;exact ⟨rfl,((ak.refl p w).alloc _).drew.trans ht,b,by simp at h5;omega,h6,rfl⟩)):zp:=h
theorem zdE (h:zp:=by
 dsimp only;go_wp2;refine dP nz _ 351 _ (0,0) _ rfl GG.out.1 underlying351 rfl gJ rfl ?_;unfold eC;rw [HS.out];exact ⟨rfl,ht2.iA GG.out.2 (MR _),H2.only GG.out.2 hpl⟩):zp:=h
theorem zdO (h:zp:=by
 rintro e w9 ⟨rfl,hw9⟩;rw [hw9];clear hw9 w9;dsimp only;go_wp2;go_ret;unfold eC;rw [HS.out];exact ⟨rfl,ht.alloc _,H2.alloc _⟩):zp:=h
theorem zej (h:zp:=by
 obtain ⟨⟨n,r'⟩,h1,h2⟩:=Nv.1 h;cases h2
 have:=qK h1;dsimp only at this ⊢;omega):zp:=h
theorem zeu (h:zp:=by
 go_ret;exact ⟨rfl,aa _ _ _ _,H.gq hp hbp hbw hst zaa (fun _=>rfl)⟩):zp:=h
theorem zev (h:zp:=by
 go_ret;exact ⟨rfl,aa _ _ _ _,H.gq hp hbp hbw hst zaa (fun h=>zaa)⟩):zp:=h
theorem zez (h:zp:=by
 rw [HS.out];exact ⟨((ak.refl p w).alloc _).trans ht,b,zaQ,h5,rfl⟩):zp:=h
theorem zeO (h:zp:=by
 go_enter func218,ntmps218;go_wp2;go_ret;exact ⟨za2,rfl⟩):zp:=h
theorem ze6 (h:zp:=by
 simp only [Value.slice.injEq] at hv';exact hv'.2.1):zp:=h
theorem ze7 (h:zp:=by
 go_wp2;go_ret;exact ⟨by rw [HR.out];simp,hb1⟩):zp:=h
theorem zfb (h:zp:=by
 unfold Ref.gd;split
 ·omega
 ·split <;> omega):zp:=h
theorem zfd (h:zp:=by
 go_wp2;go_meet
 case rel=>exact ⟨rfl,rfl⟩):zp:=h
theorem zfx (h:zp:=by
 go_ret;exact ⟨za2,rfl⟩):zp:=h
theorem zaq (h:zp:=by rw [NY];rfl):zp:=h
theorem zar (h:zp:=by simp [World.frozen?,hN]):zp:=h
theorem zaz (h:zp:=by rw [Pro.pOf,hx];rfl):zp:=h
theorem zaE (h:zp:=by rw [M0 w p 2 _ _ _ hp];rfl):zp:=h
theorem zaQ (h:zp:=by simp at h4;omega):zp:=h
theorem za2 (h:zp:=by rw [HP.out];rfl):zp:=h
theorem za3 (h:zp:=by simpa using h3):zp:=h
theorem zbo (h:zp:=by simpa using hown):zp:=h
theorem zbM (h:zp:=by rw [M0 w p 0 _ _ _ hp];rfl):zp:=h
theorem zbN (h:zp:=by rw [M0 w p 1 _ _ _ hp];rfl):zp:=h
theorem zbO (h:zp:=by unfold Hid Pro.cI;rw [ha]):zp:=h
theorem zbU (h:zp:=by simp [World.frozen?,hp]):zp:=h
theorem zca (h:zp:=by unfold Hid Pro.dr;rw [hn];simp only;rw [hd];simp only;rw [hy];rfl):zp:=h
theorem zcc (h:zp:=by unfold Hid;rw [Pro.bF,Ref.eT,h1,Ref.k8,h2,Ref.eK,h3,hn];rfl):zp:=h
theorem zcj (h:zp:=by unfold Hid;rw [Pro.bF,Ref.eT,h1,Ref.k8,h2,hn];rfl):zp:=h
theorem zcl (h:zp:=by unfold Hid Pro.de;rw [hn];simp only;rw [hy];rfl):zp:=h
open Tryz
variable {s x:ByteArray} {k p cap N n g base size:Nat} {w w' b a c w1 w2:World} {v:Value} {num dep:Int} {r l:List ByteArray} {e t:TypeId} {xs:List Value} {row:Option Nat}
section
open Go.RowKit
open Go.PlainAid (bt get_bt bt_nonneg bt_le bt_end)
theorem dx (c:Int) (w:World):() 247 #[.int .u8 c] w fun e w'=>e = .returned (.bool (Ref.small c))/\w'=w:=by
 by_cases h1:97<=c
 ·by_cases h2:c<=122
  ·go_enter func247,ntmps247;go_wp2;go_ret;exact ⟨by simp [Ref.small,h1,h2],rfl⟩
  ·go_enter func247,ntmps247;go_wp2;go_ret;exact ⟨by rw [Ref.small,NM (show ¬ c<=122 by omega),OR];rfl,rfl⟩
 ·go_enter func247,ntmps247;go_wp2;go_ret;exact ⟨by rw [Ref.small,NM (show ¬ 97<=c by omega),Pk];rfl,rfl⟩
theorem lh (c:Int) (w:World):() 248 #[.int .u8 c] w fun e w'=>e = .returned (.bool (Ref.jN c))/\w'=w:=by
 by_cases h1:48<=c
 ·by_cases h2:c<=57
  ·go_enter func248,ntmps248;go_wp2;go_ret;exact ⟨by simp [Ref.jN,h1,h2],rfl⟩
  ·go_enter func248,ntmps248;go_wp2;go_ret;exact ⟨by rw [Ref.jN,NM (show ¬ c<=57 by omega),OR];rfl,rfl⟩
 ·go_enter func248,ntmps248;go_wp2;go_ret;exact ⟨by rw [Ref.jN,NM (show ¬ 48<=c by omega),Pk];rfl,rfl⟩
namespace Ref
theorem xB (h0:small (bt s 0)=true) (h:(small (bt s k)||(jN (bt s k)||decide (bt s k=95)))=true):iX s k=true:=by
 by_cases hk:k=0
 ·rw [hk,vA];exact h0
 ·unfold iX more;unfold jN at h;rw [NZ (show k≠0 from hk),Qv,Bool.or_comm (decide (bt s k=95))];exact h
theorem Hf (h1:small (bt s k)=false) (h2:jN (bt s k)=false) (h3:¬ bt s k=95):iX s k=false:=by
 unfold iX more;unfold jN at h2;rw [h1,h2,NM h3,QK,OR,QK]
theorem zT (hk:k<s.size) (h:iX s k=false):plain s=false:=by
 rw [plain,ub hk h,Pk]
end Ref
theorem gA (s:ByteArray) (w:World) (hs:s.size<=maxLen):() 218 #[s] w fun e w'=>e = .returned (.bool (Ref.plain s))/\w'=w:=by
 unfold maxLen at hs;have hb:=get_bt s;by_cases he:s.size=0
 ·have he':(s.toList == [])=true:=by rw [RG,<- PY,Ref.isEmpty_eq];exact NZ he
  have HP:Hid (Ref.plain s=false):=by unfold Hid Ref.plain;rw [NM (show ¬ 0<s.size by omega),Pk,OR]
  exact zeO
 ·have he':(s.toList == [])=false:=by
   rw [OY];intro h;have:=Ref.isEmpty_eq s;rw [h] at this;exact he (PI this.symm)
  by_cases h8:8<s.size
  ·have HP:Hid (Ref.plain s=false):=by unfold Hid Ref.plain;rw [NM (show ¬ s.size<=8 by omega),OR,OR]
   exact zeO
  ·cases hm:Ref.small (bt s 0)
   ·have HP:Hid (Ref.plain s=false):=Ref.zT (k:=0) zaa (by rw [Ref.vA];exact hm);have HM:Hid _:=hm;clear hm;go_enter func218,ntmps218;go_wp2_with (go_at_call 247;refine (dx _ _).mono ?_;rintro e w9 ⟨rfl,hw9⟩;rw [hw9,HM.out];clear hw9 w9);exact zfx
   ·have HM:Hid _:=hm;clear hm;go_enter func218,ntmps218;go_wp2_with (go_at_call 247;refine (dx _ _).mono ?_;rintro e w9 ⟨rfl,hw9⟩;rw [hw9,HM.out];clear hw9 w9)
    go_loop [20] (fun i=>∃ k:Nat,k<=s.size/\i = .int .i64 k/\∀ j,j<k->Ref.iX s j=true) (fun i=>s.size-(intOf i).toNat)
    case atStart=>exact ⟨0,Ni _,rfl,fun _ h=>zaa⟩
    case round =>
     obtain ⟨k,hk,rfl,hok⟩:=hrel;have Hok:Hid (∀ j,j<k->Ref.iX s j=true):=hok;clear hok;by_cases hlt:k<s.size
     ·cases h1:Ref.small (bt s k)
      ·cases h2:Ref.jN (bt s k)
       ·by_cases h3:bt s k=95
        ·have HS:Hid _:=Ref.xC Hok (Ref.xB HM.out (by rw [NZ h3,Ry,Ry]));have H1:Hid _:=h1;have H2:Hid _:=h2;have h3':(bt s k != 95)=false:=by rw [h3];rfl
         clear h1 h2 h3;exact zde
        ·have HP:Hid (Ref.plain s=false):=Ref.zT hlt (Ref.Hf h1 h2 h3);have H1:Hid _:=h1;have H2:Hid _:=h2;have h3':(bt s k != 95)=true:=za3;clear h1 h2 h3;go_wp2_with (first | (go_at_call 247;refine (dx _ _).mono ?_;rintro e w9 ⟨rfl,hw9⟩;rw [hw9,H1.out];clear hw9 w9) | (go_at_call 248;refine (lh _ _).mono ?_;rintro e w9 ⟨rfl,hw9⟩;rw [hw9,H2.out];clear hw9 w9));exact zfx
       ·have HS:Hid _:=Ref.xC Hok (Ref.xB HM.out (by rw [h2,PQ,Ry]));have H1:Hid _:=h1;have H2:Hid _:=h2;clear h1 h2;exact zde
      ·have HS:Hid _:=Ref.xC Hok (Ref.xB HM.out (by rw [h1,PQ]));have H1:Hid _:=h1;clear h1;go_wp2_with (go_at_call 247;refine (dx _ _).mono ?_;rintro e w9 ⟨rfl,hw9⟩;rw [hw9,H1.out];clear hw9 w9)
       go_round
       case rel=>exact ⟨k+1,zaa,zah,HS.out⟩
       case measure=>simp [intOf];omega
     ·obtain rfl:k=s.size:=zaa;have HP:Hid (Ref.plain s=true):=by
       unfold Hid Ref.plain;rw [Ref.DI Hok.out,Qv,NZ (show 0<s.size by omega),NZ (show s.size<=8 by omega)];rfl
      clear hb;go_wp2;exact zfx
structure gF (w:World):Prop where
 syn:∃ ev,w.cell? ⟨7,0,none⟩=some ev/\(ev = .nilIface\/∃ te pe,ev = .iface te pe)
 rng:∃ ev,w.cell? ⟨8,0,none⟩=some ev/\(ev = .nilIface\/∃ te pe,ev = .iface te pe)
def IL (s:ByteArray) (w:World) (e:Ending) (w':World):Prop:=Below w w w'/\∃ u:Int,e = .returned (.tuple #[.int .u64 u,.bool (Ref.cC s)])/\(Ref.cC s=true->u=Ref.dV s)
theorem o8 (w:World) (t:TypeId) (s:ByteArray):Below w w (Lib.bytesWorld w t s):=by
 unfold Lib.bytesWorld;exact Lib.below_freeze ((Below.drew (MY _ w)).alloc (MR _) _) (p:=⟨w,_,none⟩) (MR _) 1
theorem uC {p:Addr} (h:w.cell? p=some v) (hb:Below w w w'):w'.cell? p=some v:=by
 rw [hb.cell (Np w _ h)];exact h
theorem gF.ao (h:gF w) (hb:Below w w w'):gF w' :=
 let ⟨e1,h1,h2⟩:=h.syn
 let ⟨e3,h3,h4⟩:=h.rng
 ⟨⟨e1,uC h1 hb,h2⟩,⟨e3,uC h3 hb,h4⟩⟩
theorem gy (s p:ByteArray):Lib.hasPrefix s.data.toList p.data.toList=Ref.cB s p:=by
 rw [<- Lib.hasPrefix_raw,Ref.cB,Ref.CY]
theorem mR {p:ByteArray} (h:Ref.cB s p=true):(⟨(Lib.trimPrefix s.data.toList p.data.toList).toArray⟩:ByteArray)=s.extract p.size s.size:=by
 refine Lib.trimPrefix_hit s p (Ref.pU h) ?_;rw [Ref.CY];rw [Ref.cB,NC] at h;exact h.2
theorem nr (s:ByteArray) (w:World) (hs:s.size<=1073741824) (hv:gF w):() 224 #[s] w (IL s w):=by
 have hb:=get_bt s;by_cases h0:1<s.size/\bt s 0=48
 ·obtain ⟨h1,h2⟩:=h0;have HD:Hid (Ref.cC s=false):=by
   unfold Hid;rw [Ref.cC,Ref.rj,NZ h1,NZ h2,Qv,Ry,PQ,PQ,Bool.not_true,OR]
  have h2':(bt s 0 == 48)=true:=by rw [h2];rfl
  clear h2;go_enter func224,ntmps224;go_wp2;go_ret2;exact ⟨MY _ _,0,by rw [HD.out];rfl,fun h=>by rw [HD.out] at h;cases h⟩
 ·have HN:Hid _:=Num.Hd s h0;have HD0:Hid (decide (1<s.size)=true->(bt s 0 == 48)=false):=fun h=>by
   rw [OY];exact fun e=>h0 ⟨PI h,e⟩
  clear h0;go_enter func224,ntmps224
  go_upto_region 1 with fail
  go_cut [13] (fun c wx=>c = .bool false/\wx=w)
  case first =>
   by_cases h1:1<s.size
   ·have h2':=HD0.out (NZ h1);exact zfd
   ·exact zfd
  case rest =>
   obtain ⟨rfl,hwc⟩:=hcut;rw [hwc];clear hwc wc;cases hp:Lib.parseUintB 64 s.data.toList with
   | ok u =>
    have HU:Hid _:=HN.out.1 u hp;go_wp2_with fail;refine (strconv_ParseUint_10_at64_ok s zaa u hp _).mono ?_;rintro e w1 ⟨rfl,hw1⟩;have hb1:Below w w w1:=by
     rcases hw1 with h | h
     ·rw [h];exact MY _ _
     ·rw [h];exact o8 _ _ _
    clear hw1 hp;dsimp only;go_wp2
    go_quiet (fail)
    go_wp2;go_ret2;exact ⟨Pa hb1 _,u,by rw [HU.out.1];rfl,fun _=>HU.out.2.symm⟩
   | «syntax» =>
    have HU:Hid _:=HN.out.2 (fun u h=>by rw [hp] at h;cases h);obtain ⟨ev,hv1,hv2⟩:=hv.syn;go_wp2_with fail;refine (strconv_ParseUint_10_at64_syntax s zaa hp ev _ hv1 hv2).mono ?_;rintro e w1 ⟨N,rfl,hN,hcell,hb1⟩;clear hp hcell;dsimp only;go_wp2
    go_quiet (fail)
    go_wp2;go_ret2;exact ⟨Pa hb1 _,0,by rw [HU.out];rfl,fun h=>by rw [HU.out] at h;cases h⟩
   | range =>
    have HU:Hid _:=HN.out.2 (fun u h=>by rw [hp] at h;cases h);obtain ⟨ev,hv1,hv2⟩:=hv.rng;go_wp2_with fail;refine (strconv_ParseUint_10_at64_range s zaa hp ev _ hv1 hv2).mono ?_;rintro e w1 ⟨N,rfl,hN,hcell,hb1⟩;clear hp hcell;dsimp only;go_wp2
    go_quiet (fail)
    go_wp2;go_ret2;exact ⟨Pa hb1 _,18446744073709551615,by rw [HU.out];rfl,fun h=>by rw [HU.out] at h;cases h⟩
theorem lr (s:ByteArray) (w:World) (hs:s.size<=1073741824) (hv:gF w):() 251 #[s] w fun e w'=>e = .returned (.bool (Ref.lz s))/\Below w w w':=by
 cases hb:Ref.cB s Ref.bM
 ·have HL:Hid (Ref.lz s=false):=by unfold Hid Ref.lz;rw [hb,Pk]
  have HB:Hid _:=(gy s Ref.bM).trans hb;clear hb;go_enter func251,ntmps251;go_wp2_with fail;refine (strings_CutPrefix s Ref.bM _).mono ?_;rintro e w9 ⟨rfl,hw9⟩;rw [hw9,HB.out];clear hw9 w9;dsimp only;go_wp2;go_ret;exact ⟨by rw [HL.out];rfl,MY _ _⟩
 ·have HL:Hid (Ref.lz s=(Ref.cC (s.extract 6 s.size)&&(decide (0<Ref.dV (s.extract 6 s.size))&&decide (Ref.dV (s.extract 6 s.size)<=1500)))):=by unfold Hid Ref.lz;rw [hb,Qv]
  have HB:Hid _:=(gy s Ref.bM).trans hb;have HC:Hid ((⟨(Lib.trimPrefix s.data.toList Ref.bM.data.toList).toArray⟩:ByteArray)=s.extract 6 s.size):=mR hb;have hr:(s.extract 6 s.size).size<=1073741824:=zae;clear hb;go_enter func251,ntmps251;go_wp2_with fail;refine (strings_CutPrefix s Ref.bM _).mono ?_;rintro e w9 ⟨rfl,hw9⟩;rw [hw9,HB.out,HC.out];clear hw9 w9 HC;generalize s.extract 6 s.size=r at *;dsimp only;go_wp2_with fail;refine (nr r _ hr hv).mono ?_;rintro e w1 ⟨hb1,u,rfl,hu⟩;have HU:Hid _:=hu;clear hu;dsimp only;cases hk:Ref.cC r
  ·have HK:Hid _:=hk;clear hk;go_wp2;go_ret;exact ⟨by rw [HL.out,HK.out];rfl,hb1⟩
  ·have HV:Hid _:=HU.out hk;have HK:Hid _:=hk;clear hk HU;by_cases h1:1<=u
   ·by_cases h2:u<=1500
    ·have HR:Hid (Ref.lz s=true):=by unfold Hid;rw [HL.out,HK.out,<- HV.out,NZ (show 0<u by omega),NZ h2];rfl
     exact ze7
    ·have HR:Hid (Ref.lz s=false):=by unfold Hid;rw [HL.out,HK.out,<- HV.out,NM h2,OR];rfl
     have h2':decide (u<=1500)=false:=NM h2;exact ze7
   ·have HR:Hid (Ref.lz s=false):=by unfold Hid;rw [HL.out,HK.out,<- HV.out,NM (show ¬ 0<u by omega),Pk];rfl
    go_wp2;go_ret;exact ⟨by rw [HR.out];rfl,hb1⟩
theorem iN (s:ByteArray) (w:World) (hs:s.size<=1073741824) (hv:gF w):() 222 #[s] w fun e w'=>e = .returned (.bool (Ref.called s))/\Below w w w':=by
 cases hp:Ref.plain s
 ·cases hl:Ref.lz s
  ·have HC:Hid (Ref.called s=false):=by unfold Hid Ref.called;rw [hp,hl];rfl
   exact zc8
  ·have HC:Hid (Ref.called s=true):=by unfold Hid Ref.called;rw [hp,hl];rfl
   exact zc8
 ·have HC:Hid (Ref.called s=true):=by unfold Hid Ref.called;rw [hp,PQ]
  have HP:Hid _:=hp;clear hp;go_enter func222,ntmps222;go_wp2_with (go_at_call 218;refine (gA s _ zag).mono ?_;rintro e w9 ⟨rfl,hw9⟩;rw [hw9,HP.out];clear hw9 w9);go_ret;exact ⟨by rw [HC.out];rfl,MY _ _⟩
theorem rV (s:ByteArray) (w:World) (hs:s.size<=1073741824) (hb:Ref.cB s Ref.jO=true) (hp:Ref.plain (s.extract 5 s.size)=true):() 188 #[s] w fun e w'=>e = .returned (.bool (Ref.b8 s))/\Below w w w':=by
 have HR:Hid (Ref.b8 s=true):=by unfold Hid Ref.b8;rw [hb,hp,Bool.and_self,Ry]
 have HB:Hid _:=(gy s Ref.jO).trans hb;have HC:Hid ((⟨(Lib.trimPrefix s.data.toList Ref.jO.data.toList).toArray⟩:ByteArray)=s.extract 5 s.size):=mR hb;have HP:Hid _:=hp;have hr:(s.extract 5 s.size).size<=1073741824:=zae;clear hb hp;go_enter func188,ntmps188;go_wp2_with fail;refine (strings_CutPrefix s Ref.jO _).mono ?_;rintro e w9 ⟨rfl,hw9⟩;rw [hw9,HB.out,HC.out];clear hw9 w9 HC;generalize s.extract 5 s.size=r at *;dsimp only;go_wp2_with (go_at_call 218;refine (gA r _ zag).mono ?_;rintro e w9 ⟨rfl,hw9⟩;rw [hw9,HP.out];clear hw9 w9);go_ret;exact ⟨by rw [HR.out];rfl,MY _ _⟩
theorem rW (s:ByteArray) (w:World) (hs:s.size<=1073741824) (hv:gF w) (hb:Ref.cB s Ref.jO=false):() 188 #[s] w fun e w'=>e = .returned (.bool (Ref.b8 s))/\Below w w w':=by
 have HR:Hid (Ref.b8 s=Ref.called s):=by unfold Hid Ref.b8;rw [hb,Pk,QK]
 have HB:Hid _:=(gy s Ref.jO).trans hb;clear hb;cases hc:Ref.called s
 all_goals
  have HC:Hid _:=hc;clear hc;go_enter func188,ntmps188;go_wp2_with fail;refine (strings_CutPrefix s Ref.jO _).mono ?_;rintro e w9 ⟨rfl,hw9⟩;rw [hw9,HB.out];clear hw9 w9;dsimp only;go_wp2_with (go_at_call 222;refine (iN s _ hs hv).mono ?_;rintro e w9 ⟨rfl,hb9⟩;rw [HC.out]);go_ret;exact ⟨by rw [HR.out,HC.out];rfl,hb9⟩
theorem wY (s:ByteArray) (w:World) (hs:s.size<=1073741824) (hv:gF w) (hb:Ref.cB s Ref.jO=true) (hp:Ref.plain (s.extract 5 s.size)=false):() 188 #[s] w fun e w'=>e = .returned (.bool (Ref.b8 s))/\Below w w w':=by
 have HR:Hid (Ref.b8 s=Ref.called s):=by unfold Hid Ref.b8;rw [hb,hp,OR,QK]
 have HB:Hid _:=(gy s Ref.jO).trans hb;have HC0:Hid ((⟨(Lib.trimPrefix s.data.toList Ref.jO.data.toList).toArray⟩:ByteArray)=s.extract 5 s.size):=mR hb;have HP:Hid _:=hp;have hr:(s.extract 5 s.size).size<=1073741824:=zae;clear hb hp;cases hc:Ref.called s
 all_goals
  have HC:Hid _:=hc;clear hc;go_enter func188,ntmps188;go_wp2_with fail;refine (strings_CutPrefix s Ref.jO _).mono ?_;rintro e w9 ⟨rfl,hw9⟩;rw [hw9,HB.out,HC0.out];clear hw9 w9 HC0;generalize s.extract 5 s.size=r at *;dsimp only;go_wp2_with (first
   | (go_at_call 218;refine (gA r _ zag).mono ?_;rintro e w9 ⟨rfl,hw9⟩;rw [hw9,HP.out];clear hw9 w9)
   | (go_at_call 222;refine (iN s _ hs hv).mono ?_;rintro e w9 ⟨rfl,hb9⟩;rw [HC.out]))
  go_ret;exact ⟨by rw [HR.out,HC.out];rfl,hb9⟩
theorem tS (s:ByteArray) (w:World) (hs:s.size<=1073741824) (hv:gF w):() 188 #[s] w fun e w'=>e = .returned (.bool (Ref.b8 s))/\Below w w w':=by
 cases hb:Ref.cB s Ref.jO
 ·exact rW s w hs hv hb
 ·cases hp:Ref.plain (s.extract 5 s.size)
  ·exact wY s w hs hv hb hp
  ·exact rV s w hs hb hp
structure Env (w:World):Prop where
 err:gF w
 tab:Lib.TabIs prog w "internal/strconv.uint64pow10" .u64 Lib.pow10Tab
theorem Env.ao (h:Env w) (hb:Below w w w'):Env w':=⟨h.err.ao hb,Lib.tabBelow_of_tabIs h.tab w' hb⟩
theorem iT (n:Nat) (w:World) (hn:n<=1073741824) (hv:Env w):() 189 #[(n:Int)] w fun e w'=>e = .returned (.string (Ref.bM++Ref.dec n))/\Below w w w':=by
 have hd:(Ref.dec n).size<=20:=Ref.rE zaa;have HI:Hid ((⟨(Lib.itoa n).toArray⟩:ByteArray)=Ref.dec n):=by
  unfold Hid Lib.itoa Ref.dec;rw [M4 zaa];rfl
 go_enter func189,ntmps189;go_wp2_with fail;refine (strconv_Itoa n zaa zaa _ hv.tab).mono ?_;rintro e w1 ⟨rfl,k,os,hw1⟩;have hb1:Below w w w1:=by rw [hw1];exact Lib.below_grow _ _ (MR _) _ _
 rw [HI.out];clear hw1;dsimp only;go_wp2;go_ret;exact ⟨rfl,hb1⟩
def aY (er line:Int) (w:World) (e:Ending) (w':World):Prop:=Below w w w'/\∃ b,w.heap.size<=b/\w'.heap[b]?=some (.cells #[(er:Int),(line:Int)] 119 (0,0))/\e = .panicked [{ v := .iface 142 (.agg #[.pointer (some ⟨b,0,none⟩)]),recovered:=false }]
theorem aU (num dep er:Int) (w:World):() 87 #[.agg #[(num:Int),(dep:Int)],(er:Int)] w (aY er num w):=by
 go_enter func87,ntmps87;go_wp2;refine ⟨rfl,((MY _ _).alloc (MR _) _).alloc zad _,w.heap.size+1,zaa,?_,rfl⟩;have h:=Na (w.alloc (.cells #[(num:Int),(dep:Int)] 223)) (.cells #[(er:Int),(num:Int)] 119);simpa using h
structure ah (w:World) (p:Nat) (num dep:Int) (l:List ByteArray):Prop where
 row:∃ a cap,w.heap[p]?=some (.cells #[(num:Int),(dep:Int),.slice a l.length cap] 309 (0,0))/\l.length<=cap/\(0<l.length->∃ b off,a=some ⟨b,off,none⟩/\b<p/\b<w.heap.size/\qT w b off l)
 len:l.length<=1073741824
 sizes:∀ x∈l,x.size<=1073741824
theorem ah.gq {b off cap':Nat} {a':Option Addr} (H:ah w p num dep (x::r)) (hp:w.heap[p]?=some (.cells #[(num:Int),(dep:Int),.slice (some ⟨b,off,none⟩) (x::r).length cap] 309 (0,0)))
  (hbp:b<p) (hbw:b<w.heap.size) (hst:qT w b off (x::r)) (hc:r.length<=cap') (ha:0<r.length->a'=some ⟨b,off+1,none⟩):ah (w.setCell ⟨p,2,none⟩ (.slice a' r.length cap')) p num dep r:=by
 have ho:=aa w p 2 (.slice a' r.length cap');refine ⟨⟨a',cap',?_,hc,fun h=>⟨b,off+1,ha h,hbp,by rw [ho.size];exact hbw,?_⟩⟩,by have:=H.len;simp at this;omega,fun y hy=>H.sizes y (NL _ hy)⟩
 ·rw [Nn w p 2 _ _ _ hp];rfl
 ·intro i hi;have:=hst.drop 1 i zbr;rw [ho.cell (p:=⟨b,off+1+i,none⟩) (RY hbp),this];rfl
theorem me (p:Nat) (num dep:Int) (w:World) (H:ah w p num dep []) :
  () 183 #[p] w (aY 2 num w):=by
 obtain ⟨a,cap,hp,hc,hs⟩:=H.row;have c0:w.cell? p=some ↑(num:Int):=zbM;have c1:w.cell? ⟨p,1,none⟩=some ↑(dep:Int):=zbN;have c2:w.cell? ⟨p,2,none⟩=some (.slice a 0 cap):=zaE;go_enter func183,ntmps183;go_wp2_with fail;refine (aU num dep 2 _).mono ?_;rintro e w1 h1;obtain ⟨hb,b,h2,h3,rfl⟩:=h1;dsimp only;exact ⟨rfl,hb,b,h2,h3,rfl⟩
theorem aF (p:Nat) (num dep:Int) (x:ByteArray) (r:List ByteArray) (w:World) (H:ah w p num dep (x::r)) :
  () 183 #[p] w fun e w'=>e = .returned x/\gY p w w'/\ah w' p num dep r:=by
 obtain ⟨a,cap,hp,hc,hs⟩:=H.row;have c2:w.cell? ⟨p,2,none⟩=some (.slice a (x::r).length cap):=zaE;have fr:w.frozen? ⟨p,2,none⟩=false:=zbU;obtain ⟨b,off,rfl,hbp,hbw,hst⟩:=hs zad;have d0:=hst 0 zad;simp only [Ref.at',List.getD_cons_zero,Nat.add_zero] at d0;have hc1:r.length+1<=cap:=by simpa using hc
 go_enter func183,ntmps183;go_wp2
 ·exact zev
 ·exact zeu
theorem skip_none (p:Nat) (num dep:Int) (k:ByteArray) (w:World) (H:ah w p num dep []) :
  () 219 #[p,k] w fun e w'=>e = .returned false/\w'=w:=by
 obtain ⟨a,cap,hp,hc,hs⟩:=H.row;have c2:w.cell? ⟨p,2,none⟩=some (.slice a 0 cap):=zaE;go_enter func219,ntmps219;go_wp2;go_ret;exact ⟨rfl,rfl⟩
theorem qM (p:Nat) (num dep:Int) (x:ByteArray) (r:List ByteArray) (k:ByteArray) (w:World) (H:ah w p num dep (x::r)) (hk:(x.toList == k.toList)=false) :
  () 219 #[p,k] w fun e w'=>e = .returned false/\w'=w:=by
 obtain ⟨a,cap,hp,hc,hs⟩:=H.row;have c2:w.cell? ⟨p,2,none⟩=some (.slice a (x::r).length cap):=zaE;obtain ⟨b,off,rfl,hbp,hbw,hst⟩:=hs zad;have d0:=hst 0 zad;simp only [Ref.at',List.getD_cons_zero,Nat.add_zero] at d0;have hk':(x.toList != k.toList)=true:=by rw [bne,hk];rfl
 go_enter func219,ntmps219;go_wp2;go_ret;exact ⟨rfl,rfl⟩
theorem jT (p:Nat) (num dep:Int) (x:ByteArray) (r:List ByteArray) (k:ByteArray) (w:World) (H:ah w p num dep (x::r)) (hk:(x.toList == k.toList)=true) :
  () 219 #[p,k] w fun e w'=>e = .returned true/\gY p w w'/\ah w' p num dep r:=by
 obtain ⟨a,cap,hp,hc,hs⟩:=H.row;have c2:w.cell? ⟨p,2,none⟩=some (.slice a (x::r).length cap):=zaE;have fr:w.frozen? ⟨p,2,none⟩=false:=zbU;obtain ⟨b,off,rfl,hbp,hbw,hst⟩:=hs zad;have d0:=hst 0 zad;simp only [Ref.at',List.getD_cons_zero,Nat.add_zero] at d0;have hc1:r.length+1<=cap:=by simpa using hc
 have hk':(x.toList != k.toList)=false:=by rw [bne,hk];rfl
 go_enter func219,ntmps219;go_wp2
 ·exact zev
 ·exact zeu
theorem Ld (p:Nat) (num dep:Int) (w:World) (H:ah w p num dep []) :
  () 142 #[p] w fun e w'=>e = .returned (.tuple #[])/\w'=w:=by
 obtain ⟨a,cap,hp,hc,hs⟩:=H.row;have c2:w.cell? ⟨p,2,none⟩=some (.slice a 0 cap):=zaE;go_enter func142,ntmps142;go_wp2;go_end0;exact ⟨rfl,rfl⟩
theorem Jh (p:Nat) (num dep:Int) (l:List ByteArray) (w:World) (H:ah w p num dep l) (h0:0<l.length) :
  () 142 #[p] w (aY 2 num w):=by
 obtain ⟨a,cap,hp,hc,hs⟩:=H.row;have c0:w.cell? p=some ↑(num:Int):=zbM;have c1:w.cell? ⟨p,1,none⟩=some ↑(dep:Int):=zbN;have c2:w.cell? ⟨p,2,none⟩=some (.slice a l.length cap):=zaE;go_enter func142,ntmps142;go_wp2_with fail;refine (aU num dep 2 _).mono ?_;rintro e w1 h1;obtain ⟨hb,b,h2,h3,rfl⟩:=h1;dsimp only;exact ⟨rfl,hb,b,h2,h3,rfl⟩
end
section
open Go.RowKit
structure ak (p:Nat) (w w':World):Prop where
 os:w'.os=w.os
 tape:w'.tape=w.tape
 output:w'.output=w.output
 size:w.heap.size<=w'.heap.size
 block:∀ k,k<w.heap.size->k≠p->w'.heap[k]?=w.heap[k]?
theorem ak.refl (p:Nat) (w:World):ak p w w:=⟨rfl,rfl,rfl,MR _,fun _ _ _=>rfl⟩
theorem ak.trans (h:ak p a b) (k:ak p b c):ak p a c :=
 ⟨k.os.trans h.os,k.tape.trans h.tape,k.output.trans h.output,MX h.size k.size,fun i hi hp=>(k.block i (Nq hi h.size) hp).trans (h.block i hi hp)⟩
theorem gY.ai (h:gY p w w'):ak p w w':=⟨h.os,h.tape,h.output,zbi,fun k _ hp=>h.block k hp⟩
theorem aP (h:Below w w w'):ak p w w':=⟨h.os,h.tape,h.output,h.size,fun k hk _=>h.block k hk⟩
theorem ak.below {B:Nat} (h:ak p w w') (hb:Below B a w) (hB:B<=p) (hs:B<=w.heap.size):Below B a w' :=
 hb.trans ⟨h.os,h.tape,h.output,h.size,fun k hk=>h.block k zaa zaa⟩
def bI (p:Nat) (w:World):Prop:=∃ w0:World,w0.heap.size<=p/\Env w0/\Below w0 w0 w
theorem bI.here (h:bI p w):Env w:=let ⟨_,_,h2,h3⟩:=h;h2.ao h3
theorem bI.ai (h:bI p w) (ht:ak p w w'):bI p w' :=
 let ⟨w0,h1,h2,h3⟩:=h
 ⟨w0,h1,h2,ht.below h3 h1 h3.size⟩
theorem ah.ao (H:ah w p num dep l) (hb:Below w w w'):ah w' p num dep l:=by
 obtain ⟨a,cap,hp,hc,hs⟩:=H.row;refine ⟨⟨a,cap,?_,hc,fun h => ?_⟩,H.len,H.sizes⟩
 ·rw [hb.block p (MQ.1 hp).1];exact hp
 ·obtain ⟨b,off,h1,h2,h3,h4⟩:=hs h;exact ⟨b,off,h1,h2,Nq h3 hb.size,h4.below hb h3⟩
def cT (p:Nat) (er line:Int) (w:World) (e:Ending) (w':World):Prop:=ak p w w'/\∃ b,w.heap.size<=b/\w'.heap[b]?=some (.cells #[(er:Int),(line:Int)] 119 (0,0))/\e = .panicked [{ v := .iface 142 (.agg #[.pointer (some ⟨b,0,none⟩)]),recovered:=false }]
theorem cE {er line:Int} {w0:World} {e:Ending} (ht:ak p w0 w) (h:aY er line w e w'):cT p er line w0 e w':=by
 obtain ⟨hb,b,h2,h3,h4⟩:=h;exact ⟨ht.trans (aP hb),b,MX ht.size h2,h3,h4⟩
theorem ah.cells (H:ah w p num dep l):w.cell? p=some ↑(num:Int)/\w.cell? ⟨p,1,none⟩=some ↑(dep:Int):=by
 obtain ⟨a,cap,hp,hc,hs⟩:=H.row;exact ⟨zbM,zbN⟩
def Fy (f:Nat) (P:ByteArray->Bool):Prop:=∀ (s:ByteArray) (w:World),s.size<=1073741824->Env w->() f #[s] w fun e w'=>e = .returned (.bool (P s))/\Below w w w'
theorem tk:Fy 218 Ref.plain:=fun s w hs _=>(gA s w zag).mono (by rintro e w' ⟨rfl,rfl⟩;exact ⟨rfl,MY _ _⟩)
theorem vV:Fy 222 Ref.called:=fun s w hs hv=>iN s w hs hv.err
theorem mO:Fy 188 Ref.b8:=fun s w hs hv=>tS s w hs hv.err
theorem jd (p:Nat) (num dep:Int) (f:Nat) (w:World) (H:ah w p num dep []) :
  () 187 #[p,.func (.func f) #[] #[]] w (cT p 2 num w):=by
 go_enter func187,ntmps187;go_wp2_with fail;refine (me p num dep _ H).mono ?_;rintro e w1 h1;have h2:=cE (ak.refl p w) h1;obtain ⟨ht,b,h3,h4,rfl⟩:=h2;dsimp only;exact ⟨rfl,ht,b,h3,h4,rfl⟩
theorem su (p:Nat) (num dep:Int) (x:ByteArray) (r:List ByteArray) (w:World) (H:ah w p num dep (x::r)) (hv:bI p w) (hx:Ref.plain x=false) :
  () 187 #[p,.func (.func 218) #[] #[]] w (cT p 2 num w):=by
 have hsz:=H.sizes x zad;go_enter func187,ntmps187;go_wp2_with fail;refine (aF p num dep x r _ H).mono ?_;rintro e w1 ⟨rfl,ho,H1⟩;have ht1:=ho.ai;have hv1:=hv.ai ht1;clear ho;dsimp only;go_wp2_with fail;refine (tk x _ hsz hv1.here).mono ?_;rintro e w2 ⟨rfl,hb2⟩;rw [hx];have H2:=H1.ao hb2;obtain ⟨c0,c1⟩:=H2.cells;have ht2:ak p w w2:=ht1.trans (aP hb2);clear H1 hb2 ht1 hv1;dsimp only;go_wp2_with fail;refine (aU num dep 2 _).mono ?_;rintro e w3 h3;obtain ⟨ht,b,h4,h5,rfl⟩:=cE ht2 h3;dsimp only;exact ⟨rfl,ht,b,h4,h5,rfl⟩
theorem qw (p:Nat) (num dep:Int) (x:ByteArray) (r:List ByteArray) (w:World) (H:ah w p num dep (x::r)) (hv:bI p w) (hx:Ref.plain x=true) :
  () 187 #[p,.func (.func 218) #[] #[]] w fun e w'=>e = .returned x/\ak p w w'/\ah w' p num dep r:=by
 have hsz:=H.sizes x zad;go_enter func187,ntmps187;go_wp2_with fail;refine (aF p num dep x r _ H).mono ?_;rintro e w1 ⟨rfl,ho,H1⟩;have ht1:=ho.ai;have hv1:=hv.ai ht1;clear ho;dsimp only;go_wp2_with fail;refine (tk x _ hsz hv1.here).mono ?_;rintro e w2 ⟨rfl,hb2⟩;rw [hx];have H2:=H1.ao hb2;have ht2:ak p w w2:=ht1.trans (aP hb2);clear H1 hb2 ht1 hv1;dsimp only;go_wp2;go_ret;exact ⟨rfl,ht2,H2⟩
theorem mM (p:Nat) (num dep:Int) (x:ByteArray) (r:List ByteArray) (w:World) (H:ah w p num dep (x::r)) (hv:bI p w) (hx:Ref.called x=false) :
  () 187 #[p,.func (.func 222) #[] #[]] w (cT p 2 num w):=by
 have hsz:=H.sizes x zad;go_enter func187,ntmps187;go_wp2_with fail;refine (aF p num dep x r _ H).mono ?_;rintro e w1 ⟨rfl,ho,H1⟩;have ht1:=ho.ai;have hv1:=hv.ai ht1;clear ho;dsimp only;go_wp2_with fail;refine (vV x _ hsz hv1.here).mono ?_;rintro e w2 ⟨rfl,hb2⟩;rw [hx];have H2:=H1.ao hb2;obtain ⟨c0,c1⟩:=H2.cells;have ht2:ak p w w2:=ht1.trans (aP hb2);clear H1 hb2 ht1 hv1;dsimp only;go_wp2_with fail;refine (aU num dep 2 _).mono ?_;rintro e w3 h3;obtain ⟨ht,b,h4,h5,rfl⟩:=cE ht2 h3;dsimp only;exact ⟨rfl,ht,b,h4,h5,rfl⟩
theorem lE (p:Nat) (num dep:Int) (x:ByteArray) (r:List ByteArray) (w:World) (H:ah w p num dep (x::r)) (hv:bI p w) (hx:Ref.called x=true) :
  () 187 #[p,.func (.func 222) #[] #[]] w fun e w'=>e = .returned x/\ak p w w'/\ah w' p num dep r:=by
 have hsz:=H.sizes x zad;go_enter func187,ntmps187;go_wp2_with fail;refine (aF p num dep x r _ H).mono ?_;rintro e w1 ⟨rfl,ho,H1⟩;have ht1:=ho.ai;have hv1:=hv.ai ht1;clear ho;dsimp only;go_wp2_with fail;refine (vV x _ hsz hv1.here).mono ?_;rintro e w2 ⟨rfl,hb2⟩;rw [hx];have H2:=H1.ao hb2;have ht2:ak p w w2:=ht1.trans (aP hb2);clear H1 hb2 ht1 hv1;dsimp only;go_wp2;go_ret;exact ⟨rfl,ht2,H2⟩
theorem og (p:Nat) (num dep:Int) (x:ByteArray) (r:List ByteArray) (w:World) (H:ah w p num dep (x::r)) (hv:bI p w) (hx:Ref.b8 x=false) :
  () 187 #[p,.func (.func 188) #[] #[]] w (cT p 2 num w):=by
 have hsz:=H.sizes x zad;go_enter func187,ntmps187;go_wp2_with fail;refine (aF p num dep x r _ H).mono ?_;rintro e w1 ⟨rfl,ho,H1⟩;have ht1:=ho.ai;have hv1:=hv.ai ht1;clear ho;dsimp only;go_wp2_with fail;refine (mO x _ hsz hv1.here).mono ?_;rintro e w2 ⟨rfl,hb2⟩;rw [hx];have H2:=H1.ao hb2;obtain ⟨c0,c1⟩:=H2.cells;have ht2:ak p w w2:=ht1.trans (aP hb2);clear H1 hb2 ht1 hv1;dsimp only;go_wp2_with fail;refine (aU num dep 2 _).mono ?_;rintro e w3 h3;obtain ⟨ht,b,h4,h5,rfl⟩:=cE ht2 h3;dsimp only;exact ⟨rfl,ht,b,h4,h5,rfl⟩
theorem nq (p:Nat) (num dep:Int) (x:ByteArray) (r:List ByteArray) (w:World) (H:ah w p num dep (x::r)) (hv:bI p w) (hx:Ref.b8 x=true) :
  () 187 #[p,.func (.func 188) #[] #[]] w fun e w'=>e = .returned x/\ak p w w'/\ah w' p num dep r:=by
 have hsz:=H.sizes x zad;go_enter func187,ntmps187;go_wp2_with fail;refine (aF p num dep x r _ H).mono ?_;rintro e w1 ⟨rfl,ho,H1⟩;have ht1:=ho.ai;have hv1:=hv.ai ht1;clear ho;dsimp only;go_wp2_with fail;refine (mO x _ hsz hv1.here).mono ?_;rintro e w2 ⟨rfl,hb2⟩;rw [hx];have H2:=H1.ao hb2;have ht2:ak p w w2:=ht1.trans (aP hb2);clear H1 hb2 ht1 hv1;dsimp only;go_wp2;go_ret;exact ⟨rfl,ht2,H2⟩
theorem Bd (p:Nat) (num dep:Int) (w:World) (H:ah w p num dep []) :
  () 190 #[p] w (cT p 2 num w):=by
 go_enter func190,ntmps190;go_wp2_with fail;refine (me p num dep _ H).mono ?_;rintro e w1 h1;have h2:=cE (ak.refl p w) h1;obtain ⟨ht,b,h3,h4,rfl⟩:=h2;dsimp only;exact ⟨rfl,ht,b,h3,h4,rfl⟩
theorem Gb (p:Nat) (num dep:Int) (x:ByteArray) (r:List ByteArray) (w:World) (H:ah w p num dep (x::r)) (hv:bI p w) (hx:Ref.cC x=false) :
  () 190 #[p] w (cT p 2 num w):=by
 have hsz:=H.sizes x zad;go_enter func190,ntmps190;go_wp2_with fail;refine (aF p num dep x r _ H).mono ?_;rintro e w1 ⟨rfl,ho,H1⟩;have ht1:=ho.ai;have hv1:=hv.ai ht1;clear ho;dsimp only;go_wp2_with fail;refine (nr x _ hsz hv1.here.err).mono ?_;rintro e w2 ⟨hb2,u,rfl,_⟩;rw [hx];have H2:=H1.ao hb2;obtain ⟨c0,c1⟩:=H2.cells;have ht2:ak p w w2:=ht1.trans (aP hb2);clear H1 hb2 ht1 hv1;dsimp only;go_wp2_with fail;refine (aU num dep 2 _).mono ?_;rintro e w3 h3;obtain ⟨ht,b,h4,h5,rfl⟩:=cE ht2 h3;dsimp only;exact ⟨rfl,ht,b,h4,h5,rfl⟩
theorem D4 (p:Nat) (num dep:Int) (x:ByteArray) (r:List ByteArray) (w:World) (H:ah w p num dep (x::r)) (hv:bI p w) (hx:Ref.cC x=true) :
  () 190 #[p] w fun e w'=>e = .returned (.int .u64 (Ref.dV x))/\ak p w w'/\ah w' p num dep r:=by
 have hsz:=H.sizes x zad;go_enter func190,ntmps190;go_wp2_with fail;refine (aF p num dep x r _ H).mono ?_;rintro e w1 ⟨rfl,ho,H1⟩;have ht1:=ho.ai;have hv1:=hv.ai ht1;clear ho;dsimp only;go_wp2_with fail;refine (nr x _ hsz hv1.here.err).mono ?_;rintro e w2 ⟨hb2,u,rfl,hu⟩;rw [hx,hu hx];have H2:=H1.ao hb2;have ht2:ak p w w2:=ht1.trans (aP hb2);clear H1 hb2 ht1 hv1 hu u;dsimp only;go_wp2;go_ret;exact ⟨rfl,ht2,H2⟩
theorem ak.Cn {o:Nat} (h:ak p w w1) (hN:w.heap.size<=N):ak p w (w1.setCell ⟨N,o,none⟩ v):=by
 have ho:=aa w1 N o v;exact ⟨ho.os.trans h.os,ho.tape.trans h.tape,ho.output.trans h.output,by rw [ho.size];exact h.size,fun k hk hp=>(ho.block k zaa).trans (h.block k hk hp)⟩
theorem ak.alloc (h:ak p w w1) (o:Obj):ak p w (w1.alloc o):=h.trans (aP ((MY _ _).alloc (MR _) _))
theorem ak.drew (h:ak p w w1):ak p w w1.drew:=⟨h.os,h.tape,h.output,h.size,h.block⟩
theorem ah.only (H:ah w p num dep l) (ho:gY N w w') (hN:p<N):ah w' p num dep l:=by
 obtain ⟨a,cap,hp,hc,hs⟩:=H.row;refine ⟨⟨a,cap,?_,hc,fun h => ?_⟩,H.len,H.sizes⟩
 ·rw [ho.block p zaa];exact hp
 ·obtain ⟨b,off,h1,h2,h3,h4⟩:=hs h;refine ⟨b,off,h1,h2,by rw [ho.size];exact h3,fun i hi => ?_⟩;rw [ho.cell (p:=⟨b,off+i,none⟩) (show b≠N by omega)];exact h4 i hi
theorem ah.lt (H:ah w p num dep l):p<w.heap.size:=by
 obtain ⟨a,cap,hp,hc,hs⟩:=H.row;exact (MQ.1 hp).1
theorem ah.drew (H:ah w p num dep l):ah w.drew p num dep l:=H.ao (MY _ _).drew
theorem bI.alloc (h:bI p w) (o:Obj):bI p (w.alloc o):=h.ai ((ak.refl p w).alloc o)
theorem ah.alloc (H:ah w p num dep l) (o:Obj):ah (w.alloc o) p num dep l:=H.ao ((MY _ _).alloc (MR _) _)
theorem Hx:Tryz.f271.results=#[.cell 2 253]:=rfl
theorem E8:(Tryz.prog.info? 253).map (·.size)=some 1:=zab
theorem EE (p:Nat) (num dep:Int) (x:ByteArray) (r:List ByteArray) (w:World) (H:ah w p num dep (x::r)) (hv:bI p w) (hx:Ref.called x=true) :
  () 271 #[p] w fun e w'=>e = .returned (.agg #[x])/\ak p w w'/\ah w' p num dep r:=by
 have hpl:=H.lt;go_enter func271,ntmps271;go_wp2_with fail;refine (lE p num dep x r _ (H.alloc _) (hv.alloc _) hx).mono ?_;rintro e w1 ⟨rfl,ht1,H1⟩;dsimp only;have hN:w1.heap[w.heap.size]?=some (.cells #[ByteArray.empty] 253 (0,0)):=by
  rw [ht1.block w zad zaa];exact Na w _
 have cN:w1.cell? w=some ↑ByteArray.empty:=by rw [M0 w1 _ 0 _ _ _ hN];rfl
 have fN:w1.frozen? ⟨w,0,none⟩=false:=zar;have ht:ak p w w1:=((ak.refl p w).alloc _).trans ht1;clear ht1;go_wp2;have h2:=Nn w1 w 0 _ _ (.string x) hN;exact dP Hx _ 253 _ (0,0) _ rfl h2 underlying253 rfl E8 rfl ⟨rfl,ht.Cn (MR _),H1.only (aa _ _ _ _) hpl⟩
theorem BW (p:Nat) (num dep:Int) (w:World) (H:ah w p num dep []) :
  () 271 #[p] w (cT p 2 num w):=by
 go_enter func271,ntmps271;go_wp2_with fail;refine (jd p num dep _ _ (H.alloc _)).mono ?_;rintro e w1 ⟨ht,b,h3,h4,rfl⟩;dsimp only;exact ⟨rfl,((ak.refl p w).alloc _).trans ht,b,by simp at h3;omega,h4,rfl⟩
theorem G7 (p:Nat) (num dep:Int) (x:ByteArray) (r:List ByteArray) (w:World) (H:ah w p num dep (x::r)) (hv:bI p w) (hx:Ref.called x=false) :
  () 271 #[p] w (cT p 2 num w):=by
 go_enter func271,ntmps271;go_wp2_with fail;refine (mM p num dep x r _ (H.alloc _) (hv.alloc _) hx).mono ?_;rintro e w1 ⟨ht,b,h3,h4,rfl⟩;dsimp only;exact ⟨rfl,((ak.refl p w).alloc _).trans ht,b,by simp at h3;omega,h4,rfl⟩
namespace Pro
def pOf (P:ByteArray->Bool):List ByteArray->Option (ByteArray×List ByteArray)
 | []=>none
 | x::r=>if P x then some (x,r) else none
def gD:List ByteArray->Option (Int×List ByteArray)
 | []=>none
 | x::r=>if Ref.cC x then some (Ref.dV x,r) else none
def o7:ByteArray:=⟨#[114,97,105,115,101]⟩
def mH:ByteArray:=⟨#[115,101,110,100]⟩
def gG:ByteArray:=⟨#[99,97,110,99,101,108]⟩
def bAs:ByteArray:=⟨#[97,115]⟩
def dr (l:List ByteArray):Option ((ByteArray×Int×Option ByteArray)×List ByteArray) :=
 match pOf Ref.called l with
 | none=>none
 | some (x,l1)=>match gD l1 with
  | none=>none
  | some (d,[])=>some ((x,d,none),[])
  | some (d,y::r)=>if y.toList == bAs.toList then
    match pOf Ref.called r with
    | none=>none
    | some (a,l3)=>some ((x,d,some a),l3)
   else some ((x,d,none),y::r)
end Pro
theorem ak.cell (h:ak p w w') {a:Addr} (hb:a.block<w.heap.size) (hp:¬ a.block=p):w'.cell? a=w.cell? a:=Nk (w:=w) (h.block a.block hb hp)
def eC (p:Nat) (num dep:Int) (res:Option (Value×List ByteArray)) (w:World) (e:Ending) (w':World):Prop:=match res with
 | none=>cT p 2 num w e w'
 | some (v,r)=>e = .returned v/\ak p w w'/\ah w' p num dep r
theorem fu (p:Nat) (num dep:Int) (l:List ByteArray) (w:World) (H:ah w p num dep l) (hv:bI p w) :
  () 271 #[p] w (eC p num dep ((Pro.pOf Ref.called l).map fun q=>(.agg #[.string q.1],q.2)) w):=by
 cases l with
 | nil=>exact BW p num dep w H
 | cons x r =>
  cases hx:Ref.called x
  ·have:Pro.pOf Ref.called (x::r)=none:=zaz;rw [this];exact G7 p num dep x r w H hv hx
  ·have:Pro.pOf Ref.called (x::r)=some (x,r):=zaz;rw [this];exact EE p num dep x r w H hv hx
theorem jE (p:Nat) (num dep:Int) (l:List ByteArray) (w:World) (H:ah w p num dep l) (hv:bI p w) :
  () 190 #[p] w (eC p num dep ((Pro.gD l).map fun q=>(.int .u64 q.1,q.2)) w):=by
 cases l with
 | nil=>exact Bd p num dep w H
 | cons x r =>
  cases hx:Ref.cC x
  ·have:Pro.gD (x::r)=none:=by rw [Pro.gD,hx];rfl
   rw [this];exact Gb p num dep x r w H hv hx
  ·have:Pro.gD (x::r)=some (Ref.dV x,r):=by rw [Pro.gD,hx];rfl
   rw [this];exact D4 p num dep x r w H hv hx
theorem fY (p:Nat) (num dep:Int) (l:List ByteArray) (w:World) (H:ah w p num dep l) (hv:bI p w) :
  () 187 #[p,.func (.func 222) #[] #[]] w (eC p num dep ((Pro.pOf Ref.called l).map fun q=>(.string q.1,q.2)) w):=by
 cases l with
 | nil=>exact jd p num dep _ w H
 | cons x r =>
  cases hx:Ref.called x
  ·have:Pro.pOf Ref.called (x::r)=none:=zaz;rw [this];exact mM p num dep x r w H hv hx
  ·have:Pro.pOf Ref.called (x::r)=some (x,r):=zaz;rw [this];exact lE p num dep x r w H hv hx
def vL (x:ByteArray) (d:Int):Option ByteArray->Value
 | none => .iface 255 (.agg #[.string x,.int .u64 d])
 | some a => .iface 257 (.agg #[.string x,.int .u64 d,.string a])
theorem Ab (p:Nat) (num dep:Int) (l:List ByteArray) (w:World) (H:ah w p num dep l) (hv:bI p w) :
  () 272 #[p] w (eC p num dep ((Pro.dr l).map fun q=>(vL q.1.1 q.1.2.1 q.1.2.2,q.2)) w):=by
 have hpl:=H.lt;cases hn:Pro.pOf Ref.called l with
 | none =>
  have HS:Hid (Pro.dr l=none):=by unfold Hid Pro.dr;rw [hn]
  go_enter func272,ntmps272;go_wp2_with fail;refine (fu p num dep l _ H hv).mono ?_;rintro e w1 h1;rw [hn] at h1;obtain ⟨ht,b,h3,h4,rfl⟩:=h1;dsimp only;refine ⟨rfl,?_⟩;rw [HS.out];exact ⟨ht,b,h3,h4,rfl⟩
 | some q =>
  obtain ⟨x,l1⟩:=q;cases hd:Pro.gD l1 with
  | none =>
   have HS:Hid (Pro.dr l=none):=by unfold Hid Pro.dr;rw [hn];simp only;rw [hd]
   go_enter func272,ntmps272;go_wp2_with fail;refine (fu p num dep l _ H hv).mono ?_;rintro e w1 h1;rw [hn] at h1;obtain ⟨rfl,ht1,H1⟩:=h1;dsimp only;go_wp2_with fail;refine (jE p num dep l1 _ H1 (hv.ai ht1)).mono ?_;rintro e w2 h2;rw [hd] at h2;obtain ⟨ht,b,h3,h4,rfl⟩:=h2;dsimp only;refine ⟨rfl,?_⟩;rw [HS.out];exact ⟨ht1.trans ht,b,MX ht1.size h3,h4,rfl⟩
  | some q =>
   obtain ⟨d,l2⟩:=q;go_enter func272,ntmps272;go_wp2_with fail;refine (fu p num dep l _ H hv).mono ?_;rintro e w1 h1;rw [hn] at h1;obtain ⟨rfl,ht1,H1⟩:=h1;dsimp only;go_wp2_with fail;refine (jE p num dep l1 _ H1 (hv.ai ht1)).mono ?_;rintro e w2 h2;rw [hd] at h2;obtain ⟨rfl,ht2,H2⟩:=h2;dsimp only;have ht:=ht1.trans ht2;have hs2:=ht.size;clear ht1 ht2 H1;cases l2 with
   | nil =>
    have HS:Hid (Pro.dr l=some ((x,d,none),[])):=by unfold Hid Pro.dr;rw [hn];simp only;rw [hd]
    clear hn hd;go_wp2_with fail;refine (skip_none p num dep Pro.bAs _ (H2.alloc _)).mono ?_;exact zdO
   | cons y r =>
    cases hy:(y.toList == Pro.bAs.toList)
    ·have HS:Hid (Pro.dr l=some ((x,d,none),y::r)):=zca;clear hn hd;go_wp2_with fail;refine (qM p num dep y r Pro.bAs _ (H2.alloc _) hy).mono ?_;exact zdO
    ·have HS:Hid (Pro.dr l=match Pro.pOf Ref.called r with | none=>none | some (a,l3)=>some ((x,d,some a),l3)):=zca;clear hn hd;go_wp2_with fail;refine (jT p num dep y r Pro.bAs _ (H2.alloc _) hy).mono ?_;rintro e w3 ⟨rfl,ho3,H3⟩;have hp2:=H2.lt;have ht3:ak p w w3:=(ht.alloc _).trans ho3.ai;have hN:w3.heap[w2.heap.size]?=some (.cells #[x,.int .u64 d] 255 (0,0)):=by
      rw [ho3.block w2 zaa];exact Na w2 _
     have cN0:w3.cell? w2=some ↑x:=by rw [M0 w3 _ 0 _ _ _ hN];rfl
     have cN1:w3.cell? ⟨w2,1,none⟩=some (.int .u64 d):=by rw [M0 w3 _ 1 _ _ _ hN];rfl
     have hNl:w2.heap.size<w3.heap.size:=(MQ.1 hN).1;clear ho3;dsimp only;go_wp2_with fail;have hv3:bI p w3.drew:=(hv.ai ht3).ai (ak.refl p w3).drew;have H3d:ah w3.drew p num dep r:=H3.drew;have HN:Hid (w2.heap.size<w3.heap.size/\¬ w2.heap.size=p):=⟨hNl,zaa⟩;cases hr:Pro.pOf Ref.called r with
     | none =>
      have HS2:Hid (Pro.dr l=none):=by unfold Hid;rw [HS.out,hr]
      refine OO zab ?_;change wpAny _ _ _ _ _ _ _ (World.drew _);refine yA [0,1] ?_;refine M5 rfl (fun K hK => ?_) (M5 rfl (fun K hK => ?_) Ns)
      ·go_simp;refine hK _ _ ?_;clear hK K;refine zA 1 rfl fun K hK => ?_;exact zdd
      ·go_simp;refine hK _ _ ?_;clear hK K;refine yA [0,2] ?_;refine M5 rfl (fun K hK => ?_) (M5 rfl (fun K hK => ?_) Ns)
       ·exact zdd
       ·go_simp
        (refine (fY p num dep r _ H3d hv3).mono ?_;rintro e w4 h4;rw [hr] at h4;obtain ⟨ht,b,h5,h6,rfl⟩:=h4;dsimp only;refine ⟨rfl,?_⟩;rw [HS2.out];exact ⟨ht3.trans ((ak.refl p w3).drew.trans ht),b,MX ht3.size h5,h6,rfl⟩)
     | some q =>
      obtain ⟨a,l3⟩:=q;have HS2:Hid (Pro.dr l=some ((x,d,some a),l3)):=by unfold Hid;rw [HS.out,hr]
      go_region_held3 (fun W=>W.cell? w2=some ↑x/\W.cell? ⟨w2,1,none⟩=some (.int .u64 d)) (first | go_keep | exact ⟨k0,k1⟩)
       ((go_at_call 187;refine (fY p num dep r _ H3d hv3).mono ?_;rintro e w4 h4;rw [hr] at h4;obtain ⟨rfl,ht4,H4⟩:=h4;have k0:=(ht4.cell (a:=⟨w2,0,none⟩) HN.out.1 HN.out.2).trans cN0;have k1:=(ht4.cell (a:=⟨w2,1,none⟩) HN.out.1 HN.out.2).trans cN1;dsimp only))
      go_wp2;go_ret;unfold eC;rw [HS2.out];exact ⟨rfl,ht3.trans ((ak.refl p w3).drew.trans ht4),H4⟩
namespace Pro
def bF:List ByteArray->Option (Ref.Act×List ByteArray)
 | []=>none
 | x::r =>
  if x.toList == Ref.eT then (pOf Ref.called r).map fun q=>(⟨o7,q.1,ByteArray.empty,0⟩,q.2)
  else if x.toList == Ref.k8 then (dr r).map fun q=>(⟨mH,q.1.1,q.1.2.2.getD ByteArray.empty,q.1.2.1⟩,q.2)
  else if x.toList == Ref.eK then (pOf Ref.called r).map fun q=>(⟨gG,ByteArray.empty,q.1,0⟩,q.2)
  else none
end Pro
def bg (a:Ref.Act):Value :=
 if a.how.toList == Ref.eT then .iface 422 (.agg #[a.event])
 else if a.how.toList == Ref.eK then .iface 259 (.agg #[a.id])
 else vL a.event a.delay (if a.id.size=0 then none else some a.id)
theorem nx:Pro.o7.toList=Ref.eT:=zaq
theorem mu:Pro.mH.toList=Ref.k8:=zaq
theorem gP:Pro.gG.toList=Ref.eK:=zaq
theorem EP (h:Ref.plain s=true):¬ s.size=0:=by
 rw [Ref.plain,NC,NC,P7] at h;omega
theorem A7 (h:Ref.called s=true):¬ s.size=0:=by
 rw [Ref.called,Bool.or_eq_true] at h
 rcases h with h | h
 ·exact EP h
 ·rw [Ref.lz,NC] at h;have:=Ref.pU h.1;have e:Ref.bM.size=6:=rfl;omega
theorem gX {P:ByteArray->Bool} {l r:List ByteArray} {x:ByteArray} (h:Pro.pOf P l=some (x,r)):P x=true/\l=x::r:=by
 cases l with
 | nil=>cases h
 | cons y t =>
  rw [Pro.pOf] at h;split at h
  ·cases h;exact ⟨zal,rfl⟩
  ·cases h
theorem Hl {d:Int} {a:ByteArray} (h:Pro.dr l=some ((x,d,some a),r)):¬ a.size=0:=by
 unfold Pro.dr at h;split at h
 ·cases h
 ·split at h
  ·cases h
  ·cases h
  ·split at h
   ·split at h
    ·cases h
    ·rename_i hq;cases h
     exact A7 (gX hq).1
   ·cases h
theorem AM (n:ByteArray):bg ⟨Pro.o7,n,ByteArray.empty,0⟩ = .iface 422 (.agg #[n]):=by
 unfold bg;rw [nx,M6 zac]
theorem yi (n:ByteArray):bg ⟨Pro.gG,ByteArray.empty,n,0⟩ = .iface 259 (.agg #[n]):=by
 unfold bg;rw [gP,M4 zac,M6 zac]
theorem DG {l r:List ByteArray} {x:ByteArray} {d:Int} {o:Option ByteArray} (h:Pro.dr l=some ((x,d,o),r)):bg ⟨Pro.mH,x,o.getD ByteArray.empty,d⟩=vL x d o:=by
 unfold bg;rw [mu,M4 zac,M4 zac];cases o with
 | none=>rfl
 | some a=>rw [M4 (show ¬ (Option.getD (some a) ByteArray.empty).size=0 from Hl h)];rfl
theorem qV (p:Nat) (num dep:Int) (l:List ByteArray) (w:World) (H:ah w p num dep l) (hv:bI p w) :
  () 249 #[p] w (eC p num dep ((Pro.bF l).map fun q=>(bg q.1,q.2)) w):=by
 cases l with
 | nil =>
  go_enter func249,ntmps249;go_wp2_with fail;refine (me p num dep _ H).mono ?_;rintro e w1 h1;obtain ⟨ht,b,h3,h4,rfl⟩:=cE (ak.refl p w) h1;dsimp only;exact ⟨rfl,ht,b,h3,h4,rfl⟩
 | cons x r =>
  cases h1:(x.toList == [114,97,105,115,101])
  ·cases h2:(x.toList == [115,101,110,100])
   ·cases h3:(x.toList == [99,97,110,99,101,108])
    ·have HS:Hid (Pro.bF (x::r)=none):=by unfold Hid;rw [Pro.bF,Ref.eT,h1,Ref.k8,h2,Ref.eK,h3];rfl
     go_enter func249,ntmps249;go_wp2_with fail;refine (aF p num dep x r _ H).mono ?_;rintro e w1 ⟨rfl,ho,H1⟩;have ht1:=ho.ai;obtain ⟨c0,c1⟩:=H1.cells;clear ho;dsimp only;go_wp2_with fail;refine (aU num dep 2 _).mono ?_;rintro e w2 hq;obtain ⟨ht,b,h4,h5,rfl⟩:=cE ht1 hq;dsimp only;refine ⟨rfl,?_⟩;rw [HS.out];exact ⟨ht,b,h4,h5,rfl⟩
    ·cases hn:Pro.pOf Ref.called r with
     | none =>
      have HS:Hid (Pro.bF (x::r)=none):=zcc;exact zc4
     | some q =>
      obtain ⟨n,r'⟩:=q;have HS:Hid (Pro.bF (x::r)=some (⟨Pro.gG,ByteArray.empty,n,0⟩,r')):=zcc;go_enter func249,ntmps249;go_wp2_with fail;refine (aF p num dep x r _ H).mono ?_;rintro e w1 ⟨rfl,ho,H1⟩;have ht1:=ho.ai;clear ho;dsimp only;go_wp2_with fail;refine (fu p num dep r _ H1 (hv.ai ht1)).mono ?_;rintro e w2 hq;rw [hn] at hq;obtain ⟨rfl,ht2,H2⟩:=hq;clear hn;dsimp only;go_wp2;go_ret;unfold eC;rw [HS.out];exact ⟨by rw [yi];rfl,ht1.trans ht2,H2⟩
   ·cases hn:Pro.dr r with
    | none =>
     have HS:Hid (Pro.bF (x::r)=none):=zcj;go_enter func249,ntmps249;go_wp2_with fail;refine (aF p num dep x r _ H).mono ?_;rintro e w1 ⟨rfl,ho,H1⟩;have ht1:=ho.ai;clear ho;dsimp only;go_wp2_with fail;refine (Ab p num dep r _ H1 (hv.ai ht1)).mono ?_;rintro e w2 hq;rw [hn] at hq;obtain ⟨ht,b,h4,h5,rfl⟩:=hq;dsimp only;refine ⟨rfl,?_⟩;rw [HS.out];exact ⟨ht1.trans ht,b,MX ht1.size h4,h5,rfl⟩
    | some q =>
     obtain ⟨⟨n,d,o⟩,r'⟩:=q;have HS:Hid (Pro.bF (x::r)=some (⟨Pro.mH,n,o.getD ByteArray.empty,d⟩,r')):=zcj;have HV:Hid _:=DG hn;go_enter func249,ntmps249;go_wp2_with fail;refine (aF p num dep x r _ H).mono ?_;rintro e w1 ⟨rfl,ho,H1⟩;have ht1:=ho.ai;clear ho;dsimp only;go_wp2_with fail;refine (Ab p num dep r _ H1 (hv.ai ht1)).mono ?_;rintro e w2 hq;rw [hn] at hq;obtain ⟨rfl,ht2,H2⟩:=hq;clear hn;dsimp only;go_wp2;go_ret;unfold eC;rw [HS.out];exact ⟨by rw [HV.out];rfl,ht1.trans ht2,H2⟩
  ·cases hn:Pro.pOf Ref.called r with
   | none =>
    have HS:Hid (Pro.bF (x::r)=none):=by unfold Hid;rw [Pro.bF,Ref.eT,h1,hn];rfl
    exact zc4
   | some q =>
    obtain ⟨n,r'⟩:=q;have HS:Hid (Pro.bF (x::r)=some (⟨Pro.o7,n,ByteArray.empty,0⟩,r')):=by unfold Hid;rw [Pro.bF,Ref.eT,h1,hn];rfl
    go_enter func249,ntmps249;go_wp2_with fail;refine (aF p num dep x r _ H).mono ?_;rintro e w1 ⟨rfl,ho,H1⟩;have ht1:=ho.ai;clear ho;dsimp only;go_wp2_with fail;refine (fu p num dep r _ H1 (hv.ai ht1)).mono ?_;rintro e w2 hq;rw [hn] at hq;obtain ⟨rfl,ht2,H2⟩:=hq;clear hn;dsimp only;go_wp2;go_ret;unfold eC;rw [HS.out];exact ⟨by rw [AM];rfl,ht1.trans ht2,H2⟩
namespace Ref
structure Fo (a:Act):Prop where
 how:a.how.size<=1073741824
 event:a.event.size<=1073741824
 id:a.id.size<=1073741824
 delay:∃ n:Nat,a.delay=n/\n<=18446744073709551615
def Db (k:Int) (x:SV):Bool:=decide (x.s.up=k) && !(x.s.word.toList == bh)
def sO (X:List SV) (k:Int):Nat->List Nat
 | 0=>[]
 | i+1=>if (X[i]?.map (Db k)).getD false then sO X k i++[i] else sO X k i
def regions (X:List SV) (k:Int):List Nat:=sO X k X.length
end Ref
def AF (w:World) (v:Value) (A:List Ref.Act):Prop:=Row w 219 4 Ref.FA v A
namespace Ref
def CC (X:List SV) (k:Int):SV:=X.getD k.toNat ⟨⟨ByteArray.empty,ByteArray.empty,false,0,0,0,[],[],[],0,0⟩,Sl.nil,Sl.nil,Sl.nil⟩
def sB (X:List SV) (u:Int):Bool:=X.all fun y => !decide (y.s.up=u)
def fits (X:List SV) (x:SV):Bool :=
 if decide (X.length=24)||(decide (5<x.s.depth)||(decide (x.s.up<0)&&(x.s.word.toList == bh))) then false
 else if x.s.up<0 then true
 else if ((CC X x.s.up).s.word.toList == b7)||((CC X x.s.up).s.word.toList == bh) then false
 else if (CC X x.s.up).s.word.toList == aM then !(x.s.word.toList == b7)
 else !sB X x.s.up || !(x.s.word.toList == bh)
def Dw (ms:List Move):Bool:=ms.any (·.after)
def vW (X:List SV):Bool:=X.any fun x=>Dw x.s.aj
def kz (X:List SV) (t:Bool) (m:Move):Bool:=(!(m.to.toList == [])&&decide (place X m.to<0))||(t&&(cd m.aw||(!m.after&&cB m.event bM)))
def sY (X:List SV) (t:Bool) (at':Int) (m:Move):Int:=if kz X t m then fj at' m.line else at'
def Ir (t:Bool) (a2:Int) (x:State):Int :=
 if t&&cd x.leave then fj (if t&&cd x.enter then fj a2 x.has0 else a2) x.has1 else if t&&cd x.enter then fj a2 x.has0 else a2
def pO (X:List SV) (t:Bool) (k:Nat) (at':Int) (x:State):Int :=
 Ir t (x.aj.foldl (sY X t) (if place X x.name<k then fj at' x.line else at')) x
def oe (X:List SV) (t:Bool):Nat->Int
 | 0=>0
 | k+1=>match X[k]? with
  | some x=>pO X t k (oe X t k) x.s
  | none=>oe X t k
def named (X:List SV):Int:=oe X (vW X) X.length
end Ref
def IK (w:World) (vm:Ref.Sl) (M:List Ref.MV):Prop:=Row w 202 6 Ref.J1 vm.v M/\∀ x∈M,AF w x.v.v x.m.aw
structure KS (m:Ref.Move):Prop where
 event:m.event.size<=1073741824
 dst:m.to.size<=1073741824
 aw:∀ a∈m.aw,Ref.Fo a
 len:m.aw.length<=1048576
structure Deep (w:World) (x:Ref.SV):Prop where
 aj:∃ M:List Ref.MV,M.map (·.m)=x.s.aj/\IK w x.vm M
 enter:AF w x.ve.v x.s.enter
 leave:AF w x.vl.v x.s.leave
 okM:∀ m∈x.s.aj,KS m
 okE:∀ a∈x.s.enter,Ref.Fo a
 okL:∀ a∈x.s.leave,Ref.Fo a
 lenM:x.s.aj.length<=1048576
 lenE:x.s.enter.length<=1048576
 lenL:x.s.leave.length<=1048576
 name:x.s.name.size<=1073741824
namespace Ref
def emb (s:State):SV:=⟨s,Sl.nil,Sl.nil,Sl.nil⟩
def st0:State:=⟨ByteArray.empty,ByteArray.empty,false,0,0,0,[],[],[],0,0⟩
def gd (S:List State) (d:Int):Nat->Int
 | 0 => -1
 | k+1=>if (S.getD k st0).depth=d-1 then (k:Int) else if (S.getD k st0).depth<d-1 then -1 else gd S d k
def dv (S:List State) (d:Int):Int:=if 0<d then gd S d S.length else -1
def jQ (x:jZ) (up d:Int):State:=⟨x.word,x.name,x.deep,up,d,x.sline,[],[],[],0,0⟩
def gq (S:List State) (k:Nat) (f:State->State):List State:=S.set k (f (S.getD k st0))
def bA (S:List State) (i:Nat) (x:jZ) (d:Int):Option (List State) :=
 if 0<d/\dv S d<0 then none
 else if x.kind=115 then
  if fits (S.map emb) (emb (jQ x (dv S d) d)) then some (S++[jQ x (dv S d) d]) else none
 else if dv S d<0 then none
 else if (S.getD (dv S d).toNat st0).word.toList == bh then none
 else if x.kind=109 then
  if (S.getD (dv S d).toNat st0).word.toList == b7 then none
  else some (gq S (dv S d).toNat fun p=>{ p with aj:=p.aj++[x.m] })
 else if x.kind=101 then
  if 0<(S.getD (dv S d).toNat st0).has0 then none
  else some (gq S (dv S d).toNat fun p=>{ p with has0:=i+1,enter:=x.aw })
 else if x.kind=108 then
  if 0<(S.getD (dv S d).toNat st0).has1 then none
  else some (gq S (dv S d).toNat fun p=>{ p with has1:=i+1,leave:=x.aw })
 else some S
def a8 (A:List (jZ×Int)):Nat->Option (List State)
 | 0=>some []
 | i+1=>match a8 A i with
  | none=>none
  | some S=>match A[i]? with
   | none=>some S
   | some (x,d)=>bA S i x d
def dK (S:List State):Nat->Option Int
 | 0=>none
 | k+1=>match dK S k with
  | some l=>some l
  | none=>if ((S.getD k st0).word.toList == aM)&&(regions (S.map emb) k).isEmpty then some (S.getD k st0).line else none
theorem sG {S:List State} {i:Nat} {l:Int} (h:dK S i=some l):∀ j,i<=j->dK S j=some l
 | 0,hj=>by rw [R7.1 hj] at h;exact h
 | j+1,hj=>by
  by_cases e:i=j+1
  ·rw [<- e];exact h
  ·rw [dK,sG h j zaa]
structure LV where
 L:jZ
 vm:Sl
 vd:Sl
end Ref
def ep (n:Nat):List Value:=[(n:Int)]
namespace Ref
def gH (y:SV) (i:Int) (A:List Act) (v:Sl):SV:={ y with s:={ y.s with has0:=i,enter:=A },ve:=v }
def gI (y:SV) (i:Int) (A:List Act) (v:Sl):SV:={ y with s:={ y.s with has1:=i,leave:=A },vl:=v }
end Ref
theorem Row.range {α:Type} {f:α->List Value} {X:List α} (hf:∀ x,(f x).length=n) (h:Row w e n f (.slice g X.length cap) X) {i:Nat} (hi:i<X.length) :
  w.rangeAt g (i*n) (f X[i]):=by
 intro j v hj;have hjn:j<n:=by rw [<- hf X[i]];exact (MZ.1 hj).1
 rw [Row.cell hf h hjn hi];exact hj
theorem lS (S:List Ref.State) (d:Int):∀ m:Nat,Ref.gd S d m<m
 | 0=>by simp [Ref.gd]
 | m+1=>by
  have:=lS S d m;exact zfb
theorem oV (S:List Ref.State) (d:Int) (h:¬ Ref.dv S d<0):Ref.dv S d<S.length:=by
 unfold Ref.dv at h ⊢;split
 ·exact lS S d S.length
 ·rename_i h0;rw [M4 h0] at h;exact absurd zac h
theorem lR (S:List Ref.State) (d:Int):∀ m:Nat,-1<=Ref.gd S d m
 | 0=>by simp [Ref.gd]
 | m+1=>by
  have:=lR S d m;exact zfb
theorem Dx (S:List Ref.State) (d:Int) : -1<=Ref.dv S d:=by
 unfold Ref.dv;split
 ·exact lR S d S.length
 ·decide
theorem rL {α:Type} {f:α->List Value} {n:Nat} (hf:∀ x,(f x).length=n):∀ (X:List α) (i j:Nat) (v:Value) (x':α),j<n->∀ (h:i<X.length),f x'=(f X[i]).set j v->(X.flatMap f).set (i*n+j) v=(X.set i x').flatMap f
 | [],i,j,v,x',_,h,_=>by simp at h
 | x::X,0,j,v,x',hj,_,e=>by
  rw [Ol,QU,Pd,List.set_append_left _ _ (by rw [hf];exact hj),List.set_cons_zero,Ol,e];rfl
 | x::X,i+1,j,v,x',hj,h,e=>by
  have hlen:(f x).length=n:=hf x;rw [Ol,Rx,Qx _ _ (by rw [hlen];omega),hlen,List.set_cons_succ,Ol];rw [show i*n+n+j-n=i*n+j from by omega,rL hf X i j v x' hj zaC e]
theorem mi {e':TypeId} {c:Array Value} {fz:Nat×Nat} (h:w.ownsRow base e size v n xs) (ho:gY g w w') (hg:w.heap[g]?=some (.cells c e' fz)) (hne:e≠e'):w'.ownsRow base e size v n xs:=by
 refine ⟨h.1,?_⟩
 rcases h.2 with h' | ⟨k,cap,cur,hv,hb,hk,r⟩
 ·exact .inl h'
 ·have hkg:k≠g:=by
   intro e0;subst e0;rw [hg] at hk;simp only [Option.some.injEq,Obj.cells.injEq] at hk;exact hne hk.2.1.symm
  exact .inr ⟨k,cap,cur,hv,hb,by rw [ho.block k hkg];exact hk,r⟩
theorem bc (h:w.ownsRow base e size v n xs) (hb:Below w w w'):w'.ownsRow base e size v n xs:=by
 refine ⟨h.1,?_⟩
 rcases h.2 with h' | ⟨g,cap,cur,hv,hb',hg,r⟩
 ·exact .inl h'
 ·exact .inr ⟨g,cap,cur,hv,hb',by rw [hb.block g ((MQ.1 hg).1)];exact hg,r⟩
theorem fM {A:List (Ref.jZ×Int)} {i:Nat} (h:Ref.a8 A i=none):∀ j,i<=j->Ref.a8 A j=none
 | 0,hj=>by rw [R7.1 hj] at h;exact h
 | j+1,hj=>by
  by_cases e:i=j+1
  ·rw [<- e];exact h
  ·rw [Ref.a8,fM h j zaa]
namespace Pro
def bDo:ByteArray:=⟨#[100,111]⟩
def gu:Nat->List ByteArray->Option (List Ref.Act×List ByteArray)
 | 0,l=>some ([],l)
 | _+1,[]=>some ([],[])
 | f+1,x::r =>
  if x.toList == bDo.toList then
   match bF r with
   | none=>none
   | some (a,r')=>match gu f r' with
    | none=>none
    | some (A,t)=>some (a::A,t)
  else some ([],x::r)
def a7 (l:List ByteArray):Option (List Ref.Act×List ByteArray):=gu l.length l
theorem qK {P:ByteArray->Bool} (h:pOf P l=some (x,r)):r.length+1=l.length:=by
 rw [(gX h).2];rfl
theorem nt {l r:List ByteArray} {d:Int} (h:gD l=some (d,r)):r.length+1=l.length:=by
 cases l with
 | nil=>cases h
 | cons y t =>
  rw [gD] at h;split at h
  ·cases h;rfl
  ·cases h
theorem EK {q:ByteArray×Int×Option ByteArray} (h:dr l=some (q,r)):r.length<l.length:=by
 unfold dr at h;split at h
 ·cases h
 ·rename_i x l1 h1;have e1:=qK h1;split at h
  ·cases h
  ·rename_i d h2;have e2:=nt h2;cases h;simp at e2 ⊢;omega
  ·rename_i d y t h2;have e2:=nt h2;simp only [List.length_cons] at e2;split at h
   ·split at h
    ·cases h
    ·rename_i a l3 h3;have e3:=qK h3;cases h;omega
   ·cases h;simp only [List.length_cons];omega
theorem je {l r:List ByteArray} {a:Ref.Act} (h:bF l=some (a,r)):r.length<l.length:=by
 cases l with
 | nil=>cases h
 | cons x t =>
  rw [bF] at h;simp only [List.length_cons];split at h
  ·exact zej
  ·split at h
   ·obtain ⟨⟨n,r'⟩,h1,h2⟩:=Nv.1 h;cases h2
    have:=EK h1;dsimp only at this ⊢;omega
   ·split at h
    ·exact zej
    ·cases h
theorem sE:∀ (f g:Nat) (l:List ByteArray),l.length<=f->l.length<=g->gu f l=gu g l
 | 0,0,l,_,_=>rfl
 | 0,g+1,[],_,_=>rfl
 | f+1,0,[],_,_=>rfl
 | f+1,g+1,[],_,_=>rfl
 | 0,_,x::r,h,_=>by simp at h
 | _+1,0,x::r,_,h=>by simp at h
 | f+1,g+1,x::r,hf,hg=>by
  simp only [gu];split
  ·cases h:bF r with
   | none=>rfl
   | some q =>
    obtain ⟨a,r'⟩:=q;have:=je h;simp only [List.length_cons] at hf hg;simp only;rw [sE f g r' zaa zaa]
  ·rfl
theorem jt (h:(x.toList == bDo.toList)=false):a7 (x::r)=some ([],x::r):=by
 show gu (r.length+1) (x::r)=_;rw [gu,h];rfl
theorem js (h:(x.toList == bDo.toList)=true) (h2:bF r=none):a7 (x::r)=none:=by
 show gu (r.length+1) (x::r)=_;rw [gu,h,h2];rfl
theorem jr {x:ByteArray} {r r':List ByteArray} {a:Ref.Act} (h:(x.toList == bDo.toList)=true) (h2:bF r=some (a,r')):a7 (x::r)=(a7 r').map fun q=>(a::q.1,q.2):=by
 have:=je h2;show gu (r.length+1) (x::r)=_;rw [gu,h,M6 rfl,h2];simp only;rw [sE r.length r'.length r' zaa (MR _)];show _=(gu r'.length r').map _;cases gu r'.length r' with
 | none=>rfl
 | some q=>rfl
end Pro
theorem sD (h:w.ownsRow base e size v n xs) (ht:ak p w w') (hp:p<base):w'.ownsRow base e size v n xs:=by
 refine ⟨h.1,?_⟩
 rcases h.2 with h' | ⟨k,cap,cur,hv,hb,hk,r⟩
 ·exact .inl h'
 ·exact .inr ⟨k,cap,cur,hv,hb,by rw [ht.block k (MQ.1 hk).1 zaa];exact hk,r⟩
theorem ak.grown (h:ak p w w1) (hg:w1.grownBy w2 row) (hr:∀ k,row=some k->w.heap.size<=k):ak p w w2 :=
 ⟨hg.os.trans h.os,hg.tape.trans h.tape,hg.output.trans h.output,MX h.size hg.size,fun k hk hp=>(hg.block k (Nq hk h.size) (fun e=>by have:=hr k e.symm;omega)).trans (h.block k hk hp)⟩
theorem ah.grown (H:ah w p num dep l) (hg:w.grownBy w' row) (hr:∀ k,row=some k->p<k):ah w' p num dep l:=by
 obtain ⟨a,cap,hp,hc,hs⟩:=H.row;refine ⟨⟨a,cap,?_,hc,fun h => ?_⟩,H.len,H.sizes⟩
 ·rw [hg.block p (MQ.1 hp).1 (fun e=>by have:=hr p e.symm;omega)];exact hp
 ·obtain ⟨b,off,h1,h2,h3,h4⟩:=hs h;refine ⟨b,off,h1,h2,Nq h3 hg.size,fun i hi => ?_⟩;rw [hg.cell_far ⟨b,off+i,none⟩ h3 (fun e=>by have:=hr b e.symm;omega)];exact h4 i hi
theorem nh:(Tryz.prog.info? 250).map (fun i=>(i.zero,i.size,i.bytes))=some (some .nilIface,1,16):=zab
def gL (p:Nat) (num dep:Int) (l:List ByteArray) (w:World) (e:Ending) (w':World):Prop:=match Pro.a7 l with
 | none=>cT p 2 num w e w'
 | some (A,r)=>∃ a n c,e = .returned (.slice a n c)/\w'.ownsRow w.heap.size 250 1 (.slice a n c) A.length (A.map bg)/\ak p w w'/\ah w' p num dep r
theorem AL (a:Ref.Act):∃ t u,bg a = .iface t u:=by
 unfold bg vL
 repeat' split
 all_goals exact ⟨_,_,rfl⟩
theorem iZ (p:Nat) (num dep:Int) (l:List ByteArray) (w:World) (H:ah w p num dep l) (hv:bI p w) :
  () 220 #[p] w (gL p num dep l w):=by
 have hpl:=H.lt;have hll:=H.len;obtain ⟨i0,hi0,hz0,hz1,hz2⟩:=OB nh;go_enter func220,ntmps220;go_wp2_with fail
 go_loopg [3] l.length (fun q v wr=>∃ (va:Option Addr) (vn vc:Nat) (A:List Ref.Act) (l':List ByteArray),q=l'.length/\v = .slice va vn vc/\A.length+l'.length<=l.length/\Pro.a7 l=(Pro.a7 l').map (fun q=>(A++q.1,q.2))/\wr.ownsRow w 250 1 (.slice va vn vc) A.length (A.map bg)/\ak p w wr/\ah wr p num dep l')
 case atStart=>exact ⟨none,0,0,[],l,rfl,rfl,zad,by cases Pro.a7 l <;> rfl,N4 _ _ _ _,ak.refl _ _,H⟩
 case round =>
  obtain ⟨va,vn,vc,A,l',hq,rfl,hlen,hP,hown,ht,H'⟩:=hrel;have HP:Hid _:=hP;clear hP;have hsz:=ht.size;cases l' with
  | nil =>
   go_wp2_with (go_at_call 219;refine (skip_none p num dep Pro.bDo _ H').mono ?_;rintro e w9 ⟨rfl,hw9⟩;rw [hw9];clear hw9 w9);go_ret;unfold gL;rw [HP.out];exact ⟨va,vn,vc,rfl,zbo,ht,H'⟩
  | cons x r =>
   cases hx:(x.toList == Pro.bDo.toList)
   ·have HS:Hid _:=Pro.jt (r:=r) hx;go_wp2_with (go_at_call 219;refine (qM p num dep x r Pro.bDo _ H' hx).mono ?_;rintro e w9 ⟨rfl,hw9⟩;rw [hw9];clear hw9 w9);go_ret;unfold gL;rw [HP.out,HS.out];exact ⟨va,vn,vc,rfl,zbo,ht,H'⟩
   ·cases ha:Pro.bF r with
    | none =>
     have HS:Hid (Pro.a7 l=none):=by unfold Hid;rw [HP.out,Pro.js hx ha];rfl
     go_wp2_with fail;refine (jT p num dep x r Pro.bDo _ H' hx).mono ?_;rintro e w1 ⟨rfl,ho1,H1⟩;have ht1:=ht.trans ho1.ai;clear ho1;dsimp only;go_wp2_with fail;refine (qV p num dep r _ H1 (hv.ai ht1)).mono ?_;rintro e w2 hq2;rw [ha] at hq2;obtain ⟨ht2,b,h4,h5,rfl⟩:=hq2;dsimp only;refine ⟨rfl,?_⟩;unfold gL;rw [HS.out];exact ⟨ht1.trans ht2,b,MX ht1.size h4,h5,rfl⟩
    | some q =>
     obtain ⟨a,r'⟩:=q;have hal:=Pro.je ha;have HS:Hid (Pro.a7 l=(Pro.a7 r').map (fun q=>((A++[a])++q.1,q.2))):=by
      unfold Hid;rw [HP.out,Pro.jr hx ha];cases Pro.a7 r' with
      | none=>rfl
      | some q=>simp
     go_wp2_with fail;refine (jT p num dep x r Pro.bDo _ H' hx).mono ?_;rintro e w1 ⟨rfl,ho1,H1⟩;have ht1:=ht.trans ho1.ai;have hown1:=sD hown ho1.ai hpl;clear ho1;dsimp only;go_wp2_with fail;refine (qV p num dep r _ H1 (hv.ai ht1)).mono ?_;rintro e w2 hq2;rw [ha] at hq2;obtain ⟨rfl,ht2,H2⟩:=hq2;have hown2:=sD hown1 ht2 hpl;have ht3:=ht1.trans ht2;have hs3:=ht3.size;clear ha H1 ht1 ht2 hown1 hown;simp only [List.length_cons] at hlen;dsimp only;obtain ⟨at1,au1,hav⟩:=AL a;rw [hav];have HAV:Hid _:=hav;clear hav;go_wp2_with (at_builtin;refine wpList_append_lies _ zaf (.tmp 6) (.tmp 9) _ zaf w.heap.size 250 i0 _ 1 16 underlying159 hi0 hz0 hz1 hz2 rfl zac (.slice va vn vc) A.length (A.map bg) zaf (O7 hown2 _) ⟨w2,0,none⟩ 1 1 [.iface at1 au1] zaf zaf (World.news_of_block (cs:=#[.iface at1 au1]) (t:=250) (fr:=(0,0)) (Na w2 _)) (by intro u hu;rw [M8.1 hu];rfl) zaa zag zaa zae (w2.heap.size+1) zad ?_;intro g5 cap5 w5 hown5 hgrow hat hlt5)
     go_roundg r'.length
     case measure=>omega
     case rel =>
      refine ⟨some ⟨g5,0,none⟩,A.length+1,cap5,A++[a],r',rfl,rfl,zae,HS.out,?_,(ht3.alloc _).grown hgrow (fun k e=>(ND hown2 k e).1),(H2.alloc _).grown hgrow (fun k e=>Nq hpl (ND hown2 k e).1)⟩;rw [Nj,NW,Pj,List.map_nil,HAV.out];exact hown5
theorem EY:Tryz.f191.results=#[.cell 2 359]:=rfl
theorem Co:(Tryz.prog.info? 359).map (·.size)=some 3:=zab
namespace Pro
def cI (l:List ByteArray):Option (List Ref.Act×List ByteArray):=match a7 l with
 | none=>none
 | some ([],_)=>none
 | some (a::A,r)=>some (a::A,r)
end Pro
def eA (p:Nat) (num dep:Int) (l:List ByteArray) (w:World) (e:Ending) (w':World):Prop:=match Pro.cI l with
 | none=>cT p 2 num w e w'
 | some (A,r)=>∃ a n c,e = .returned (.agg #[.int .i64 num,.int .i64 dep,.slice a n c])/\w'.ownsRow w.heap.size 250 1 (.slice a n c) A.length (A.map bg)/\ak p w w'/\ah w' p num dep r
theorem gY.trans (h:gY g a b) (k:gY g b c):gY g a c:=⟨k.os.trans h.os,k.tape.trans h.tape,k.output.trans h.output,k.size.trans h.size,fun i hi=>(k.block i hi).trans (h.block i hi)⟩
theorem ak.iA (h:ak p w w1) (ho:gY N w1 w2) (hN:w.heap.size<=N):ak p w w2 :=
 ⟨ho.os.trans h.os,ho.tape.trans h.tape,ho.output.trans h.output,by rw [ho.size];exact h.size,fun k hk hp=>(ho.block k zaa).trans (h.block k hk hp)⟩
theorem j9 (p:Nat) (num dep:Int) (l:List ByteArray) (w:World) (H:ah w p num dep l) (hv:bI p w) :
  () 191 #[p] w (eA p num dep l w):=by
 have hpl:=H.lt;cases ha:Pro.a7 l with
 | none =>
  have HS:Hid (Pro.cI l=none):=zbO;go_enter func191,ntmps191;go_wp2_with fail;refine (iZ p num dep l _ (H.alloc _) (hv.alloc _)).mono ?_;rintro e w1 h1;unfold gL at h1;rw [ha] at h1;obtain ⟨ht,b,h4,h5,rfl⟩:=h1;dsimp only;refine ⟨rfl,?_⟩;unfold eA;exact zez
 | some q =>
  obtain ⟨A,r⟩:=q;cases A with
  | nil =>
   have HS:Hid (Pro.cI l=none):=zbO;go_enter func191,ntmps191;go_wp2_with fail;refine (iZ p num dep l _ (H.alloc _) (hv.alloc _)).mono ?_;rintro e w1 h1;unfold gL at h1;rw [ha] at h1;obtain ⟨a,n,c,rfl,hown,ht1,H1⟩:=h1;obtain rfl:n=0:=by
    rcases hown.2 with ⟨hv',_⟩ | ⟨g,cap,cur,hv',_⟩
    ·exact ze6
    ·exact ze6
   obtain ⟨c0,c1⟩:=H1.cells;have ht:ak p w w1:=((ak.refl p w).alloc _).trans ht1;clear ht1 hown ha;dsimp only;go_wp2_with fail;refine (aU num dep 2 _).mono ?_;rintro e w2 hq;obtain ⟨ht',b,h4,h5,rfl⟩:=cE ht hq;dsimp only;refine ⟨rfl,?_⟩;unfold eA;rw [HS.out];exact ⟨ht',b,h4,h5,rfl⟩
  | cons a0 A =>
   have HS:Hid (Pro.cI l=some (a0::A,r)):=zbO;go_enter func191,ntmps191;go_wp2_with fail;refine (iZ p num dep l _ (H.alloc _) (hv.alloc _)).mono ?_;rintro e w1 h1;unfold gL at h1;rw [ha] at h1;obtain ⟨a,n,c,rfl,hown,ht1,H1⟩:=h1;obtain rfl:n=(a0::A).length:=by
    rcases hown.2 with ⟨hv',h0⟩ | ⟨g,cap,cur,hv',_⟩
    ·simp only [Value.slice.injEq] at hv';rw [h0];exact hv'.2.1
    ·exact ze6
   have hN:w1.heap[w.heap.size]?=some (.cells #[(0:Int),(0:Int),.slice none 0 0] 359 (0,0)):=by
    rw [ht1.block w zad zaa];exact Na w _
   have d0:w1.cell? w=some ↑(0:Int):=by rw [M0 w1 _ 0 _ _ _ hN];rfl
   have d1:w1.cell? ⟨w,1,none⟩=some ↑(0:Int):=by rw [M0 w1 _ 1 _ _ _ hN];rfl
   have d2:w1.cell? ⟨w,2,none⟩=some (.slice none 0 0):=by rw [M0 w1 _ 2 _ _ _ hN];rfl
   have f0:w1.frozen? ⟨w,0,none⟩=false:=zar;have f1:w1.frozen? ⟨w,1,none⟩=false:=zar;have f2:w1.frozen? ⟨w,2,none⟩=false:=zar;obtain ⟨c0,c1⟩:=H1.cells;have ht:ak p w w1:=((ak.refl p w).alloc _).trans ht1;have hown':=aD hown (show w.heap.size<=(w.alloc (.cells #[(0:Int),(0:Int),.slice none 0 0] 359)).heap.size by simp);have hpos:(((a0::A).length:Int) == 0)=false:=zae;clear ht1 ha hown;generalize hm:(a0::A).length=m at *;have HM:Hid _:=hm;clear hm;dsimp only;go_wp2;have o1:=aa w1 w 0 (.int .i64 num);have o2:=aa (w1.setCell w (.int .i64 num)) w.heap.size 1 (.int .i64 dep);have o3:=aa ((w1.setCell w (.int .i64 num)).setCell ⟨w,1,none⟩ (.int .i64 dep)) w.heap.size 2 (.slice a m c);have oo:=(o1.trans o2).trans o3;have g1:=Nn w1 w 0 _ _ (.int .i64 num) hN;have g2:=Nn _ w 1 _ _ (.int .i64 dep) g1;have g3:=Nn _ w 2 _ _ (.slice a m c) g2;refine dP EY _ 359 _ (0,0) _ rfl g3 underlying359 rfl Co rfl ?_;unfold eA;rw [HS.out];exact ⟨a,m,c,rfl,by rw [HM.out];exact mi hown' oo hN zac,ht.iA oo (MR _),H1.only oo hpl⟩
theorem ee (p:Nat) (num dep:Int) (l:List ByteArray) (w:World) (H:ah w p num dep l) (hv:bI p w) :
  () 187 #[p,.func (.func 218) #[] #[]] w (eC p num dep ((Pro.pOf Ref.plain l).map fun q=>(.string q.1,q.2)) w):=by
 cases l with
 | nil=>exact jd p num dep _ w H
 | cons x r =>
  cases hx:Ref.plain x
  ·have:Pro.pOf Ref.plain (x::r)=none:=zaz;rw [this];exact su p num dep x r w H hv hx
  ·have:Pro.pOf Ref.plain (x::r)=some (x,r):=zaz;rw [this];exact qw p num dep x r w H hv hx
theorem fw (p:Nat) (num dep:Int) (l:List ByteArray) (w:World) (H:ah w p num dep l) (hv:bI p w) :
  () 187 #[p,.func (.func 188) #[] #[]] w (eC p num dep ((Pro.pOf Ref.b8 l).map fun q=>(.string q.1,q.2)) w):=by
 cases l with
 | nil=>exact jd p num dep _ w H
 | cons x r =>
  cases hx:Ref.b8 x
  ·have:Pro.pOf Ref.b8 (x::r)=none:=zaz;rw [this];exact og p num dep x r w H hv hx
  ·have:Pro.pOf Ref.b8 (x::r)=some (x,r):=zaz;rw [this];exact nq p num dep x r w H hv hx
theorem Hy:Tryz.f184.results=#[.cell 4 351]:=rfl
theorem gJ:(Tryz.prog.info? 351).map (·.size)=some 4:=zab
theorem oQ (p:Nat) (num dep k:Int) (l:List ByteArray) (w:World) (H:ah w p num dep l) (hv:bI p w) (hn:Pro.pOf Ref.plain l=none) :
  () 184 #[p,(k:Int)] w (cT p 2 num w):=by
 have hpl:=H.lt;obtain ⟨c0,c1⟩:=H.cells;go_enter func184,ntmps184;go_wp2_with fail;have H1:=(H.alloc (.cells #[(0:Int),(0:Int),(0:Int),ByteArray.empty] 351)).drew;have hv1:bI p (w.alloc (.cells #[(0:Int),(0:Int),(0:Int),ByteArray.empty] 351)).drew:=(hv.alloc _).ai (ak.refl p _).drew;refine OO zab ?_;change wpAny _ _ _ _ _ _ _ (World.drew _);refine tA 0 p rfl ?_;refine tA 1 p rfl ?_;refine tA 2 p rfl ?_;refine tA 4 (.int .i64 k) rfl ?_;refine tA 5 p rfl ?_;refine yA [3,6] ?_;refine M5 rfl (fun K hK => ?_) (M5 rfl (fun K hK => ?_) Ns)
 ·go_simp;refine hK _ _ ?_;clear hK K;refine zA 6 rfl fun K hK => ?_;exact zdt
 ·exact zdt
theorem my (p:Nat) (num dep k:Int) (l r:List ByteArray) (x:ByteArray) (w:World) (H:ah w p num dep l) (hv:bI p w) (hn:Pro.pOf Ref.plain l=some (x,r)) :
  () 184 #[p,(k:Int)] w fun e w'=>e = .returned (.agg #[(num:Int),(dep:Int),(k:Int),x])/\ak p w w'/\ah w' p num dep r:=by
 have hpl:=H.lt;obtain ⟨c0,c1⟩:=H.cells;go_enter func184,ntmps184;go_wp2_with fail;have H1:=(H.alloc (.cells #[(0:Int),(0:Int),(0:Int),ByteArray.empty] 351)).drew;have hv1:bI p (w.alloc (.cells #[(0:Int),(0:Int),(0:Int),ByteArray.empty] 351)).drew:=(hv.alloc _).ai (ak.refl p _).drew;go_region_held3 (fun W=>W.cell? p=some ↑(num:Int)/\W.cell? ⟨p,1,none⟩=some ↑(dep:Int)) (first | go_keep | exact ⟨k0,k1⟩ | exact ⟨k2,k3⟩)
  ((go_at_call 187;refine (ee p num dep l _ H1 hv1).mono ?_;rintro e w4 h4;rw [hn] at h4;obtain ⟨rfl,ht4,H4⟩:=h4;obtain ⟨k0,k1⟩:=H4.cells;have hN:w4.heap[w.heap.size]?=some (.cells #[(0:Int),(0:Int),(0:Int),ByteArray.empty] 351 (0,0)):=(ht4.block w zad zaa).trans (Na w _);have d0:w4.cell? w=some ↑(0:Int):=by rw [M0 w4 _ 0 _ _ _ hN];rfl
    have d1:w4.cell? ⟨w,1,none⟩=some ↑(0:Int):=by rw [M0 w4 _ 1 _ _ _ hN];rfl
    have d2:w4.cell? ⟨w,2,none⟩=some ↑(0:Int):=by rw [M0 w4 _ 2 _ _ _ hN];rfl
    have d3:w4.cell? ⟨w,3,none⟩=some ↑ByteArray.empty:=by rw [M0 w4 _ 3 _ _ _ hN];rfl
    have f0:w4.frozen? ⟨w,0,none⟩=false:=zar;have f1:w4.frozen? ⟨w,1,none⟩=false:=zar;have f2:w4.frozen? ⟨w,2,none⟩=false:=zar;have f3:w4.frozen? ⟨w,3,none⟩=false:=zar;have hne:¬ p=w.heap.size:=zaa;have hne2:¬ w.heap.size=p:=zaa;dsimp only))
 go_wp2;have o1:=aa w4 w 0 (.int .i64 num);have o2:=aa (w4.setCell w (.int .i64 num)) w.heap.size 1 (.int .i64 dep);have o3:=aa ((w4.setCell w (.int .i64 num)).setCell ⟨w,1,none⟩ (.int .i64 dep)) w.heap.size 2 (.int .i64 k);have o4:=aa (((w4.setCell w (.int .i64 num)).setCell ⟨w,1,none⟩ (.int .i64 dep)).setCell ⟨w,2,none⟩ (.int .i64 k)) w.heap.size 3 (.string x);have oo:=((o1.trans o2).trans o3).trans o4;have g1:=Nn w4 w 0 _ _ (.int .i64 num) hN;have g2:=Nn _ w 1 _ _ (.int .i64 dep) g1;have g3:=Nn _ w 2 _ _ (.int .i64 k) g2;have g4:=Nn _ w 3 _ _ (.string x) g3;have ht:ak p w w4:=((ak.refl p w).alloc _).drew.trans ht4;exact dP Hy _ 351 _ (0,0) _ rfl g4 underlying351 rfl gJ rfl ⟨rfl,ht.iA oo (MR _),H4.only oo hpl⟩
theorem nz:Tryz.f185.results=#[.cell 2 351]:=rfl
namespace Pro
def o6:ByteArray:=⟨#[100,101,101,112]⟩
def de (l:List ByteArray):Option ((ByteArray×Int)×List ByteArray):=match pOf Ref.plain l with
 | none=>none
 | some (x,[])=>some ((x,3),[])
 | some (x,y::r)=>if y.toList == o6.toList then some ((x,4),r) else some ((x,3),y::r)
end Pro
theorem fs {a b c d:Value} (hN:w.heap[N]?=some (.cells #[a,b,c,d] t (0,0))) :
  w.cell? N=some a/\w.cell? ⟨N,1,none⟩=some b/\w.cell? ⟨N,2,none⟩=some c/\w.cell? ⟨N,3,none⟩=some d/\w.frozen? ⟨N,0,none⟩=false/\w.frozen? ⟨N,1,none⟩=false/\w.frozen? ⟨N,2,none⟩=false/\w.frozen? ⟨N,3,none⟩=false :=
 ⟨by rw [M0 w _ 0 _ _ _ hN];rfl,by rw [M0 w _ 1 _ _ _ hN];rfl,by rw [M0 w _ 2 _ _ _ hN];rfl,by rw [M0 w _ 3 _ _ _ hN];rfl,zar,zar,zar,zar⟩
theorem ly {a b c d a' b' c' d':Value} (hN:w.heap[N]?=some (.cells #[a,b,c,d] t (0,0))) :
  ((((w.setCell N a').setCell ⟨N,1,none⟩ b').setCell ⟨N,2,none⟩ c').setCell ⟨N,3,none⟩ d').heap[N]?=some (.cells #[a',b',c',d'] t (0,0))/\gY N w ((((w.setCell N a').setCell ⟨N,1,none⟩ b').setCell ⟨N,2,none⟩ c').setCell ⟨N,3,none⟩ d'):=by
 have g1:=Nn w N 0 _ _ a' hN;have g2:=Nn _ N 1 _ _ b' g1;have g3:=Nn _ N 2 _ _ c' g2;have g4:=Nn _ N 3 _ _ d' g3;exact ⟨g4,(((aa _ _ _ _).trans (aa _ _ _ _)).trans (aa _ _ _ _)).trans (aa _ _ _ _)⟩
theorem p6 (p:Nat) (num dep:Int) (l:List ByteArray) (w:World) (H:ah w p num dep l) (hv:bI p w) :
  () 185 #[p] w (eC p num dep ((Pro.de l).map fun q=>(.agg #[(num:Int),(dep:Int),(q.1.2:Int),.string q.1.1],q.2)) w):=by
 have hpl:=H.lt;cases hn:Pro.pOf Ref.plain l with
 | none =>
  have HS:Hid (Pro.de l=none):=by unfold Hid Pro.de;rw [hn]
  go_enter func185,ntmps185;go_wp2_with fail;refine (oQ p num dep 3 l _ (H.alloc _) (hv.alloc _) hn).mono ?_;rintro e w1 h1;obtain ⟨ht,b,h4,h5,rfl⟩:=h1;dsimp only;refine ⟨rfl,?_⟩;exact zez
 | some q =>
  obtain ⟨x,l2⟩:=q;go_enter func185,ntmps185;go_wp2_with fail;refine (my p num dep 3 l l2 x _ (H.alloc _) (hv.alloc _) hn).mono ?_;rintro e w1 ⟨rfl,ht1,H1⟩;dsimp only;have hN:w1.heap[w.heap.size]?=some (.cells #[(0:Int),(0:Int),(0:Int),ByteArray.empty] 351 (0,0)):=(ht1.block w zad zaa).trans (Na w _);have hNl:w.heap.size<w1.heap.size:=(MQ.1 hN).1;have ht:ak p w w1:=((ak.refl p w).alloc _).trans ht1;have hp1:=H1.lt;clear ht1;have H2:=H1.alloc (.cells #[(num:Int),(dep:Int),(3:Int),x] 351);have hN2:(w1.alloc (.cells #[(num:Int),(dep:Int),(3:Int),x] 351)).heap[w.heap.size]?=some (.cells #[(0:Int),(0:Int),(0:Int),ByteArray.empty] 351 (0,0)):=by rw [N9 _ _ _ hNl];exact hN
  have ht2:ak p w (w1.alloc (.cells #[(num:Int),(dep:Int),(3:Int),x] 351)):=ht.alloc _;have hM2:=Na w1 (.cells #[(num:Int),(dep:Int),(3:Int),x] 351);have hne:¬ w.heap.size=w1.heap.size:=zaa;have hne':¬ w1.heap.size=w.heap.size:=zaa;cases l2 with
  | nil =>
   have HS:Hid (Pro.de l=some ((x,3),[])):=by unfold Hid Pro.de;rw [hn]
   go_wp2_with fail;refine (skip_none p num dep Pro.o6 _ H2).mono ?_;rintro e w9 ⟨rfl,hw9⟩;rw [hw9];clear hw9 w9 hN;generalize w1.alloc (.cells #[(num:Int),(dep:Int),(3:Int),x] 351)=w2 at *;obtain ⟨a0,a1,a2,a3,b0,b1,b2,b3⟩:=fs hN2;obtain ⟨c0,c1,c2,c3,_,_,_,_⟩:=fs hM2;have gg:=ly (a' := .int .i64 num) (b' := .int .i64 dep) (c' := .int .i64 3) (d' := .string x) hN2;have GG:Hid _:=gg;clear gg;exact zdE
  | cons y r =>
   cases hy:(y.toList == Pro.o6.toList)
   ·have HS:Hid (Pro.de l=some ((x,3),y::r)):=zcl;go_wp2_with fail;refine (qM p num dep y r Pro.o6 _ H2 hy).mono ?_;rintro e w9 ⟨rfl,hw9⟩;rw [hw9];clear hw9 w9 hN;generalize w1.alloc (.cells #[(num:Int),(dep:Int),(3:Int),x] 351)=w2 at *;obtain ⟨a0,a1,a2,a3,b0,b1,b2,b3⟩:=fs hN2;obtain ⟨c0,c1,c2,c3,_,_,_,_⟩:=fs hM2;have GG:Hid _:=ly (a' := .int .i64 num) (b' := .int .i64 dep) (c' := .int .i64 3) (d' := .string x) hN2;exact zdE
   ·have HS:Hid (Pro.de l=some ((x,4),r)):=zcl;go_wp2_with fail;refine (jT p num dep y r Pro.o6 _ H2 hy).mono ?_;rintro e w3 ⟨rfl,ho3,H3⟩;have hN3:=(ho3.block w zaa).trans hN2;have hM3:=(ho3.block w1 zaa).trans hM2;have ht3:=ht2.trans ho3.ai;have hM4:=Nn w3 w1 2 _ _ (.int .i64 4) hM3;have oM:=aa w3 w1 2 (.int .i64 4);have hN4:=(oM.block w hne).trans hN3;have ht4:=ht3.iA oM zaa;have H4:=H3.only oM zaa;obtain ⟨_,_,m2,_,_,_,m6,_⟩:=fs hM3;clear hN hN2 hM2 ho3 ht3 H3 hM3 hN3 oM;dsimp only
    go_upto_region 4 with fail
    generalize w3.setCell ⟨w1,2,none⟩ (.int .i64 4)=w4 at *;obtain ⟨a0,a1,a2,a3,b0,b1,b2,b3⟩:=fs hN4;obtain ⟨c0,c1,c2,c3,_,_,_,_⟩:=fs (a := .int .i64 num) (b := .int .i64 dep) (c := .int .i64 4) (d := .string x) hM4;have GG:Hid _:=ly (a' := .int .i64 num) (b' := .int .i64 dep) (c' := .int .i64 4) (d' := .string x) hN4;go_wp2;refine dP nz _ 351 _ (0,0) _ rfl GG.out.1 underlying351 rfl gJ rfl ?_;unfold eC;rw [HS.out];exact ⟨rfl,ht4.iA GG.out.2 (MR _),H4.only GG.out.2 hpl⟩
