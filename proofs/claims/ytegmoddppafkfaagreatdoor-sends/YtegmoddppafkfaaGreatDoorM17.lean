import Derived.Test.YtegmoddppafkfaaGreatDoorM00
import Derived.Test.YtegmoddppafkfaaGreatDoorM01
import Derived.Test.YtegmoddppafkfaaGreatDoorSh
import Derived.Deep.LoopGhost
import Derived.Deep.QuietTactic
import Derived.BigQuiet
import Derived.Lib.AppendIntMem
set_option maxRecDepth 100000
set_option maxHeartbeats 8000000
namespace Go.Proofs.YtegmoddppafkfaaGreatDoor
section
open Go.RowKit
open Go.PlainAid (bt get_bt bt_nonneg bt_le bt_end)
theorem cM (c:Int) (w:World):Calls Tryz.prog 272 #[.int .u8 c] w fun e w'=>e = .returned (.bool (Ref.small c))∧w'=w:=by
 by_cases h1:97≤c
 ·by_cases h2:c≤122
  ·go_enter Tryz.func272,Tryz.ntmps272
   go_wp2
   go_ret
   exact ⟨by simp [Ref.small,h1,h2],rfl⟩
  ·go_enter Tryz.func272,Tryz.ntmps272
   go_wp2
   go_ret
   exact ⟨by rw [Ref.small,decide_eq_false (show ¬ c≤122 by omega),Bool.and_false];rfl,rfl⟩
 ·go_enter Tryz.func272,Tryz.ntmps272
  go_wp2
  go_ret
  exact ⟨by rw [Ref.small,decide_eq_false (show ¬ 97≤c by omega),Bool.false_and];rfl,rfl⟩
theorem jH (c:Int) (w:World):Calls Tryz.prog 273 #[.int .u8 c] w fun e w'=>e = .returned (.bool (Ref.iP c))∧w'=w:=by
 by_cases h1:48≤c
 ·by_cases h2:c≤57
  ·go_enter Tryz.func273,Tryz.ntmps273
   go_wp2
   go_ret
   exact ⟨by simp [Ref.iP,h1,h2],rfl⟩
  ·go_enter Tryz.func273,Tryz.ntmps273
   go_wp2
   go_ret
   exact ⟨by rw [Ref.iP,decide_eq_false (show ¬ c≤57 by omega),Bool.and_false];rfl,rfl⟩
 ·go_enter Tryz.func273,Tryz.ntmps273
  go_wp2
  go_ret
  exact ⟨by rw [Ref.iP,decide_eq_false (show ¬ 48≤c by omega),Bool.false_and];rfl,rfl⟩
namespace Ref
theorem ti {s:ByteArray} {k:Nat} (h0:small (bt s 0)=true) (h:(small (bt s k)||(iP (bt s k)||decide (bt s k=95)))=true):gU s k=true:=by
 by_cases hk:k=0
 ·rw [hk,qY];exact h0
 ·unfold gU more
  unfold iP at h
  rw [decide_eq_true (show k≠0 from hk),Bool.true_and,Bool.or_comm (decide (bt s k=95))]
  exact h
theorem Cg {s:ByteArray} {k:Nat} (h1:small (bt s k)=false) (h2:iP (bt s k)=false) (h3:¬ bt s k=95):gU s k=false:=by
 unfold gU more
 unfold iP at h2
 rw [h1,h2,decide_eq_false h3,Bool.or_false,Bool.and_false,Bool.or_false]
theorem vH {s:ByteArray} {k:Nat} (hk:k<s.size) (h:gU s k=false):plain s=false:=by
 rw [plain,qh hk h,Bool.false_and]
end Ref
theorem fs (s:ByteArray) (w:World) (hs:s.size≤maxLen):Calls Tryz.prog 244 #[.string s] w fun e w'=>e = .returned (.bool (Ref.plain s))∧w'=w:=by
 unfold maxLen at hs
 have hb:=get_bt s
 by_cases he:s.size=0
 ·have he':(s.toList == [])=true:=by rw [beq_iff_eq,← List.isEmpty_iff,Ref.isEmpty_eq];exact decide_eq_true he
  have HP:Hid (Ref.plain s=false):=by unfold Hid Ref.plain;rw [decide_eq_false (show ¬ 0<s.size by omega),Bool.false_and,Bool.and_false]
  go_enter Tryz.func244,Tryz.ntmps244
  go_wp2
  go_ret
  exact ⟨by rw [HP.out];rfl,rfl⟩
 ·have he':(s.toList == [])=false:=by
   rw [beq_eq_false_iff_ne];intro h
   have:=Ref.isEmpty_eq s
   rw [h] at this
   exact he (of_decide_eq_true this.symm)
  by_cases h8:8<s.size
  ·have HP:Hid (Ref.plain s=false):=by unfold Hid Ref.plain;rw [decide_eq_false (show ¬ s.size≤8 by omega),Bool.and_false,Bool.and_false]
   go_enter Tryz.func244,Tryz.ntmps244
   go_wp2
   go_ret
   exact ⟨by rw [HP.out];rfl,rfl⟩
  ·cases hm:Ref.small (bt s 0)
   ·have HP:Hid (Ref.plain s=false):=Ref.vH (k:=0) (by omega) (by rw [Ref.qY];exact hm)
    have HM:Hid _:=hm
    clear hm
    go_enter Tryz.func244,Tryz.ntmps244
    go_wp2_with (go_at_call 272;refine (cM _ _).mono ?_;rintro e w9 ⟨rfl,hw9⟩;rw [hw9,HM.out];clear hw9 w9)
    go_ret
    exact ⟨by rw [HP.out];rfl,rfl⟩
   ·have HM:Hid _:=hm
    clear hm
    go_enter Tryz.func244,Tryz.ntmps244
    go_wp2_with (go_at_call 272;refine (cM _ _).mono ?_;rintro e w9 ⟨rfl,hw9⟩;rw [hw9,HM.out];clear hw9 w9)
    go_loop [20] (fun i=>∃ k:Nat,k≤s.size∧i = .int .i64 k∧∀ j,j<k→Ref.gU s j=true) (fun i=>s.size-(intOf i).toNat)
    case atStart=>exact ⟨0,Nat.zero_le _,rfl,fun _ h=>by omega⟩
    case round =>
     obtain ⟨k,hk,rfl,hok⟩:=hrel
     have Hok:Hid (∀ j,j<k→Ref.gU s j=true):=hok
     clear hok
     by_cases hlt:k<s.size
     ·cases h1:Ref.small (bt s k)
      ·cases h2:Ref.iP (bt s k)
       ·by_cases h3:bt s k=95
        ·have HS:Hid _:=Ref.tj Hok (Ref.ti HM.out (by rw [decide_eq_true h3,Bool.or_true,Bool.or_true]))
         have H1:Hid _:=h1
         have H2:Hid _:=h2
         have h3':(bt s k != 95)=false:=by rw [h3];rfl
         clear h1 h2 h3
         go_wp2_with (first | (go_at_call 272;refine (cM _ _).mono ?_;rintro e w9 ⟨rfl,hw9⟩;rw [hw9,H1.out];clear hw9 w9) | (go_at_call 273;refine (jH _ _).mono ?_;rintro e w9 ⟨rfl,hw9⟩;rw [hw9,H2.out];clear hw9 w9))
         go_round
         case rel=>exact ⟨k+1,by omega,by go_num,HS.out⟩
         case measure=>simp [intOf];omega
        ·have HP:Hid (Ref.plain s=false):=Ref.vH hlt (Ref.Cg h1 h2 h3)
         have H1:Hid _:=h1
         have H2:Hid _:=h2
         have h3':(bt s k != 95)=true:=by simpa using h3
         clear h1 h2 h3
         go_wp2_with (first | (go_at_call 272;refine (cM _ _).mono ?_;rintro e w9 ⟨rfl,hw9⟩;rw [hw9,H1.out];clear hw9 w9) | (go_at_call 273;refine (jH _ _).mono ?_;rintro e w9 ⟨rfl,hw9⟩;rw [hw9,H2.out];clear hw9 w9))
         go_ret
         exact ⟨by rw [HP.out];rfl,rfl⟩
       ·have HS:Hid _:=Ref.tj Hok (Ref.ti HM.out (by rw [h2,Bool.true_or,Bool.or_true]))
        have H1:Hid _:=h1
        have H2:Hid _:=h2
        clear h1 h2
        go_wp2_with (first | (go_at_call 272;refine (cM _ _).mono ?_;rintro e w9 ⟨rfl,hw9⟩;rw [hw9,H1.out];clear hw9 w9) | (go_at_call 273;refine (jH _ _).mono ?_;rintro e w9 ⟨rfl,hw9⟩;rw [hw9,H2.out];clear hw9 w9))
        go_round
        case rel=>exact ⟨k+1,by omega,by go_num,HS.out⟩
        case measure=>simp [intOf];omega
      ·have HS:Hid _:=Ref.tj Hok (Ref.ti HM.out (by rw [h1,Bool.true_or]))
       have H1:Hid _:=h1
       clear h1
       go_wp2_with (go_at_call 272;refine (cM _ _).mono ?_;rintro e w9 ⟨rfl,hw9⟩;rw [hw9,H1.out];clear hw9 w9)
       go_round
       case rel=>exact ⟨k+1,by omega,by go_num,HS.out⟩
       case measure=>simp [intOf];omega
     ·obtain rfl:k=s.size:=by omega
      have HP:Hid (Ref.plain s=true):=by
       unfold Hid Ref.plain;rw [Ref.zk Hok.out,Bool.true_and,decide_eq_true (show 0<s.size by omega),decide_eq_true (show s.size≤8 by omega)];rfl
      clear hb
      go_wp2
      go_ret
      exact ⟨by rw [HP.out];rfl,rfl⟩
structure fA (w:World):Prop where
 syn:∃ ev,w.cell? ⟨7,0,none⟩=some ev∧(ev = .nilIface∨∃ te pe,ev = .iface te pe)
 rng:∃ ev,w.cell? ⟨8,0,none⟩=some ev∧(ev = .nilIface∨∃ te pe,ev = .iface te pe)
def Dh (s:ByteArray) (w:World) (e:Ending) (w':World):Prop:=Below w.heap.size w w'∧∃ u:Int,e = .returned (.tuple #[.int .u64 u,.bool (Ref.bF s)])∧(Ref.bF s=true→u=Ref.dG s)
theorem mB (w:World) (t:TypeId) (s:ByteArray):Below w.heap.size w (Lib.bytesWorld w t s):=by
 unfold Lib.bytesWorld
 exact Lib.below_freeze ((Below.drew (Below.refl _ w)).alloc (Nat.le_refl _) _) (p:=⟨w.heap.size,_,none⟩) (Nat.le_refl _) 1
theorem qG {w w':World} {p:Addr} {v:Value} (h:w.cell? p=some v) (hb:Below w.heap.size w w'):w'.cell? p=some v:=by
 rw [hb.cell (World.block_lt_of_cell? w _ h)];exact h
theorem fA.ay {w w':World} (h:fA w) (hb:Below w.heap.size w w'):fA w' :=
 let ⟨e1,h1,h2⟩:=h.syn
 let ⟨e3,h3,h4⟩:=h.rng
 ⟨⟨e1,qG h1 hb,h2⟩,⟨e3,qG h3 hb,h4⟩⟩
theorem fp (s p:ByteArray):Lib.hasPrefix s.data.toList p.data.toList=Ref.bJ s p:=by
 rw [← Lib.hasPrefix_raw,Ref.bJ,Ref.yx]
theorem kz {s p:ByteArray} (h:Ref.bJ s p=true):(⟨(Lib.trimPrefix s.data.toList p.data.toList).toArray⟩:ByteArray)=s.extract p.size s.size:=by
 refine Lib.trimPrefix_hit s p (Ref.nj h) ?_
 rw [Ref.yx]
 rw [Ref.bJ,Bool.and_eq_true] at h
 exact h.2
theorem kQ (s:ByteArray) (w:World) (hs:s.size≤1073741824) (hv:fA w):Calls Tryz.prog 250 #[.string s] w (Dh s w):=by
 have hb:=get_bt s
 by_cases h0:1<s.size∧bt s 0=48
 ·obtain ⟨h1,h2⟩:=h0
  have HD:Hid (Ref.bF s=false):=by
   unfold Hid
   rw [Ref.bF,Ref.oA,decide_eq_true h1,decide_eq_true h2,Bool.true_and,Bool.or_true,Bool.true_or,Bool.true_or,Bool.not_true,Bool.and_false]
  have h2':(bt s 0 == 48)=true:=by rw [h2];rfl
  clear h2
  go_enter Tryz.func250,Tryz.ntmps250
  go_wp2
  go_ret2
  exact ⟨Below.refl _ _,0,by rw [HD.out];rfl,fun h=>by rw [HD.out] at h;cases h⟩
 ·have HN:Hid _:=Num.vA s h0
  have HD0:Hid (decide (1<s.size)=true→(bt s 0 == 48)=false):=fun h=>by
   rw [beq_eq_false_iff_ne];exact fun e=>h0 ⟨of_decide_eq_true h,e⟩
  clear h0
  go_enter Tryz.func250,Tryz.ntmps250
  go_upto_region 1 with fail
  go_cut [13] (fun c wx=>c = .bool false∧wx=w)
  case first =>
   by_cases h1:1<s.size
   ·have h2':=HD0.out (decide_eq_true h1)
    go_wp2
    go_meet
    case rel=>exact ⟨rfl,rfl⟩
   ·go_wp2
    go_meet
    case rel=>exact ⟨rfl,rfl⟩
  case rest =>
   obtain ⟨rfl,hwc⟩:=hcut
   rw [hwc]
   clear hwc wc
   cases hp:Lib.parseUintB 64 s.data.toList with
   | ok u =>
    have HU:Hid _:=HN.out.1 u hp
    go_wp2_with fail
    refine (Tryz.strconv_ParseUint_10_at64_ok s (by omega) u hp _).mono ?_
    rintro e w1 ⟨rfl,hw1⟩
    have hb1:Below w.heap.size w w1:=by
     rcases hw1 with h | h
     ·rw [h];exact Below.refl _ _
     ·rw [h];exact mB _ _ _
    clear hw1 hp
    dsimp only
    go_wp2
    go_quiet (fail)
    go_wp2
    go_ret2
    exact ⟨below_drewN hb1 _,u,by rw [HU.out.1];rfl,fun _=>HU.out.2.symm⟩
   | «syntax» =>
    have HU:Hid _:=HN.out.2 (fun u h=>by rw [hp] at h;cases h)
    obtain ⟨ev,hv1,hv2⟩:=hv.syn
    go_wp2_with fail
    refine (Tryz.strconv_ParseUint_10_at64_syntax s (by omega) hp ev _ hv1 hv2).mono ?_
    rintro e w1 ⟨N,rfl,hN,hcell,hb1⟩
    clear hp hcell
    dsimp only
    go_wp2
    go_quiet (fail)
    go_wp2
    go_ret2
    exact ⟨below_drewN hb1 _,0,by rw [HU.out];rfl,fun h=>by rw [HU.out] at h;cases h⟩
   | range =>
    have HU:Hid _:=HN.out.2 (fun u h=>by rw [hp] at h;cases h)
    obtain ⟨ev,hv1,hv2⟩:=hv.rng
    go_wp2_with fail
    refine (Tryz.strconv_ParseUint_10_at64_range s (by omega) hp ev _ hv1 hv2).mono ?_
    rintro e w1 ⟨N,rfl,hN,hcell,hb1⟩
    clear hp hcell
    dsimp only
    go_wp2
    go_quiet (fail)
    go_wp2
    go_ret2
    exact ⟨below_drewN hb1 _,18446744073709551615,by rw [HU.out];rfl,fun h=>by rw [HU.out] at h;cases h⟩
theorem jJ (s:ByteArray) (w:World) (hs:s.size≤1073741824) (hv:fA w):Calls Tryz.prog 276 #[.string s] w fun e w'=>e = .returned (.bool (Ref.jN s))∧Below w.heap.size w w':=by
 cases hb:Ref.bJ s Ref.bB
 ·have HL:Hid (Ref.jN s=false):=by unfold Hid Ref.jN;rw [hb,Bool.false_and]
  have HB:Hid _:=(fp s Ref.bB).trans hb
  clear hb
  go_enter Tryz.func276,Tryz.ntmps276
  go_wp2_with fail
  refine (Tryz.strings_CutPrefix s Ref.bB _).mono ?_
  rintro e w9 ⟨rfl,hw9⟩
  rw [hw9,HB.out]
  clear hw9 w9
  dsimp only
  go_wp2
  go_ret
  exact ⟨by rw [HL.out];rfl,Below.refl _ _⟩
 ·have HL:Hid (Ref.jN s=(Ref.bF (s.extract 6 s.size)&&(decide (0<Ref.dG (s.extract 6 s.size))&&decide (Ref.dG (s.extract 6 s.size)≤1500)))):=by unfold Hid Ref.jN;rw [hb,Bool.true_and]
  have HB:Hid _:=(fp s Ref.bB).trans hb
  have HC:Hid ((⟨(Lib.trimPrefix s.data.toList Ref.bB.data.toList).toArray⟩:ByteArray)=s.extract 6 s.size):=kz hb
  have hr:(s.extract 6 s.size).size≤1073741824:=by simp;omega
  clear hb
  go_enter Tryz.func276,Tryz.ntmps276
  go_wp2_with fail
  refine (Tryz.strings_CutPrefix s Ref.bB _).mono ?_
  rintro e w9 ⟨rfl,hw9⟩
  rw [hw9,HB.out,HC.out]
  clear hw9 w9 HC
  generalize s.extract 6 s.size=r at *
  dsimp only
  go_wp2_with fail
  refine (kQ r _ hr hv).mono ?_
  rintro e w1 ⟨hb1,u,rfl,hu⟩
  have HU:Hid _:=hu
  clear hu
  dsimp only
  cases hk:Ref.bF r
  ·have HK:Hid _:=hk
   clear hk
   go_wp2
   go_ret
   exact ⟨by rw [HL.out,HK.out];rfl,hb1⟩
  ·have HV:Hid _:=HU.out hk
   have HK:Hid _:=hk
   clear hk HU
   by_cases h1:1≤u
   ·by_cases h2:u≤1500
    ·have HR:Hid (Ref.jN s=true):=by unfold Hid;rw [HL.out,HK.out,← HV.out,decide_eq_true (show 0<u by omega),decide_eq_true h2];rfl
     go_wp2
     go_ret
     exact ⟨by rw [HR.out];simp,hb1⟩
    ·have HR:Hid (Ref.jN s=false):=by unfold Hid;rw [HL.out,HK.out,← HV.out,decide_eq_false h2,Bool.and_false];rfl
     have h2':decide (u≤1500)=false:=decide_eq_false h2
     go_wp2
     go_ret
     exact ⟨by rw [HR.out];simp,hb1⟩
   ·have HR:Hid (Ref.jN s=false):=by unfold Hid;rw [HL.out,HK.out,← HV.out,decide_eq_false (show ¬ 0<u by omega),Bool.false_and];rfl
    go_wp2
    go_ret
    exact ⟨by rw [HR.out];rfl,hb1⟩
theorem gC (s:ByteArray) (w:World) (hs:s.size≤1073741824) (hv:fA w):Calls Tryz.prog 248 #[.string s] w fun e w'=>e = .returned (.bool (Ref.called s))∧Below w.heap.size w w':=by
 cases hp:Ref.plain s
 ·cases hl:Ref.jN s
  ·have HC:Hid (Ref.called s=false):=by unfold Hid Ref.called;rw [hp,hl];rfl
   have HP:Hid _:=hp
   have HL:Hid _:=hl
   clear hp hl
   go_enter Tryz.func248,Tryz.ntmps248
   go_wp2_with (first
    | (go_at_call 244;refine (fs s _ (by unfold maxLen;omega)).mono ?_;rintro e w9 ⟨rfl,hw9⟩;rw [hw9,HP.out];clear hw9 w9)
    | (go_at_call 276;refine (jJ s _ hs hv).mono ?_;rintro e w9 ⟨rfl,hb9⟩;rw [HL.out]))
   go_ret
   exact ⟨by rw [HC.out];rfl,hb9⟩
  ·have HC:Hid (Ref.called s=true):=by unfold Hid Ref.called;rw [hp,hl];rfl
   have HP:Hid _:=hp
   have HL:Hid _:=hl
   clear hp hl
   go_enter Tryz.func248,Tryz.ntmps248
   go_wp2_with (first
    | (go_at_call 244;refine (fs s _ (by unfold maxLen;omega)).mono ?_;rintro e w9 ⟨rfl,hw9⟩;rw [hw9,HP.out];clear hw9 w9)
    | (go_at_call 276;refine (jJ s _ hs hv).mono ?_;rintro e w9 ⟨rfl,hb9⟩;rw [HL.out]))
   go_ret
   exact ⟨by rw [HC.out];rfl,hb9⟩
 ·have HC:Hid (Ref.called s=true):=by unfold Hid Ref.called;rw [hp,Bool.true_or]
  have HP:Hid _:=hp
  clear hp
  go_enter Tryz.func248,Tryz.ntmps248
  go_wp2_with (go_at_call 244;refine (fs s _ (by unfold maxLen;omega)).mono ?_;rintro e w9 ⟨rfl,hw9⟩;rw [hw9,HP.out];clear hw9 w9)
  go_ret
  exact ⟨by rw [HC.out];rfl,Below.refl _ _⟩
theorem oR (s:ByteArray) (w:World) (hs:s.size≤1073741824) (hb:Ref.bJ s Ref.iQ=true) (hp:Ref.plain (s.extract 5 s.size)=true):Calls Tryz.prog 220 #[.string s] w fun e w'=>e = .returned (.bool (Ref.bG s))∧Below w.heap.size w w':=by
 have HR:Hid (Ref.bG s=true):=by unfold Hid Ref.bG;rw [hb,hp,Bool.and_self,Bool.or_true]
 have HB:Hid _:=(fp s Ref.iQ).trans hb
 have HC:Hid ((⟨(Lib.trimPrefix s.data.toList Ref.iQ.data.toList).toArray⟩:ByteArray)=s.extract 5 s.size):=kz hb
 have HP:Hid _:=hp
 have hr:(s.extract 5 s.size).size≤1073741824:=by simp;omega
 clear hb hp
 go_enter Tryz.func220,Tryz.ntmps220
 go_wp2_with fail
 refine (Tryz.strings_CutPrefix s Ref.iQ _).mono ?_
 rintro e w9 ⟨rfl,hw9⟩
 rw [hw9,HB.out,HC.out]
 clear hw9 w9 HC
 generalize s.extract 5 s.size=r at *
 dsimp only
 go_wp2_with (go_at_call 244;refine (fs r _ (by unfold maxLen;omega)).mono ?_;rintro e w9 ⟨rfl,hw9⟩;rw [hw9,HP.out];clear hw9 w9)
 go_ret
 exact ⟨by rw [HR.out];rfl,Below.refl _ _⟩
theorem oS (s:ByteArray) (w:World) (hs:s.size≤1073741824) (hv:fA w) (hb:Ref.bJ s Ref.iQ=false):Calls Tryz.prog 220 #[.string s] w fun e w'=>e = .returned (.bool (Ref.bG s))∧Below w.heap.size w w':=by
 have HR:Hid (Ref.bG s=Ref.called s):=by unfold Hid Ref.bG;rw [hb,Bool.false_and,Bool.or_false]
 have HB:Hid _:=(fp s Ref.iQ).trans hb
 clear hb
 cases hc:Ref.called s
 all_goals
  have HC:Hid _:=hc
  clear hc
  go_enter Tryz.func220,Tryz.ntmps220
  go_wp2_with fail
  refine (Tryz.strings_CutPrefix s Ref.iQ _).mono ?_
  rintro e w9 ⟨rfl,hw9⟩
  rw [hw9,HB.out]
  clear hw9 w9
  dsimp only
  go_wp2_with (go_at_call 248;refine (gC s _ hs hv).mono ?_;rintro e w9 ⟨rfl,hb9⟩;rw [HC.out])
  go_ret
  exact ⟨by rw [HR.out,HC.out];rfl,hb9⟩
theorem sO (s:ByteArray) (w:World) (hs:s.size≤1073741824) (hv:fA w) (hb:Ref.bJ s Ref.iQ=true) (hp:Ref.plain (s.extract 5 s.size)=false):Calls Tryz.prog 220 #[.string s] w fun e w'=>e = .returned (.bool (Ref.bG s))∧Below w.heap.size w w':=by
 have HR:Hid (Ref.bG s=Ref.called s):=by unfold Hid Ref.bG;rw [hb,hp,Bool.and_false,Bool.or_false]
 have HB:Hid _:=(fp s Ref.iQ).trans hb
 have HC0:Hid ((⟨(Lib.trimPrefix s.data.toList Ref.iQ.data.toList).toArray⟩:ByteArray)=s.extract 5 s.size):=kz hb
 have HP:Hid _:=hp
 have hr:(s.extract 5 s.size).size≤1073741824:=by simp;omega
 clear hb hp
 cases hc:Ref.called s
 all_goals
  have HC:Hid _:=hc
  clear hc
  go_enter Tryz.func220,Tryz.ntmps220
  go_wp2_with fail
  refine (Tryz.strings_CutPrefix s Ref.iQ _).mono ?_
  rintro e w9 ⟨rfl,hw9⟩
  rw [hw9,HB.out,HC0.out]
  clear hw9 w9 HC0
  generalize s.extract 5 s.size=r at *
  dsimp only
  go_wp2_with (first
   | (go_at_call 244;refine (fs r _ (by unfold maxLen;omega)).mono ?_;rintro e w9 ⟨rfl,hw9⟩;rw [hw9,HP.out];clear hw9 w9)
   | (go_at_call 248;refine (gC s _ hs hv).mono ?_;rintro e w9 ⟨rfl,hb9⟩;rw [HC.out]))
  go_ret
  exact ⟨by rw [HR.out,HC.out];rfl,hb9⟩
theorem p7 (s:ByteArray) (w:World) (hs:s.size≤1073741824) (hv:fA w):Calls Tryz.prog 220 #[.string s] w fun e w'=>e = .returned (.bool (Ref.bG s))∧Below w.heap.size w w':=by
 cases hb:Ref.bJ s Ref.iQ
 ·exact oS s w hs hv hb
 ·cases hp:Ref.plain (s.extract 5 s.size)
  ·exact sO s w hs hv hb hp
  ·exact oR s w hs hb hp
structure Env (w:World):Prop where
 err:fA w
 tab:Lib.TabIs Tryz.prog w "internal/strconv.uint64pow10" .u64 Lib.pow10Tab
theorem Env.ay {w w':World} (h:Env w) (hb:Below w.heap.size w w'):Env w':=⟨h.err.ay hb,Lib.tabBelow_of_tabIs h.tab w' hb⟩
theorem gO (n:Nat) (w:World) (hn:n≤1073741824) (hv:Env w):Calls Tryz.prog 221 #[.int .i64 n] w fun e w'=>e = .returned (.string (Ref.bB++Ref.dec n))∧Below w.heap.size w w':=by
 have hd:(Ref.dec n).size≤20:=Ref.iZ (by omega)
 have HI:Hid ((⟨(Lib.itoa n).toArray⟩:ByteArray)=Ref.dec n):=by
  unfold Hid Lib.itoa Ref.dec
  rw [if_neg (by omega)];rfl
 go_enter Tryz.func221,Tryz.ntmps221
 go_wp2_with fail
 refine (Tryz.strconv_Itoa n (by omega) (by omega) _ hv.tab).mono ?_
 rintro e w1 ⟨rfl,k,os,hw1⟩
 have hb1:Below w.heap.size w w1:=by rw [hw1];exact Lib.below_grow _ _ (Nat.le_refl _) _ _
 rw [HI.out]
 clear hw1
 dsimp only
 go_wp2
 go_ret
 exact ⟨rfl,hb1⟩
def aY (er line:Int) (w:World) (e:Ending) (w':World):Prop:=Below w.heap.size w w'∧∃ b,w.heap.size≤b∧w'.heap[b]?=some (.cells #[.int .i64 er,.int .i64 line] 163 (0,0))∧e = .panicked [{ v := .iface 218 (.agg #[.pointer (some ⟨b,0,none⟩)]),recovered:=false }]
theorem aL (num dep er:Int) (w:World):Calls Tryz.prog 139 #[.agg #[.int .i64 num,.int .i64 dep],.int .i64 er] w (aY er num w):=by
 go_enter Tryz.func139,Tryz.ntmps139
 go_wp2
 refine ⟨rfl,((Below.refl _ _).alloc (Nat.le_refl _) _).alloc (by simp) _,w.heap.size+1,by omega,?_,rfl⟩
 have h:=heap_alloc_new (w.alloc (.cells #[.int .i64 num,.int .i64 dep] 286)) (.cells #[.int .i64 er,.int .i64 num] 163)
 simpa using h
structure aa (w:World) (p:Nat) (num dep:Int) (l:List ByteArray):Prop where
 row:∃ a cap,w.heap[p]?=some (.cells #[.int .i64 num,.int .i64 dep,.slice a l.length cap] 343 (0,0))∧l.length≤cap∧(0<l.length→∃ b off,a=some ⟨b,off,none⟩∧b<p∧b<w.heap.size∧oe w b off l)
 len:l.length≤1073741824
 sizes:∀ x∈l,x.size≤1073741824
theorem aa.kZ {w:World} {p b off cap cap':Nat} {num dep:Int} {x:ByteArray} {r:List ByteArray} {a':Option Addr} (H:aa w p num dep (x::r)) (hp:w.heap[p]?=some (.cells #[.int .i64 num,.int .i64 dep,.slice (some ⟨b,off,none⟩) (x::r).length cap] 343 (0,0)))
  (hbp:b<p) (hbw:b<w.heap.size) (hst:oe w b off (x::r)) (hc:r.length≤cap') (ha:0<r.length→a'=some ⟨b,off+1,none⟩):aa (w.setCell ⟨p,2,none⟩ (.slice a' r.length cap')) p num dep r:=by
 have ho:=ae w p 2 (.slice a' r.length cap')
 refine ⟨⟨a',cap',?_,hc,fun h=>⟨b,off+1,ha h,hbp,by rw [ho.size];exact hbw,?_⟩⟩,by have:=H.len;simp at this;omega,fun y hy=>H.sizes y (List.mem_cons_of_mem _ hy)⟩
 ·rw [heap_setCell_same w p 2 _ _ _ hp];rfl
 ·intro i hi
  have:=hst.drop 1 i (by simpa using hi)
  rw [ho.cell (p:=⟨b,off+1+i,none⟩) (Nat.ne_of_lt hbp),this]
  rfl
theorem j7 (p:Nat) (num dep:Int) (w:World) (H:aa w p num dep []) :
  Calls Tryz.prog 215 #[.pointer (some ⟨p,0,none⟩)] w (aY 2 num w):=by
 obtain ⟨a,cap,hp,hc,hs⟩:=H.row
 have c0:w.cell? ⟨p,0,none⟩=some (.int .i64 num):=by rw [cell_of_row w p 0 _ _ _ hp];rfl
 have c1:w.cell? ⟨p,1,none⟩=some (.int .i64 dep):=by rw [cell_of_row w p 1 _ _ _ hp];rfl
 have c2:w.cell? ⟨p,2,none⟩=some (.slice a 0 cap):=by rw [cell_of_row w p 2 _ _ _ hp];rfl
 go_enter Tryz.func215,Tryz.ntmps215
 go_wp2_with fail
 refine (aL num dep 2 _).mono ?_
 rintro e w1 h1
 obtain ⟨hb,b,h2,h3,rfl⟩:=h1
 dsimp only
 exact ⟨rfl,hb,b,h2,h3,rfl⟩
theorem az (p:Nat) (num dep:Int) (x:ByteArray) (r:List ByteArray) (w:World) (H:aa w p num dep (x::r)) :
  Calls Tryz.prog 215 #[.pointer (some ⟨p,0,none⟩)] w fun e w'=>e = .returned (.string x)∧fQ p w w'∧aa w' p num dep r:=by
 obtain ⟨a,cap,hp,hc,hs⟩:=H.row
 have c2:w.cell? ⟨p,2,none⟩=some (.slice a (x::r).length cap):=by rw [cell_of_row w p 2 _ _ _ hp];rfl
 have fr:w.frozen? ⟨p,2,none⟩=false:=by simp [World.frozen?,hp]
 obtain ⟨b,off,rfl,hbp,hbw,hst⟩:=hs (by simp)
 have d0:=hst 0 (by simp)
 simp only [Ref.at',List.getD_cons_zero,Nat.add_zero] at d0
 have hc1:r.length+1≤cap:=by simpa using hc
 go_enter Tryz.func215,Tryz.ntmps215
 go_wp2
 ·go_ret
  exact ⟨rfl,ae _ _ _ _,H.kZ hp hbp hbw hst (by omega) (fun h=>by omega)⟩
 ·go_ret
  exact ⟨rfl,ae _ _ _ _,H.kZ hp hbp hbw hst (by omega) (fun _=>rfl)⟩
theorem skip_none (p:Nat) (num dep:Int) (k:ByteArray) (w:World) (H:aa w p num dep []) :
  Calls Tryz.prog 245 #[.pointer (some ⟨p,0,none⟩),.string k] w fun e w'=>e = .returned (.bool false)∧w'=w:=by
 obtain ⟨a,cap,hp,hc,hs⟩:=H.row
 have c2:w.cell? ⟨p,2,none⟩=some (.slice a 0 cap):=by rw [cell_of_row w p 2 _ _ _ hp];rfl
 go_enter Tryz.func245,Tryz.ntmps245
 go_wp2
 go_ret
 exact ⟨rfl,rfl⟩
theorem n8 (p:Nat) (num dep:Int) (x:ByteArray) (r:List ByteArray) (k:ByteArray) (w:World) (H:aa w p num dep (x::r)) (hk:(x.toList == k.toList)=false) :
  Calls Tryz.prog 245 #[.pointer (some ⟨p,0,none⟩),.string k] w fun e w'=>e = .returned (.bool false)∧w'=w:=by
 obtain ⟨a,cap,hp,hc,hs⟩:=H.row
 have c2:w.cell? ⟨p,2,none⟩=some (.slice a (x::r).length cap):=by rw [cell_of_row w p 2 _ _ _ hp];rfl
 obtain ⟨b,off,rfl,hbp,hbw,hst⟩:=hs (by simp)
 have d0:=hst 0 (by simp)
 simp only [Ref.at',List.getD_cons_zero,Nat.add_zero] at d0
 have hk':(x.toList != k.toList)=true:=by rw [bne,hk];rfl
 go_enter Tryz.func245,Tryz.ntmps245
 go_wp2
 go_ret
 exact ⟨rfl,rfl⟩
theorem iT (p:Nat) (num dep:Int) (x:ByteArray) (r:List ByteArray) (k:ByteArray) (w:World) (H:aa w p num dep (x::r)) (hk:(x.toList == k.toList)=true) :
  Calls Tryz.prog 245 #[.pointer (some ⟨p,0,none⟩),.string k] w fun e w'=>e = .returned (.bool true)∧fQ p w w'∧aa w' p num dep r:=by
 obtain ⟨a,cap,hp,hc,hs⟩:=H.row
 have c2:w.cell? ⟨p,2,none⟩=some (.slice a (x::r).length cap):=by rw [cell_of_row w p 2 _ _ _ hp];rfl
 have fr:w.frozen? ⟨p,2,none⟩=false:=by simp [World.frozen?,hp]
 obtain ⟨b,off,rfl,hbp,hbw,hst⟩:=hs (by simp)
 have d0:=hst 0 (by simp)
 simp only [Ref.at',List.getD_cons_zero,Nat.add_zero] at d0
 have hc1:r.length+1≤cap:=by simpa using hc
 have hk':(x.toList != k.toList)=false:=by rw [bne,hk];rfl
 go_enter Tryz.func245,Tryz.ntmps245
 go_wp2
 ·go_ret
  exact ⟨rfl,ae _ _ _ _,H.kZ hp hbp hbw hst (by omega) (fun h=>by omega)⟩
 ·go_ret
  exact ⟨rfl,ae _ _ _ _,H.kZ hp hbp hbw hst (by omega) (fun _=>rfl)⟩
theorem Fm (p:Nat) (num dep:Int) (w:World) (H:aa w p num dep []) :
  Calls Tryz.prog 177 #[.pointer (some ⟨p,0,none⟩)] w fun e w'=>e = .returned (.tuple #[])∧w'=w:=by
 obtain ⟨a,cap,hp,hc,hs⟩:=H.row
 have c2:w.cell? ⟨p,2,none⟩=some (.slice a 0 cap):=by rw [cell_of_row w p 2 _ _ _ hp];rfl
 go_enter Tryz.func177,Tryz.ntmps177
 go_wp2
 go_end0
 exact ⟨rfl,rfl⟩
theorem Dz (p:Nat) (num dep:Int) (l:List ByteArray) (w:World) (H:aa w p num dep l) (h0:0<l.length) :
  Calls Tryz.prog 177 #[.pointer (some ⟨p,0,none⟩)] w (aY 2 num w):=by
 obtain ⟨a,cap,hp,hc,hs⟩:=H.row
 have c0:w.cell? ⟨p,0,none⟩=some (.int .i64 num):=by rw [cell_of_row w p 0 _ _ _ hp];rfl
 have c1:w.cell? ⟨p,1,none⟩=some (.int .i64 dep):=by rw [cell_of_row w p 1 _ _ _ hp];rfl
 have c2:w.cell? ⟨p,2,none⟩=some (.slice a l.length cap):=by rw [cell_of_row w p 2 _ _ _ hp];rfl
 go_enter Tryz.func177,Tryz.ntmps177
 go_wp2_with fail
 refine (aL num dep 2 _).mono ?_
 rintro e w1 h1
 obtain ⟨hb,b,h2,h3,rfl⟩:=h1
 dsimp only
 exact ⟨rfl,hb,b,h2,h3,rfl⟩
end
section
open Go.RowKit
structure ai (p:Nat) (w w':World):Prop where
 os:w'.os=w.os
 tape:w'.tape=w.tape
 output:w'.output=w.output
 size:w.heap.size≤w'.heap.size
 block:∀ k,k<w.heap.size→k≠p→w'.heap[k]?=w.heap[k]?
theorem ai.refl (p:Nat) (w:World):ai p w w:=⟨rfl,rfl,rfl,Nat.le_refl _,fun _ _ _=>rfl⟩
theorem ai.trans {p:Nat} {a b c:World} (h:ai p a b) (k:ai p b c):ai p a c :=
 ⟨k.os.trans h.os,k.tape.trans h.tape,k.output.trans h.output,Nat.le_trans h.size k.size,fun i hi hp=>(k.block i (Nat.lt_of_lt_of_le hi h.size) hp).trans (h.block i hi hp)⟩
theorem fQ.ah {p:Nat} {w w':World} (h:fQ p w w'):ai p w w':=⟨h.os,h.tape,h.output,by rw [h.size];exact Nat.le_refl _,fun k _ hp=>h.block k hp⟩
theorem aH {p:Nat} {w w':World} (h:Below w.heap.size w w'):ai p w w':=⟨h.os,h.tape,h.output,h.size,fun k hk _=>h.block k hk⟩
theorem ai.below {p B:Nat} {a w w':World} (h:ai p w w') (hb:Below B a w) (hB:B≤p) (hs:B≤w.heap.size):Below B a w' :=
 hb.trans ⟨h.os,h.tape,h.output,h.size,fun k hk=>h.block k (by omega) (by omega)⟩
def bh (p:Nat) (w:World):Prop:=∃ w0:World,w0.heap.size≤p∧Env w0∧Below w0.heap.size w0 w
theorem bh.here {p:Nat} {w:World} (h:bh p w):Env w:=let ⟨_,_,h2,h3⟩:=h;h2.ay h3
theorem bh.ah {p:Nat} {w w':World} (h:bh p w) (ht:ai p w w'):bh p w' :=
 let ⟨w0,h1,h2,h3⟩:=h
 ⟨w0,h1,h2,ht.below h3 h1 h3.size⟩
theorem aa.ay {w w':World} {p:Nat} {num dep:Int} {l:List ByteArray} (H:aa w p num dep l) (hb:Below w.heap.size w w'):aa w' p num dep l:=by
 obtain ⟨a,cap,hp,hc,hs⟩:=H.row
 refine ⟨⟨a,cap,?_,hc,fun h => ?_⟩,H.len,H.sizes⟩
 ·rw [hb.block p (Array.getElem?_eq_some_iff.1 hp).1];exact hp
 ·obtain ⟨b,off,h1,h2,h3,h4⟩:=hs h
  exact ⟨b,off,h1,h2,Nat.lt_of_lt_of_le h3 hb.size,h4.below hb h3⟩
def bT (p:Nat) (er line:Int) (w:World) (e:Ending) (w':World):Prop:=ai p w w'∧∃ b,w.heap.size≤b∧w'.heap[b]?=some (.cells #[.int .i64 er,.int .i64 line] 163 (0,0))∧e = .panicked [{ v := .iface 218 (.agg #[.pointer (some ⟨b,0,none⟩)]),recovered:=false }]
theorem bK {p:Nat} {er line:Int} {w0 w w':World} {e:Ending} (ht:ai p w0 w) (h:aY er line w e w'):bT p er line w0 e w':=by
 obtain ⟨hb,b,h2,h3,h4⟩:=h
 exact ⟨ht.trans (aH hb),b,Nat.le_trans ht.size h2,h3,h4⟩
theorem aa.cells {w:World} {p:Nat} {num dep:Int} {l:List ByteArray} (H:aa w p num dep l):w.cell? ⟨p,0,none⟩=some (.int .i64 num)∧w.cell? ⟨p,1,none⟩=some (.int .i64 dep):=by
 obtain ⟨a,cap,hp,hc,hs⟩:=H.row
 exact ⟨by rw [cell_of_row w p 0 _ _ _ hp];rfl,by rw [cell_of_row w p 1 _ _ _ hp];rfl⟩
def AZ (f:Nat) (P:ByteArray→Bool):Prop:=∀ (s:ByteArray) (w:World),s.size≤1073741824→Env w→Calls Tryz.prog f #[.string s] w fun e w'=>e = .returned (.bool (P s))∧Below w.heap.size w w'
theorem pO:AZ 244 Ref.plain:=fun s w hs _=>(fs s w (by unfold maxLen;omega)).mono (by rintro e w' ⟨rfl,rfl⟩;exact ⟨rfl,Below.refl _ _⟩)
theorem rO:AZ 248 Ref.called:=fun s w hs hv=>gC s w hs hv.err
theorem kx:AZ 220 Ref.bG:=fun s w hs hv=>p7 s w hs hv.err
theorem ig (p:Nat) (num dep:Int) (f:Nat) (w:World) (H:aa w p num dep []) :
  Calls Tryz.prog 219 #[.pointer (some ⟨p,0,none⟩),.func (.func f) #[] #[]] w (bT p 2 num w):=by
 go_enter Tryz.func219,Tryz.ntmps219
 go_wp2_with fail
 refine (j7 p num dep _ H).mono ?_
 rintro e w1 h1
 have h2:=bK (ai.refl p w) h1
 obtain ⟨ht,b,h3,h4,rfl⟩:=h2
 dsimp only
 exact ⟨rfl,ht,b,h3,h4,rfl⟩
theorem o8 (p:Nat) (num dep:Int) (x:ByteArray) (r:List ByteArray) (w:World) (H:aa w p num dep (x::r)) (hv:bh p w) (hx:Ref.plain x=false) :
  Calls Tryz.prog 219 #[.pointer (some ⟨p,0,none⟩),.func (.func 244) #[] #[]] w (bT p 2 num w):=by
 have hsz:=H.sizes x (by simp)
 go_enter Tryz.func219,Tryz.ntmps219
 go_wp2_with fail
 refine (az p num dep x r _ H).mono ?_
 rintro e w1 ⟨rfl,ho,H1⟩
 have ht1:=ho.ah
 have hv1:=hv.ah ht1
 clear ho
 dsimp only
 go_wp2_with fail
 refine (pO x _ hsz hv1.here).mono ?_
 rintro e w2 ⟨rfl,hb2⟩
 rw [hx]
 have H2:=H1.ay hb2
 obtain ⟨c0,c1⟩:=H2.cells
 have ht2:ai p w w2:=ht1.trans (aH hb2)
 clear H1 hb2 ht1 hv1
 dsimp only
 go_wp2_with fail
 refine (aL num dep 2 _).mono ?_
 rintro e w3 h3
 obtain ⟨ht,b,h4,h5,rfl⟩:=bK ht2 h3
 dsimp only
 exact ⟨rfl,ht,b,h4,h5,rfl⟩
theorem nK (p:Nat) (num dep:Int) (x:ByteArray) (r:List ByteArray) (w:World) (H:aa w p num dep (x::r)) (hv:bh p w) (hx:Ref.plain x=true) :
  Calls Tryz.prog 219 #[.pointer (some ⟨p,0,none⟩),.func (.func 244) #[] #[]] w fun e w'=>e = .returned (.string x)∧ai p w w'∧aa w' p num dep r:=by
 have hsz:=H.sizes x (by simp)
 go_enter Tryz.func219,Tryz.ntmps219
 go_wp2_with fail
 refine (az p num dep x r _ H).mono ?_
 rintro e w1 ⟨rfl,ho,H1⟩
 have ht1:=ho.ah
 have hv1:=hv.ah ht1
 clear ho
 dsimp only
 go_wp2_with fail
 refine (pO x _ hsz hv1.here).mono ?_
 rintro e w2 ⟨rfl,hb2⟩
 rw [hx]
 have H2:=H1.ay hb2
 have ht2:ai p w w2:=ht1.trans (aH hb2)
 clear H1 hb2 ht1 hv1
 dsimp only
 go_wp2
 go_ret
 exact ⟨rfl,ht2,H2⟩
theorem kr (p:Nat) (num dep:Int) (x:ByteArray) (r:List ByteArray) (w:World) (H:aa w p num dep (x::r)) (hv:bh p w) (hx:Ref.called x=false) :
  Calls Tryz.prog 219 #[.pointer (some ⟨p,0,none⟩),.func (.func 248) #[] #[]] w (bT p 2 num w):=by
 have hsz:=H.sizes x (by simp)
 go_enter Tryz.func219,Tryz.ntmps219
 go_wp2_with fail
 refine (az p num dep x r _ H).mono ?_
 rintro e w1 ⟨rfl,ho,H1⟩
 have ht1:=ho.ah
 have hv1:=hv.ah ht1
 clear ho
 dsimp only
 go_wp2_with fail
 refine (rO x _ hsz hv1.here).mono ?_
 rintro e w2 ⟨rfl,hb2⟩
 rw [hx]
 have H2:=H1.ay hb2
 obtain ⟨c0,c1⟩:=H2.cells
 have ht2:ai p w w2:=ht1.trans (aH hb2)
 clear H1 hb2 ht1 hv1
 dsimp only
 go_wp2_with fail
 refine (aL num dep 2 _).mono ?_
 rintro e w3 h3
 obtain ⟨ht,b,h4,h5,rfl⟩:=bK ht2 h3
 dsimp only
 exact ⟨rfl,ht,b,h4,h5,rfl⟩
theorem jQ (p:Nat) (num dep:Int) (x:ByteArray) (r:List ByteArray) (w:World) (H:aa w p num dep (x::r)) (hv:bh p w) (hx:Ref.called x=true) :
  Calls Tryz.prog 219 #[.pointer (some ⟨p,0,none⟩),.func (.func 248) #[] #[]] w fun e w'=>e = .returned (.string x)∧ai p w w'∧aa w' p num dep r:=by
 have hsz:=H.sizes x (by simp)
 go_enter Tryz.func219,Tryz.ntmps219
 go_wp2_with fail
 refine (az p num dep x r _ H).mono ?_
 rintro e w1 ⟨rfl,ho,H1⟩
 have ht1:=ho.ah
 have hv1:=hv.ah ht1
 clear ho
 dsimp only
 go_wp2_with fail
 refine (rO x _ hsz hv1.here).mono ?_
 rintro e w2 ⟨rfl,hb2⟩
 rw [hx]
 have H2:=H1.ay hb2
 have ht2:ai p w w2:=ht1.trans (aH hb2)
 clear H1 hb2 ht1 hv1
 dsimp only
 go_wp2
 go_ret
 exact ⟨rfl,ht2,H2⟩
theorem lN (p:Nat) (num dep:Int) (x:ByteArray) (r:List ByteArray) (w:World) (H:aa w p num dep (x::r)) (hv:bh p w) (hx:Ref.bG x=false) :
  Calls Tryz.prog 219 #[.pointer (some ⟨p,0,none⟩),.func (.func 220) #[] #[]] w (bT p 2 num w):=by
 have hsz:=H.sizes x (by simp)
 go_enter Tryz.func219,Tryz.ntmps219
 go_wp2_with fail
 refine (az p num dep x r _ H).mono ?_
 rintro e w1 ⟨rfl,ho,H1⟩
 have ht1:=ho.ah
 have hv1:=hv.ah ht1
 clear ho
 dsimp only
 go_wp2_with fail
 refine (kx x _ hsz hv1.here).mono ?_
 rintro e w2 ⟨rfl,hb2⟩
 rw [hx]
 have H2:=H1.ay hb2
 obtain ⟨c0,c1⟩:=H2.cells
 have ht2:ai p w w2:=ht1.trans (aH hb2)
 clear H1 hb2 ht1 hv1
 dsimp only
 go_wp2_with fail
 refine (aL num dep 2 _).mono ?_
 rintro e w3 h3
 obtain ⟨ht,b,h4,h5,rfl⟩:=bK ht2 h3
 dsimp only
 exact ⟨rfl,ht,b,h4,h5,rfl⟩
theorem kO (p:Nat) (num dep:Int) (x:ByteArray) (r:List ByteArray) (w:World) (H:aa w p num dep (x::r)) (hv:bh p w) (hx:Ref.bG x=true) :
  Calls Tryz.prog 219 #[.pointer (some ⟨p,0,none⟩),.func (.func 220) #[] #[]] w fun e w'=>e = .returned (.string x)∧ai p w w'∧aa w' p num dep r:=by
 have hsz:=H.sizes x (by simp)
 go_enter Tryz.func219,Tryz.ntmps219
 go_wp2_with fail
 refine (az p num dep x r _ H).mono ?_
 rintro e w1 ⟨rfl,ho,H1⟩
 have ht1:=ho.ah
 have hv1:=hv.ah ht1
 clear ho
 dsimp only
 go_wp2_with fail
 refine (kx x _ hsz hv1.here).mono ?_
 rintro e w2 ⟨rfl,hb2⟩
 rw [hx]
 have H2:=H1.ay hb2
 have ht2:ai p w w2:=ht1.trans (aH hb2)
 clear H1 hb2 ht1 hv1
 dsimp only
 go_wp2
 go_ret
 exact ⟨rfl,ht2,H2⟩
theorem wM (p:Nat) (num dep:Int) (w:World) (H:aa w p num dep []) :
  Calls Tryz.prog 222 #[.pointer (some ⟨p,0,none⟩)] w (bT p 2 num w):=by
 go_enter Tryz.func222,Tryz.ntmps222
 go_wp2_with fail
 refine (j7 p num dep _ H).mono ?_
 rintro e w1 h1
 have h2:=bK (ai.refl p w) h1
 obtain ⟨ht,b,h3,h4,rfl⟩:=h2
 dsimp only
 exact ⟨rfl,ht,b,h3,h4,rfl⟩
theorem Bp (p:Nat) (num dep:Int) (x:ByteArray) (r:List ByteArray) (w:World) (H:aa w p num dep (x::r)) (hv:bh p w) (hx:Ref.bF x=false) :
  Calls Tryz.prog 222 #[.pointer (some ⟨p,0,none⟩)] w (bT p 2 num w):=by
 have hsz:=H.sizes x (by simp)
 go_enter Tryz.func222,Tryz.ntmps222
 go_wp2_with fail
 refine (az p num dep x r _ H).mono ?_
 rintro e w1 ⟨rfl,ho,H1⟩
 have ht1:=ho.ah
 have hv1:=hv.ah ht1
 clear ho
 dsimp only
 go_wp2_with fail
 refine (kQ x _ hsz hv1.here.err).mono ?_
 rintro e w2 ⟨hb2,u,rfl,_⟩
 rw [hx]
 have H2:=H1.ay hb2
 obtain ⟨c0,c1⟩:=H2.cells
 have ht2:ai p w w2:=ht1.trans (aH hb2)
 clear H1 hb2 ht1 hv1
 dsimp only
 go_wp2_with fail
 refine (aL num dep 2 _).mono ?_
 rintro e w3 h3
 obtain ⟨ht,b,h4,h5,rfl⟩:=bK ht2 h3
 dsimp only
 exact ⟨rfl,ht,b,h4,h5,rfl⟩
theorem zx (p:Nat) (num dep:Int) (x:ByteArray) (r:List ByteArray) (w:World) (H:aa w p num dep (x::r)) (hv:bh p w) (hx:Ref.bF x=true) :
  Calls Tryz.prog 222 #[.pointer (some ⟨p,0,none⟩)] w fun e w'=>e = .returned (.int .u64 (Ref.dG x))∧ai p w w'∧aa w' p num dep r:=by
 have hsz:=H.sizes x (by simp)
 go_enter Tryz.func222,Tryz.ntmps222
 go_wp2_with fail
 refine (az p num dep x r _ H).mono ?_
 rintro e w1 ⟨rfl,ho,H1⟩
 have ht1:=ho.ah
 have hv1:=hv.ah ht1
 clear ho
 dsimp only
 go_wp2_with fail
 refine (kQ x _ hsz hv1.here.err).mono ?_
 rintro e w2 ⟨hb2,u,rfl,hu⟩
 rw [hx,hu hx]
 have H2:=H1.ay hb2
 have ht2:ai p w w2:=ht1.trans (aH hb2)
 clear H1 hb2 ht1 hv1 hu u
 dsimp only
 go_wp2
 go_ret
 exact ⟨rfl,ht2,H2⟩
theorem ai.xS {p N o:Nat} {w w1:World} {v:Value} (h:ai p w w1) (hN:w.heap.size≤N):ai p w (w1.setCell ⟨N,o,none⟩ v):=by
 have ho:=ae w1 N o v
 exact ⟨ho.os.trans h.os,ho.tape.trans h.tape,ho.output.trans h.output,by rw [ho.size];exact h.size,fun k hk hp=>(ho.block k (by omega)).trans (h.block k hk hp)⟩
theorem ai.alloc {p:Nat} {w w1:World} (h:ai p w w1) (o:Obj):ai p w (w1.alloc o):=h.trans (aH ((Below.refl _ _).alloc (Nat.le_refl _) _))
theorem ai.drew {p:Nat} {w w1:World} (h:ai p w w1):ai p w w1.drew:=⟨h.os,h.tape,h.output,h.size,h.block⟩
theorem aa.only {w w':World} {p N:Nat} {num dep:Int} {l:List ByteArray} (H:aa w p num dep l) (ho:fQ N w w') (hN:p<N):aa w' p num dep l:=by
 obtain ⟨a,cap,hp,hc,hs⟩:=H.row
 refine ⟨⟨a,cap,?_,hc,fun h => ?_⟩,H.len,H.sizes⟩
 ·rw [ho.block p (by omega)];exact hp
 ·obtain ⟨b,off,h1,h2,h3,h4⟩:=hs h
  refine ⟨b,off,h1,h2,by rw [ho.size];exact h3,fun i hi => ?_⟩
  rw [ho.cell (p:=⟨b,off+i,none⟩) (show b≠N by omega)];exact h4 i hi
theorem aa.lt {w:World} {p:Nat} {num dep:Int} {l:List ByteArray} (H:aa w p num dep l):p<w.heap.size:=by
 obtain ⟨a,cap,hp,hc,hs⟩:=H.row
 exact (Array.getElem?_eq_some_iff.1 hp).1
theorem aa.drew {w:World} {p:Nat} {num dep:Int} {l:List ByteArray} (H:aa w p num dep l):aa w.drew p num dep l:=H.ay (Below.refl _ _).drew
theorem bh.alloc {p:Nat} {w:World} (h:bh p w) (o:Obj):bh p (w.alloc o):=h.ah ((ai.refl p w).alloc o)
theorem aa.alloc {w:World} {p:Nat} {num dep:Int} {l:List ByteArray} (H:aa w p num dep l) (o:Obj):aa (w.alloc o) p num dep l:=H.ay ((Below.refl _ _).alloc (Nat.le_refl _) _)
theorem Tryz.Cs:Tryz.f289.results=#[.cell 2 327]:=rfl
theorem Tryz.AE:(Tryz.prog.info? 327).map (·.size)=some 1:=by kernel_rfl
theorem Ah (p:Nat) (num dep:Int) (x:ByteArray) (r:List ByteArray) (w:World) (H:aa w p num dep (x::r)) (hv:bh p w) (hx:Ref.called x=true) :
  Calls Tryz.prog 289 #[.pointer (some ⟨p,0,none⟩)] w fun e w'=>e = .returned (.agg #[.string x])∧ai p w w'∧aa w' p num dep r:=by
 have hpl:=H.lt
 go_enter Tryz.func289,Tryz.ntmps289
 go_wp2_with fail
 refine (jQ p num dep x r _ (H.alloc _) (hv.alloc _) hx).mono ?_
 rintro e w1 ⟨rfl,ht1,H1⟩
 dsimp only
 have hN:w1.heap[w.heap.size]?=some (.cells #[.string ByteArray.empty] 327 (0,0)):=by
  rw [ht1.block w.heap.size (by simp) (by omega)];exact heap_alloc_new w _
 have cN:w1.cell? ⟨w.heap.size,0,none⟩=some (.string ByteArray.empty):=by rw [cell_of_row w1 _ 0 _ _ _ hN];rfl
 have fN:w1.frozen? ⟨w.heap.size,0,none⟩=false:=by simp [World.frozen?,hN]
 have ht:ai p w w1:=((ai.refl p w).alloc _).trans ht1
 clear ht1
 go_wp2
 have h2:=heap_setCell_same w1 w.heap.size 0 _ _ (.string x) hN
 exact dt Tryz.Cs _ 327 _ (0,0) _ rfl h2 Tryz.underlying327 rfl Tryz.AE rfl ⟨rfl,ht.xS (Nat.le_refl _),H1.only (ae _ _ _ _) hpl⟩
theorem xB (p:Nat) (num dep:Int) (w:World) (H:aa w p num dep []) :
  Calls Tryz.prog 289 #[.pointer (some ⟨p,0,none⟩)] w (bT p 2 num w):=by
 go_enter Tryz.func289,Tryz.ntmps289
 go_wp2_with fail
 refine (ig p num dep _ _ (H.alloc _)).mono ?_
 rintro e w1 ⟨ht,b,h3,h4,rfl⟩
 dsimp only
 exact ⟨rfl,((ai.refl p w).alloc _).trans ht,b,by simp at h3;omega,h4,rfl⟩
theorem B9 (p:Nat) (num dep:Int) (x:ByteArray) (r:List ByteArray) (w:World) (H:aa w p num dep (x::r)) (hv:bh p w) (hx:Ref.called x=false) :
  Calls Tryz.prog 289 #[.pointer (some ⟨p,0,none⟩)] w (bT p 2 num w):=by
 go_enter Tryz.func289,Tryz.ntmps289
 go_wp2_with fail
 refine (kr p num dep x r _ (H.alloc _) (hv.alloc _) hx).mono ?_
 rintro e w1 ⟨ht,b,h3,h4,rfl⟩
 dsimp only
 exact ⟨rfl,((ai.refl p w).alloc _).trans ht,b,by simp at h3;omega,h4,rfl⟩
end
end Go.Proofs.YtegmoddppafkfaaGreatDoor
