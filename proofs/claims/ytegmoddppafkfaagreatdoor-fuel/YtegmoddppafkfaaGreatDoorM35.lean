import Derived.Test.YtegmoddppafkfaaGreatDoorM00
import Derived.Test.YtegmoddppafkfaaGreatDoorM27
set_option maxRecDepth 100000
set_option maxHeartbeats 8000000
namespace Go.Proofs.YtegmoddppafkfaaGreatDoor
section
open Go.RowKit Go.Proofs
namespace Fu
def t0:ByteArray:=⟨#[115,116,97,116,101,32,97,10,32,111,110,32,120,32,100,111,32,114,97,105,115,101,32,120,10,32,111,110,32,116,32,100,111,32,115,101,110,100,32,116,32,48,10,32,111,110,32,102,117,108,108,32,116,111,32,98,10,32,111,110,32,115]⟩
def tz:ByteArray:=⟨#[32,100,111,32,115,101,110,100,32,122,32,49]⟩
def t1:ByteArray:=⟨#[10,115,116,97,116,101,32,98,10,32,111,110,32,120,32,100,111,32,114,97,105,115,101,32,120,10]⟩
def tx:Nat→ByteArray
 | 0=>t0
 | k+1=>tx k++tz
theorem nT:∀ n,(tx n).size=62+n*12
 | 0=>rfl
 | n+1=>by
  show (tx n++tz).size=_
  rw [ByteArray.size_append,nT n,show tz.size=12 from rfl]
  omega
def np (a:Int):Nat:=((if a<0 then -(a+1) else a) % 20).toNat
theorem Ca (a:Int):np a<20:=by
 unfold np
 omega
abbrev px (b:Nat):Value := .pointer (some ⟨b,0,none⟩)
abbrev EvC (xb:Nat) (c:UInt8) (V:World) (R:Ending→World→Prop):Prop:=Calls Tryz.prog 25 #[px xb,.string ⟨#[c]⟩] V R
abbrev CkC (xb t:Nat) (V:World) (R:Ending→World→Prop):Prop:=Calls Tryz.prog 26 #[px xb,.int .u64 t] V R
def Aft (n xb:Nat) (w V:World):Prop :=
 (12<n→EvC xb 120 V fun e V2=>∃ l c,e = .returned (.tuple #[.slice l 1 c,.int .i64 6])∧EvC xb 121 V2 fun e V3=>∃ l,e = .returned (.tuple #[l,.int .i64 6])∧CkC xb 5 V3 fun e V4=>∃ l,e = .returned (.tuple #[l,.int .i64 6])∧Below w.heap.size w V4) ∧
 (n=12→Below w.heap.size w V) ∧
 (n<12→EvC xb 116 V fun e V2=>∃ l c,e = .returned (.tuple #[.slice l 1 c,.int .i64 0])∧CkC xb 0 V2 fun e V3=>∃ l c,e = .returned (.tuple #[.slice l 200 c,.int .i64 6])∧Below w.heap.size w V3)
def Ans (n:Nat) (w:World):Prop:=Calls Tryz.prog 34 #[.string (tx n++t1)] w fun e V=>∃ xb l,e = .returned (.tuple #[px xb,l,.int .i64 0,.int .i64 0]) ∧
 EvC xb 115 V fun e V1=>∃ sb c g gc,e = .returned (.tuple #[.slice (some ⟨sb,0,none⟩) 1 c,.int .i64 0])∧V1.cell? ⟨sb,2,none⟩=some (.slice (some ⟨g,0,none⟩) 1 gc)∧V1.cell? ⟨g,0,none⟩=some (.string (if 12<n then ⟨#[98]⟩ else ⟨#[97]⟩))∧Aft n xb w V1
end Fu
theorem xk (a:Int) (w:World) (h1 : -9223372036854775808≤a) (h2:a≤9223372036854775807):Calls Tryz.prog 35 #[.int .i64 a,.int .i64 20] w fun e w'=>e = .returned (.int .i64 (Fu.np a))∧w'=w:=by
 by_cases h:a<0
 ·have HE:Hid (-((a+1).tmod 20)=(Fu.np a:Int)):=by
   unfold Hid Fu.np
   rw [← Int.neg_tmod,Int.tmod_eq_emod_of_nonneg (by omega),if_pos h]
   omega
  go_enter Tryz.func35,Tryz.ntmps35
  go_wp2
  go_ret
  exact ⟨by rw [← HE.out];rfl,rfl⟩
 ·have HE:Hid (a % 20=(Fu.np a:Int)):=by
   unfold Hid Fu.np
   rw [if_neg h]
   omega
  go_enter Tryz.func35,Tryz.ntmps35
  go_wp2
  go_ret
  exact ⟨by rw [← HE.out];rfl,rfl⟩
theorem fuel_walk (a:Int) (w:World) (h1 : -9223372036854775808≤a) (h2:a≤9223372036854775807) (hA:∀ n,n<20→Fu.Ans n w) :
  Calls Tryz.prog 14 #[.int .i64 a] w fun e w'=>e = .returned (.bool true)∧Below w.heap.size w w':=by
 have HP:Hid _:=xk a w h1 h2
 have hn:=Fu.Ca a
 have HA:Hid _:=hA _ hn
 clear hA
 generalize Fu.np a=n at *
 go_enter Tryz.func14,Tryz.ntmps14
 go_wp2_with (go_at_call 35;refine Calls.mono HP.out ?_;rintro e w1 ⟨rfl,hw1⟩;rw [hw1];clear hw1 w1)
 go_loop [4,5] (fun s i=>∃ k:Nat,i = .int .i64 k∧k≤n∧s = .string (Fu.tx k)) (fun _ i=>n-(intOf i).toNat)
 case atStart=>exact ⟨0,rfl,Nat.zero_le _,rfl⟩
 case round =>
  obtain ⟨k,rfl,hk,rfl⟩:=hrel
  have hz:=Fu.nT k
  have hz1:(Fu.tx k).size+12≤9223372036854775807:=by omega
  have hz2:(Fu.tx k).size+26≤9223372036854775807:=by omega
  clear hz
  by_cases hkn:k<n
  ·have hkn':(k:Int)<(n:Int):=by omega
   go_wp2
   go_round
   case rel=>exact ⟨k+1,by go_num,by omega,rfl⟩
   case measure=>simp [intOf];omega
  ·have hkn:k=n:=by omega
   subst hkn
   rcases Nat.lt_trichotomy k 12 with h12 | h12 | h12
   ·have h12a:¬ (12:Int)<(k:Int):=by omega
    have h12b:((k:Int) == 12)=false:=by simp;omega
    have h12c:(if 12<k then (⟨#[98]⟩:ByteArray) else ⟨#[97]⟩)=⟨#[97]⟩:=if_neg (by omega)
    go_wp2_with (first
     | (go_at_call 34;refine Calls.mono HA.out ?_;rintro e w1 ⟨xb,l1,rfl,h1⟩;have H1:Hid _:=h1;clear h1)
     | (go_at_call 25;refine Calls.mono H1.out ?_;rintro e w2 ⟨sb,c2,g,gc,rfl,q1,q2,h2⟩;rw [h12c] at q2;have H2:Hid _:=h2.2.2 h12;clear h2 H1)
     | (go_at_call 25;refine Calls.mono H2.out ?_;rintro e w3 ⟨l3,c3,rfl,h3⟩;have H3:Hid _:=h3;clear h3)
     | (go_at_call 26;refine Calls.mono H3.out ?_;rintro e w4 ⟨l4,c4,rfl,h4⟩;have H4:Hid _:=h4;clear h4))
    go_ret
    exact ⟨rfl,H4.out⟩
   ·have h12a:¬ (12:Int)<(k:Int):=by omega
    have h12b:((k:Int) == 12)=true:=by simp;omega
    have h12c:(if 12<k then (⟨#[98]⟩:ByteArray) else ⟨#[97]⟩)=⟨#[97]⟩:=if_neg (by omega)
    have H12:Hid (k=12):=h12
    clear h12
    go_wp2_with (first
     | (go_at_call 34;refine Calls.mono HA.out ?_;rintro e w1 ⟨xb,l1,rfl,h1⟩;have H1:Hid _:=h1;clear h1)
     | (go_at_call 25;refine Calls.mono H1.out ?_;rintro e w2 ⟨sb,c2,g,gc,rfl,q1,q2,h2⟩;rw [h12c] at q2;have H2:Hid _:=h2.2.1 H12.out;clear h2 H1))
    go_ret
    exact ⟨rfl,H2.out⟩
   ·have h12a:(12:Int)<(k:Int):=by omega
    have h12c:(if 12<k then (⟨#[98]⟩:ByteArray) else ⟨#[97]⟩)=⟨#[98]⟩:=if_pos h12
    go_wp2_with (first
     | (go_at_call 34;refine Calls.mono HA.out ?_;rintro e w1 ⟨xb,l1,rfl,h1⟩;have H1:Hid _:=h1;clear h1)
     | (go_at_call 25;refine Calls.mono H1.out ?_;rintro e w2 ⟨sb,c2,g,gc,rfl,q1,q2,h2⟩;rw [h12c] at q2;have H2:Hid _:=h2.1 h12;clear h2 H1)
     | (go_at_call 25;refine Calls.mono H2.out ?_;rintro e w3 ⟨l3,c3,rfl,h3⟩;have H3:Hid _:=h3;clear h3 H2)
     | (go_at_call 25;refine Calls.mono H3.out ?_;rintro e w4 ⟨l4,rfl,h4⟩;have H4:Hid _:=h4;clear h4)
     | (go_at_call 26;refine Calls.mono H4.out ?_;rintro e w5 ⟨l5,rfl,h5⟩;have H5:Hid _:=h5;clear h5))
    go_ret
    exact ⟨rfl,H5.out⟩
namespace Fu
def acX:Ref.Act:=⟨⟨#[114,97,105,115,101]⟩,⟨#[120]⟩,⟨#[]⟩,0⟩
def acT:Ref.Act:=⟨⟨#[115,101,110,100]⟩,⟨#[116]⟩,⟨#[]⟩,0⟩
def acZ:Ref.Act:=⟨⟨#[115,101,110,100]⟩,⟨#[122]⟩,⟨#[]⟩,1⟩
def stA (n:Nat):Ref.State:=⟨⟨#[115,116,97,116,101]⟩,⟨#[97]⟩,false,-1,0,1,[⟨⟨#[120]⟩,⟨#[]⟩,false,0,[acX],2⟩,⟨⟨#[116]⟩,⟨#[]⟩,false,0,[acT],3⟩,⟨⟨#[102,117,108,108]⟩,⟨#[98]⟩,false,0,[],4⟩,⟨⟨#[115]⟩,⟨#[]⟩,false,0,List.replicate n acZ,5⟩],[],[],0,0⟩
def stB:Ref.State:=⟨⟨#[115,116,97,116,101]⟩,⟨#[98]⟩,false,-1,0,6,[⟨⟨#[120]⟩,⟨#[]⟩,false,0,[acX],7⟩],[],[],0,0⟩
theorem tL (n:Nat) (hn:n<20):Pro.dI [acX]∧Pro.dI [acT]∧Pro.dI (List.replicate n acZ):=by
 have h:∀ (a:Ref.Act) (k:Nat),k≤20→Pro.Shape a→Ref.qq a→Pro.dI (List.replicate k a):=fun a k hk h1 h2=>⟨fun x hx=>by rw [List.eq_of_mem_replicate hx];exact h1,fun x hx=>by rw [List.eq_of_mem_replicate hx];exact h2,by simp;omega⟩
 exact ⟨h acX 1 (by omega) (.inl ⟨rfl,rfl⟩) ⟨by decide,by decide,by decide,0,rfl,by decide⟩,h acT 1 (by omega) (.inr (.inr rfl)) ⟨by decide,by decide,by decide,0,rfl,by decide⟩,h acZ n (by omega) (.inr (.inr rfl)) ⟨by decide,by decide,by decide,1,rfl,by decide⟩⟩
theorem Fp (n:Nat) (hn:n<20):∀ x∈[stA n,stB],Pro.qt x:=by
 obtain ⟨g1,g2,g3⟩:=tL n hn
 have hm:∀ m:Ref.Move,m.event.size≤4096→m.to.size≤4096→Pro.dI m.ak→m.ak.length≤4096→m.delay=0→Ref.nW m∧Pro.dI m.ak:=fun m a b c d e=>⟨⟨a,b,c.small,d,0,e,by decide⟩,c⟩
 intro x hx
 rcases List.mem_cons.1 hx with rfl | hx
 ·refine ⟨by show (0:Int)≤0;decide,by show (0:Int)≤5;decide,by show (1:Nat)≤4096;decide,by show (4:Nat)≤4096;decide,fun m hm' => ?_,fun m hm' ha => ?_,Pro.dI.nil,Nat.zero_le _,Pro.dI.nil,Nat.zero_le _⟩
  ·simp only [stA,List.mem_cons,List.not_mem_nil,or_false] at hm'
   rcases hm' with rfl | rfl | rfl | rfl
   ·exact hm _ (by decide) (by decide) g1 (by decide) rfl
   ·exact hm _ (by decide) (by decide) g2 (by decide) rfl
   ·exact hm _ (by decide) (by decide) Pro.dI.nil (by decide) rfl
   ·exact hm _ (by show (1:Nat)≤4096;decide) (by show (0:Nat)≤4096;decide) g3 (by simp;omega) rfl
  ·simp only [stA,List.mem_cons,List.not_mem_nil,or_false] at hm'
   rcases hm' with rfl | rfl | rfl | rfl <;> cases ha
 ·rw [List.mem_singleton.1 hx]
  refine ⟨by decide,by decide,by decide,by decide,fun m hm' => ?_,fun m hm' ha => ?_,Pro.dI.nil,by decide,Pro.dI.nil,by decide⟩
  ·simp only [stB,List.mem_cons,List.not_mem_nil,or_false] at hm'
   subst hm'
   exact hm _ (by decide) (by decide) g1 (by decide) rfl
  ·simp only [stB,List.mem_cons,List.not_mem_nil,or_false] at hm'
   subst hm'
   cases ha
end Fu
end
end Go.Proofs.YtegmoddppafkfaaGreatDoor
