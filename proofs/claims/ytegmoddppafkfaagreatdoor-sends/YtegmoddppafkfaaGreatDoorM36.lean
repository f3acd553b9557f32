import Derived.Test.YtegmoddppafkfaaGreatDoorM00
import Derived.Test.YtegmoddppafkfaaGreatDoorM28
import Derived.BigQuiet
set_option maxRecDepth 100000
set_option maxHeartbeats 8000000
namespace Go.Proofs.YtegmoddppafkfaaGreatDoor
section
open Go.RowKit Go.Proofs
theorem Ac:∀ (n:Nat) (w:World),n≤18446744073709551615 →
  Calls Tryz.prog 33 #[.int .u64 n] w fun e w'=>e = .returned (.string (Ref.dec n))∧w'=w:=by
 intro n
 induction n using Nat.strongRecOn with
 | _ n ih =>
 intro w hn
 have IH:Hid _:=ih
 clear ih
 by_cases h:n<10
 ·have HD:Hid _:=Ref.mH h
  have HT:Hid _:=Ref.y7 (show n % 10<10 by omega)
  go_enter Tryz.func33,Tryz.ntmps33
  go_wp2_with fail
  go_ret
  refine ⟨Ref.yS ?_,rfl⟩
  rw [HD.out]
  have e:=HT.out
  rw [Nat.mod_eq_of_lt h] at e ⊢
  exact e
 ·have HD:Hid _:=Ref.yC h
  have HT:Hid _:=Ref.y7 (show n % 10<10 by omega)
  go_enter Tryz.func33,Tryz.ntmps33
  go_wp2_with fail
  rw [show ((n:Int) / 10)=((n / 10:Nat):Int) from by omega]
  refine (IH.out (n / 10) (by omega) _ (by omega)).mono ?_
  rintro e w' ⟨rfl,rfl⟩
  have hsz:(Ref.dec (n / 10)).size≤20:=Ref.iZ (by omega)
  go_wp2
  go_ret
  refine ⟨Ref.yS ?_,rfl⟩
  rw [HD.out]
  exact congrArg (Ref.dec (n / 10) ++ ·) HT.out
namespace Sd
def p0:ByteArray:=⟨#[115,116,97,116,101,32,97,10,32,111,110,32,101,32,100,111,32,115,101,110,100,32,120,32]⟩
def p1:ByteArray:=⟨#[32,97,115,32,105,32,100,111,32,115,101,110,100,32,121,32]⟩
def p2:ByteArray:=⟨#[10,32,111,110,32,99,32,100,111,32,99,97,110,99,101,108,32,105,10,32,111,110,32,120,32,116,111,32,98,10,32,111,110,32,121,10,115,116,97,116,101,32,98,10,32,111,110,32,121,32,116,111,32,100,10,102,105,110,97,108,32,100,10]⟩
def tx (d:Nat):ByteArray:=p0++Ref.dec d++p1++Ref.dec d++p2
def nC (a:Int):Nat:=((if a<0 then -(a+1) else a) % 16).toNat
theorem Cn (a:Int):nC a<16:=by
 unfold nC
 omega
theorem GB {n:Nat} (h:n<16):bits BinOp.and IntKind.i64 (n:Int) 1=((n % 2:Nat):Int):=by
 have:∀ k:Fin 16,bits BinOp.and IntKind.i64 (k.val:Int) 1=((k.val % 2:Nat):Int):=by decide +kernel
 exact this ⟨n,h⟩
abbrev px (b:Nat):Value := .pointer (some ⟨b,0,none⟩)
abbrev EvC (xb:Nat) (c:UInt8) (V:World) (R:Ending→World→Prop):Prop:=Calls Tryz.prog 25 #[px xb,.string ⟨#[c]⟩] V R
abbrev CkC (xb:Nat) (t:Int) (V:World) (R:Ending→World→Prop):Prop:=Calls Tryz.prog 26 #[px xb,.int .u64 t] V R
abbrev NwC (xb:Nat) (V:World) (R:Ending→World→Prop):Prop:=Calls Tryz.prog 20 #[px xb] V R
def atS (t d:Nat):Nat:=if t+d<18446744073709551616 then t+d else 18446744073709551615
def EY (at':Int) (xb:Nat) (w V:World):Prop:=CkC xb at' V fun e V2=>∃ sb c g gc,e = .returned (.tuple #[.slice (some ⟨sb,0,none⟩) 1 c,.int .i64 0])∧NwC xb V2 fun e V3=>e = .returned (.int .u64 at')∧V3.cell? ⟨sb,0,none⟩=some (.string ⟨#[121]⟩)∧V3.cell? ⟨sb,1,none⟩=some (.int .u64 at')∧V3.cell? ⟨sb,2,none⟩=some (.slice (some ⟨g,0,none⟩) 1 gc)∧V3.cell? ⟨g,0,none⟩=some (.string ⟨#[97]⟩)∧Below w.heap.size w V3
def EZ (at':Int) (xb:Nat) (w V:World):Prop:=CkC xb at' V fun e V2=>∃ sb c g gc,e = .returned (.tuple #[.slice (some ⟨sb,0,none⟩) 2 c,.int .i64 0])∧NwC xb V2 fun e V3=>∃ t,e = .returned (.int .u64 t)∧V3.cell? ⟨sb,0,none⟩=some (.string ⟨#[120]⟩)∧V3.cell? ⟨sb,3,none⟩=some (.string ⟨#[121]⟩)∧V3.cell? ⟨sb,4,none⟩=some (.int .u64 at')∧V3.cell? ⟨sb,5,none⟩=some (.slice (some ⟨g,0,none⟩) 1 gc)∧V3.cell? ⟨g,0,none⟩=some (.string ⟨#[100]⟩)∧Below w.heap.size w V3
def Aft (t at':Int) (xb:Nat) (F:World→Prop) (V:World):Prop:=(t<at'→CkC xb (at'-1) V fun e V1=>∃ a c k,e = .returned (.tuple #[.slice a 0 c,k])∧F V1)∧(t=at'→F V)
def Ans (t d:Nat) (w:World):Prop:=Calls Tryz.prog 34 #[.string (tx d)] w fun e V=>∃ xb l c,e = .returned (.tuple #[px xb,.slice l 1 c,.int .i64 0,.int .i64 0]) ∧
 CkC xb t V fun e V1=>∃ l c,e = .returned (.tuple #[l,c])∧EvC xb 101 V1 fun e V2=>∃ l c,e = .returned (.tuple #[l,c])∧(EvC xb 99 V2 fun e V3=>∃ l c,e = .returned (.tuple #[l,c])∧Aft t (atS t d) xb (EY (atS t d) xb w) V3)∧Aft t (atS t d) xb (EZ (atS t d) xb w) V2
end Sd
namespace Sd
theorem Bd {t d:Nat} (ht:t<18446744073709551616) (hd:d<18446744073709551616):(IntKind.u64.wrap ((t:Int)+(d:Int))=(atS t d:Int)∧¬ (atS t d:Int)<(t:Int))∨(∃ s:Int,IntKind.u64.wrap ((t:Int)+(d:Int))=s∧s<(t:Int)∧(atS t d:Int)=18446744073709551615):=by
 unfold atS
 by_cases h:t+d<18446744073709551616
 ·left
  rw [if_pos h,IntKind.wrap_u64]
  omega
 ·right
  rw [if_neg h]
  refine ⟨_,rfl,?_,rfl⟩
  rw [IntKind.wrap_u64]
  omega
theorem F0 {t d:Nat} (ht:t<18446744073709551616) (hd:d<18446744073709551616):((t:Int)<(atS t d:Int)∧IntKind.u64.wrap ((atS t d:Int)-1)=(atS t d:Int)-1)∨(¬ (t:Int)<(atS t d:Int)∧Hid ((t:Int)=(atS t d:Int))):=by
 unfold atS Hid
 by_cases h:t+d<18446744073709551616
 ·rw [if_pos h,IntKind.wrap_u64]
  omega
 ·rw [if_neg h,IntKind.wrap_u64]
  omega
end Sd
theorem xJ (a:Int) (w:World) (h1 : -9223372036854775808≤a) (h2:a≤9223372036854775807):Calls Tryz.prog 35 #[.int .i64 a,.int .i64 16] w fun e w'=>e = .returned (.int .i64 (Sd.nC a))∧w'=w:=by
 by_cases h:a<0
 ·have HE:Hid (-((a+1).tmod 16)=(Sd.nC a:Int)):=by
   unfold Hid Sd.nC
   rw [← Int.neg_tmod,Int.tmod_eq_emod_of_nonneg (by omega),if_pos h]
   omega
  go_enter Tryz.func35,Tryz.ntmps35
  go_wp2
  go_ret
  exact ⟨by rw [← HE.out];rfl,rfl⟩
 ·have HE:Hid (a % 16=(Sd.nC a:Int)):=by
   unfold Hid Sd.nC
   rw [if_neg h]
   omega
  go_enter Tryz.func35,Tryz.ntmps35
  go_wp2
  go_ret
  exact ⟨by rw [← HE.out];rfl,rfl⟩
theorem AD (w:World) (g gc g' gc':Nat) (s:ByteArray) (h1:w.cell? ⟨g,0,none⟩=some (.string s)) (h2:w.cell? ⟨g',0,none⟩=some (.string s)) :
  Calls Tryz.prog 36 #[.slice (some ⟨g,0,none⟩) 1 gc,.slice (some ⟨g',0,none⟩) 1 gc'] w fun e w'=>e = .returned (.bool true)∧Below w.heap.size w w':=by
 have hs:(s.toList == s.toList)=true:=by simp
 have HB:Hid _:=(Below.refl w.heap.size w)
 go_enter Tryz.func36,Tryz.ntmps36
 go_wp2
 go_loopw [5] (fun i wr=>(i = .int .i64 0∧wr=w)∨(i = .int .i64 1∧Below w.heap.size w wr)) (fun i _=>1-(intOf i).toNat)
 case atStart=>exact .inl ⟨rfl,rfl⟩
 case round =>
  rcases hrel with ⟨rfl,rfl⟩ | ⟨rfl,hb⟩
  ·go_wp2
   go_quiet (fail)
   go_wp2
   go_round
   case rel=>exact .inr ⟨by go_num,below_drewN HB.out _⟩
   case measure=>simp [intOf]
  ·have HX:Hid _:=hb
   clear hb
   go_wp2
   go_ret
   exact ⟨rfl,HX.out⟩
theorem Sd.CF {w:World} {g:Nat} {s:ByteArray} (h:w.cell? ⟨g,0,none⟩=some (.string s)) (gc:Nat) :
  Calls Tryz.prog 36 #[.slice (some ⟨g,0,none⟩) 1 gc,.slice (some ⟨w.heap.size,0,none⟩) 1 1] (w.alloc (.cells #[.string s] 9)) fun e w'=>e = .returned (.bool true)∧Below w.heap.size w w':=by
 have hb:Below w.heap.size w (w.alloc (.cells #[.string s] 9)):=(Below.refl _ _).alloc (Nat.le_refl _) _
 refine Calls.mono (AD _ g gc _ 1 s ((hb.cell (p:=⟨g,0,none⟩) (World.block_lt_of_cell? _ _ h)).trans h) (cell_of_row _ _ 0 _ _ (0,0) (heap_alloc_new w _))) ?_
 rintro e w' ⟨rfl,h2⟩
 exact ⟨rfl,hb.trans (h2.mono hb.size)⟩
theorem sends_walk (a b k:Int) (w:World) (h5 : -9223372036854775808≤k) (h6:k≤9223372036854775807) (hA:∀ t d,t<18446744073709551616→d<18446744073709551616→Sd.Ans t d w) :
  Calls Tryz.prog 12 #[.int .i64 a,.int .i64 b,.int .i64 k] w fun e w'=>e = .returned (.bool true)∧Below w.heap.size w w':=by
 obtain ⟨t,ht,ha⟩:∃ t:Nat,t<18446744073709551616∧IntKind.u64.wrap a=(t:Int):=⟨(IntKind.u64.wrap a).toNat,by rw [IntKind.wrap_u64];omega,by rw [IntKind.wrap_u64];omega⟩
 obtain ⟨d,hd,hb⟩:∃ d:Nat,d<18446744073709551616∧IntKind.u64.wrap b=(d:Int):=⟨(IntKind.u64.wrap b).toNat,by rw [IntKind.wrap_u64];omega,by rw [IntKind.wrap_u64];omega⟩
 have HP:Hid _:=fun W=>xJ k W h5 h6
 have hn:=Sd.Cn k
 have HA:Hid _:=hA t d ht hd
 have HL:Hid _:=Ac d w (by omega)
 have hz:=Ref.iZ (show d≤18446744073709551615 by omega)
 have z0:Sd.p0.size=24:=rfl
 have z1:Sd.p1.size=16:=rfl
 have z2:Sd.p2.size=63:=rfl
 clear hA
 generalize Sd.nC k=n at *
 go_enter Tryz.func12,Tryz.ntmps12
 go_wp2_with fail
 refine Calls.mono HL.out ?_
 rintro e w1 ⟨rfl,hw1⟩
 rw [hw1]
 clear hw1 w1
 have hA1:bits BinOp.and IntKind.i64 (n:Int) 1=1∨bits BinOp.and IntKind.i64 (n:Int) 1=0:=by
  rw [Sd.GB hn]
  omega
 have hc:Hid _:=Sd.Bd ht hd
 have hg:Hid _:=Sd.F0 ht hd
 generalize ((Sd.atS t d:Nat):Int)=A at *
 clear ht hd hn
 go_wp2_with (first
  | (go_at_call 34;refine Calls.mono HA.out ?_;rintro e w1 ⟨xb,l,c,rfl,h1⟩;have H1:Hid _:=h1;clear h1 HA)
  | (go_at_call 26;refine Calls.mono H1.out ?_;rintro e w2 ⟨l2,c2,rfl,h2⟩;have H2:Hid _:=h2;clear h2 H1)
  | (go_at_call 25;refine Calls.mono H2.out ?_;rintro e w3 ⟨l3,c3,rfl,h3,h4⟩;have H3:Hid _:=h3;have H5:Hid _:=h4;clear h3 h4 H2))
 refine Calls.mono (HP.out _) ?_
 rintro e w4 ⟨rfl,hw4⟩
 rw [hw4]
 clear hw4 w4 HP ha hz z0 z1 z2
 rcases hA1 with hA1 | hA1 <;> rcases hc.out with ⟨hw,hlt⟩ | ⟨s,hw,hlt,hA⟩ <;> rcases hg.out with ⟨hgt,hs1⟩ | ⟨hng,hge⟩
 all_goals
  (try (rw [← hA];clear hA))
  go_wp2_with (first
   | (go_at_call 25;clear H5;refine Calls.mono H3.out ?_;rintro e w5 ⟨l5,c5,rfl,h5⟩;have H5:Hid _:=h5;clear h5 H3)
   | (go_at_call 26;have hq:=hgt;refine Calls.mono (H5.out.1 hq) ?_;clear hgt;rintro e w6 ⟨l6,c6,k6,rfl,h6⟩;have H6:Hid _:=h6;clear h6 H5)
   | (go_at_call 26;(first | (have hq:=H6;refine Calls.mono hq.out ?_) | refine Calls.mono (H5.out.2 hge.out) ?_);rintro e w7 ⟨sb,c7,g,gc,rfl,h7⟩;have H7:Hid _:=h7;clear h7)
   | (go_at_call 20;refine Calls.mono H7.out ?_;(first | rintro e w8 ⟨rfl,x0,x1,x2,x3,hb⟩ | rintro e w8 ⟨tt,rfl,x0,x1,x2,x2',x3,hb⟩);have HB:Hid _:=hb;have HS:Hid _:=Sd.CF x3;clear hb H7)
   | (go_at_call 36;refine Calls.mono (HS.out gc) ?_;rintro e w9 ⟨rfl,hb9⟩;have H9:Hid _:=HB.out.trans (hb9.mono HB.out.size);clear hb9))
  go_ret
  exact ⟨rfl,H9.out⟩
namespace Sd
def acX (d:Nat):Ref.Act:=⟨⟨#[115,101,110,100]⟩,⟨#[120]⟩,⟨#[105]⟩,d⟩
def acY (d:Nat):Ref.Act:=⟨⟨#[115,101,110,100]⟩,⟨#[121]⟩,⟨#[]⟩,d⟩
def acC:Ref.Act:=⟨⟨#[99,97,110,99,101,108]⟩,⟨#[]⟩,⟨#[105]⟩,0⟩
def stA (d:Nat):Ref.State:=⟨⟨#[115,116,97,116,101]⟩,⟨#[97]⟩,false,-1,0,1,[⟨⟨#[101]⟩,⟨#[]⟩,false,0,[acX d,acY d],2⟩,⟨⟨#[99]⟩,⟨#[]⟩,false,0,[acC],3⟩,⟨⟨#[120]⟩,⟨#[98]⟩,false,0,[],4⟩,⟨⟨#[121]⟩,⟨#[]⟩,false,0,[],5⟩],[],[],0,0⟩
def stB:Ref.State:=⟨⟨#[115,116,97,116,101]⟩,⟨#[98]⟩,false,-1,0,6,[⟨⟨#[121]⟩,⟨#[100]⟩,false,0,[],7⟩],[],[],0,0⟩
def stD:Ref.State:=⟨⟨#[102,105,110,97,108]⟩,⟨#[100]⟩,false,-1,0,8,[],[],[],0,0⟩
theorem Dl {d:Nat} (h:d<18446744073709551616):Pro.dA [acX d,acY d]:=by
 have h2:∃ n:Nat,(d:Int)=n∧n≤18446744073709551615:=⟨d,rfl,by omega⟩
 refine ⟨fun x hx => ?_,fun x hx => ?_,by show (2:Nat)≤_;decide⟩ <;> (simp only [List.mem_cons,List.not_mem_nil,or_false] at hx;rcases hx with rfl | rfl)
 ·exact .inr (.inr rfl)
 ·exact .inr (.inr rfl)
 ·exact ⟨by show (4:Nat)≤4096;decide,by show (1:Nat)≤4096;decide,by show (1:Nat)≤4096;decide,h2⟩
 ·exact ⟨by show (4:Nat)≤4096;decide,by show (1:Nat)≤4096;decide,by show (0:Nat)≤4096;decide,h2⟩
theorem Dk:Pro.dA [acC]:=⟨fun x hx=>by rw [List.mem_singleton.1 hx];exact .inr (.inl ⟨rfl,rfl⟩),fun x hx=>by rw [List.mem_singleton.1 hx];exact ⟨by decide,by decide,by decide,0,rfl,by decide⟩,by decide⟩
theorem Fx {d:Nat} (h:d<18446744073709551616):∀ x∈[stA d,stB,stD],Pro.qA x:=by
 have hm:∀ m:Ref.Move,m.event.size≤4096→m.to.size≤4096→Pro.dA m.aj→m.aj.length≤4096→m.delay=0→Ref.od m∧Pro.dA m.aj:=fun m a b c d e=>⟨⟨a,b,c.small,d,0,e,by decide⟩,c⟩
 intro x hx
 simp only [List.mem_cons,List.not_mem_nil,or_false] at hx
 rcases hx with rfl | rfl | rfl
 ·refine ⟨by show (0:Int)≤0;decide,by show (0:Int)≤5;decide,by show (1:Nat)≤4096;decide,by show (4:Nat)≤4096;decide,fun m hm' => ?_,fun m hm' ha => ?_,Pro.dA.nil,Nat.zero_le _,Pro.dA.nil,Nat.zero_le _⟩ <;> (simp only [stA,List.mem_cons,List.not_mem_nil,or_false] at hm';rcases hm' with rfl | rfl | rfl | rfl)
  ·exact hm _ (by show (1:Nat)≤4096;decide) (by show (0:Nat)≤4096;decide) (Dl h) (by show (2:Nat)≤4096;decide) rfl
  ·exact hm _ (by decide) (by decide) Dk (by decide) rfl
  ·exact hm _ (by decide) (by decide) Pro.dA.nil (by decide) rfl
  ·exact hm _ (by decide) (by decide) Pro.dA.nil (by decide) rfl
  all_goals cases ha
 ·refine ⟨by decide,by decide,by decide,by decide,fun m hm' => ?_,fun m hm' ha => ?_,Pro.dA.nil,by decide,Pro.dA.nil,by decide⟩ <;> (simp only [stB,List.mem_cons,List.not_mem_nil,or_false] at hm';subst hm')
  ·exact hm _ (by decide) (by decide) Pro.dA.nil (by decide) rfl
  ·cases ha
 ·exact ⟨by decide,by decide,by decide,by decide,fun m hm'=>(by cases hm'),fun m hm'=>(by cases hm'),Pro.dA.nil,by decide,Pro.dA.nil,by decide⟩
theorem Cd (d:Nat):∀ x∈[stA d,stB,stD],∀ m∈x.moves,m.after=false:=by
 intro x hx m hm
 simp only [List.mem_cons,List.not_mem_nil,or_false] at hx
 rcases hx with rfl | rfl | rfl
 ·simp only [stA,List.mem_cons,List.not_mem_nil,or_false] at hm
  rcases hm with rfl | rfl | rfl | rfl <;> rfl
 ·rw [List.mem_singleton.1 hm]
 ·cases hm
end Sd
end
end Go.Proofs.YtegmoddppafkfaaGreatDoor
