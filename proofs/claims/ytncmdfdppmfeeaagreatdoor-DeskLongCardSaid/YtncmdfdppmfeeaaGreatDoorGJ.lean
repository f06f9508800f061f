import Derived.Test.YtncmdfdppmfeeaaGreatDoorRows
import Derived.WalkKit
import Derived.ProofKit
import Derived.OpenShut
import Derived.Lib.Hide
import Derived.Lib.Mul64
import Derived.Laws.Bits64b
import Derived.Shelf.Bits.Mul64
import Derived.Deep.QuietTactic
import Derived.BigQuiet
import Derived.Handy
import Derived.Test.YtncmdfdppmfeeaaGreatDoorGE
namespace Go.Proofs.YtncmdfdppmfeeaaGreatDoor.Mil
open Go.ChangeShapes Go.WideShapes Go.ChangeAt Go.RowKit
set_option linter.unusedVariables false
set_option linter.unusedSimpArgs false
theorem EZ (v:Value) (w:World):(Instr.typeAssert (.iface 209 v) 20 209 true).run Tryz.prog w=.ok (.tuple #[v,.bool true]) w:=by kernel_rfl
theorem tF (v:Value) (w:World):(Instr.typeAssert (.iface 211 v) 20 209 true).run Tryz.prog w=.ok (.tuple #[.int .i64 0,.bool false]) w:=by kernel_rfl
theorem DY (v:Value) (w:World):(Instr.typeAssert (.iface 211 v) 20 211 true).run Tryz.prog w=.ok (.tuple #[v,.bool true]) w:=by kernel_rfl
def Two (v c:Int) (w:World) (e:Ending) (w':World):Prop:=e=.returned (.tuple #[.int .i64 v,.int .i64 c])/\w=w'
def One (v:Int) (w:World) (e:Ending) (w':World):Prop:=e=.returned (.int .i64 v)/\w=w'
theorem oO (n:Int) (w:World):Calls Tryz.prog 98 #[.iface 209 (.int .i64 n)] w (Two n 0 w):=by
 have t1:=EZ
 go_enter Tryz.func98,Tryz.ntmps98
 go_wp2
 go_ret2;exact ⟨rfl,rfl⟩
theorem nD (n:Int) (w:World):Calls Tryz.prog 98 #[.iface 211 (.int .i64 n)] w (Two n 2 w):=by
 have t1:=tF
 have t2:=DY
 go_enter Tryz.func98,Tryz.ntmps98
 go_wp2
 go_ret2;exact ⟨rfl,rfl⟩
def OneU (v:Int) (w:World) (e:Ending) (w':World):Prop:=e=.returned (.int .u64 v)/\w=w'
def TL (v c:Int) (w:World) (e:Ending) (w':World):Prop:=e=.returned (.tuple #[.int .u64 v,.int .u64 c])/\w=w'
theorem iC (a:Int) (ha : -9223372036854775808<=a) (ha':a<=9223372036854775807) (w:World) :
  Calls Tryz.prog 260 #[.int .i64 a] w (OneU (a.natAbs:Nat) w):=by
 by_cases h:a<0
 ·have e1:IntKind.u64.wrap a=a+18446744073709551616:=by rw [IntKind.wrap_u64];omega
  have e2:IntKind.u64.wrap (-(a+18446744073709551616))=(a.natAbs:Nat):=by rw [IntKind.wrap_u64];omega
  obtain ⟨c,hc⟩:∃ c:Int,a+18446744073709551616=c:=⟨_,rfl⟩
  rw [hc] at e1 e2
  clear hc
  go_enter Tryz.func260,Tryz.ntmps260
  go_wp2
  go_ret
  exact ⟨by simp [*],rfl⟩
 ·have e1:IntKind.u64.wrap a=(a.natAbs:Nat):=by rw [IntKind.wrap_u64];omega
  go_enter Tryz.func260,Tryz.ntmps260
  go_wp2
  go_ret
  exact ⟨by simp [*],rfl⟩
set_option maxHeartbeats 1000000 in
theorem mA (x y:Nat) (hx:x<18446744073709551616) (hy:y<18446744073709551616) (w:World) :
  Calls Tryz.prog 203 #[.int .u64 x,.int .u64 y] w (TL ((x*y / 18446744073709551616:Nat):Int) ((x*y % 18446744073709551616:Nat):Int) w):=by
 obtain ⟨bd,bt,bw,hhi⟩:=Lib.mul64_hi x y hx hy
 have ba:=Lib.half_mul_le (a:=x / 4294967296) (b:=y / 4294967296) (by omega) (by omega)
 have bb:=Lib.half_mul_le (a:=x / 4294967296) (b:=y % 4294967296) (by omega) (by omega)
 have bc:=Lib.half_mul_le (a:=x % 4294967296) (b:=y / 4294967296) (by omega) (by omega)
 have ba':x / 4294967296*(y / 4294967296)<18446744073709551616:=by omega
 have bb':x / 4294967296*(y % 4294967296)<18446744073709551616:=by omega
 have bc':x % 4294967296*(y / 4294967296)<18446744073709551616:=by omega
 have bh1:x / 4294967296*(y / 4294967296)+(x / 4294967296*(y % 4294967296)+x % 4294967296*(y % 4294967296) / 4294967296) / 4294967296<18446744073709551616:=by omega
 have bh:x / 4294967296*(y / 4294967296)+(x / 4294967296*(y % 4294967296)+x % 4294967296*(y % 4294967296) / 4294967296) / 4294967296+((x / 4294967296*(y % 4294967296)+x % 4294967296*(y % 4294967296) / 4294967296) % 4294967296+x % 4294967296*(y / 4294967296)) / 4294967296<18446744073709551616:=by omega
 go_enter Tryz.func203,Tryz.ntmps203
 go_wp2
 simp only [Mul64.maskN x hx,Mul64.maskN y hy,Mul64.divN,Mul64.mulN,Mul64.addN,Mul64.wrapN _ bd,Mul64.wrapN _ bb',Mul64.wrapN _ bt,Mul64.maskN _ bt,Mul64.wrapN _ bc',Mul64.wrapN _ bw,Mul64.wrapN _ ba',Mul64.wrapN _ bh1,Mul64.wrapN _ bh,Mul64.wrapM (x*y)]
 rw [hhi]
 go_ret2
 exact ⟨rfl,rfl⟩
set_option maxRecDepth 100000 in
theorem zT (w:World):Calls Tryz.prog 264 #[.int .u64 1000] w (One 54 w):=by
 go_enter Tryz.func264,Tryz.ntmps264
 go_wp2
 go_ret
 exact ⟨by kernel_rfl,rfl⟩
def SX (v c:Int) (w:World) (e:Ending) (w':World):Prop:=e=.returned (.tuple #[.int .u64 v,.int .u64 c])/\∃ n,w'=w.drewN n
set_option maxHeartbeats 1000000 in
theorem uP (lo:Nat) (h2:lo<18446744073709551616) (w:World) :
  Calls Tryz.prog 262 #[.int .u64 0,.int .u64 lo,.int .u64 1000] w (SX ((lo / 1000:Nat):Int) ((lo % 1000:Nat):Int) w):=by
 have e1:IntKind.u64.wrap ((lo:Int) / 1000)=(lo:Int) / 1000:=by rw [IntKind.wrap_u64];omega
 go_enter Tryz.func262,Tryz.ntmps262
 go_wp2
 go_quiet (fail)
 go_wp2
 go_ret2
 exact ⟨rfl,_,rfl⟩
theorem QQ (h l:Nat) (hh:h<1000) (hl:l<18014398509481984):bits .or .u64 ((h:Int)*18014398509481984) (l:Int)=(h:Int)*18014398509481984+l:=by
 have e:=bits_or_u64_nat (h*18014398509481984) l (by omega) (by omega)
 have e2:=Nat.shiftLeft_add_eq_or_of_lt (i:=54) (show l<2 ^ 54 from hl) h
 rw [Nat.shiftLeft_eq] at e2
 have e3:((h*18014398509481984:Nat):Int)=(h:Int)*18014398509481984:=by rw [Int.natCast_mul];rfl
 rw [e3] at e
 rw [e,<- e3,<- Int.natCast_add]
 exact congrArg Int.ofNat e2.symm
theorem r9 (U q1 r1 u a b c V:Int) (e1:U=q1*4194304000+r1) (hV:V=r1*4294967296+u) (b0:0<=V) (b1:V<18446744073709551616)
  (ha:IntKind.u64.wrap (U*4294967296)=a) (hb:IntKind.u64.wrap (a+u)=b) (hc:IntKind.u64.wrap (q1*18014398509481984000)=c):IntKind.u64.wrap (b - c)=V:=by
 rw [IntKind.wrap_u64] at *
 omega
theorem YS (V q0 r0 a c:Int) (e1:V=q0*4194304000+r0) (b0:0<=r0) (b1:r0<4194304000)
  (ha:IntKind.u64.wrap (V*4294967296)=a) (hc:IntKind.u64.wrap (q0*18014398509481984000)=c):IntKind.u64.wrap (a - c)=r0*4294967296:=by
 rw [IntKind.wrap_u64] at *
 omega
theorem KN (N hi lo x U u q1 r1 V q0 r0:Int) (hN:N=hi*18446744073709551616+lo) (hU:U=hi*18014398509481984+lo / 1024) (hu:u=(lo % 1024)*4194304)
  (e1:U=q1*4194304000+r1) (hV:V=r1*4294967296+u) (e0:V=q0*4194304000+r0) (b0:0<=r0) (b1:r0<4194304000) :
  N / 1000=q1*4294967296+q0/\N % 1000=r0 / 4194304:=by
 have h:N*4194304=(q1*4294967296+q0)*4194304000+r0:=by omega
 clear hN hU hu e1 hV e0
 generalize q1*4294967296+q0=Q at *
 omega
set_option maxRecDepth 100000 in
set_option maxHeartbeats 2000000 in
theorem vm (hi lo:Nat) (h0:1<=hi) (h1:hi<1000) (h2:lo<18446744073709551616) (w:World) :
  Calls Tryz.prog 262 #[.int .u64 hi,.int .u64 lo,.int .u64 1000] w (TL (((hi:Int)*18446744073709551616+lo) / 1000) (((hi:Int)*18446744073709551616+lo) % 1000) w):=by
 have hor:=QQ hi (lo / 1024) h1 (by omega)
 rw [show ((lo / 1024:Nat):Int)=(lo:Int) / 1024 from rfl] at hor
 have hand0:bits .and .u64 18014398509481984000 4294967295=0:=by decide
 obtain ⟨U,hU⟩:∃ U:Int,U=(hi:Int)*18014398509481984+(lo:Int) / 1024:=⟨_,rfl⟩
 obtain ⟨u,hu⟩:∃ u:Int,u=((lo:Int) % 1024)*4194304:=⟨_,rfl⟩
 obtain ⟨L,hL⟩:∃ L:Int,L=u*4294967296:=⟨_,rfl⟩
 obtain ⟨q1,hq1⟩:∃ q1:Int,U / 4194304000=q1:=⟨_,rfl⟩
 obtain ⟨r1,hr1⟩:∃ r1:Int,U - q1*4194304000=r1:=⟨_,rfl⟩
 obtain ⟨V,hV⟩:∃ V:Int,V=r1*4294967296+u:=⟨_,rfl⟩
 obtain ⟨q0,hq0⟩:∃ q0:Int,V / 4194304000=q0:=⟨_,rfl⟩
 obtain ⟨r0,hr0⟩:∃ r0:Int,V - q0*4194304000=r0:=⟨_,rfl⟩
 have c0:0<=u/\u<4294967296:=by omega
 have c1:0<=U/\U<18014398509481984000:=by omega
 have c2:0<=q1/\q1<4294967296:=by omega
 have c3:0<=r1/\r1<4194304000:=by omega
 have c4:0<=V/\V<18014398509481984000:=by omega
 have c5:0<=q0/\q0<4294967296:=by omega
 have c6:0<=r0/\r0<4194304000:=by omega
 obtain ⟨a,f1⟩:∃ a:Int,IntKind.u64.wrap (U*4294967296)=a:=⟨_,rfl⟩
 obtain ⟨b,f2⟩:∃ b:Int,IntKind.u64.wrap (a+u)=b:=⟨_,rfl⟩
 obtain ⟨c,f3⟩:∃ c:Int,IntKind.u64.wrap (q1*18014398509481984000)=c:=⟨_,rfl⟩
 have f4:=r9 U q1 r1 u a b c V (by omega) hV c4.1 (by omega) f1 f2 f3
 obtain ⟨a',g1⟩:∃ a:Int,IntKind.u64.wrap (V*4294967296)=a:=⟨_,rfl⟩
 obtain ⟨c',g2⟩:∃ c:Int,IntKind.u64.wrap (q0*18014398509481984000)=c:=⟨_,rfl⟩
 have g3:=YS V q0 r0 a' c' (by omega) c6.1 c6.2 g1 g2
 obtain ⟨d,hd⟩:∃ d:Int,r0*4294967296=d:=⟨_,rfl⟩
 have g4:d / 18014398509481984=r0 / 4194304:=by omega
 have hQ:=KN _ hi lo 0 U u q1 r1 V q0 r0 rfl hU hu (by omega) hV (by omega) c6.1 c6.2
 rw [hQ.1,hQ.2]
 have k1:IntKind.u64.wrap ((lo:Int)*18014398509481984)=L:=by rw [IntKind.wrap_u64];omega
 have k2:L / 4294967296=u:=by omega
 have c7:0<=L/\L<18446744073709551616:=by omega
 have k3:bits .and .u64 L 4294967295=0:=by
  obtain ⟨n,rfl⟩:=Int.eq_ofNat_of_zero_le c7.1
  rw [Mul64.maskN n (by omega)]
  have:n % 4294967296=0:=by omega
  rw [this];rfl
 rw [hd] at g3
 obtain ⟨R,hR⟩:∃ R:Int,r0 / 4194304=R:=⟨_,rfl⟩
 rw [hR] at g4 ⊢
 rw [<- hU] at hor
 have a0:0<=(a:Int):=by rw [IntKind.wrap_u64] at f1;omega
 have a1:0<=b:=by rw [IntKind.wrap_u64] at f2;omega
 have a2:0<=d:=by omega
 have a3:0<=a'/\a'<=18446744073709551615:=by rw [IntKind.wrap_u64] at g1;omega
 obtain ⟨a3a,a3b⟩:=a3
 clear hU hu hL hV hR hd hQ
 obtain ⟨c0a,c0b⟩:=c0
 obtain ⟨c1a,c1b⟩:=c1
 obtain ⟨c2a,c2b⟩:=c2
 obtain ⟨c3a,c3b⟩:=c3
 obtain ⟨c4a,c4b⟩:=c4
 obtain ⟨c5a,c5b⟩:=c5
 obtain ⟨c6a,c6b⟩:=c6
 clear c7
 have hne:((hi:Int)==0)=false:=by rw [beq_eq_false_iff_ne];omega
 have n1:decide (4294967296<=q1)=false:=by rw [decide_eq_false_iff_not];omega
 have n2:decide (4294967296<=q0)=false:=by rw [decide_eq_false_iff_not];omega
 go_enter Tryz.func262,Tryz.ntmps262
 go_wp2_with (go_at_call 264;refine (zT _).mono ?_;rintro e w' ⟨rfl,rfl⟩)
 go_rounds 1
 go_rounds 1
 go_ret2
 exact ⟨by simp [hq1,hq0],rfl⟩
def Ud (v:Value) (w:World) (e:Ending) (w':World):Prop:=e=.returned v/\∃ n,w'=w.drewN n
theorem LB (w:World):Calls Tryz.prog 261 #[.bool true] w (One (-9223372036854775808) w):=by
 go_enter Tryz.func261,Tryz.ntmps261
 go_wp2
 go_ret
 exact ⟨rfl,rfl⟩
theorem I8 (w:World):Calls Tryz.prog 261 #[.bool false] w (One 9223372036854775807 w):=by
 go_enter Tryz.func261,Tryz.ntmps261
 go_wp2
 go_ret
 exact ⟨rfl,rfl⟩
theorem Hj (n:Int) (more:Bool) (h0:0<=n) (h1:n+(if more then 1 else 0)<=9223372036854775808) (w:World) :
  Calls Tryz.prog 263 #[.int .u64 n,.bool more] w fun e w'=>e=.returned (.iface 209 (.int .i64 (-n - (if more then 1 else 0))))/\w=w':=by
 by_cases hn:n=9223372036854775808
 ·subst hn
  cases more
  ·go_enter Tryz.func263,Tryz.ntmps263
   go_wp2
   go_ret
   exact ⟨by kernel_rfl,rfl⟩
  ·simp at h1
 ·have e1:(n==9223372036854775808)=false:=by rw [beq_eq_false_iff_ne];exact hn
  have h2:n<=9223372036854775807:=by cases more<;>simp at h1<;>omega
  clear hn
  cases more<;>simp at h1 ⊢
  all_goals
   go_enter Tryz.func263,Tryz.ntmps263
   go_wp2
   go_ret
   exact ⟨by simp,rfl⟩
theorem yD (n:Int) (more:Bool) (h0:0<=n) (h2:n<=18446744073709551615) (h1:9223372036854775808<n+(if more then 1 else 0)) (w:World) :
  Calls Tryz.prog 263 #[.int .u64 n,.bool more] w fun e w'=>e=.returned (.iface 211 (.int .i64 (-9223372036854775808)))/\w=w':=by
 by_cases hn:n=9223372036854775808
 ·subst hn
  cases more
  ·simp at h1
  ·go_enter Tryz.func263,Tryz.ntmps263
   go_wp2
   go_ret
   exact ⟨rfl,rfl⟩
 ·have h3:9223372036854775808<n:=by cases more<;>simp at h1<;>omega
  have e1:(n==9223372036854775808)=false:=by rw [beq_eq_false_iff_ne];exact hn
  clear hn h1
  cases more
  all_goals
   go_enter Tryz.func263,Tryz.ntmps263
   go_wp2
   go_ret
   exact ⟨rfl,rfl⟩
theorem qy (P:Nat) (h:P<18446744073709551616000) (w:World) :
  Calls Tryz.prog 262 #[.int .u64 ((P / 18446744073709551616:Nat):Int),.int .u64 ((P % 18446744073709551616:Nat):Int),.int .u64 1000] w (SX ((P / 1000:Nat):Int) ((P % 1000:Nat):Int) w):=by
 obtain ⟨hi,hhi⟩:∃ hi,P / 18446744073709551616=hi:=⟨_,rfl⟩
 obtain ⟨lo,hlo⟩:∃ lo,P % 18446744073709551616=lo:=⟨_,rfl⟩
 have b1:hi<1000:=by omega
 have b2:lo<18446744073709551616:=by omega
 have e:(P:Int)=(hi:Int)*18446744073709551616+lo:=by omega
 rw [hhi,hlo]
 by_cases h0:hi=0
 ·subst h0
  have e2:P=lo:=by omega
  subst e2
  exact uP P b2 w
 ·refine (vm hi lo (by omega) b1 b2 w).mono fun e' w' ⟨h1,h2⟩=>⟨?_,0,h2.symm⟩
  rw [h1,<- e]
  rfl
theorem kF (x y P:Nat) (hP:x*y=P) (hx:x<18446744073709551616) (hy:y<18446744073709551616) (w:World) :
  Calls Tryz.prog 203 #[.int .u64 x,.int .u64 y] w (TL ((P / 18446744073709551616:Nat):Int) ((P % 18446744073709551616:Nat):Int) w):=by
 subst hP
 exact mA x y hx hy w
theorem LQ (a b:Int):(decide (a<0)=decide (b<0)->a*b=((a.natAbs*b.natAbs:Nat):Int))/\(decide (a<0)≠decide (b<0)->a*b = -((a.natAbs*b.natAbs:Nat):Int)):=by
 rw [Int.natCast_mul]
 by_cases h1:a<0<;>by_cases h2:b<0
 ·rw [show ((a.natAbs:Nat):Int) = -a by omega,show ((b.natAbs:Nat):Int) = -b by omega]
  simp [h1,h2,Int.neg_mul_neg]
 ·rw [show ((a.natAbs:Nat):Int) = -a by omega,show ((b.natAbs:Nat):Int)=b by omega]
  simp [h1,h2,Int.neg_mul]
 ·rw [show ((a.natAbs:Nat):Int)=a by omega,show ((b.natAbs:Nat):Int) = -b by omega]
  simp [h1,h2,Int.mul_neg]
 ·rw [show ((a.natAbs:Nat):Int)=a by omega,show ((b.natAbs:Nat):Int)=b by omega]
  simp [h1,h2]
theorem vI (a:Int) (ha : -9223372036854775808<=a) (ha':a<=9223372036854775807):a.natAbs<=9223372036854775808:=by omega
set_option maxRecDepth 100000 in
set_option maxHeartbeats 2000000 in
theorem Ch (a b:Int) (ha : -9223372036854775808<=a) (ha':a<=9223372036854775807) (hb : -9223372036854775808<=b) (hb':b<=9223372036854775807) (P:Nat) (hP:a.natAbs*b.natAbs=P)
  (hs:decide (a<0)=decide (b<0)) (w:World) :
  Calls Tryz.prog 258 #[.int .i64 a,.int .i64 b] w (Ud (if P / 1000<=9223372036854775807 then .iface 209 (.int .i64 ((P / 1000:Nat):Int)) else .iface 211 (.int .i64 9223372036854775807)) w):=by
 have h1:=vI a ha ha'
 have h2:=vI b hb hb'
 obtain ⟨s,hs1⟩:∃ s,decide (b<0)=s:=⟨_,rfl⟩
 rw [hs1] at hs
 by_cases hbig:P<18446744073709551616000
 ·have hlt:((P / 18446744073709551616:Nat):Int)<1000:=by omega
  have hm:P / 1000<18446744073709551616:=by omega
  by_cases hin:P / 1000<=9223372036854775807
  ·rw [if_pos hin]
   have e1:((P:Int) / 1000)<=9223372036854775807:=by omega
   have e2:(0:Int)<=((P:Int) / 1000):=by omega
   go_enter Tryz.func258,Tryz.ntmps258
   go_wp2_with (first | (go_at_call 260;refine (iC _ (by assumption) (by assumption) _).mono ?_;rintro e w' ⟨rfl,rfl⟩) | (go_at_call 203;refine (kF _ _ P hP (by omega) (by omega) _).mono ?_;rintro e w' ⟨rfl,rfl⟩) | (go_at_call 262;refine (qy P hbig _).mono ?_;rintro e w' ⟨rfl,n,rfl⟩))
   go_ret
   exact ⟨rfl,_,rfl⟩
  ·rw [if_neg hin]
   have e1:(9223372036854775807:Int)<((P:Int) / 1000):=by omega
   clear hin
   go_enter Tryz.func258,Tryz.ntmps258
   go_wp2_with (first | (go_at_call 260;refine (iC _ (by assumption) (by assumption) _).mono ?_;rintro e w' ⟨rfl,rfl⟩) | (go_at_call 203;refine (kF _ _ P hP (by omega) (by omega) _).mono ?_;rintro e w' ⟨rfl,rfl⟩) | (go_at_call 262;refine (qy P hbig _).mono ?_;rintro e w' ⟨rfl,n,rfl⟩) | (go_at_call 261;refine (I8 _).mono ?_;rintro e w' ⟨rfl,rfl⟩))
   go_ret
   exact ⟨rfl,_,rfl⟩
 ·rw [if_neg (by omega)]
  have hlt:1000<=((P / 18446744073709551616:Nat):Int):=by omega
  go_enter Tryz.func258,Tryz.ntmps258
  go_wp2_with (first | (go_at_call 260;refine (iC _ (by assumption) (by assumption) _).mono ?_;rintro e w' ⟨rfl,rfl⟩) | (go_at_call 203;refine (kF _ _ P hP (by omega) (by omega) _).mono ?_;rintro e w' ⟨rfl,rfl⟩) | (go_at_call 261;refine (I8 _).mono ?_;rintro e w' ⟨rfl,rfl⟩))
  go_ret
  exact ⟨rfl,0,rfl⟩
theorem Jp (n z:Int) (more:Bool) (h0:0<=n) (h1:RowKit.Hid (n+(if more then 1 else 0)<=9223372036854775808)) (hz:RowKit.Hid (-n - (if more then 1 else 0)=z)) (w:World) :
  Calls Tryz.prog 263 #[.int .u64 n,.bool more] w fun e w'=>e=.returned (.iface 209 (.int .i64 z))/\w=w':=by
 rw [<- hz.out]
 exact Hj n more h0 h1.out w
set_option maxRecDepth 100000 in
set_option maxHeartbeats 2000000 in
theorem yG (a b:Int) (ha : -9223372036854775808<=a) (ha':a<=9223372036854775807) (hb : -9223372036854775808<=b) (hb':b<=9223372036854775807) (P:Nat) (hP:a.natAbs*b.natAbs=P)
  (hs:decide (a<0)≠decide (b<0)) (w:World) :
  Calls Tryz.prog 258 #[.int .i64 a,.int .i64 b] w (Ud (if P<=9223372036854775808000 then .iface 209 (.int .i64 (-((P / 1000:Nat):Int) - if (0:Int)<((P % 1000:Nat):Int) then 1 else 0)) else .iface 211 (.int .i64 (-9223372036854775808))) w):=by
 have h1:=vI a ha ha'
 have h2:=vI b hb hb'
 obtain ⟨s,hs1⟩:∃ s,decide (b<0)=s:=⟨_,rfl⟩
 have hs2:decide (a<0) = !s:=by rw [<- hs1];revert hs;cases decide (a<0)<;>cases decide (b<0)<;>simp
 clear hs
 obtain ⟨m,hm0⟩:∃ m,decide ((0:Int)<((P % 1000:Nat):Int))=m:=⟨_,rfl⟩
 have hm1:(if m then 1 else 0:Int)=if (0:Int)<((P % 1000:Nat):Int) then 1 else 0:=by rw [<- hm0];simp
 by_cases hbig:P<18446744073709551616000
 ·have hlt:((P / 18446744073709551616:Nat):Int)<1000:=by omega
  have hm:P / 1000<18446744073709551616:=by omega
  have hm0':decide ((0:Int)<(P:Int) % 1000)=m:=hm0
  by_cases hin:P<=9223372036854775808000
  ·rw [if_pos hin,<- hm1]
   have hk:((P / 1000:Nat):Int)+(if m then 1 else 0)<=9223372036854775808:=by
    rw [hm1];split<;>omega
   have HK:=Lib.hid hk
   obtain ⟨z,hz⟩:∃ z:Int,-((P / 1000:Nat):Int) - (if m then 1 else 0)=z:=⟨_,rfl⟩
   rw [hz]
   have HZ:=Lib.hid hz
   clear hk hm1 hm0 hz
   go_enter Tryz.func258,Tryz.ntmps258
   go_wp2_with (first | (go_at_call 260;refine (iC _ (by assumption) (by assumption) _).mono ?_;rintro e w' ⟨rfl,rfl⟩) | (go_at_call 203;refine (kF _ _ P hP (by omega) (by omega) _).mono ?_;rintro e w' ⟨rfl,rfl⟩) | (go_at_call 262;refine (qy P hbig _).mono ?_;rintro e w' ⟨rfl,n,rfl⟩) | (go_at_call 263;refine (Jp _ z m (by omega) HK HZ _).mono ?_;rintro e w' ⟨rfl,rfl⟩))
   go_ret
   exact ⟨rfl,_,rfl⟩
  ·rw [if_neg hin]
   have hk:9223372036854775808<((P / 1000:Nat):Int)+(if m then 1 else 0):=by
    rw [hm1];split<;>omega
   have HK:=Lib.hid hk
   clear hk hm1 hm0 hin
   go_enter Tryz.func258,Tryz.ntmps258
   go_wp2_with (first | (go_at_call 260;refine (iC _ (by assumption) (by assumption) _).mono ?_;rintro e w' ⟨rfl,rfl⟩) | (go_at_call 203;refine (kF _ _ P hP (by omega) (by omega) _).mono ?_;rintro e w' ⟨rfl,rfl⟩) | (go_at_call 262;refine (qy P hbig _).mono ?_;rintro e w' ⟨rfl,n,rfl⟩) | (go_at_call 263;refine (yD _ m (by omega) (by omega) HK.out _).mono ?_;rintro e w' ⟨rfl,rfl⟩))
   go_ret
   exact ⟨rfl,_,rfl⟩
 ·rw [if_neg (by omega)]
  have hlt:1000<=((P / 18446744073709551616:Nat):Int):=by omega
  clear hm1 hm0
  go_enter Tryz.func258,Tryz.ntmps258
  go_wp2_with (first | (go_at_call 260;refine (iC _ (by assumption) (by assumption) _).mono ?_;rintro e w' ⟨rfl,rfl⟩) | (go_at_call 203;refine (kF _ _ P hP (by omega) (by omega) _).mono ?_;rintro e w' ⟨rfl,rfl⟩) | (go_at_call 261;refine (LB _).mono ?_;rintro e w' ⟨rfl,rfl⟩))
  go_ret
  exact ⟨rfl,0,rfl⟩
def TwoD (v c:Int) (w:World) (e:Ending) (w':World):Prop:=e=.returned (.tuple #[.int .i64 v,.int .i64 c])/\∃ n,w'=w.drewN n
theorem Oy (a b:Int) (ha : -9223372036854775808<=a) (ha':a<=9223372036854775807) (hb : -9223372036854775808<=b) (hb':b<=9223372036854775807) (w:World) :
  Calls Tryz.prog 250 #[.int .i64 a,.int .i64 b] w (TwoD (cE (mulI a b)) (iQ (mulI a b)) w):=by
 have hsg:=LQ a b
 obtain ⟨P,hP⟩:∃ P,a.natAbs*b.natAbs=P:=⟨_,rfl⟩
 unfold mulI
 by_cases hs:decide (a<0)=decide (b<0)
 ·rw [hsg.1 hs,hP]
  have hp:=Ch a b ha ha' hb hb' P hP hs w
  by_cases hin:P / 1000<=9223372036854775807
  ·rw [if_pos hin] at hp
   rw [(eP ((P:Int) / 1000) (by omega) (by omega)).1,(eP ((P:Int) / 1000) (by omega) (by omega)).2]
   have HP:=Lib.hid hp
   clear hp hsg hs hin hP
   go_enter Tryz.func250,Tryz.ntmps250
   go_wp2_with (first | (go_at_call 258;refine HP.out.mono ?_;rintro e w' ⟨rfl,n,rfl⟩) | (go_at_call 98;refine (oO _ _).mono ?_;rintro e w' ⟨rfl,rfl⟩))
   go_ret2
   exact ⟨rfl,_,rfl⟩
  ·rw [if_neg hin] at hp
   rw [(Ik ((P:Int) / 1000) (by omega)).1,(Ik ((P:Int) / 1000) (by omega)).2]
   have HP:=Lib.hid hp
   clear hp hsg hs hin hP
   go_enter Tryz.func250,Tryz.ntmps250
   go_wp2_with (first | (go_at_call 258;refine HP.out.mono ?_;rintro e w' ⟨rfl,n,rfl⟩) | (go_at_call 98;refine (nD _ _).mono ?_;rintro e w' ⟨rfl,rfl⟩))
   go_ret2
   exact ⟨rfl,_,rfl⟩
 ·rw [hsg.2 hs,hP]
  have hp:=yG a b ha ha' hb hb' P hP hs w
  have hq:(-(P:Int)) / 1000 = -((P / 1000:Nat):Int) - if (0:Int)<((P % 1000:Nat):Int) then 1 else 0:=by split<;>omega
  by_cases hin:P<=9223372036854775808000
  ·rw [if_pos hin,<- hq] at hp
   rw [(eP (-(P:Int) / 1000) (by omega) (by omega)).1,(eP (-(P:Int) / 1000) (by omega) (by omega)).2]
   have HP:=Lib.hid hp
   clear hp hsg hs hin hP hq
   obtain ⟨q,hq⟩:∃ q,-(P:Int) / 1000=q:=⟨_,rfl⟩
   rw [hq] at HP ⊢
   clear hq
   go_enter Tryz.func250,Tryz.ntmps250
   go_wp2_with (first | (go_at_call 258;refine HP.out.mono ?_;rintro e w' ⟨rfl,n,rfl⟩) | (go_at_call 98;refine (oO _ _).mono ?_;rintro e w' ⟨rfl,rfl⟩))
   go_ret2
   exact ⟨rfl,_,rfl⟩
  ·rw [if_neg hin] at hp
   rw [(It (-(P:Int) / 1000) (by omega)).1,(It (-(P:Int) / 1000) (by omega)).2]
   have HP:=Lib.hid hp
   clear hp hsg hs hin hP hq
   go_enter Tryz.func250,Tryz.ntmps250
   go_wp2_with (first | (go_at_call 258;refine HP.out.mono ?_;rintro e w' ⟨rfl,n,rfl⟩) | (go_at_call 98;refine (nD _ _).mono ?_;rintro e w' ⟨rfl,rfl⟩))
   go_ret2
   exact ⟨rfl,_,rfl⟩
end Go.Proofs.YtncmdfdppmfeeaaGreatDoor.Mil
namespace Go.Proofs.YtncmdfdppmfeeaaGreatDoor.Mil
open Go.Eng Go.RowKit
set_option linter.unusedVariables false
set_option linter.unusedSimpArgs false
theorem mixed:Tryz.prog.follows .mixedOrders=true:=Checked.mixed Tryz.checked
def inR (a:Int):Bool:=decide (-9223372036854775808<=a)&&decide (a<=9223372036854775807)
theorem dN {a:Int}:inR a=true ↔ -9223372036854775808<=a/\a<=9223372036854775807:=by simp [inR]
def du (a b:Int):V:=.tup [.s (.int .i64 a),.s (.int .i64 b)]
def bM (a:Int):V:=.s (.int .i64 a)
theorem vp (w:World) (n:Nat):Below w.heap.size w (w.drewN n):=by
 induction n with
 | zero=>exact Below.refl _ _
 | succ n ih=>exact ih.drew
theorem AU {w w':World} (h:∃ n,w'=w.drewN n):Below w.heap.size w w':=by obtain ⟨n,rfl⟩:=h;exact vp w n
def Rr:Eng.Spec
 | [.s (.int .i64 a),.s (.int .i64 b)]=>.ite none (inR a&&inR b) (.ret (du (cE (mulI a b)) (iQ (mulI a b)))) .fail
 | _=>.fail
theorem aF {c:Bool} {x:T V} {v:V} (h:(T.ite none c x .fail).eval=some v):c=true/\x.eval=some v:=by
 cases c
 ·cases h
 ·exact ⟨rfl,h⟩
theorem zM (args:List V) (v:V) (h:(Rr args).eval=some v):cK args=true/\flat v=true:=by
 unfold Rr at h
 split at h
 ·obtain ⟨_,h⟩:=aF h
  simp only [T.eval,Option.some.injEq] at h
  subst h
  exact ⟨rfl,rfl⟩
 ·cases h
theorem S9:SpecOk Tryz.prog 250 Rr:=by
 refine SpecOk.of_calls Tryz.func250 (by kernel_rfl) (by kernel_rfl) zM fun args v w hfl h hfv => ?_
 clear hfl hfv
 unfold Rr at h
 split at h
 ·rename_i a b
  obtain ⟨hc,h⟩:=aF h
  simp only [Bool.and_eq_true,dN] at hc
  simp only [T.eval,Option.some.injEq] at h
  subst h
  refine (Oy a b hc.1.1 hc.1.2 hc.2.1 hc.2.2 w).mono ?_
  rintro e w' ⟨rfl,hw⟩
  exact ⟨rfl,AU hw⟩
 ·cases h
end Go.Proofs.YtncmdfdppmfeeaaGreatDoor.Mil
namespace Go.Proofs.YtncmdfdppmfeeaaGreatDoor.Conf
open Go.Eng Go.RowKit Mil
set_option linter.unusedVariables false
set_option linter.unusedSimpArgs false
def cM (c:Cf):V:=.agg [bM c.target,bM c.util,bM c.stable,bM c.panic,bM c.grain,bM c.threshold,bM c.up,bM c.down,bM c.min,bM c.max,bM c.initial,bM c.grace,bM c.delay,bM c.burst,bM c.limit,bM c.queue,bM c.timeout,bM c.ready,bM c.subset,bM c.sample]
def gg {α:Type} (v:V) (k:Cf->T α):T α :=
 match v with
 | .agg [.s (.int .i64 a0),.s (.int .i64 a1),.s (.int .i64 a2),.s (.int .i64 a3),.s (.int .i64 a4),.s (.int .i64 a5),.s (.int .i64 a6),.s (.int .i64 a7),.s (.int .i64 a8),.s (.int .i64 a9),.s (.int .i64 a10),.s (.int .i64 a11),.s (.int .i64 a12),.s (.int .i64 a13),.s (.int .i64 a14),.s (.int .i64 a15),.s (.int .i64 a16),.s (.int .i64 a17),.s (.int .i64 a18),.s (.int .i64 a19)]=>k ⟨a0,a1,a2,a3,a4,a5,a6,a7,a8,a9,a10,a11,a12,a13,a14,a15,a16,a17,a18,a19⟩
 | _=>.fail
theorem bN {α:Type} {v:V} {k:Cf->T α} {r:α} (h:(gg v k).eval=some r):∃ c,v=cM c/\(k c).eval=some r:=by
 unfold gg at h
 split at h
 ·exact ⟨_,rfl,h⟩
 ·cases h
def kH (l:List UInt8):V:=.s (.str ⟨⟨l⟩⟩)
def n7:Eng.Spec
 | [.iface t (.s (.int .i64 n)),.s (.int .i64 lo),.s (.int .i64 hi)]=>if t=3\/t=2 then .ret (.s (.bool (eV n lo hi))) else .fail
 | _=>.fail
noncomputable def C0:Cfg:=⟨Tryz.prog,lookG [],[],0⟩
theorem jg:C0.Ok:=Cfg.ok trivial trivial
theorem IA:SpecOk Tryz.prog 88 n7:=by
 refine (af jg mixed Tryz.func88 (by kernel_rfl) (by kernel_rfl)).of_den fun args v hfl h => ?_
 clear hfl
 unfold n7 at h
 split at h
 ·rename_i t n lo hi
  split at h
  ·rename_i ht
   simp only [T.eval,Option.some.injEq] at h
   subst h
   have e:aC C0 aa 88 [.iface t (.s (.int .i64 n)),.s (.int .i64 lo),.s (.int .i64 hi)]=.ret (.s (.bool (bif decide (n<lo) then true else decide (hi<n)))):=by
    rcases ht with rfl | rfl<;>kernel_rfl
   rw [e]
   exact ⟨_,rfl,⟨rfl,rfl⟩,by unfold eV;cases decide (n<lo)<;>rfl⟩
  ·cases h
 ·cases h
def qo:Eng.Spec
 | [x]=>gg x fun c=>.ret (bM (tn c))
 | _=>.fail
theorem ja:SpecOk Tryz.prog 89 qo:=by
 refine (af jg mixed Tryz.func89 (by kernel_rfl) (by kernel_rfl)).of_den fun args v hfl h => ?_
 clear hfl
 unfold qo at h
 split at h
 ·obtain ⟨c,rfl,h2⟩:=bN h
  obtain rfl:=Option.some.inj h2
  clear h h2
  have e:aC C0 aa 89 [cM c]=T.ite (some 8) (c.max==0) (.ret (bM 100)) (.ret (bM c.max)):=by kernel_rfl
  rw [e]
  cases h1:c.max==0
  ·exact ⟨_,rfl,⟨rfl,rfl⟩,by simp at h1;simp [bM,V.den,S.den,tn,h1]⟩
  ·exact ⟨_,rfl,⟨rfl,rfl⟩,by simp at h1;simp [bM,V.den,S.den,tn,h1]⟩
 ·cases h
noncomputable def C1:Cfg:=⟨Tryz.prog,lookG [(88,n7),(89,qo)],[],0⟩
theorem zA:C1.Ok:=Cfg.ok ⟨IA,ja,trivial⟩ trivial
def CG (c:Cf):T V :=
 T.ite (some 8) (eV c.target 10 1000000) (.ret (kH [116,97,114,103,101,116])) (
 T.ite (some 16) (eV c.util 100 1000) (.ret (kH [117,116,105,108])) (
 T.ite (some 24) (eV c.stable 6 600) (.ret (kH [115,116,97,98,108,101])) (
 T.ite (some 32) (eV c.panic 1 c.stable) (.ret (kH [112,97,110,105,99])) (
 T.ite (some 40) (eV c.grain 1 c.panic) (.ret (kH [103,114,97,105,110])) (
 T.ite (some 48) (eV c.threshold 1100 10000) (.ret (kH [116,104,114,101,115,104,111,108,100])) (
 T.ite (some 56) (eV c.up 1001 1000000) (.ret (kH [117,112])) (
 T.ite (some 64) (eV c.down 1001 1000000) (.ret (kH [100,111,119,110])) (
 T.ite (some 72) (eV c.min 0 100) (.ret (kH [109,105,110])) (
 T.ite (some 96) ((bif c.max != 0 then eV c.max (if 1>c.min then 1 else c.min) 100 else false)) (.ret (kH [109,97,120])) (
 T.ite (some 144) (eV c.initial 0 (tn c)) (.ret (kH [105,110,105,116,105,97,108])) (
 T.ite (some 160) (eV c.grace 0 600) (.ret (kH [103,114,97,99,101])) (
 T.ite (some 168) (eV c.delay 0 600) (.ret (kH [100,101,108,97,121])) (
 T.ite (some 192) ((bif c.burst != -1000 then eV c.burst 0 100000000 else false)) (.ret (kH [98,117,114,115,116])) (
 T.ite (some 200) (eV c.limit 1 1000) (.ret (kH [108,105,109,105,116])) (
 T.ite (some 208) (eV c.queue 0 200) (.ret (kH [113,117,101,117,101])) (
 T.ite (some 216) (eV c.timeout 1 10000) (.ret (kH [116,105,109,101,111,117,116])) (
 T.ite (some 224) (eV c.ready 0 100) (.ret (kH [114,101,97,100,121])) (
 T.ite (some 232) (eV c.subset 0 100) (.ret (kH [115,117,98,115,101,116])) (
 T.ite (some 240) (eV c.sample 0 100) (.ret (kH [115,97,109,112,108,101])) (
 .ret (kH [])))))))))))))))))))))
theorem cV {i:Option Nat} {b:Bool} {x y:T V} {l r:List UInt8} (hx:x.eval=some (kH l)) (hy:y.eval=some (kH r)):(T.ite i b x y).eval=some (kH (if b=true then l else r)):=by
 cases b
 ·exact hy
 ·exact hx
theorem I4 {n m:Int} {b:Bool}:(bif n != m then b else false)=(!(n==m)&&b):=by cases h:n==m<;>simp [bne,h]
theorem AM (a:Int):(if 1>a then 1 else a)=max a 1:=by
 rw [Int.max_def];split<;>split<;>omega
theorem xF (c:Cf):(CG c).eval=some (kH (mh c)):=by
 unfold CG mh
 rw [AM,I4,I4]
 exact cV rfl (cV rfl (cV rfl (cV rfl (cV rfl (cV rfl (cV rfl (cV rfl (cV rfl (cV rfl (cV rfl (cV rfl (cV rfl (cV rfl (cV rfl (cV rfl (cV rfl (cV rfl (cV rfl (cV rfl (rfl))))))))))))))))))))
def Dh:Eng.Spec
 | [x]=>gg x fun c=>.ret (kH (mh c))
 | _=>.fail
theorem ET:SpecOk Tryz.prog 47 Dh:=by
 refine (af zA mixed Tryz.func47 (by kernel_rfl) (by kernel_rfl)).of_den fun args v hfl h => ?_
 clear hfl
 unfold Dh at h
 split at h
 ·obtain ⟨c,rfl,h2⟩:=bN h
  obtain rfl:=Option.some.inj h2
  clear h h2
  have e:aC C1 aa 47 [cM c]=CG c:=by kernel_rfl
  rw [e,xF]
  exact ⟨_,rfl,⟨rfl,rfl⟩,rfl⟩
 ·cases h
noncomputable def C2:Cfg:=⟨Tryz.prog,lookG [(88,n7),(89,qo),(47,Dh),(250,Rr)],[],0⟩
theorem De:C2.Ok:=Cfg.ok ⟨IA,ja,ET,S9,trivial⟩ trivial
theorem uG (l:List UInt8):((⟨⟨l⟩⟩:ByteArray).toList==(⟨#[]⟩:ByteArray).toList)=l.isEmpty:=by
 rw [ByteArray.toList_eq,ByteArray.toList_eq]
 cases l<;>rfl
def lg:Eng.Spec
 | [x]=>gg x fun c=>.ret (.s (.bool (eZ c)))
 | _=>.fail
theorem dj:SpecOk Tryz.prog 19 lg:=by
 refine (af De mixed Tryz.func19 (by kernel_rfl) (by kernel_rfl)).of_den fun args v hfl h => ?_
 clear hfl
 unfold lg at h
 split at h
 ·obtain ⟨c,rfl,h2⟩:=bN h
  obtain rfl:=Option.some.inj h2
  clear h h2
  have e:aC C2 aa 19 [cM c]=.ret (.s (.bool ((⟨⟨mh c⟩⟩:ByteArray).toList==(⟨#[]⟩:ByteArray).toList))):=by kernel_rfl
  rw [e,uG]
  exact ⟨_,rfl,⟨rfl,rfl⟩,rfl⟩
 ·cases h
def Yj:Eng.Spec
 | [x]=>gg x fun c=>.ite none (inR c.target&&inR c.util) (.ret (bM (Io c))) .fail
 | _=>.fail
theorem Tj:SpecOk Tryz.prog 230 Yj:=by
 refine (af De mixed Tryz.func230 (by kernel_rfl) (by kernel_rfl)).of_den fun args v hfl h => ?_
 clear hfl
 unfold Yj at h
 split at h
 ·obtain ⟨c,rfl,h2⟩:=bN h
  have e:aC C2 aa 230 [cM c]=.ite none (inR c.target&&inR c.util) (.ret (bM (if 1>cE (mulI c.target c.util) then 1 else cE (mulI c.target c.util)))) .fail:=by kernel_rfl
  rw [e,AM]
  exact ⟨_,h2,by obtain ⟨_,h3⟩:=aF h2;obtain rfl:=Option.some.inj h3;exact ⟨rfl,rfl⟩,rfl⟩
 ·cases h
def dflt:Cf:=⟨10000,700,60,6,1,2000,10000,2000,0,0,1,30,0,20000,10,100,60,3,0,0⟩
def ED:Eng.Spec
 | []=>.ret (cM dflt)
 | _=>.fail
theorem C6:SpecOk Tryz.prog 8 ED:=by
 refine (af jg mixed Tryz.func8 (by kernel_rfl) (by kernel_rfl)).of_den fun args v hfl h => ?_
 clear hfl
 unfold ED at h
 split at h
 ·obtain rfl:=Option.some.inj h
  have e:aC C0 aa 8 []=.ret (cM dflt):=by kernel_rfl
  rw [e]
  exact ⟨_,rfl,⟨rfl,rfl⟩,rfl⟩
 ·cases h
end Go.Proofs.YtncmdfdppmfeeaaGreatDoor.Conf
namespace Go.Proofs.YtncmdfdppmfeeaaGreatDoor.Mil
set_option linter.unusedVariables false
set_option linter.unusedSimpArgs false
theorem pZ (a b:Int):a.tmod b=0↔b∣a:=(Int.dvd_iff_tmod_eq_zero).symm
theorem yv (b:Int) (h:b≠0):(0<b/\b.sign=1)\/(b<0/\b.sign = -1):=by
 rcases Int.lt_trichotomy b 0 with h1 | h1 | h1
 ·exact .inr ⟨h1,Int.sign_eq_neg_one_of_neg h1⟩
 ·exact absurd h1 h
 ·exact .inl ⟨h1,Int.sign_eq_one_of_pos h1⟩
theorem Tf (a b:Int) (hb:b≠0):dnI a b=a.tdiv b - (if a.tmod b≠0/\(a<0)≠(b<0) then 1 else 0):=by
 unfold dnI
 rw [Int.fdiv_eq_ediv,Int.tdiv_eq_ediv]
 by_cases hd:b∣a
 ·have hm:a.tmod b=0:=(pZ a b).2 hd
  simp [hd,hm]
 ·have hm:¬ a.tmod b=0:=fun h=>hd ((pZ a b).1 h)
  rcases yv b hb with ⟨h1,h2⟩ | ⟨h1,h2⟩<;>by_cases ha:a<0
  ·have e1:¬ (0<=a\/b∣a):=by omega
   have e2:(0<=b\/b∣a):=by omega
   have e3:a.tmod b≠0/\(a<0)≠(b<0):=⟨hm,by simp [ha];omega⟩
   rw [if_neg e1,if_pos e2,if_pos e3,h2];omega
  ·have e1:(0<=a\/b∣a):=by omega
   have e2:(0<=b\/b∣a):=by omega
   have e3:¬ (a.tmod b≠0/\(a<0)≠(b<0)):=fun h=>h.2 (by simp [ha];omega)
   rw [if_pos e1,if_pos e2,if_neg e3];omega
  ·have e1:¬ (0<=a\/b∣a):=by omega
   have e2:¬ (0<=b\/b∣a):=by omega
   have e3:¬ (a.tmod b≠0/\(a<0)≠(b<0)):=fun h=>h.2 (by simp [ha,h1])
   rw [if_neg e1,if_neg e2,if_neg e3,h2];omega
  ·have e1:(0<=a\/b∣a):=by omega
   have e2:¬ (0<=b\/b∣a):=by omega
   have e3:a.tmod b≠0/\(a<0)≠(b<0):=⟨hm,by simp [ha,h1]⟩
   rw [if_pos e1,if_neg e2,if_pos e3];omega
theorem XZ (a b:Int) (hb:b≠0):upI a b=a.tdiv b+(if a.tmod b≠0/\(a<0)=(b<0) then 1 else 0):=by
 have h:=Tf (-a) b hb
 unfold dnI at h
 unfold upI
 rw [h,Int.neg_tdiv,Int.neg_tmod]
 by_cases hm:a.tmod b=0
 ·rw [if_neg (by omega),if_neg (by simp [hm])];omega
 ·have ha:a≠0:=fun h=>hm (by rw [h];simp)
  have e:((-a<0)≠(b<0))↔((a<0)=(b<0)):=by
   by_cases h1:a<0<;>by_cases h2:b<0
   ·have:¬ (-a<0):=by omega
    rw [eq_false this,eq_true h1,eq_true h2];simp
   ·have:¬ (-a<0):=by omega
    rw [eq_false this,eq_true h1,eq_false h2];simp
   ·have : -a<0:=by omega
    rw [eq_true this,eq_false h1,eq_true h2];simp
   ·have : -a<0:=by omega
    rw [eq_true this,eq_false h1,eq_false h2];simp
  by_cases hs:(a<0)=(b<0)
  ·rw [if_pos ⟨by omega,e.2 hs⟩,if_pos ⟨hm,hs⟩];omega
  ·rw [if_neg (fun h=>hs (e.1 h.2)),if_neg (fun h=>hs h.2)];omega
theorem sL (a b:Int) (ha : -9223372036854775808<=a) (ha':a<=9223372036854775807) (hb:b≠0) (h:¬ (a = -9223372036854775808/\b = -1)) :
  -9223372036854775808<=a.tdiv b/\a.tdiv b<=9223372036854775807/\(a.tmod b≠0 -> -9223372036854775807<=a.tdiv b/\a.tdiv b<=9223372036854775806):=by
 have h1:(a.tdiv b).natAbs=a.natAbs / b.natAbs:=Int.natAbs_tdiv a b
 by_cases hb1:b.natAbs=1
 ·have hm:a.tmod b=0:=by
   rw [pZ];exact Int.natAbs_dvd_natAbs.1 (by rw [hb1];exact Nat.one_dvd _)
  rcases (show b=1\/b = -1 by omega) with rfl | rfl
  ·simp;omega
  ·rw [show a.tdiv (-1) = -a by rw [Int.tdiv_neg];simp]
   refine ⟨by omega,by omega,fun h=>absurd hm h⟩
 ·have h2:2<=b.natAbs:=by omega
  have h3:a.natAbs / b.natAbs<=a.natAbs / 2:=Nat.div_le_div_left h2 (by omega)
  refine ⟨by omega,by omega,fun _=>by omega⟩
end Go.Proofs.YtncmdfdppmfeeaaGreatDoor.Mil
namespace Go.Proofs.YtncmdfdppmfeeaaGreatDoor.Mil
open Go.Eng Go.RowKit Conf
set_option linter.unusedVariables false
set_option linter.unusedSimpArgs false
theorem aV {i:Option Nat} {c:Bool} {x y:T V} {v:V} (h1:c=true->x.eval=some v) (h2:c=false->y.eval=some v):(T.ite i c x y).eval=some v:=by
 cases c
 ·exact h2 rfl
 ·exact h1 rfl
theorem fE {a b a' b':Int} (h1:a=a') (h2:b=b'):(T.ret (V.tup [V.s (.int .i64 a),V.s (.int .i64 b)])).eval=some (du a' b'):=by rw [h1,h2];rfl
theorem iR {a a':Int} (h1:a=a'):(T.ret (V.s (.int .i64 a))).eval=some (bM a'):=by rw [h1];rfl
theorem O0 {a a':Bool} (h1:a=a'):(T.ret (V.s (.bool a))).eval=some (.s (.bool a')):=by rw [h1];rfl
def two (f:Int->Int->V):Eng.Spec
 | [.s (.int .i64 a),.s (.int .i64 b)]=>.ite none (inR a&&inR b) (.ret (f a b)) .fail
 | _=>.fail
theorem SpecOk.two {P:Program} {n:Nat} {sp:Eng.Spec} {f:Int->Int->V} (h:SpecOk P n sp) (hf:∀ a b,flat (f a b)=true)
  (he:∀ a b,-9223372036854775808<=a->a<=9223372036854775807 -> -9223372036854775808<=b->b<=9223372036854775807->(sp [bM a,bM b]).eval=some (f a b)):SpecOk P n (two f):=by
 refine h.of_den fun args v hfl h => ?_
 clear hfl
 unfold Mil.two at h
 split at h
 ·rename_i a b
  obtain ⟨hc,h⟩:=aF h
  simp only [Bool.and_eq_true,dN] at hc
  obtain rfl:=Option.some.inj h
  exact ⟨_,he a b hc.1.1 hc.1.2 hc.2.1 hc.2.2,⟨hf a b,hf a b⟩,rfl⟩
 ·cases h
noncomputable def U5:Eng.Spec:=aC C0 aa 231
noncomputable def xw:Eng.Spec:=aC C0 aa 98
theorem Kh:SpecOk Tryz.prog 231 U5:=af jg mixed Tryz.func231 (by kernel_rfl) (by kernel_rfl)
theorem pC:SpecOk Tryz.prog 98 xw:=af jg mixed Tryz.func98 (by kernel_rfl) (by kernel_rfl)
noncomputable def M1:Cfg:=⟨Tryz.prog,lookG [(231,U5),(98,xw)],[],0⟩
theorem uI:M1.Ok:=Cfg.ok ⟨Kh,pC,trivial⟩ trivial
theorem bF {a b:Bool}:(bif a then b else false)=true↔a=true/\b=true:=by cases a<;>simp
theorem dD {a b:Bool}:(bif a then b else false)=false↔(a=true->b=false):=by cases a<;>simp
theorem sB {a b:Int}:((decide (a<0)==decide (b<0))=true)↔((a<0)=(b<0)):=by
 rw [beq_iff_eq];constructor
 ·intro h;exact propext (by simpa using h)
 ·intro h;simp only [h]
theorem tw {a b:Int}:((!decide (a<0)==decide (b<0))=true)↔((a<0)≠(b<0)):=by
 by_cases h1:a<0<;>by_cases h2:b<0<;>simp [h1,h2]
def PK (s:Int) (t:Int->Int->Bool) (a b:Int):T V :=
 T.ite none (b==0) (T.ret (du 0 3)) (T.ite none (bif a == -9223372036854775808 then b == -1 else false) (T.ret (du 9223372036854775807 2)) (T.ite none (b==0) T.fail (T.ite none (b==0) T.fail
  (T.ite none (bif Int.tmod a b != 0 then t a b else false) (T.ret (du (IntKind.wrap IntKind.i64 (IntKind.wrap IntKind.i64 (Int.tdiv a b)+s)) 0)) (T.ret (du (IntKind.wrap IntKind.i64 (Int.tdiv a b)) 0))))))
theorem JX {t:Int->Int->Bool} (ht:∀ a b,t a b=true↔(a<0)=(b<0)) {a b:Int} (h1 : -9223372036854775808<=a) (h2:a<=9223372036854775807):(PK 1 t a b).eval=some (du (upV a b) (upE a b)):=by
 unfold PK
 refine aV (fun h => ?_) fun h0=>aV (fun h => ?_) fun h3=>aV (fun h => ?_) fun _=>aV (fun h => ?_) fun _ => ?_
 ·rw [beq_iff_eq] at h;subst h;rfl
 ·rw [bF,beq_iff_eq,beq_iff_eq] at h
  obtain ⟨rfl,rfl⟩:=h
  exact fE (by decide) (by decide)
 ·rw [h0] at h;cases h
 ·rw [h0] at h;cases h
 ·have hb:b≠0:=by simpa using h0
  have hn:¬ (a = -9223372036854775808/\b = -1):=by
   rintro ⟨rfl,rfl⟩;revert h3;decide
  obtain ⟨q1,q2,q3⟩:=sL a b h1 h2 hb hn
  have e1:upV a b=cE (upI a b):=if_neg hb
  have e2:upE a b=iQ (upI a b):=if_neg hb
  rw [e1,e2,XZ a b hb]
  refine aV (fun h => ?_) fun h => ?_
  ·rw [bF,ht] at h
   have hm:a.tmod b≠0:=by simpa [bne] using h.1
   have:=q3 hm
   rw [if_pos ⟨hm,h.2⟩,(eP (a.tdiv b+1) (by omega) (by omega)).1,(eP (a.tdiv b+1) (by omega) (by omega)).2,wrap64_in q1 q2,wrap64_in (by omega) (by omega)]
   rfl
  ·have hc:¬ (a.tmod b≠0/\(a<0)=(b<0)):=fun hh=>by
    rw [dD] at h
    have:=h (by simpa [bne] using hh.1)
    rw [(ht a b).2 hh.2] at this;cases this
   rw [if_neg hc,Int.add_zero,(eP (a.tdiv b) (by omega) (by omega)).1,(eP (a.tdiv b) (by omega) (by omega)).2,wrap64_in q1 q2]
   rfl
theorem LN {t:Int->Int->Bool} (ht:∀ a b,t a b=true↔(a<0)≠(b<0)) {a b:Int} (h1 : -9223372036854775808<=a) (h2:a<=9223372036854775807):(PK (-1) t a b).eval=some (du (dnV a b) (dnE a b)):=by
 unfold PK
 refine aV (fun h => ?_) fun h0=>aV (fun h => ?_) fun h3=>aV (fun h => ?_) fun _=>aV (fun h => ?_) fun _ => ?_
 ·rw [beq_iff_eq] at h;subst h;rfl
 ·rw [bF,beq_iff_eq,beq_iff_eq] at h
  obtain ⟨rfl,rfl⟩:=h
  exact fE (by decide) (by decide)
 ·rw [h0] at h;cases h
 ·rw [h0] at h;cases h
 ·have hb:b≠0:=by simpa using h0
  have hn:¬ (a = -9223372036854775808/\b = -1):=by
   rintro ⟨rfl,rfl⟩;revert h3;decide
  obtain ⟨q1,q2,q3⟩:=sL a b h1 h2 hb hn
  have e1:dnV a b=cE (dnI a b):=if_neg hb
  have e2:dnE a b=iQ (dnI a b):=if_neg hb
  rw [e1,e2,Tf a b hb]
  refine aV (fun h => ?_) fun h => ?_
  ·rw [bF,ht] at h
   have hm:a.tmod b≠0:=by simpa [bne] using h.1
   have:=q3 hm
   rw [if_pos ⟨hm,h.2⟩,(eP (a.tdiv b - 1) (by omega) (by omega)).1,(eP (a.tdiv b - 1) (by omega) (by omega)).2,wrap64_in q1 q2,wrap64_in (by omega) (by omega)]
   rfl
  ·have hc:¬ (a.tmod b≠0/\(a<0)≠(b<0)):=fun hh=>by
    rw [dD] at h
    have:=h (by simpa [bne] using hh.1)
    rw [(ht a b).2 hh.2] at this;cases this
   rw [if_neg hc,Int.sub_zero,(eP (a.tdiv b) (by omega) (by omega)).1,(eP (a.tdiv b) (by omega) (by omega)).2,wrap64_in q1 q2]
   rfl
def upS:Eng.Spec:=two fun a b=>du (upV a b) (upE a b)
def dnS:Eng.Spec:=two fun a b=>du (dnV a b) (dnE a b)
def Zq:Eng.Spec:=two fun a b=>du (cE (a - b)) (iQ (a - b))
theorem Ty:SpecOk Tryz.prog 210 upS:=by
 refine SpecOk.two (af uI mixed Tryz.func210 (by kernel_rfl) (by kernel_rfl)) (fun _ _=>rfl) fun a b h1 h2 h3 h4 => ?_
 have e:T.anon (aC M1 aa 210 [bM a,bM b])=PK 1 (fun a b=>(!decide (a<0)==decide (b<0))==decide ((1:Int)<0)) a b:=by kernel_rfl
 rw [<- T.eval_anon,e]
 refine JX (fun a b => ?_) h1 h2
 rw [<- sB]
 cases decide (a<0)<;>cases decide (b<0)<;>decide
theorem YG:SpecOk Tryz.prog 252 dnS:=by
 refine SpecOk.two (af uI mixed Tryz.func252 (by kernel_rfl) (by kernel_rfl)) (fun _ _=>rfl) fun a b h1 h2 h3 h4 => ?_
 have e:T.anon (aC M1 aa 252 [bM a,bM b])=PK (-1) (fun a b=>(!decide (a<0)==decide (b<0))==decide ((-1:Int)<0)) a b:=by kernel_rfl
 rw [<- T.eval_anon,e]
 refine LN (fun a b => ?_) h1 h2
 rw [<- tw]
 cases decide (a<0)<;>cases decide (b<0)<;>decide
theorem fz {n m:Int} (h:n % 18446744073709551616=m % 18446744073709551616):IntKind.wrap .i64 n=IntKind.wrap .i64 m:=by
 have h':n % 2 ^ IntKind.i64.bits=m % 2 ^ IntKind.i64.bits:=h
 simp only [IntKind.wrap,h']
theorem C4 {a b:Int} (h1 : -9223372036854775808<=a) (h2:a<=9223372036854775807) (h3 : -9223372036854775808<=b) (h4:b<=9223372036854775807) :
  (IntKind.wrap .i64 (a - b)=if 9223372036854775807<a - b then a - b - 18446744073709551616 else if a - b < -9223372036854775808 then a - b+18446744073709551616 else a - b):=by
 by_cases c1:9223372036854775807<a - b
 ·rw [if_pos c1,<- IntWalk.i64_in (a - b - 18446744073709551616) ⟨by omega,by omega⟩]
  exact fz (by omega)
 ·rw [if_neg c1]
  by_cases c2:a - b < -9223372036854775808
  ·rw [if_pos c2,<- IntWalk.i64_in (a - b+18446744073709551616) ⟨by omega,by omega⟩]
   exact fz (by omega)
  ·rw [if_neg c2,wrap64_in (by omega) (by omega)]
noncomputable def UX:Eng.Spec:=aC C0 aa 99
theorem LS:SpecOk Tryz.prog 99 UX:=af jg mixed Tryz.func99 (by kernel_rfl) (by kernel_rfl)
noncomputable def M2:Cfg:=⟨Tryz.prog,lookG [(99,UX),(98,xw)],[],0⟩
theorem NK:M2.Ok:=Cfg.ok ⟨LS,pC,trivial⟩ trivial
theorem HF:SpecOk Tryz.prog 61 Zq:=by
 refine SpecOk.two (af NK mixed Tryz.func61 (by kernel_rfl) (by kernel_rfl)) (fun _ _=>rfl) fun a b h1 h2 h3 h4 => ?_
 have e:T.anon (aC M2 aa 61 [bM a,bM b])=T.ite none (bif bif decide (a<0) then decide (0<=b) else false then decide (0<=IntKind.wrap IntKind.i64 (a - b)) else false) (T.ret (du (-9223372036854775808) 2))
   (T.ite none (bif bif decide (0<=a) then decide (b<0) else false then decide (IntKind.wrap IntKind.i64 (a - b)<0) else false) (T.ret (du 9223372036854775807 2)) (T.ret (du (IntKind.wrap IntKind.i64 (a - b)) 0))):=by kernel_rfl
 rw [<- T.eval_anon,e,C4 h1 h2 h3 h4]
 refine aV (fun h => ?_) fun h=>aV (fun h5 => ?_) fun h5 => ?_
 ·simp only [bF,decide_eq_true_eq] at h
  refine fE ?_ ?_<;>simp only [cE,iQ]<;>(split at h<;>repeat' split)<;>omega
 ·simp only [bF,decide_eq_true_eq] at h5
  refine fE ?_ ?_<;>simp only [cE,iQ]<;>(split at h5<;>repeat' split)<;>omega
 ·simp only [dD,bF,decide_eq_true_eq,decide_eq_false_iff_not] at h h5
  refine fE ?_ ?_<;>simp only [cE,iQ]<;>(repeat' split)<;>(try split at h)<;>(try split at h5)<;>omega
def mU:Eng.Spec
 | [.s (.int .i64 a),.s (.int .i64 b),.s (.int .i64 c)]=>.ret (bM (aE a b c))
 | _=>.fail
theorem Gt {n:Nat} {C:Cfg} (h:SpecOk C.P n (aC C aa n)) (he:∀ a b c,T.anon (aC C aa n [bM a,bM b,bM c])=T.ite none (decide (c<a)) (T.ret (bM c)) (T.ite none (decide (a<b)) (T.ret (bM b)) (T.ret (bM a)))):SpecOk C.P n mU:=by
 refine h.of_den fun args v hfl h => ?_
 clear hfl
 unfold mU at h
 split at h
 ·rename_i a b c
  obtain rfl:=Option.some.inj h
  refine ⟨bM (aE a b c),?_,⟨rfl,rfl⟩,rfl⟩
  rw [<- T.eval_anon,show aC C aa n [V.s (.int .i64 a),V.s (.int .i64 b),V.s (.int .i64 c)]=aC C aa n [bM a,bM b,bM c] from rfl,he]
  unfold aE
  refine aV (fun h => ?_) fun h=>aV (fun h5 => ?_) fun h5 => ?_<;>simp only [decide_eq_true_eq,decide_eq_false_iff_not] at *
  ·rw [if_pos h];rfl
  ·rw [if_neg h,if_pos h5];rfl
  ·rw [if_neg h,if_neg h5];rfl
 ·cases h
theorem lJ:SpecOk Tryz.prog 60 mU:=Gt (C:=C0) (af jg mixed Tryz.func60 (by kernel_rfl) (by kernel_rfl)) fun a b c=>by kernel_rfl
end Go.Proofs.YtncmdfdppmfeeaaGreatDoor.Mil
