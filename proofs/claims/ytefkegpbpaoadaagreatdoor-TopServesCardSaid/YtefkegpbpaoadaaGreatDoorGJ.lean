import Derived.Test.YtefkegpbpaoadaaGreatDoorRows
import Derived.WalkKit
import Derived.ProofKit
import Derived.OpenShut
import Derived.Lib.Hide
import Derived.Lib.Mul64
import Derived.Laws.Bits64b
import Derived.Shelf.Bits.Mul64
import Derived.Deep.QuietTactic
import Derived.BigQuiet
import Derived.Handy
import Derived.Test.YtefkegpbpaoadaaGreatDoorGE
set_option linter.unusedVariables false
set_option linter.unusedSimpArgs false
noncomputable section
namespace Go.Proofs.YtefkegpbpaoadaaGreatDoor.Mil
open Go.ChangeShapes Go.WideShapes Go.ChangeAt Go.RowKit
theorem Lc (v:Value) (w:World):(Instr.typeAssert (.iface 167 v) 20 167 true).run Tryz.prog w=.ok (.tuple #[v,.bool true]) w:=by kernel_rfl
theorem yb (v:Value) (w:World):(Instr.typeAssert (.iface 169 v) 20 167 true).run Tryz.prog w=.ok (.tuple #[.int .i64 0,.bool false]) w:=by kernel_rfl
theorem Gx (v:Value) (w:World):(Instr.typeAssert (.iface 169 v) 20 169 true).run Tryz.prog w=.ok (.tuple #[v,.bool true]) w:=by kernel_rfl
def Two (v c:Int) (w:World) (e:Ending) (w':World):Prop:=e=.returned (.tuple #[.int .i64 v,.int .i64 c])/\w=w'
def One (v:Int) (w:World) (e:Ending) (w':World):Prop:=e=.returned (.int .i64 v)/\w=w'
theorem qh (n:Int) (w:World):Calls Tryz.prog 73 #[.iface 167 (.int .i64 n)] w (Two n 0 w):=by
 have t1:=Lc
 go_enter Tryz.func73,Tryz.ntmps73
 go_wp2
 go_ret2;exact ⟨rfl,rfl⟩
theorem n9 (n:Int) (w:World):Calls Tryz.prog 73 #[.iface 169 (.int .i64 n)] w (Two n 2 w):=by
 have t1:=yb;have t2:=Gx
 go_enter Tryz.func73,Tryz.ntmps73
 go_wp2
 go_ret2;exact ⟨rfl,rfl⟩
def OneU (v:Int) (w:World) (e:Ending) (w':World):Prop:=e=.returned (.int .u64 v)/\w=w'
def Wl (v c:Int) (w:World) (e:Ending) (w':World):Prop:=e=.returned (.tuple #[.int .u64 v,.int .u64 c])/\w=w'
theorem jH (a:Int) (ha : -9223372036854775808<=a) (ha':a<=9223372036854775807) (w:World) :
  Calls Tryz.prog 229 #[.int .i64 a] w (OneU (a.natAbs:Nat) w):=by
 by_cases h:a<0
 ·have e1:IntKind.u64.wrap a=a+18446744073709551616:=by rw [IntKind.wrap_u64];omega
  have e2:IntKind.u64.wrap (-(a+18446744073709551616))=(a.natAbs:Nat):=by rw [IntKind.wrap_u64];omega
  obtain ⟨c,hc⟩:∃ c:Int,a+18446744073709551616=c:=⟨_,rfl⟩
  rw [hc] at e1 e2;clear hc
  go_enter Tryz.func229,Tryz.ntmps229
  go_wp2
  go_ret
  exact ⟨by simp [*],rfl⟩
 ·have e1:IntKind.u64.wrap a=(a.natAbs:Nat):=by rw [IntKind.wrap_u64];omega
  go_enter Tryz.func229,Tryz.ntmps229
  go_wp2
  go_ret
  exact ⟨by simp [*],rfl⟩
set_option maxHeartbeats 1000000 in
theorem oO (x y:Nat) (hx:x<18446744073709551616) (hy:y<18446744073709551616) (w:World) :
  Calls Tryz.prog 157 #[.int .u64 x,.int .u64 y] w (Wl ((x*y / 18446744073709551616:Nat):Int) ((x*y % 18446744073709551616:Nat):Int) w):=by
 obtain ⟨bd,bt,bw,hhi⟩:=Lib.mul64_hi x y hx hy;have ba:=Lib.half_mul_le (a:=x / 4294967296) (b:=y / 4294967296) (by omega) (by omega);have bb:=Lib.half_mul_le (a:=x / 4294967296) (b:=y % 4294967296) (by omega) (by omega);have bc:=Lib.half_mul_le (a:=x % 4294967296) (b:=y / 4294967296) (by omega) (by omega);have ba':x / 4294967296*(y / 4294967296)<18446744073709551616:=by omega
 have bb':x / 4294967296*(y % 4294967296)<18446744073709551616:=by omega
 have bc':x % 4294967296*(y / 4294967296)<18446744073709551616:=by omega
 have bh1:x / 4294967296*(y / 4294967296)+(x / 4294967296*(y % 4294967296)+x % 4294967296*(y % 4294967296) / 4294967296) / 4294967296<18446744073709551616:=by omega
 have bh:x / 4294967296*(y / 4294967296)+(x / 4294967296*(y % 4294967296)+x % 4294967296*(y % 4294967296) / 4294967296) / 4294967296+((x / 4294967296*(y % 4294967296)+x % 4294967296*(y % 4294967296) / 4294967296) % 4294967296+x % 4294967296*(y / 4294967296)) / 4294967296<18446744073709551616:=by omega
 go_enter Tryz.func157,Tryz.ntmps157
 go_wp2
 simp only [Mul64.maskN x hx,Mul64.maskN y hy,Mul64.divN,Mul64.mulN,Mul64.addN,Mul64.wrapN _ bd,Mul64.wrapN _ bb',Mul64.wrapN _ bt,Mul64.maskN _ bt,Mul64.wrapN _ bc',Mul64.wrapN _ bw,Mul64.wrapN _ ba',Mul64.wrapN _ bh1,Mul64.wrapN _ bh,Mul64.wrapM (x*y)];rw [hhi]
 go_ret2
 exact ⟨rfl,rfl⟩
set_option maxRecDepth 100000 in
theorem Ey (w:World):Calls Tryz.prog 233 #[.int .u64 1000] w (One 54 w):=by
 go_enter Tryz.func233,Tryz.ntmps233
 go_wp2
 go_ret
 exact ⟨by kernel_rfl,rfl⟩
def ZK (v c:Int) (w:World) (e:Ending) (w':World):Prop:=e=.returned (.tuple #[.int .u64 v,.int .u64 c])/\∃ n,w'=w.drewN n
set_option maxHeartbeats 1000000 in
theorem zg (lo:Nat) (h2:lo<18446744073709551616) (w:World) :
  Calls Tryz.prog 231 #[.int .u64 0,.int .u64 lo,.int .u64 1000] w (ZK ((lo / 1000:Nat):Int) ((lo % 1000:Nat):Int) w):=by
 have e1:IntKind.u64.wrap ((lo:Int) / 1000)=(lo:Int) / 1000:=by rw [IntKind.wrap_u64];omega
 go_enter Tryz.func231,Tryz.ntmps231
 go_wp2
 go_quiet (fail)
 go_wp2
 go_ret2
 exact ⟨rfl,_,rfl⟩
theorem Zk (h l:Nat) (hh:h<1000) (hl:l<18014398509481984):bits .or .u64 ((h:Int)*18014398509481984) (l:Int)=(h:Int)*18014398509481984+l:=by
 have e:=bits_or_u64_nat (h*18014398509481984) l (by omega) (by omega);have e2:=Nat.shiftLeft_add_eq_or_of_lt (i:=54) (show l<2 ^ 54 from hl) h;rw [Nat.shiftLeft_eq] at e2;have e3:((h*18014398509481984:Nat):Int)=(h:Int)*18014398509481984:=by rw [Int.natCast_mul];rfl
 rw [e3] at e;rw [e,<- e3,<- Int.natCast_add];exact congrArg Int.ofNat e2.symm
theorem vb (U q1 r1 u a b c V:Int) (e1:U=q1*4194304000+r1) (hV:V=r1*4294967296+u) (b0:0<=V) (b1:V<18446744073709551616)
  (ha:IntKind.u64.wrap (U*4294967296)=a) (hb:IntKind.u64.wrap (a+u)=b) (hc:IntKind.u64.wrap (q1*18014398509481984000)=c):IntKind.u64.wrap (b - c)=V:=by
 rw [IntKind.wrap_u64] at *
 omega
theorem afp (V q0 r0 a c:Int) (e1:V=q0*4194304000+r0) (b0:0<=r0) (b1:r0<4194304000)
  (ha:IntKind.u64.wrap (V*4294967296)=a) (hc:IntKind.u64.wrap (q0*18014398509481984000)=c):IntKind.u64.wrap (a - c)=r0*4294967296:=by
 rw [IntKind.wrap_u64] at *
 omega
theorem Tt (N hi lo x U u q1 r1 V q0 r0:Int) (hN:N=hi*18446744073709551616+lo) (hU:U=hi*18014398509481984+lo / 1024) (hu:u=(lo % 1024)*4194304)
  (e1:U=q1*4194304000+r1) (hV:V=r1*4294967296+u) (e0:V=q0*4194304000+r0) (b0:0<=r0) (b1:r0<4194304000) :
  N / 1000=q1*4294967296+q0/\N % 1000=r0 / 4194304:=by
 have h:N*4194304=(q1*4294967296+q0)*4194304000+r0:=by omega
 clear hN hU hu e1 hV e0;generalize q1*4294967296+q0=Q at *
 omega
set_option maxRecDepth 100000 in
set_option maxHeartbeats 2000000 in
theorem zw (hi lo:Nat) (h0:1<=hi) (h1:hi<1000) (h2:lo<18446744073709551616) (w:World) :
  Calls Tryz.prog 231 #[.int .u64 hi,.int .u64 lo,.int .u64 1000] w (Wl (((hi:Int)*18446744073709551616+lo) / 1000) (((hi:Int)*18446744073709551616+lo) % 1000) w):=by
 have hor:=Zk hi (lo / 1024) h1 (by omega);rw [show ((lo / 1024:Nat):Int)=(lo:Int) / 1024 from rfl] at hor;have hand0:bits .and .u64 18014398509481984000 4294967295=0:=by decide
 obtain ⟨U,hU⟩:∃ U:Int,U=(hi:Int)*18014398509481984+(lo:Int) / 1024:=⟨_,rfl⟩
 obtain ⟨u,hu⟩:∃ u:Int,u=((lo:Int) % 1024)*4194304:=⟨_,rfl⟩
 obtain ⟨L,hL⟩:∃ L:Int,L=u*4294967296:=⟨_,rfl⟩
 obtain ⟨q1,hq1⟩:∃ q1:Int,U / 4194304000=q1:=⟨_,rfl⟩
 obtain ⟨r1,hr1⟩:∃ r1:Int,U - q1*4194304000=r1:=⟨_,rfl⟩
 obtain ⟨V,hV⟩:∃ V:Int,V=r1*4294967296+u:=⟨_,rfl⟩
 obtain ⟨q0,hq0⟩:∃ q0:Int,V / 4194304000=q0:=⟨_,rfl⟩
 obtain ⟨r0,hr0⟩:∃ r0:Int,V - q0*4194304000=r0:=⟨_,rfl⟩
 have c0:0<=u/\u<4294967296:=by omega
 have c1:0<=U/\U<18014398509481984000:=by omega
 have c2:0<=q1/\q1<4294967296:=by omega
 have c3:0<=r1/\r1<4194304000:=by omega
 have c4:0<=V/\V<18014398509481984000:=by omega
 have c5:0<=q0/\q0<4294967296:=by omega
 have c6:0<=r0/\r0<4194304000:=by omega
 obtain ⟨a,f1⟩:∃ a:Int,IntKind.u64.wrap (U*4294967296)=a:=⟨_,rfl⟩
 obtain ⟨b,f2⟩:∃ b:Int,IntKind.u64.wrap (a+u)=b:=⟨_,rfl⟩
 obtain ⟨c,f3⟩:∃ c:Int,IntKind.u64.wrap (q1*18014398509481984000)=c:=⟨_,rfl⟩
 have f4:=vb U q1 r1 u a b c V (by omega) hV c4.1 (by omega) f1 f2 f3;obtain ⟨a',g1⟩:∃ a:Int,IntKind.u64.wrap (V*4294967296)=a:=⟨_,rfl⟩
 obtain ⟨c',g2⟩:∃ c:Int,IntKind.u64.wrap (q0*18014398509481984000)=c:=⟨_,rfl⟩
 have g3:=afp V q0 r0 a' c' (by omega) c6.1 c6.2 g1 g2;obtain ⟨d,hd⟩:∃ d:Int,r0*4294967296=d:=⟨_,rfl⟩
 have g4:d / 18014398509481984=r0 / 4194304:=by omega
 have hQ:=Tt _ hi lo 0 U u q1 r1 V q0 r0 rfl hU hu (by omega) hV (by omega) c6.1 c6.2;rw [hQ.1,hQ.2];have k1:IntKind.u64.wrap ((lo:Int)*18014398509481984)=L:=by rw [IntKind.wrap_u64];omega
 have k2:L / 4294967296=u:=by omega
 have c7:0<=L/\L<18446744073709551616:=by omega
 have k3:bits .and .u64 L 4294967295=0:=by
  obtain ⟨n,rfl⟩:=Int.eq_ofNat_of_zero_le c7.1;rw [Mul64.maskN n (by omega)];have:n % 4294967296=0:=by omega
  rw [this];rfl
 rw [hd] at g3;obtain ⟨R,hR⟩:∃ R:Int,r0 / 4194304=R:=⟨_,rfl⟩
 rw [hR] at g4 ⊢;rw [<- hU] at hor;have a0:0<=(a:Int):=by rw [IntKind.wrap_u64] at f1;omega
 have a1:0<=b:=by rw [IntKind.wrap_u64] at f2;omega
 have a2:0<=d:=by omega
 have a3:0<=a'/\a'<=18446744073709551615:=by rw [IntKind.wrap_u64] at g1;omega
 obtain ⟨a3a,a3b⟩:=a3;clear hU hu hL hV hR hd hQ;obtain ⟨c0a,c0b⟩:=c0;obtain ⟨c1a,c1b⟩:=c1;obtain ⟨c2a,c2b⟩:=c2;obtain ⟨c3a,c3b⟩:=c3;obtain ⟨c4a,c4b⟩:=c4;obtain ⟨c5a,c5b⟩:=c5;obtain ⟨c6a,c6b⟩:=c6;clear c7;have hne:((hi:Int)==0)=false:=by rw [ajH];omega
 have n1:decide (4294967296<=q1)=false:=by rw [ajO];omega
 have n2:decide (4294967296<=q0)=false:=by rw [ajO];omega
 go_enter Tryz.func231,Tryz.ntmps231
 go_wp2_with (go_at_call 233;refine (Ey _).mono ?_;rintro e w' ⟨rfl,rfl⟩)
 go_rounds 1
 go_rounds 1
 go_ret2
 exact ⟨by simp [hq1,hq0],rfl⟩
def Wr (v:Value) (w:World) (e:Ending) (w':World):Prop:=e=.returned v/\∃ n,w'=w.drewN n
theorem O9 (w:World):Calls Tryz.prog 230 #[.bool true] w (One (-9223372036854775808) w):=by
 go_enter Tryz.func230,Tryz.ntmps230
 go_wp2
 go_ret
 exact ⟨rfl,rfl⟩
theorem OU (w:World):Calls Tryz.prog 230 #[.bool false] w (One 9223372036854775807 w):=by
 go_enter Tryz.func230,Tryz.ntmps230
 go_wp2
 go_ret
 exact ⟨rfl,rfl⟩
theorem Mu (n:Int) (more:Bool) (h0:0<=n) (h1:n+(if more then 1 else 0)<=9223372036854775808) (w:World) :
  Calls Tryz.prog 232 #[.int .u64 n,.bool more] w fun e w'=>e=.returned (.iface 167 (.int .i64 (-n - (if more then 1 else 0))))/\w=w':=by
 by_cases hn:n=9223372036854775808
 ·subst hn;cases more
  ·go_enter Tryz.func232,Tryz.ntmps232
   go_wp2
   go_ret
   exact ⟨by kernel_rfl,rfl⟩
  ·simp at h1
 ·have e1:(n==9223372036854775808)=false:=by rw [ajH];exact hn
  have h2:n<=9223372036854775807:=by cases more<;>simp at h1<;>omega
  clear hn;cases more<;>simp at h1 ⊢
  all_goals
   go_enter Tryz.func232,Tryz.ntmps232
   go_wp2
   go_ret
   exact ⟨by simp,rfl⟩
theorem BU (n:Int) (more:Bool) (h0:0<=n) (h2:n<=18446744073709551615) (h1:9223372036854775808<n+(if more then 1 else 0)) (w:World) :
  Calls Tryz.prog 232 #[.int .u64 n,.bool more] w fun e w'=>e=.returned (.iface 169 (.int .i64 (-9223372036854775808)))/\w=w':=by
 by_cases hn:n=9223372036854775808
 ·subst hn;cases more
  ·simp at h1
  ·go_enter Tryz.func232,Tryz.ntmps232
   go_wp2
   go_ret
   exact ⟨rfl,rfl⟩
 ·have h3:9223372036854775808<n:=by cases more<;>simp at h1<;>omega
  have e1:(n==9223372036854775808)=false:=by rw [ajH];exact hn
  clear hn h1;cases more
  all_goals
   go_enter Tryz.func232,Tryz.ntmps232
   go_wp2
   go_ret
   exact ⟨rfl,rfl⟩
theorem sS (P:Nat) (h:P<18446744073709551616000) (w:World) :
  Calls Tryz.prog 231 #[.int .u64 ((P / 18446744073709551616:Nat):Int),.int .u64 ((P % 18446744073709551616:Nat):Int),.int .u64 1000] w (ZK ((P / 1000:Nat):Int) ((P % 1000:Nat):Int) w):=by
 obtain ⟨hi,hhi⟩:∃ hi,P / 18446744073709551616=hi:=⟨_,rfl⟩
 obtain ⟨lo,hlo⟩:∃ lo,P % 18446744073709551616=lo:=⟨_,rfl⟩
 have b1:hi<1000:=by omega
 have b2:lo<18446744073709551616:=by omega
 have e:(P:Int)=(hi:Int)*18446744073709551616+lo:=by omega
 rw [hhi,hlo];by_cases h0:hi=0
 ·subst h0;have e2:P=lo:=by omega
  subst e2;exact zg P b2 w
 ·refine (zw hi lo (by omega) b1 b2 w).mono fun e' w' ⟨h1,h2⟩=>⟨?_,0,h2.symm⟩
  rw [h1,<- e];rfl
theorem lT (x y P:Nat) (hP:x*y=P) (hx:x<18446744073709551616) (hy:y<18446744073709551616) (w:World) :
  Calls Tryz.prog 157 #[.int .u64 x,.int .u64 y] w (Wl ((P / 18446744073709551616:Nat):Int) ((P % 18446744073709551616:Nat):Int) w):=by
 subst hP;exact oO x y hx hy w
theorem RY (a b:Int):(decide (a<0)=decide (b<0)->a*b=((a.natAbs*b.natAbs:Nat):Int))/\(decide (a<0)≠decide (b<0)->a*b = -((a.natAbs*b.natAbs:Nat):Int)):=by
 rw [Int.natCast_mul];by_cases h1:a<0<;>by_cases h2:b<0
 ·rw [show ((a.natAbs:Nat):Int) = -a by omega,show ((b.natAbs:Nat):Int) = -b by omega];simp [h1,h2,Int.neg_mul_neg]
 ·rw [show ((a.natAbs:Nat):Int) = -a by omega,show ((b.natAbs:Nat):Int)=b by omega];simp [h1,h2,Int.neg_mul]
 ·rw [show ((a.natAbs:Nat):Int)=a by omega,show ((b.natAbs:Nat):Int) = -b by omega];simp [h1,h2,Int.mul_neg]
 ·rw [show ((a.natAbs:Nat):Int)=a by omega,show ((b.natAbs:Nat):Int)=b by omega];simp [h1,h2]
theorem AO (a:Int) (ha : -9223372036854775808<=a) (ha':a<=9223372036854775807):a.natAbs<=9223372036854775808:=by omega
set_option maxRecDepth 100000 in
set_option maxHeartbeats 2000000 in
theorem FD (a b:Int) (ha : -9223372036854775808<=a) (ha':a<=9223372036854775807) (hb : -9223372036854775808<=b) (hb':b<=9223372036854775807) (P:Nat) (hP:a.natAbs*b.natAbs=P)
  (hs:decide (a<0)=decide (b<0)) (w:World) :
  Calls Tryz.prog 227 #[.int .i64 a,.int .i64 b] w (Wr (if P / 1000<=9223372036854775807 then .iface 167 (.int .i64 ((P / 1000:Nat):Int)) else .iface 169 (.int .i64 9223372036854775807)) w):=by
 have h1:=AO a ha ha';have h2:=AO b hb hb';obtain ⟨s,hs1⟩:∃ s,decide (b<0)=s:=⟨_,rfl⟩
 rw [hs1] at hs;by_cases hbig:P<18446744073709551616000
 ·have hlt:((P / 18446744073709551616:Nat):Int)<1000:=by omega
  have hm:P / 1000<18446744073709551616:=by omega
  by_cases hin:P / 1000<=9223372036854775807
  ·rw [if_pos hin];have e1:((P:Int) / 1000)<=9223372036854775807:=by omega
   have e2:(0:Int)<=((P:Int) / 1000):=by omega
   go_enter Tryz.func227,Tryz.ntmps227
   go_wp2_with (first | (go_at_call 229;refine (jH _ (by assumption) (by assumption) _).mono ?_;rintro e w' ⟨rfl,rfl⟩) | (go_at_call 157;refine (lT _ _ P hP (by omega) (by omega) _).mono ?_;rintro e w' ⟨rfl,rfl⟩) | (go_at_call 231;refine (sS P hbig _).mono ?_;rintro e w' ⟨rfl,n,rfl⟩))
   go_ret
   exact ⟨rfl,_,rfl⟩
  ·rw [if_neg hin];have e1:(9223372036854775807:Int)<((P:Int) / 1000):=by omega
   clear hin
   go_enter Tryz.func227,Tryz.ntmps227
   go_wp2_with (first | (go_at_call 229;refine (jH _ (by assumption) (by assumption) _).mono ?_;rintro e w' ⟨rfl,rfl⟩) | (go_at_call 157;refine (lT _ _ P hP (by omega) (by omega) _).mono ?_;rintro e w' ⟨rfl,rfl⟩) | (go_at_call 231;refine (sS P hbig _).mono ?_;rintro e w' ⟨rfl,n,rfl⟩) | (go_at_call 230;refine (OU _).mono ?_;rintro e w' ⟨rfl,rfl⟩))
   go_ret
   exact ⟨rfl,_,rfl⟩
 ·rw [if_neg (by omega)];have hlt:1000<=((P / 18446744073709551616:Nat):Int):=by omega
  go_enter Tryz.func227,Tryz.ntmps227
  go_wp2_with (first | (go_at_call 229;refine (jH _ (by assumption) (by assumption) _).mono ?_;rintro e w' ⟨rfl,rfl⟩) | (go_at_call 157;refine (lT _ _ P hP (by omega) (by omega) _).mono ?_;rintro e w' ⟨rfl,rfl⟩) | (go_at_call 230;refine (OU _).mono ?_;rintro e w' ⟨rfl,rfl⟩))
  go_ret
  exact ⟨rfl,0,rfl⟩
theorem P5 (n z:Int) (more:Bool) (h0:0<=n) (h1:RowKit.Hid (n+(if more then 1 else 0)<=9223372036854775808)) (hz:RowKit.Hid (-n - (if more then 1 else 0)=z)) (w:World) :
  Calls Tryz.prog 232 #[.int .u64 n,.bool more] w fun e w'=>e=.returned (.iface 167 (.int .i64 z))/\w=w':=by
 rw [<- hz.out];exact Mu n more h0 h1.out w
set_option maxRecDepth 100000 in
set_option maxHeartbeats 2000000 in
theorem C7 (a b:Int) (ha : -9223372036854775808<=a) (ha':a<=9223372036854775807) (hb : -9223372036854775808<=b) (hb':b<=9223372036854775807) (P:Nat) (hP:a.natAbs*b.natAbs=P)
  (hs:decide (a<0)≠decide (b<0)) (w:World) :
  Calls Tryz.prog 227 #[.int .i64 a,.int .i64 b] w (Wr (if P<=9223372036854775808000 then .iface 167 (.int .i64 (-((P / 1000:Nat):Int) - if (0:Int)<((P % 1000:Nat):Int) then 1 else 0)) else .iface 169 (.int .i64 (-9223372036854775808))) w):=by
 have h1:=AO a ha ha';have h2:=AO b hb hb';obtain ⟨s,hs1⟩:∃ s,decide (b<0)=s:=⟨_,rfl⟩
 have hs2:decide (a<0) = !s:=by rw [<- hs1];revert hs;cases decide (a<0)<;>cases decide (b<0)<;>simp
 clear hs;obtain ⟨m,hm0⟩:∃ m,decide ((0:Int)<((P % 1000:Nat):Int))=m:=⟨_,rfl⟩
 have hm1:(if m then 1 else 0:Int)=if (0:Int)<((P % 1000:Nat):Int) then 1 else 0:=by rw [<- hm0];simp
 by_cases hbig:P<18446744073709551616000
 ·have hlt:((P / 18446744073709551616:Nat):Int)<1000:=by omega
  have hm:P / 1000<18446744073709551616:=by omega
  have hm0':decide ((0:Int)<(P:Int) % 1000)=m:=hm0;by_cases hin:P<=9223372036854775808000
  ·rw [if_pos hin,<- hm1];have hk:((P / 1000:Nat):Int)+(if m then 1 else 0)<=9223372036854775808:=by
    rw [hm1];split<;>omega
   have HK:=Lib.hid hk;obtain ⟨z,hz⟩:∃ z:Int,-((P / 1000:Nat):Int) - (if m then 1 else 0)=z:=⟨_,rfl⟩
   rw [hz];have HZ:=Lib.hid hz;clear hk hm1 hm0 hz
   go_enter Tryz.func227,Tryz.ntmps227
   go_wp2_with (first | (go_at_call 229;refine (jH _ (by assumption) (by assumption) _).mono ?_;rintro e w' ⟨rfl,rfl⟩) | (go_at_call 157;refine (lT _ _ P hP (by omega) (by omega) _).mono ?_;rintro e w' ⟨rfl,rfl⟩) | (go_at_call 231;refine (sS P hbig _).mono ?_;rintro e w' ⟨rfl,n,rfl⟩) | (go_at_call 232;refine (P5 _ z m (by omega) HK HZ _).mono ?_;rintro e w' ⟨rfl,rfl⟩))
   go_ret
   exact ⟨rfl,_,rfl⟩
  ·rw [if_neg hin];have hk:9223372036854775808<((P / 1000:Nat):Int)+(if m then 1 else 0):=by
    rw [hm1];split<;>omega
   have HK:=Lib.hid hk;clear hk hm1 hm0 hin
   go_enter Tryz.func227,Tryz.ntmps227
   go_wp2_with (first | (go_at_call 229;refine (jH _ (by assumption) (by assumption) _).mono ?_;rintro e w' ⟨rfl,rfl⟩) | (go_at_call 157;refine (lT _ _ P hP (by omega) (by omega) _).mono ?_;rintro e w' ⟨rfl,rfl⟩) | (go_at_call 231;refine (sS P hbig _).mono ?_;rintro e w' ⟨rfl,n,rfl⟩) | (go_at_call 232;refine (BU _ m (by omega) (by omega) HK.out _).mono ?_;rintro e w' ⟨rfl,rfl⟩))
   go_ret
   exact ⟨rfl,_,rfl⟩
 ·rw [if_neg (by omega)];have hlt:1000<=((P / 18446744073709551616:Nat):Int):=by omega
  clear hm1 hm0
  go_enter Tryz.func227,Tryz.ntmps227
  go_wp2_with (first | (go_at_call 229;refine (jH _ (by assumption) (by assumption) _).mono ?_;rintro e w' ⟨rfl,rfl⟩) | (go_at_call 157;refine (lT _ _ P hP (by omega) (by omega) _).mono ?_;rintro e w' ⟨rfl,rfl⟩) | (go_at_call 230;refine (O9 _).mono ?_;rintro e w' ⟨rfl,rfl⟩))
  go_ret
  exact ⟨rfl,0,rfl⟩
def TwoD (v c:Int) (w:World) (e:Ending) (w':World):Prop:=e=.returned (.tuple #[.int .i64 v,.int .i64 c])/\∃ n,w'=w.drewN n
theorem P3 (a b:Int) (ha : -9223372036854775808<=a) (ha':a<=9223372036854775807) (hb : -9223372036854775808<=b) (hb':b<=9223372036854775807) (w:World) :
  Calls Tryz.prog 218 #[.int .i64 a,.int .i64 b] w (TwoD (cj (mulI a b)) (jw (mulI a b)) w):=by
 have hsg:=RY a b;obtain ⟨P,hP⟩:∃ P,a.natAbs*b.natAbs=P:=⟨_,rfl⟩
 unfold mulI;by_cases hs:decide (a<0)=decide (b<0)
 ·rw [hsg.1 hs,hP];have hp:=FD a b ha ha' hb hb' P hP hs w;by_cases hin:P / 1000<=9223372036854775807
  ·rw [if_pos hin] at hp;rw [(fe ((P:Int) / 1000) (by omega) (by omega)).1,(fe ((P:Int) / 1000) (by omega) (by omega)).2];have HP:=Lib.hid hp;clear hp hsg hs hin hP
   go_enter Tryz.func218,Tryz.ntmps218
   go_wp2_with (first | (go_at_call 227;refine HP.out.mono ?_;rintro e w' ⟨rfl,n,rfl⟩) | (go_at_call 73;refine (qh _ _).mono ?_;rintro e w' ⟨rfl,rfl⟩))
   go_ret2
   exact ⟨rfl,_,rfl⟩
  ·rw [if_neg hin] at hp;rw [(MH ((P:Int) / 1000) (by omega)).1,(MH ((P:Int) / 1000) (by omega)).2];have HP:=Lib.hid hp;clear hp hsg hs hin hP
   go_enter Tryz.func218,Tryz.ntmps218
   go_wp2_with (first | (go_at_call 227;refine HP.out.mono ?_;rintro e w' ⟨rfl,n,rfl⟩) | (go_at_call 73;refine (n9 _ _).mono ?_;rintro e w' ⟨rfl,rfl⟩))
   go_ret2
   exact ⟨rfl,_,rfl⟩
 ·rw [hsg.2 hs,hP];have hp:=C7 a b ha ha' hb hb' P hP hs w;have hq:(-(P:Int)) / 1000 = -((P / 1000:Nat):Int) - if (0:Int)<((P % 1000:Nat):Int) then 1 else 0:=by split<;>omega
  by_cases hin:P<=9223372036854775808000
  ·rw [if_pos hin,<- hq] at hp;rw [(fe (-(P:Int) / 1000) (by omega) (by omega)).1,(fe (-(P:Int) / 1000) (by omega) (by omega)).2];have HP:=Lib.hid hp;clear hp hsg hs hin hP hq;obtain ⟨q,hq⟩:∃ q,-(P:Int) / 1000=q:=⟨_,rfl⟩
   rw [hq] at HP ⊢;clear hq
   go_enter Tryz.func218,Tryz.ntmps218
   go_wp2_with (first | (go_at_call 227;refine HP.out.mono ?_;rintro e w' ⟨rfl,n,rfl⟩) | (go_at_call 73;refine (qh _ _).mono ?_;rintro e w' ⟨rfl,rfl⟩))
   go_ret2
   exact ⟨rfl,_,rfl⟩
  ·rw [if_neg hin] at hp;rw [(NH (-(P:Int) / 1000) (by omega)).1,(NH (-(P:Int) / 1000) (by omega)).2];have HP:=Lib.hid hp;clear hp hsg hs hin hP hq
   go_enter Tryz.func218,Tryz.ntmps218
   go_wp2_with (first | (go_at_call 227;refine HP.out.mono ?_;rintro e w' ⟨rfl,n,rfl⟩) | (go_at_call 73;refine (n9 _ _).mono ?_;rintro e w' ⟨rfl,rfl⟩))
   go_ret2
   exact ⟨rfl,_,rfl⟩
end Go.Proofs.YtefkegpbpaoadaaGreatDoor.Mil
namespace Go.Proofs.YtefkegpbpaoadaaGreatDoor.Mil
open Go.Eng Go.RowKit
theorem mixed:Tryz.prog.follows .mixedOrders=true:=Checked.mixed Tryz.checked
def inR (a:Int):Bool:=decide (-9223372036854775808<=a)&&decide (a<=9223372036854775807)
theorem cd {a:Int}:inR a=true ↔ -9223372036854775808<=a/\a<=9223372036854775807:=by simp [inR]
def dR (a b:Int):V:=.tup [.s (.int .i64 a),.s (.int .i64 b)]
def cf (a:Int):V:=.s (.int .i64 a)
theorem x9 (w:World) (n:Nat):Below w.heap.size w (w.drewN n):=by
 induction n with
 | zero=>exact Below.refl _ _
 | succ n ih=>exact ih.drew
theorem EI {w w':World} (h:∃ n,w'=w.drewN n):Below w.heap.size w w':=by obtain ⟨n,rfl⟩:=h;exact x9 w n
def Zz:Eng.Spec
 | [.s (.int .i64 a),.s (.int .i64 b)]=>.ite none (inR a&&inR b) (.ret (dR (cj (mulI a b)) (jw (mulI a b)))) .fail
 | _=>.fail
theorem aO {c:Bool} {x:T V} {v:V} (h:(T.ite none c x .fail).eval=some v):c=true/\x.eval=some v:=by
 cases c
 ·cases h
 ·exact ⟨rfl,h⟩
theorem DQ (args:List V) (v:V) (h:(Zz args).eval=some v):dr args=true/\flat v=true:=by
 unfold Zz at h;split at h
 ·obtain ⟨_,h⟩:=aO h;simp only [T.eval,sh] at h;subst h;exact ⟨rfl,rfl⟩
 ·cases h
theorem ZH:aj Tryz.prog 218 Zz:=by
 refine aj.ajx Tryz.func218 (by kernel_rfl) (by kernel_rfl) DQ fun args v w hfl h hfv => ?_;clear hfl hfv;unfold Zz at h;split at h
 ·rename_i a b;obtain ⟨hc,h⟩:=aO h;simp only [AS,cd] at hc;simp only [T.eval,sh] at h;subst h;refine (P3 a b hc.1.1 hc.1.2 hc.2.1 hc.2.2 w).mono ?_;rintro e w' ⟨rfl,hw⟩;exact ⟨rfl,EI hw⟩
 ·cases h
end Go.Proofs.YtefkegpbpaoadaaGreatDoor.Mil
namespace Go.Proofs.YtefkegpbpaoadaaGreatDoor.Conf
open Go.Eng Go.RowKit Mil
def gT (c:Cf):V:=.agg [cf c.target,cf c.util,cf c.stable,cf c.panic,cf c.grain,cf c.threshold,cf c.up,cf c.down,cf c.min,cf c.max,cf c.initial,cf c.grace,cf c.delay,cf c.burst,cf c.limit,cf c.queue,cf c.timeout,cf c.ready,cf c.subset,cf c.sample]
def iJ {α:Type} (v:V) (k:Cf->T α):T α :=
 match v with
 | .agg [.s (.int .i64 a0),.s (.int .i64 a1),.s (.int .i64 a2),.s (.int .i64 a3),.s (.int .i64 a4),.s (.int .i64 a5),.s (.int .i64 a6),.s (.int .i64 a7),.s (.int .i64 a8),.s (.int .i64 a9),.s (.int .i64 a10),.s (.int .i64 a11),.s (.int .i64 a12),.s (.int .i64 a13),.s (.int .i64 a14),.s (.int .i64 a15),.s (.int .i64 a16),.s (.int .i64 a17),.s (.int .i64 a18),.s (.int .i64 a19)]=>k ⟨a0,a1,a2,a3,a4,a5,a6,a7,a8,a9,a10,a11,a12,a13,a14,a15,a16,a17,a18,a19⟩
 | _=>.fail
theorem bV {α:Type} {v:V} {k:Cf->T α} {r:α} (h:(iJ v k).eval=some r):∃ c,v=gT c/\(k c).eval=some r:=by
 unfold iJ at h;split at h
 ·exact ⟨_,rfl,h⟩
 ·cases h
def eX (l:List UInt8):V:=.s (.str ⟨⟨l⟩⟩)
def vG:Eng.Spec
 | [.iface t (.s (.int .i64 n)),.s (.int .i64 lo),.s (.int .i64 hi)]=>if t=3\/t=2 then .ret (.s (.bool (cX n lo hi))) else .fail
 | _=>.fail
def C0:Cfg:=⟨Tryz.prog,lookG [],[],0⟩
theorem ik:C0.Ok:=Cfg.ok trivial trivial
theorem NB:aj Tryz.prog 67 vG:=by
 refine (af ik mixed Tryz.func67 (by kernel_rfl) (by kernel_rfl)).ai0 fun args v hfl h => ?_;clear hfl;unfold vG at h;split at h
 ·rename_i t n lo hi;split at h
  ·rename_i ht;simp only [T.eval,sh] at h;subst h;have e:aM C0 aa 67 [.iface t (.s (.int .i64 n)),.s (.int .i64 lo),.s (.int .i64 hi)]=.ret (.s (.bool (bif decide (n<lo) then true else decide (hi<n)))):=by
    rcases ht with rfl | rfl<;>kernel_rfl
   rw [e];exact ⟨_,rfl,⟨rfl,rfl⟩,by unfold cX;cases decide (n<lo)<;>rfl⟩
  ·cases h
 ·cases h
def yE:Eng.Spec
 | [x]=>iJ x fun c=>.ret (cf (dX c))
 | _=>.fail
theorem o4:aj Tryz.prog 68 yE:=by
 refine (af ik mixed Tryz.func68 (by kernel_rfl) (by kernel_rfl)).ai0 fun args v hfl h => ?_;clear hfl;unfold yE at h;split at h
 ·obtain ⟨c,rfl,h2⟩:=bV h;obtain rfl:=AI h2;clear h h2;have e:aM C0 aa 68 [gT c]=T.ite (some 8) (c.max==0) (.ret (cf 100)) (.ret (cf c.max)):=by kernel_rfl
  rw [e];cases h1:c.max==0
  ·exact ⟨_,rfl,⟨rfl,rfl⟩,by simp at h1;simp [cf,V.den,S.den,dX,h1]⟩
  ·exact ⟨_,rfl,⟨rfl,rfl⟩,by simp at h1;simp [cf,V.den,S.den,dX,h1]⟩
 ·cases h
def C1:Cfg:=⟨Tryz.prog,lookG [(67,vG),(68,yE)],[],0⟩
theorem L4:C1.Ok:=Cfg.ok ⟨NB,o4,trivial⟩ trivial
def HV (c:Cf):T V :=
 T.ite (some 8) (cX c.target 10 1000000) (.ret (eX [116,97,114,103,101,116])) (
 T.ite (some 16) (cX c.util 100 1000) (.ret (eX [117,116,105,108])) (
 T.ite (some 24) (cX c.stable 6 600) (.ret (eX [115,116,97,98,108,101])) (
 T.ite (some 32) (cX c.panic 1 c.stable) (.ret (eX [112,97,110,105,99])) (
 T.ite (some 40) (cX c.grain 1 c.panic) (.ret (eX [103,114,97,105,110])) (
 T.ite (some 48) (cX c.threshold 1100 10000) (.ret (eX [116,104,114,101,115,104,111,108,100])) (
 T.ite (some 56) (cX c.up 1001 1000000) (.ret (eX [117,112])) (
 T.ite (some 64) (cX c.down 1001 1000000) (.ret (eX [100,111,119,110])) (
 T.ite (some 72) (cX c.min 0 100) (.ret (eX [109,105,110])) (
 T.ite (some 96) ((bif c.max != 0 then cX c.max (if 1>c.min then 1 else c.min) 100 else false)) (.ret (eX [109,97,120])) (
 T.ite (some 144) (cX c.initial 0 (dX c)) (.ret (eX [105,110,105,116,105,97,108])) (
 T.ite (some 160) (cX c.grace 0 600) (.ret (eX [103,114,97,99,101])) (
 T.ite (some 168) (cX c.delay 0 600) (.ret (eX [100,101,108,97,121])) (
 T.ite (some 192) ((bif c.burst != -1000 then cX c.burst 0 100000000 else false)) (.ret (eX [98,117,114,115,116])) (
 T.ite (some 200) (cX c.limit 1 1000) (.ret (eX [108,105,109,105,116])) (
 T.ite (some 208) (cX c.queue 0 200) (.ret (eX [113,117,101,117,101])) (
 T.ite (some 216) (cX c.timeout 1 10000) (.ret (eX [116,105,109,101,111,117,116])) (
 T.ite (some 224) (cX c.ready 0 100) (.ret (eX [114,101,97,100,121])) (
 T.ite (some 232) (cX c.subset 0 100) (.ret (eX [115,117,98,115,101,116])) (
 T.ite (some 240) (cX c.sample 0 100) (.ret (eX [115,97,109,112,108,101])) (
 .ret (eX [])))))))))))))))))))))
theorem bC {i:Option Nat} {b:Bool} {x y:T V} {l r:List UInt8} (hx:x.eval=some (eX l)) (hy:y.eval=some (eX r)):(T.ite i b x y).eval=some (eX (if b=true then l else r)):=by
 cases b
 ·exact hy
 ·exact hx
theorem Ng {n m:Int} {b:Bool}:(bif n != m then b else false)=(!(n==m)&&b):=by cases h:n==m<;>simp [bne,h]
theorem zG (a:Int):(if 1>a then 1 else a)=max a 1:=by
 rw [Int.max_def];split<;>split<;>omega
theorem Da (c:Cf):(HV c).eval=some (eX (j8 c)):=by
 unfold HV j8;rw [zG,Ng,Ng];exact bC rfl (bC rfl (bC rfl (bC rfl (bC rfl (bC rfl (bC rfl (bC rfl (bC rfl (bC rfl (bC rfl (bC rfl (bC rfl (bC rfl (bC rfl (bC rfl (bC rfl (bC rfl (bC rfl (bC rfl (rfl))))))))))))))))))))
def qQ:Eng.Spec
 | [x]=>iJ x fun c=>.ret (eX (j8 c))
 | _=>.fail
theorem IU:aj Tryz.prog 38 qQ:=by
 refine (af L4 mixed Tryz.func38 (by kernel_rfl) (by kernel_rfl)).ai0 fun args v hfl h => ?_;clear hfl;unfold qQ at h;split at h
 ·obtain ⟨c,rfl,h2⟩:=bV h;obtain rfl:=AI h2;clear h h2;have e:aM C1 aa 38 [gT c]=HV c:=by kernel_rfl
  rw [e,Da];exact ⟨_,rfl,⟨rfl,rfl⟩,rfl⟩
 ·cases h
def C2:Cfg:=⟨Tryz.prog,lookG [(67,vG),(68,yE),(38,qQ),(218,Zz)],[],0⟩
theorem HX:C2.Ok:=Cfg.ok ⟨NB,o4,IU,ZH,trivial⟩ trivial
theorem oR (l:List UInt8):((⟨⟨l⟩⟩:ByteArray).toList==(⟨#[]⟩:ByteArray).toList)=l.isEmpty:=by
 rw [ByteArray.toList_eq,ByteArray.toList_eq];cases l<;>rfl
def mI:Eng.Spec
 | [x]=>iJ x fun c=>.ret (.s (.bool (dC c)))
 | _=>.fail
theorem fz:aj Tryz.prog 17 mI:=by
 refine (af HX mixed Tryz.func17 (by kernel_rfl) (by kernel_rfl)).ai0 fun args v hfl h => ?_;clear hfl;unfold mI at h;split at h
 ·obtain ⟨c,rfl,h2⟩:=bV h;obtain rfl:=AI h2;clear h h2;have e:aM C2 aa 17 [gT c]=.ret (.s (.bool ((⟨⟨j8 c⟩⟩:ByteArray).toList==(⟨#[]⟩:ByteArray).toList))):=by kernel_rfl
  rw [e,oR];exact ⟨_,rfl,⟨rfl,rfl⟩,rfl⟩
 ·cases h
def afL:Eng.Spec
 | [x]=>iJ x fun c=>.ite none (inR c.target&&inR c.util) (.ret (cf (OG c))) .fail
 | _=>.fail
theorem Wg:aj Tryz.prog 192 afL:=by
 refine (af HX mixed Tryz.func192 (by kernel_rfl) (by kernel_rfl)).ai0 fun args v hfl h => ?_;clear hfl;unfold afL at h;split at h
 ·obtain ⟨c,rfl,h2⟩:=bV h;have e:aM C2 aa 192 [gT c]=.ite none (inR c.target&&inR c.util) (.ret (cf (if 1>cj (mulI c.target c.util) then 1 else cj (mulI c.target c.util)))) .fail:=by kernel_rfl
  rw [e,zG];exact ⟨_,h2,by obtain ⟨_,h3⟩:=aO h2;obtain rfl:=AI h3;exact ⟨rfl,rfl⟩,rfl⟩
 ·cases h
def ajc:Cf:=⟨10000,700,60,6,1,2000,10000,2000,0,0,1,30,0,20000,10,100,60,3,0,0⟩
def P9:Eng.Spec
 | []=>.ret (gT ajc)
 | _=>.fail
theorem Dh:aj Tryz.prog 14 P9:=by
 refine (af ik mixed Tryz.func14 (by kernel_rfl) (by kernel_rfl)).ai0 fun args v hfl h => ?_;clear hfl;unfold P9 at h;split at h
 ·obtain rfl:=AI h;have e:aM C0 aa 14 []=.ret (gT ajc):=by kernel_rfl
  rw [e];exact ⟨_,rfl,⟨rfl,rfl⟩,rfl⟩
 ·cases h
def Ec:Eng.Spec:=aM C0 aa 48
def MJ:Eng.Spec:=aM C0 aa 50
def Bv:Eng.Spec:=aM C0 aa 49
theorem F9:aj Tryz.prog 48 Ec:=af ik mixed Tryz.func48 (by kernel_rfl) (by kernel_rfl)
theorem K0:aj Tryz.prog 50 MJ:=af ik mixed Tryz.func50 (by kernel_rfl) (by kernel_rfl)
theorem Cl:aj Tryz.prog 49 Bv:=af ik mixed Tryz.func49 (by kernel_rfl) (by kernel_rfl)
def R1:Cfg:=⟨Tryz.prog,lookG [(48,Ec),(50,MJ),(49,Bv)],[],0⟩
theorem Qk:R1.Ok:=Cfg.ok ⟨F9,K0,Cl,trivial⟩ trivial
def rwT (top:Int) (c:Cf):T V :=
 .ite none (!bif decide (10<=c.target) then decide (c.target<=1000000) else false) (.ret (eX [116,97,114,103,101,116])) (
 .ite none (!bif decide (100<=c.util) then decide (c.util<=1000) else false) (.ret (eX [117,116,105,108])) (
 .ite none (!bif decide (6<=c.stable) then decide (c.stable<=600) else false) (.ret (eX [115,116,97,98,108,101])) (
 .ite none (!bif decide (1<=c.panic) then decide (c.panic<=c.stable) else false) (.ret (eX [112,97,110,105,99])) (
 .ite none (!bif decide (1<=c.grain) then decide (c.grain<=c.panic) else false) (.ret (eX [103,114,97,105,110])) (
 .ite none (!bif decide (1100<=c.threshold) then decide (c.threshold<=10000) else false) (.ret (eX [116,104,114,101,115,104,111,108,100])) (
 .ite none (!bif decide (1001<=c.up) then decide (c.up<=1000000) else false) (.ret (eX [117,112])) (
 .ite none (!bif decide (1001<=c.down) then decide (c.down<=1000000) else false) (.ret (eX [100,111,119,110])) (
 .ite none (!bif decide (0<=c.min) then decide (c.min<=100) else false) (.ret (eX [109,105,110])) (
 .ite none (!bif c.max==0 then true else bif decide ((if 1>c.min then 1 else c.min)<=c.max) then decide (c.max<=100) else false) (.ret (eX [109,97,120])) (
 .ite none (!bif decide (0<=c.initial) then decide (c.initial<=top) else false) (.ret (eX [105,110,105,116,105,97,108])) (
 .ite none (!bif decide (0<=c.grace) then decide (c.grace<=600) else false) (.ret (eX [103,114,97,99,101])) (
 .ite none (!bif decide (0<=c.delay) then decide (c.delay<=600) else false) (.ret (eX [100,101,108,97,121])) (
 .ite none (!bif c.burst == -1000 then true else bif decide (0<=c.burst) then decide (c.burst<=100000000) else false) (.ret (eX [98,117,114,115,116])) (
 .ite none (!bif decide (1<=c.limit) then decide (c.limit<=1000) else false) (.ret (eX [108,105,109,105,116])) (
 .ite none (!bif decide (0<=c.queue) then decide (c.queue<=200) else false) (.ret (eX [113,117,101,117,101])) (
 .ite none (!bif decide (1<=c.timeout) then decide (c.timeout<=10000) else false) (.ret (eX [116,105,109,101,111,117,116])) (
 .ite none (!bif decide (0<=c.ready) then decide (c.ready<=100) else false) (.ret (eX [114,101,97,100,121])) (
 .ite none (!bif decide (0<=c.subset) then decide (c.subset<=100) else false) (.ret (eX [115,117,98,115,101,116])) (
 .ite none (!bif decide (0<=c.sample) then decide (c.sample<=100) else false) (.ret (eX [115,97,109,112,108,101])) (
 .ret (eX [])))))))))))))))))))))
def rwL (top:Int) (c:Cf):List UInt8 :=
 if cX c.target 10 1000000=true then [116,97,114,103,101,116] else
 if cX c.util 100 1000=true then [117,116,105,108] else
 if cX c.stable 6 600=true then [115,116,97,98,108,101] else
 if cX c.panic 1 c.stable=true then [112,97,110,105,99] else
 if cX c.grain 1 c.panic=true then [103,114,97,105,110] else
 if cX c.threshold 1100 10000=true then [116,104,114,101,115,104,111,108,100] else
 if cX c.up 1001 1000000=true then [117,112] else
 if cX c.down 1001 1000000=true then [100,111,119,110] else
 if cX c.min 0 100=true then [109,105,110] else
 if (!(c.max==0)&&cX c.max (max c.min 1) 100)=true then [109,97,120] else
 if cX c.initial 0 top=true then [105,110,105,116,105,97,108] else
 if cX c.grace 0 600=true then [103,114,97,99,101] else
 if cX c.delay 0 600=true then [100,101,108,97,121] else
 if (!(c.burst == -1000)&&cX c.burst 0 100000000)=true then [98,117,114,115,116] else
 if cX c.limit 1 1000=true then [108,105,109,105,116] else
 if cX c.queue 0 200=true then [113,117,101,117,101] else
 if cX c.timeout 1 10000=true then [116,105,109,101,111,117,116] else
 if cX c.ready 0 100=true then [114,101,97,100,121] else
 if cX c.subset 0 100=true then [115,117,98,115,101,116] else
 if cX c.sample 0 100=true then [115,97,109,112,108,101] else
 []
theorem Np (n lo hi:Int):(!bif decide (lo<=n) then decide (n<=hi) else false)=cX n lo hi:=by
 unfold cX;rw [pL,Bool.not_and,<- decide_not,<- decide_not];congr 1<;>(congr 1;exact propext (by omega))
theorem Wt (n m lo hi:Int):(!bif n==m then true else bif decide (lo<=n) then decide (n<=hi) else false)=(!(n==m)&&cX n lo hi):=by
 rw [<- Np];cases n==m<;>rfl
theorem Hn (top:Int) (c:Cf):(rwT top c).eval=some (eX (rwL top c)):=by
 unfold rwT rwL;simp only [Np,Wt];rw [zG];exact bC rfl (bC rfl (bC rfl (bC rfl (bC rfl (bC rfl (bC rfl (bC rfl (bC rfl (bC rfl (bC rfl (bC rfl (bC rfl (bC rfl (bC rfl (bC rfl (bC rfl (bC rfl (bC rfl (bC rfl (rfl))))))))))))))))))))
theorem BK (c:Cf):rwL (dX c) c=j8 c:=rfl
theorem Qh (a b:Int) (c:Cf) (h:c.max<0):rwL a c=rwL b c:=by
 have e:(!(c.max==0)&&cX c.max (max c.min 1) 100)=true:=by
  have h1:(c.max==0)=false:=by simp;omega
  have h2:cX c.max (max c.min 1) 100=true:=by
   unfold cX;rw [c9 (by omega)];rfl
  rw [h1,h2];rfl
 unfold rwL;rw [e];rfl
theorem Y5 (c:Cf):(T.ite none (decide (0<c.max)) (rwT c.max c) (rwT 100 c)).eval=some (eX (j8 c)):=by
 by_cases h:0<c.max
 ·rw [c9 h];show (rwT c.max c).eval=_;rw [Hn,<- BK,show dX c=c.max from if_neg (by omega)]
 ·rw [BY h];show (rwT 100 c).eval=_;rw [Hn,<- BK];by_cases h0:c.max=0
  ·rw [show dX c=100 from if_pos h0]
  ·rw [Qh 100 (dX c) c (by omega)]
theorem xe:aj Tryz.prog 26 qQ:=by
 refine (wu Qk mixed 21 1 Tryz.func26 (by kernel_rfl) (by kernel_rfl)).ai0 fun args v hfl h => ?_;clear hfl;unfold qQ at h;split at h
 ·obtain ⟨c,rfl,h2⟩:=bV h;obtain rfl:=AI h2;clear h h2;have e:T.anon (aM R1 (rounds R1 21 1) 26 [gT c])=T.ite none (decide (0<c.max)) (rwT c.max c) (rwT 100 c):=by kernel_rfl
  rw [<- T.aiW,e,Y5];exact ⟨_,rfl,⟨rfl,rfl⟩,rfl⟩
 ·cases h
def R2:Cfg:=⟨Tryz.prog,lookG [(26,qQ)],[],0⟩
theorem Pz:R2.Ok:=Cfg.ok ⟨xe,trivial⟩ trivial
theorem oP:aj Tryz.prog 8 mI:=by
 refine (af Pz mixed Tryz.func8 (by kernel_rfl) (by kernel_rfl)).ai0 fun args v hfl h => ?_;clear hfl;unfold mI at h;split at h
 ·obtain ⟨c,rfl,h2⟩:=bV h;obtain rfl:=AI h2;clear h h2;have e:aM R2 aa 8 [gT c]=.ret (.s (.bool ((⟨⟨j8 c⟩⟩:ByteArray).toList==(⟨#[]⟩:ByteArray).toList))):=by kernel_rfl
  rw [e,oR];exact ⟨_,rfl,⟨rfl,rfl⟩,rfl⟩
 ·cases h
end Go.Proofs.YtefkegpbpaoadaaGreatDoor.Conf
namespace Go.Proofs.YtefkegpbpaoadaaGreatDoor.Mil
theorem sU (a b:Int):a.tmod b=0↔b∣a:=(Int.dvd_iff_tmod_eq_zero).symm
theorem DB (b:Int) (h:b≠0):(0<b/\b.sign=1)\/(b<0/\b.sign = -1):=by
 rcases Int.lt_trichotomy b 0 with h1 | h1 | h1
 ·exact .inr ⟨h1,Int.sign_eq_neg_one_of_neg h1⟩
 ·exact absurd h1 h
 ·exact .inl ⟨h1,Int.sign_eq_one_of_pos h1⟩
theorem Ym (a b:Int) (hb:b≠0):dnI a b=a.tdiv b - (if a.tmod b≠0/\(a<0)≠(b<0) then 1 else 0):=by
 unfold dnI;rw [Int.fdiv_eq_ediv,Int.tdiv_eq_ediv];by_cases hd:b∣a
 ·have hm:a.tmod b=0:=(sU a b).2 hd;simp [hd,hm]
 ·have hm:¬ a.tmod b=0:=fun h=>hd ((sU a b).1 h);rcases DB b hb with ⟨h1,h2⟩ | ⟨h1,h2⟩<;>by_cases ha:a<0
  ·have e1:¬ (0<=a\/b∣a):=by omega
   have e2:(0<=b\/b∣a):=by omega
   have e3:a.tmod b≠0/\(a<0)≠(b<0):=⟨hm,by simp [ha];omega⟩
   rw [if_neg e1,if_pos e2,if_pos e3,h2];omega
  ·have e1:(0<=a\/b∣a):=by omega
   have e2:(0<=b\/b∣a):=by omega
   have e3:¬ (a.tmod b≠0/\(a<0)≠(b<0)):=fun h=>h.2 (by simp [ha];omega);rw [if_pos e1,if_pos e2,if_neg e3];omega
  ·have e1:¬ (0<=a\/b∣a):=by omega
   have e2:¬ (0<=b\/b∣a):=by omega
   have e3:¬ (a.tmod b≠0/\(a<0)≠(b<0)):=fun h=>h.2 (by simp [ha,h1]);rw [if_neg e1,if_neg e2,if_neg e3,h2];omega
  ·have e1:(0<=a\/b∣a):=by omega
   have e2:¬ (0<=b\/b∣a):=by omega
   have e3:a.tmod b≠0/\(a<0)≠(b<0):=⟨hm,by simp [ha,h1]⟩
   rw [if_pos e1,if_neg e2,if_pos e3];omega
theorem agO (a b:Int) (hb:b≠0):upI a b=a.tdiv b+(if a.tmod b≠0/\(a<0)=(b<0) then 1 else 0):=by
 have h:=Ym (-a) b hb;unfold dnI at h;unfold upI;rw [h,Int.neg_tdiv,Int.neg_tmod];by_cases hm:a.tmod b=0
 ·rw [if_neg (by omega),if_neg (by simp [hm])];omega
 ·have ha:a≠0:=fun h=>hm (by rw [h];simp);have e:((-a<0)≠(b<0))↔((a<0)=(b<0)):=by
   by_cases h1:a<0<;>by_cases h2:b<0
   ·have:¬ (-a<0):=by omega
    rw [eq_false this,eq_true h1,eq_true h2];simp
   ·have:¬ (-a<0):=by omega
    rw [eq_false this,eq_true h1,eq_false h2];simp
   ·have : -a<0:=by omega
    rw [eq_true this,eq_false h1,eq_true h2];simp
   ·have : -a<0:=by omega
    rw [eq_true this,eq_false h1,eq_false h2];simp
  by_cases hs:(a<0)=(b<0)
  ·rw [if_pos ⟨by omega,e.2 hs⟩,if_pos ⟨hm,hs⟩];omega
  ·rw [if_neg (fun h=>hs (e.1 h.2)),if_neg (fun h=>hs h.2)];omega
theorem wS (a b:Int) (ha : -9223372036854775808<=a) (ha':a<=9223372036854775807) (hb:b≠0) (h:¬ (a = -9223372036854775808/\b = -1)) :
  -9223372036854775808<=a.tdiv b/\a.tdiv b<=9223372036854775807/\(a.tmod b≠0 -> -9223372036854775807<=a.tdiv b/\a.tdiv b<=9223372036854775806):=by
 have h1:(a.tdiv b).natAbs=a.natAbs / b.natAbs:=Int.natAbs_tdiv a b;by_cases hb1:b.natAbs=1
 ·have hm:a.tmod b=0:=by
   rw [sU];exact Int.natAbs_dvd_natAbs.1 (by rw [hb1];exact Nat.one_dvd _)
  rcases (show b=1\/b = -1 by omega) with rfl | rfl
  ·simp;omega
  ·rw [show a.tdiv (-1) = -a by rw [Int.tdiv_neg];simp];refine ⟨by omega,by omega,fun h=>absurd hm h⟩
 ·have h2:2<=b.natAbs:=by omega
  have h3:a.natAbs / b.natAbs<=a.natAbs / 2:=Nat.div_le_div_left h2 (by omega);refine ⟨by omega,by omega,fun _=>by omega⟩
end Go.Proofs.YtefkegpbpaoadaaGreatDoor.Mil
namespace Go.Proofs.YtefkegpbpaoadaaGreatDoor.Mil
open Go.Eng Go.RowKit Conf
theorem bF {i:Option Nat} {c:Bool} {x y:T V} {v:V} (h1:c=true->x.eval=some v) (h2:c=false->y.eval=some v):(T.ite i c x y).eval=some v:=by
 cases c
 ·exact h2 rfl
 ·exact h1 rfl
theorem gN {a b a' b':Int} (h1:a=a') (h2:b=b'):(T.ret (V.tup [V.s (.int .i64 a),V.s (.int .i64 b)])).eval=some (dR a' b'):=by rw [h1,h2];rfl
theorem jZ {a a':Int} (h1:a=a'):(T.ret (V.s (.int .i64 a))).eval=some (cf a'):=by rw [h1];rfl
theorem RZ {a a':Bool} (h1:a=a'):(T.ret (V.s (.bool a))).eval=some (.s (.bool a')):=by rw [h1];rfl
def two (f:Int->Int->V):Eng.Spec
 | [.s (.int .i64 a),.s (.int .i64 b)]=>.ite none (inR a&&inR b) (.ret (f a b)) .fail
 | _=>.fail
theorem aj.two {P:Program} {n:Nat} {sp:Eng.Spec} {f:Int->Int->V} (h:aj P n sp) (hf:∀ a b,flat (f a b)=true)
  (he:∀ a b,-9223372036854775808<=a->a<=9223372036854775807 -> -9223372036854775808<=b->b<=9223372036854775807->(sp [cf a,cf b]).eval=some (f a b)):aj P n (two f):=by
 refine h.ai0 fun args v hfl h => ?_;clear hfl;unfold Mil.two at h;split at h
 ·rename_i a b;obtain ⟨hc,h⟩:=aO h;simp only [AS,cd] at hc;obtain rfl:=AI h;exact ⟨_,he a b hc.1.1 hc.1.2 hc.2.1 hc.2.2,⟨hf a b,hf a b⟩,rfl⟩
 ·cases h
def ZW:Eng.Spec:=aM C0 aa 193
def B8:Eng.Spec:=aM C0 aa 73
theorem Rb:aj Tryz.prog 193 ZW:=af ik mixed Tryz.func193 (by kernel_rfl) (by kernel_rfl)
theorem rJ:aj Tryz.prog 73 B8:=af ik mixed Tryz.func73 (by kernel_rfl) (by kernel_rfl)
def M1:Cfg:=⟨Tryz.prog,lookG [(193,ZW),(73,B8)],[],0⟩
theorem zj:M1.Ok:=Cfg.ok ⟨Rb,rJ,trivial⟩ trivial
theorem bU {a b:Bool}:(bif a then b else false)=true↔a=true/\b=true:=by cases a<;>simp
theorem dO {a b:Bool}:(bif a then b else false)=false↔(a=true->b=false):=by cases a<;>simp
theorem vc {a b:Int}:((decide (a<0)==decide (b<0))=true)↔((a<0)=(b<0)):=by
 rw [beq_iff_eq];constructor
 ·intro h;exact propext (by simpa using h)
 ·intro h;simp only [h]
theorem vy {a b:Int}:((!decide (a<0)==decide (b<0))=true)↔((a<0)≠(b<0)):=by
 by_cases h1:a<0<;>by_cases h2:b<0<;>simp [h1,h2]
def VH (s:Int) (t:Int->Int->Bool) (a b:Int):T V :=
 T.ite none (b==0) (T.ret (dR 0 3)) (T.ite none (bif a == -9223372036854775808 then b == -1 else false) (T.ret (dR 9223372036854775807 2)) (T.ite none (b==0) T.fail (T.ite none (b==0) T.fail
  (T.ite none (bif Int.tmod a b != 0 then t a b else false) (T.ret (dR (IntKind.wrap IntKind.i64 (IntKind.wrap IntKind.i64 (Int.tdiv a b)+s)) 0)) (T.ret (dR (IntKind.wrap IntKind.i64 (Int.tdiv a b)) 0))))))
theorem UU {t:Int->Int->Bool} (ht:∀ a b,t a b=true↔(a<0)=(b<0)) {a b:Int} (h1 : -9223372036854775808<=a) (h2:a<=9223372036854775807):(VH 1 t a b).eval=some (dR (upV a b) (upE a b)):=by
 unfold VH;refine bF (fun h => ?_) fun h0=>bF (fun h => ?_) fun h3=>bF (fun h => ?_) fun _=>bF (fun h => ?_) fun _ => ?_
 ·rw [beq_iff_eq] at h;subst h;rfl
 ·rw [bU,beq_iff_eq,beq_iff_eq] at h;obtain ⟨rfl,rfl⟩:=h;exact gN (by decide) (by decide)
 ·rw [h0] at h;cases h
 ·rw [h0] at h;cases h
 ·have hb:b≠0:=by simpa using h0
  have hn:¬ (a = -9223372036854775808/\b = -1):=by
   rintro ⟨rfl,rfl⟩;revert h3;decide
  obtain ⟨q1,q2,q3⟩:=wS a b h1 h2 hb hn;have e1:upV a b=cj (upI a b):=if_neg hb;have e2:upE a b=jw (upI a b):=if_neg hb;rw [e1,e2,agO a b hb];refine bF (fun h => ?_) fun h => ?_
  ·rw [bU,ht] at h;have hm:a.tmod b≠0:=by simpa [bne] using h.1
   have:=q3 hm;rw [if_pos ⟨hm,h.2⟩,(fe (a.tdiv b+1) (by omega) (by omega)).1,(fe (a.tdiv b+1) (by omega) (by omega)).2,wrap64_in q1 q2,wrap64_in (by omega) (by omega)];rfl
  ·have hc:¬ (a.tmod b≠0/\(a<0)=(b<0)):=fun hh=>by
    rw [dO] at h;have:=h (by simpa [bne] using hh.1);rw [(ht a b).2 hh.2] at this;cases this
   rw [if_neg hc,Int.add_zero,(fe (a.tdiv b) (by omega) (by omega)).1,(fe (a.tdiv b) (by omega) (by omega)).2,wrap64_in q1 q2];rfl
theorem UH {t:Int->Int->Bool} (ht:∀ a b,t a b=true↔(a<0)≠(b<0)) {a b:Int} (h1 : -9223372036854775808<=a) (h2:a<=9223372036854775807):(VH (-1) t a b).eval=some (dR (dnV a b) (dnE a b)):=by
 unfold VH;refine bF (fun h => ?_) fun h0=>bF (fun h => ?_) fun h3=>bF (fun h => ?_) fun _=>bF (fun h => ?_) fun _ => ?_
 ·rw [beq_iff_eq] at h;subst h;rfl
 ·rw [bU,beq_iff_eq,beq_iff_eq] at h;obtain ⟨rfl,rfl⟩:=h;exact gN (by decide) (by decide)
 ·rw [h0] at h;cases h
 ·rw [h0] at h;cases h
 ·have hb:b≠0:=by simpa using h0
  have hn:¬ (a = -9223372036854775808/\b = -1):=by
   rintro ⟨rfl,rfl⟩;revert h3;decide
  obtain ⟨q1,q2,q3⟩:=wS a b h1 h2 hb hn;have e1:dnV a b=cj (dnI a b):=if_neg hb;have e2:dnE a b=jw (dnI a b):=if_neg hb;rw [e1,e2,Ym a b hb];refine bF (fun h => ?_) fun h => ?_
  ·rw [bU,ht] at h;have hm:a.tmod b≠0:=by simpa [bne] using h.1
   have:=q3 hm;rw [if_pos ⟨hm,h.2⟩,(fe (a.tdiv b - 1) (by omega) (by omega)).1,(fe (a.tdiv b - 1) (by omega) (by omega)).2,wrap64_in q1 q2,wrap64_in (by omega) (by omega)];rfl
  ·have hc:¬ (a.tmod b≠0/\(a<0)≠(b<0)):=fun hh=>by
    rw [dO] at h;have:=h (by simpa [bne] using hh.1);rw [(ht a b).2 hh.2] at this;cases this
   rw [if_neg hc,Int.sub_zero,(fe (a.tdiv b) (by omega) (by omega)).1,(fe (a.tdiv b) (by omega) (by omega)).2,wrap64_in q1 q2];rfl
def upS:Eng.Spec:=two fun a b=>dR (upV a b) (upE a b)
def dnS:Eng.Spec:=two fun a b=>dR (dnV a b) (dnE a b)
def aeA:Eng.Spec:=two fun a b=>dR (cj (a - b)) (jw (a - b))
theorem Yi:aj Tryz.prog 164 upS:=by
 refine aj.two (af zj mixed Tryz.func164 (by kernel_rfl) (by kernel_rfl)) (fun _ _=>rfl) fun a b h1 h2 h3 h4 => ?_;have e:T.anon (aM M1 aa 164 [cf a,cf b])=VH 1 (fun a b=>(!decide (a<0)==decide (b<0))==decide ((1:Int)<0)) a b:=by kernel_rfl
 rw [<- T.aiW,e];refine UU (fun a b => ?_) h1 h2;rw [<- vc];cases decide (a<0)<;>cases decide (b<0)<;>decide
theorem ad9:aj Tryz.prog 220 dnS:=by
 refine aj.two (af zj mixed Tryz.func220 (by kernel_rfl) (by kernel_rfl)) (fun _ _=>rfl) fun a b h1 h2 h3 h4 => ?_;have e:T.anon (aM M1 aa 220 [cf a,cf b])=VH (-1) (fun a b=>(!decide (a<0)==decide (b<0))==decide ((-1:Int)<0)) a b:=by kernel_rfl
 rw [<- T.aiW,e];refine UH (fun a b => ?_) h1 h2;rw [<- vy];cases decide (a<0)<;>cases decide (b<0)<;>decide
theorem gH {n m:Int} (h:n % 18446744073709551616=m % 18446744073709551616):IntKind.wrap .i64 n=IntKind.wrap .i64 m:=by
 have h':n % 2 ^ IntKind.i64.bits=m % 2 ^ IntKind.i64.bits:=h;simp only [IntKind.wrap,h']
theorem Et {a b:Int} (h1 : -9223372036854775808<=a) (h2:a<=9223372036854775807) (h3 : -9223372036854775808<=b) (h4:b<=9223372036854775807) :
  (IntKind.wrap .i64 (a - b)=if 9223372036854775807<a - b then a - b - 18446744073709551616 else if a - b < -9223372036854775808 then a - b+18446744073709551616 else a - b):=by
 by_cases c1:9223372036854775807<a - b
 ·rw [if_pos c1,<- IntWalk.i64_in (a - b - 18446744073709551616) ⟨by omega,by omega⟩];exact gH (by omega)
 ·rw [if_neg c1];by_cases c2:a - b < -9223372036854775808
  ·rw [if_pos c2,<- IntWalk.i64_in (a - b+18446744073709551616) ⟨by omega,by omega⟩];exact gH (by omega)
  ·rw [if_neg c2,wrap64_in (by omega) (by omega)]
def WQ:Eng.Spec:=aM C0 aa 74
theorem Ps:aj Tryz.prog 74 WQ:=af ik mixed Tryz.func74 (by kernel_rfl) (by kernel_rfl)
def M2:Cfg:=⟨Tryz.prog,lookG [(74,WQ),(73,B8)],[],0⟩
theorem Sz:M2.Ok:=Cfg.ok ⟨Ps,rJ,trivial⟩ trivial
theorem Nc:aj Tryz.prog 47 aeA:=by
 refine aj.two (af Sz mixed Tryz.func47 (by kernel_rfl) (by kernel_rfl)) (fun _ _=>rfl) fun a b h1 h2 h3 h4 => ?_
 have e:T.anon (aM M2 aa 47 [cf a,cf b])=T.ite none (bif bif decide (a<0) then decide (0<=b) else false then decide (0<=IntKind.wrap IntKind.i64 (a - b)) else false) (T.ret (dR (-9223372036854775808) 2))
   (T.ite none (bif bif decide (0<=a) then decide (b<0) else false then decide (IntKind.wrap IntKind.i64 (a - b)<0) else false) (T.ret (dR 9223372036854775807 2)) (T.ret (dR (IntKind.wrap IntKind.i64 (a - b)) 0))):=by kernel_rfl
 rw [<- T.aiW,e,Et h1 h2 h3 h4];refine bF (fun h => ?_) fun h=>bF (fun h5 => ?_) fun h5 => ?_
 ·simp only [bU,By] at h;refine gN ?_ ?_<;>simp only [cj,jw]<;>(split at h<;>repeat' split)<;>omega
 ·simp only [bU,By] at h5;refine gN ?_ ?_<;>simp only [cj,jw]<;>(split at h5<;>repeat' split)<;>omega
 ·simp only [dO,bU,By,ajO] at h h5;refine gN ?_ ?_<;>simp only [cj,jw]<;>(repeat' split)<;>(try split at h)<;>(try split at h5)<;>omega
def oM:Eng.Spec
 | [.s (.int .i64 a),.s (.int .i64 b),.s (.int .i64 c)]=>.ret (cf (aJ a b c))
 | _=>.fail
theorem J9 {n:Nat} {C:Cfg} (h:aj C.P n (aM C aa n)) (he:∀ a b c,T.anon (aM C aa n [cf a,cf b,cf c])=T.ite none (decide (c<a)) (T.ret (cf c)) (T.ite none (decide (a<b)) (T.ret (cf b)) (T.ret (cf a)))):aj C.P n oM:=by
 refine h.ai0 fun args v hfl h => ?_;clear hfl;unfold oM at h;split at h
 ·rename_i a b c;obtain rfl:=AI h;refine ⟨cf (aJ a b c),?_,⟨rfl,rfl⟩,rfl⟩;rw [<- T.aiW,show aM C aa n [V.s (.int .i64 a),V.s (.int .i64 b),V.s (.int .i64 c)]=aM C aa n [cf a,cf b,cf c] from rfl,he];unfold aJ;refine bF (fun h => ?_) fun h=>bF (fun h5 => ?_) fun h5 => ?_<;>simp only [By,ajO] at *
  ·rw [if_pos h];rfl
  ·rw [if_neg h,if_pos h5];rfl
  ·rw [if_neg h,if_neg h5];rfl
 ·cases h
theorem np:aj Tryz.prog 46 oM:=J9 (C:=C0) (af ik mixed Tryz.func46 (by kernel_rfl) (by kernel_rfl)) fun a b c=>by kernel_rfl
end Go.Proofs.YtefkegpbpaoadaaGreatDoor.Mil
end
