import Derived.Test.YtgpgppncblldiaaGreatDoorRows
import Derived.WalkKit
import Derived.ProofKit
import Derived.OpenShut
import Derived.Lib.Hide
import Derived.Lib.Mul64
import Derived.Laws.Bits64b
import Derived.Shelf.Bits.Mul64
import Derived.Deep.QuietTactic
import Derived.BigQuiet
import Derived.Handy
import Derived.Test.YtgpgppncblldiaaGreatDoorGE
set_option linter.unusedVariables false
set_option linter.unusedSimpArgs false
noncomputable section
namespace Go.Proofs.YtgpgppncblldiaaGreatDoor.Mil
open Go.ChangeShapes Go.WideShapes Go.ChangeAt Go.RowKit
theorem JM (v:Value) (w:World):(Instr.typeAssert (.iface 161 v) 20 161 true).run Tryz.prog w=.ok (.tuple #[v,.bool true]) w:=by kernel_rfl
theorem vV (v:Value) (w:World):(Instr.typeAssert (.iface 163 v) 20 161 true).run Tryz.prog w=.ok (.tuple #[.int .i64 0,.bool false]) w:=by kernel_rfl
theorem DU (v:Value) (w:World):(Instr.typeAssert (.iface 163 v) 20 163 true).run Tryz.prog w=.ok (.tuple #[v,.bool true]) w:=by kernel_rfl
def Two (v c:Int) (w:World) (e:Ending) (w':World):Prop:=e=.returned (.tuple #[.int .i64 v,.int .i64 c])/\w=w'
def One (v:Int) (w:World) (e:Ending) (w':World):Prop:=e=.returned (.int .i64 v)/\w=w'
theorem qz (n:Int) (w:World):Calls Tryz.prog 66 #[.iface 161 (.int .i64 n)] w (Two n 0 w):=by
 have t1:=JM
 go_enter Tryz.func66,Tryz.ntmps66
 go_wp2
 go_ret2;exact ⟨rfl,rfl⟩
theorem oz (n:Int) (w:World):Calls Tryz.prog 66 #[.iface 163 (.int .i64 n)] w (Two n 2 w):=by
 have t1:=vV;have t2:=DU
 go_enter Tryz.func66,Tryz.ntmps66
 go_wp2
 go_ret2;exact ⟨rfl,rfl⟩
def OneU (v:Int) (w:World) (e:Ending) (w':World):Prop:=e=.returned (.int .u64 v)/\w=w'
def U4 (v c:Int) (w:World) (e:Ending) (w':World):Prop:=e=.returned (.tuple #[.int .u64 v,.int .u64 c])/\w=w'
theorem jr (a:Int) (ha : -9223372036854775808<=a) (ha':a<=9223372036854775807) (w:World) :
  Calls Tryz.prog 222 #[.int .i64 a] w (OneU (a.natAbs:Nat) w):=by
 by_cases h:a<0
 ·have e1:IntKind.u64.wrap a=a+18446744073709551616:=by rw [IntKind.wrap_u64];omega
  have e2:IntKind.u64.wrap (-(a+18446744073709551616))=(a.natAbs:Nat):=by rw [IntKind.wrap_u64];omega
  obtain ⟨c,hc⟩:∃ c:Int,a+18446744073709551616=c:=⟨_,rfl⟩
  rw [hc] at e1 e2;clear hc
  go_enter Tryz.func222,Tryz.ntmps222
  go_wp2
  go_ret
  exact ⟨by simp [*],rfl⟩
 ·have e1:IntKind.u64.wrap a=(a.natAbs:Nat):=by rw [IntKind.wrap_u64];omega
  go_enter Tryz.func222,Tryz.ntmps222
  go_wp2
  go_ret
  exact ⟨by simp [*],rfl⟩
set_option maxHeartbeats 1000000 in
theorem oD (x y:Nat) (hx:x<18446744073709551616) (hy:y<18446744073709551616) (w:World) :
  Calls Tryz.prog 150 #[.int .u64 x,.int .u64 y] w (U4 ((x*y / 18446744073709551616:Nat):Int) ((x*y % 18446744073709551616:Nat):Int) w):=by
 obtain ⟨bd,bt,bw,hhi⟩:=Lib.mul64_hi x y hx hy;have ba:=Lib.half_mul_le (a:=x / 4294967296) (b:=y / 4294967296) (by omega) (by omega);have bb:=Lib.half_mul_le (a:=x / 4294967296) (b:=y % 4294967296) (by omega) (by omega);have bc:=Lib.half_mul_le (a:=x % 4294967296) (b:=y / 4294967296) (by omega) (by omega);have ba':x / 4294967296*(y / 4294967296)<18446744073709551616:=by omega
 have bb':x / 4294967296*(y % 4294967296)<18446744073709551616:=by omega
 have bc':x % 4294967296*(y / 4294967296)<18446744073709551616:=by omega
 have bh1:x / 4294967296*(y / 4294967296)+(x / 4294967296*(y % 4294967296)+x % 4294967296*(y % 4294967296) / 4294967296) / 4294967296<18446744073709551616:=by omega
 have bh:x / 4294967296*(y / 4294967296)+(x / 4294967296*(y % 4294967296)+x % 4294967296*(y % 4294967296) / 4294967296) / 4294967296+((x / 4294967296*(y % 4294967296)+x % 4294967296*(y % 4294967296) / 4294967296) % 4294967296+x % 4294967296*(y / 4294967296)) / 4294967296<18446744073709551616:=by omega
 go_enter Tryz.func150,Tryz.ntmps150
 go_wp2
 simp only [Mul64.maskN x hx,Mul64.maskN y hy,Mul64.divN,Mul64.mulN,Mul64.addN,Mul64.wrapN _ bd,Mul64.wrapN _ bb',Mul64.wrapN _ bt,Mul64.maskN _ bt,Mul64.wrapN _ bc',Mul64.wrapN _ bw,Mul64.wrapN _ ba',Mul64.wrapN _ bh1,Mul64.wrapN _ bh,Mul64.wrapM (x*y)];rw [hhi]
 go_ret2
 exact ⟨rfl,rfl⟩
set_option maxRecDepth 100000 in
theorem Dk (w:World):Calls Tryz.prog 226 #[.int .u64 1000] w (One 54 w):=by
 go_enter Tryz.func226,Tryz.ntmps226
 go_wp2
 go_ret
 exact ⟨by kernel_rfl,rfl⟩
def U9 (v c:Int) (w:World) (e:Ending) (w':World):Prop:=e=.returned (.tuple #[.int .u64 v,.int .u64 c])/\∃ n,w'=w.drewN n
set_option maxHeartbeats 1000000 in
theorem xd (lo:Nat) (h2:lo<18446744073709551616) (w:World) :
  Calls Tryz.prog 224 #[.int .u64 0,.int .u64 lo,.int .u64 1000] w (U9 ((lo / 1000:Nat):Int) ((lo % 1000:Nat):Int) w):=by
 have e1:IntKind.u64.wrap ((lo:Int) / 1000)=(lo:Int) / 1000:=by rw [IntKind.wrap_u64];omega
 go_enter Tryz.func224,Tryz.ntmps224
 go_wp2
 go_quiet (fail)
 go_wp2
 go_ret2
 exact ⟨rfl,_,rfl⟩
theorem WM (h l:Nat) (hh:h<1000) (hl:l<18014398509481984):bits .or .u64 ((h:Int)*18014398509481984) (l:Int)=(h:Int)*18014398509481984+l:=by
 have e:=bits_or_u64_nat (h*18014398509481984) l (by omega) (by omega);have e2:=Nat.shiftLeft_add_eq_or_of_lt (i:=54) (show l<2 ^ 54 from hl) h;rw [Nat.shiftLeft_eq] at e2;have e3:((h*18014398509481984:Nat):Int)=(h:Int)*18014398509481984:=by rw [Int.natCast_mul];rfl
 rw [e3] at e;rw [e,<- e3,<- Int.natCast_add];exact congrArg Int.ofNat e2.symm
theorem Aa (U q1 r1 u a b c V:Int) (e1:U=q1*4194304000+r1) (hV:V=r1*4294967296+u) (b0:0<=V) (b1:V<18446744073709551616)
  (ha:IntKind.u64.wrap (U*4294967296)=a) (hb:IntKind.u64.wrap (a+u)=b) (hc:IntKind.u64.wrap (q1*18014398509481984000)=c):IntKind.u64.wrap (b - c)=V:=by
 rw [IntKind.wrap_u64] at *
 omega
theorem abz (V q0 r0 a c:Int) (e1:V=q0*4194304000+r0) (b0:0<=r0) (b1:r0<4194304000)
  (ha:IntKind.u64.wrap (V*4294967296)=a) (hc:IntKind.u64.wrap (q0*18014398509481984000)=c):IntKind.u64.wrap (a - c)=r0*4294967296:=by
 rw [IntKind.wrap_u64] at *
 omega
theorem Nj (N hi lo x U u q1 r1 V q0 r0:Int) (hN:N=hi*18446744073709551616+lo) (hU:U=hi*18014398509481984+lo / 1024) (hu:u=(lo % 1024)*4194304)
  (e1:U=q1*4194304000+r1) (hV:V=r1*4294967296+u) (e0:V=q0*4194304000+r0) (b0:0<=r0) (b1:r0<4194304000) :
  N / 1000=q1*4294967296+q0/\N % 1000=r0 / 4194304:=by
 have h:N*4194304=(q1*4294967296+q0)*4194304000+r0:=by omega
 clear hN hU hu e1 hV e0;generalize q1*4294967296+q0=Q at *
 omega
set_option maxRecDepth 100000 in
set_option maxHeartbeats 2000000 in
theorem wH (hi lo:Nat) (h0:1<=hi) (h1:hi<1000) (h2:lo<18446744073709551616) (w:World) :
  Calls Tryz.prog 224 #[.int .u64 hi,.int .u64 lo,.int .u64 1000] w (U4 (((hi:Int)*18446744073709551616+lo) / 1000) (((hi:Int)*18446744073709551616+lo) % 1000) w):=by
 have hor:=WM hi (lo / 1024) h1 (by omega);rw [show ((lo / 1024:Nat):Int)=(lo:Int) / 1024 from rfl] at hor;have hand0:bits .and .u64 18014398509481984000 4294967295=0:=by decide
 obtain ⟨U,hU⟩:∃ U:Int,U=(hi:Int)*18014398509481984+(lo:Int) / 1024:=⟨_,rfl⟩
 obtain ⟨u,hu⟩:∃ u:Int,u=((lo:Int) % 1024)*4194304:=⟨_,rfl⟩
 obtain ⟨L,hL⟩:∃ L:Int,L=u*4294967296:=⟨_,rfl⟩
 obtain ⟨q1,hq1⟩:∃ q1:Int,U / 4194304000=q1:=⟨_,rfl⟩
 obtain ⟨r1,hr1⟩:∃ r1:Int,U - q1*4194304000=r1:=⟨_,rfl⟩
 obtain ⟨V,hV⟩:∃ V:Int,V=r1*4294967296+u:=⟨_,rfl⟩
 obtain ⟨q0,hq0⟩:∃ q0:Int,V / 4194304000=q0:=⟨_,rfl⟩
 obtain ⟨r0,hr0⟩:∃ r0:Int,V - q0*4194304000=r0:=⟨_,rfl⟩
 have c0:0<=u/\u<4294967296:=by omega
 have c1:0<=U/\U<18014398509481984000:=by omega
 have c2:0<=q1/\q1<4294967296:=by omega
 have c3:0<=r1/\r1<4194304000:=by omega
 have c4:0<=V/\V<18014398509481984000:=by omega
 have c5:0<=q0/\q0<4294967296:=by omega
 have c6:0<=r0/\r0<4194304000:=by omega
 obtain ⟨a,f1⟩:∃ a:Int,IntKind.u64.wrap (U*4294967296)=a:=⟨_,rfl⟩
 obtain ⟨b,f2⟩:∃ b:Int,IntKind.u64.wrap (a+u)=b:=⟨_,rfl⟩
 obtain ⟨c,f3⟩:∃ c:Int,IntKind.u64.wrap (q1*18014398509481984000)=c:=⟨_,rfl⟩
 have f4:=Aa U q1 r1 u a b c V (by omega) hV c4.1 (by omega) f1 f2 f3;obtain ⟨a',g1⟩:∃ a:Int,IntKind.u64.wrap (V*4294967296)=a:=⟨_,rfl⟩
 obtain ⟨c',g2⟩:∃ c:Int,IntKind.u64.wrap (q0*18014398509481984000)=c:=⟨_,rfl⟩
 have g3:=abz V q0 r0 a' c' (by omega) c6.1 c6.2 g1 g2;obtain ⟨d,hd⟩:∃ d:Int,r0*4294967296=d:=⟨_,rfl⟩
 have g4:d / 18014398509481984=r0 / 4194304:=by omega
 have hQ:=Nj _ hi lo 0 U u q1 r1 V q0 r0 rfl hU hu (by omega) hV (by omega) c6.1 c6.2;rw [hQ.1,hQ.2];have k1:IntKind.u64.wrap ((lo:Int)*18014398509481984)=L:=by rw [IntKind.wrap_u64];omega
 have k2:L / 4294967296=u:=by omega
 have c7:0<=L/\L<18446744073709551616:=by omega
 have k3:bits .and .u64 L 4294967295=0:=by
  obtain ⟨n,rfl⟩:=Int.eq_ofNat_of_zero_le c7.1;rw [Mul64.maskN n (by omega)];have:n % 4294967296=0:=by omega
  rw [this];rfl
 rw [hd] at g3;obtain ⟨R,hR⟩:∃ R:Int,r0 / 4194304=R:=⟨_,rfl⟩
 rw [hR] at g4 ⊢;rw [<- hU] at hor;have a0:0<=(a:Int):=by rw [IntKind.wrap_u64] at f1;omega
 have a1:0<=b:=by rw [IntKind.wrap_u64] at f2;omega
 have a2:0<=d:=by omega
 have a3:0<=a'/\a'<=18446744073709551615:=by rw [IntKind.wrap_u64] at g1;omega
 obtain ⟨a3a,a3b⟩:=a3;clear hU hu hL hV hR hd hQ;obtain ⟨c0a,c0b⟩:=c0;obtain ⟨c1a,c1b⟩:=c1;obtain ⟨c2a,c2b⟩:=c2;obtain ⟨c3a,c3b⟩:=c3;obtain ⟨c4a,c4b⟩:=c4;obtain ⟨c5a,c5b⟩:=c5;obtain ⟨c6a,c6b⟩:=c6;clear c7;have hne:((hi:Int)==0)=false:=by rw [afb];omega
 have n1:decide (4294967296<=q1)=false:=by rw [afi];omega
 have n2:decide (4294967296<=q0)=false:=by rw [afi];omega
 go_enter Tryz.func224,Tryz.ntmps224
 go_wp2_with (go_at_call 226;refine (Dk _).mono ?_;rintro e w' ⟨rfl,rfl⟩)
 go_rounds 1
 go_rounds 1
 go_ret2
 exact ⟨by simp [hq1,hq0],rfl⟩
def VZ (v:Value) (w:World) (e:Ending) (w':World):Prop:=e=.returned v/\∃ n,w'=w.drewN n
theorem MG (w:World):Calls Tryz.prog 223 #[.bool true] w (One (-9223372036854775808) w):=by
 go_enter Tryz.func223,Tryz.ntmps223
 go_wp2
 go_ret
 exact ⟨rfl,rfl⟩
theorem K0 (w:World):Calls Tryz.prog 223 #[.bool false] w (One 9223372036854775807 w):=by
 go_enter Tryz.func223,Tryz.ntmps223
 go_wp2
 go_ret
 exact ⟨rfl,rfl⟩
theorem GV (n:Int) (more:Bool) (h0:0<=n) (h1:n+(if more then 1 else 0)<=9223372036854775808) (w:World) :
  Calls Tryz.prog 225 #[.int .u64 n,.bool more] w fun e w'=>e=.returned (.iface 161 (.int .i64 (-n - (if more then 1 else 0))))/\w=w':=by
 by_cases hn:n=9223372036854775808
 ·subst hn;cases more
  ·go_enter Tryz.func225,Tryz.ntmps225
   go_wp2
   go_ret
   exact ⟨by kernel_rfl,rfl⟩
  ·simp at h1
 ·have e1:(n==9223372036854775808)=false:=by rw [afb];exact hn
  have h2:n<=9223372036854775807:=by cases more<;>simp at h1<;>omega
  clear hn;cases more<;>simp at h1 ⊢
  all_goals
   go_enter Tryz.func225,Tryz.ntmps225
   go_wp2
   go_ret
   exact ⟨by simp,rfl⟩
theorem As (n:Int) (more:Bool) (h0:0<=n) (h2:n<=18446744073709551615) (h1:9223372036854775808<n+(if more then 1 else 0)) (w:World) :
  Calls Tryz.prog 225 #[.int .u64 n,.bool more] w fun e w'=>e=.returned (.iface 163 (.int .i64 (-9223372036854775808)))/\w=w':=by
 by_cases hn:n=9223372036854775808
 ·subst hn;cases more
  ·simp at h1
  ·go_enter Tryz.func225,Tryz.ntmps225
   go_wp2
   go_ret
   exact ⟨rfl,rfl⟩
 ·have h3:9223372036854775808<n:=by cases more<;>simp at h1<;>omega
  have e1:(n==9223372036854775808)=false:=by rw [afb];exact hn
  clear hn h1;cases more
  all_goals
   go_enter Tryz.func225,Tryz.ntmps225
   go_wp2
   go_ret
   exact ⟨rfl,rfl⟩
theorem ra (P:Nat) (h:P<18446744073709551616000) (w:World) :
  Calls Tryz.prog 224 #[.int .u64 ((P / 18446744073709551616:Nat):Int),.int .u64 ((P % 18446744073709551616:Nat):Int),.int .u64 1000] w (U9 ((P / 1000:Nat):Int) ((P % 1000:Nat):Int) w):=by
 obtain ⟨hi,hhi⟩:∃ hi,P / 18446744073709551616=hi:=⟨_,rfl⟩
 obtain ⟨lo,hlo⟩:∃ lo,P % 18446744073709551616=lo:=⟨_,rfl⟩
 have b1:hi<1000:=by omega
 have b2:lo<18446744073709551616:=by omega
 have e:(P:Int)=(hi:Int)*18446744073709551616+lo:=by omega
 rw [hhi,hlo];by_cases h0:hi=0
 ·subst h0;have e2:P=lo:=by omega
  subst e2;exact xd P b2 w
 ·refine (wH hi lo (by omega) b1 b2 w).mono fun e' w' ⟨h1,h2⟩=>⟨?_,0,h2.symm⟩
  rw [h1,<- e];rfl
theorem lT (x y P:Nat) (hP:x*y=P) (hx:x<18446744073709551616) (hy:y<18446744073709551616) (w:World) :
  Calls Tryz.prog 150 #[.int .u64 x,.int .u64 y] w (U4 ((P / 18446744073709551616:Nat):Int) ((P % 18446744073709551616:Nat):Int) w):=by
 subst hP;exact oD x y hx hy w
theorem OJ (a b:Int):(decide (a<0)=decide (b<0)->a*b=((a.natAbs*b.natAbs:Nat):Int))/\(decide (a<0)≠decide (b<0)->a*b = -((a.natAbs*b.natAbs:Nat):Int)):=by
 rw [Int.natCast_mul];by_cases h1:a<0<;>by_cases h2:b<0
 ·rw [show ((a.natAbs:Nat):Int) = -a by omega,show ((b.natAbs:Nat):Int) = -b by omega];simp [h1,h2,Int.neg_mul_neg]
 ·rw [show ((a.natAbs:Nat):Int) = -a by omega,show ((b.natAbs:Nat):Int)=b by omega];simp [h1,h2,Int.neg_mul]
 ·rw [show ((a.natAbs:Nat):Int)=a by omega,show ((b.natAbs:Nat):Int) = -b by omega];simp [h1,h2,Int.mul_neg]
 ·rw [show ((a.natAbs:Nat):Int)=a by omega,show ((b.natAbs:Nat):Int)=b by omega];simp [h1,h2]
theorem zk (a:Int) (ha : -9223372036854775808<=a) (ha':a<=9223372036854775807):a.natAbs<=9223372036854775808:=by omega
set_option maxRecDepth 100000 in
set_option maxHeartbeats 2000000 in
theorem DP (a b:Int) (ha : -9223372036854775808<=a) (ha':a<=9223372036854775807) (hb : -9223372036854775808<=b) (hb':b<=9223372036854775807) (P:Nat) (hP:a.natAbs*b.natAbs=P)
  (hs:decide (a<0)=decide (b<0)) (w:World) :
  Calls Tryz.prog 220 #[.int .i64 a,.int .i64 b] w (VZ (if P / 1000<=9223372036854775807 then .iface 161 (.int .i64 ((P / 1000:Nat):Int)) else .iface 163 (.int .i64 9223372036854775807)) w):=by
 have h1:=zk a ha ha';have h2:=zk b hb hb';obtain ⟨s,hs1⟩:∃ s,decide (b<0)=s:=⟨_,rfl⟩
 rw [hs1] at hs;by_cases hbig:P<18446744073709551616000
 ·have hlt:((P / 18446744073709551616:Nat):Int)<1000:=by omega
  have hm:P / 1000<18446744073709551616:=by omega
  by_cases hin:P / 1000<=9223372036854775807
  ·rw [if_pos hin];have e1:((P:Int) / 1000)<=9223372036854775807:=by omega
   have e2:(0:Int)<=((P:Int) / 1000):=by omega
   go_enter Tryz.func220,Tryz.ntmps220
   go_wp2_with (first | (go_at_call 222;refine (jr _ (by assumption) (by assumption) _).mono ?_;rintro e w' ⟨rfl,rfl⟩) | (go_at_call 150;refine (lT _ _ P hP (by omega) (by omega) _).mono ?_;rintro e w' ⟨rfl,rfl⟩) | (go_at_call 224;refine (ra P hbig _).mono ?_;rintro e w' ⟨rfl,n,rfl⟩))
   go_ret
   exact ⟨rfl,_,rfl⟩
  ·rw [if_neg hin];have e1:(9223372036854775807:Int)<((P:Int) / 1000):=by omega
   clear hin
   go_enter Tryz.func220,Tryz.ntmps220
   go_wp2_with (first | (go_at_call 222;refine (jr _ (by assumption) (by assumption) _).mono ?_;rintro e w' ⟨rfl,rfl⟩) | (go_at_call 150;refine (lT _ _ P hP (by omega) (by omega) _).mono ?_;rintro e w' ⟨rfl,rfl⟩) | (go_at_call 224;refine (ra P hbig _).mono ?_;rintro e w' ⟨rfl,n,rfl⟩) | (go_at_call 223;refine (K0 _).mono ?_;rintro e w' ⟨rfl,rfl⟩))
   go_ret
   exact ⟨rfl,_,rfl⟩
 ·rw [if_neg (by omega)];have hlt:1000<=((P / 18446744073709551616:Nat):Int):=by omega
  go_enter Tryz.func220,Tryz.ntmps220
  go_wp2_with (first | (go_at_call 222;refine (jr _ (by assumption) (by assumption) _).mono ?_;rintro e w' ⟨rfl,rfl⟩) | (go_at_call 150;refine (lT _ _ P hP (by omega) (by omega) _).mono ?_;rintro e w' ⟨rfl,rfl⟩) | (go_at_call 223;refine (K0 _).mono ?_;rintro e w' ⟨rfl,rfl⟩))
  go_ret
  exact ⟨rfl,0,rfl⟩
theorem ND (n z:Int) (more:Bool) (h0:0<=n) (h1:RowKit.Hid (n+(if more then 1 else 0)<=9223372036854775808)) (hz:RowKit.Hid (-n - (if more then 1 else 0)=z)) (w:World) :
  Calls Tryz.prog 225 #[.int .u64 n,.bool more] w fun e w'=>e=.returned (.iface 161 (.int .i64 z))/\w=w':=by
 rw [<- hz.out];exact GV n more h0 h1.out w
set_option maxRecDepth 100000 in
set_option maxHeartbeats 2000000 in
theorem AD (a b:Int) (ha : -9223372036854775808<=a) (ha':a<=9223372036854775807) (hb : -9223372036854775808<=b) (hb':b<=9223372036854775807) (P:Nat) (hP:a.natAbs*b.natAbs=P)
  (hs:decide (a<0)≠decide (b<0)) (w:World) :
  Calls Tryz.prog 220 #[.int .i64 a,.int .i64 b] w (VZ (if P<=9223372036854775808000 then .iface 161 (.int .i64 (-((P / 1000:Nat):Int) - if (0:Int)<((P % 1000:Nat):Int) then 1 else 0)) else .iface 163 (.int .i64 (-9223372036854775808))) w):=by
 have h1:=zk a ha ha';have h2:=zk b hb hb';obtain ⟨s,hs1⟩:∃ s,decide (b<0)=s:=⟨_,rfl⟩
 have hs2:decide (a<0) = !s:=by rw [<- hs1];revert hs;cases decide (a<0)<;>cases decide (b<0)<;>simp
 clear hs;obtain ⟨m,hm0⟩:∃ m,decide ((0:Int)<((P % 1000:Nat):Int))=m:=⟨_,rfl⟩
 have hm1:(if m then 1 else 0:Int)=if (0:Int)<((P % 1000:Nat):Int) then 1 else 0:=by rw [<- hm0];simp
 by_cases hbig:P<18446744073709551616000
 ·have hlt:((P / 18446744073709551616:Nat):Int)<1000:=by omega
  have hm:P / 1000<18446744073709551616:=by omega
  have hm0':decide ((0:Int)<(P:Int) % 1000)=m:=hm0;by_cases hin:P<=9223372036854775808000
  ·rw [if_pos hin,<- hm1];have hk:((P / 1000:Nat):Int)+(if m then 1 else 0)<=9223372036854775808:=by
    rw [hm1];split<;>omega
   have HK:=Lib.hid hk;obtain ⟨z,hz⟩:∃ z:Int,-((P / 1000:Nat):Int) - (if m then 1 else 0)=z:=⟨_,rfl⟩
   rw [hz];have HZ:=Lib.hid hz;clear hk hm1 hm0 hz
   go_enter Tryz.func220,Tryz.ntmps220
   go_wp2_with (first | (go_at_call 222;refine (jr _ (by assumption) (by assumption) _).mono ?_;rintro e w' ⟨rfl,rfl⟩) | (go_at_call 150;refine (lT _ _ P hP (by omega) (by omega) _).mono ?_;rintro e w' ⟨rfl,rfl⟩) | (go_at_call 224;refine (ra P hbig _).mono ?_;rintro e w' ⟨rfl,n,rfl⟩) | (go_at_call 225;refine (ND _ z m (by omega) HK HZ _).mono ?_;rintro e w' ⟨rfl,rfl⟩))
   go_ret
   exact ⟨rfl,_,rfl⟩
  ·rw [if_neg hin];have hk:9223372036854775808<((P / 1000:Nat):Int)+(if m then 1 else 0):=by
    rw [hm1];split<;>omega
   have HK:=Lib.hid hk;clear hk hm1 hm0 hin
   go_enter Tryz.func220,Tryz.ntmps220
   go_wp2_with (first | (go_at_call 222;refine (jr _ (by assumption) (by assumption) _).mono ?_;rintro e w' ⟨rfl,rfl⟩) | (go_at_call 150;refine (lT _ _ P hP (by omega) (by omega) _).mono ?_;rintro e w' ⟨rfl,rfl⟩) | (go_at_call 224;refine (ra P hbig _).mono ?_;rintro e w' ⟨rfl,n,rfl⟩) | (go_at_call 225;refine (As _ m (by omega) (by omega) HK.out _).mono ?_;rintro e w' ⟨rfl,rfl⟩))
   go_ret
   exact ⟨rfl,_,rfl⟩
 ·rw [if_neg (by omega)];have hlt:1000<=((P / 18446744073709551616:Nat):Int):=by omega
  clear hm1 hm0
  go_enter Tryz.func220,Tryz.ntmps220
  go_wp2_with (first | (go_at_call 222;refine (jr _ (by assumption) (by assumption) _).mono ?_;rintro e w' ⟨rfl,rfl⟩) | (go_at_call 150;refine (lT _ _ P hP (by omega) (by omega) _).mono ?_;rintro e w' ⟨rfl,rfl⟩) | (go_at_call 223;refine (MG _).mono ?_;rintro e w' ⟨rfl,rfl⟩))
  go_ret
  exact ⟨rfl,0,rfl⟩
def TwoD (v c:Int) (w:World) (e:Ending) (w':World):Prop:=e=.returned (.tuple #[.int .i64 v,.int .i64 c])/\∃ n,w'=w.drewN n
theorem Oh (a b:Int) (ha : -9223372036854775808<=a) (ha':a<=9223372036854775807) (hb : -9223372036854775808<=b) (hb':b<=9223372036854775807) (w:World) :
  Calls Tryz.prog 211 #[.int .i64 a,.int .i64 b] w (TwoD (bZ (mulI a b)) (jt (mulI a b)) w):=by
 have hsg:=OJ a b;obtain ⟨P,hP⟩:∃ P,a.natAbs*b.natAbs=P:=⟨_,rfl⟩
 unfold mulI;by_cases hs:decide (a<0)=decide (b<0)
 ·rw [hsg.1 hs,hP];have hp:=DP a b ha ha' hb hb' P hP hs w;by_cases hin:P / 1000<=9223372036854775807
  ·rw [if_pos hin] at hp;rw [(fh ((P:Int) / 1000) (by omega) (by omega)).1,(fh ((P:Int) / 1000) (by omega) (by omega)).2];have HP:=Lib.hid hp;clear hp hsg hs hin hP
   go_enter Tryz.func211,Tryz.ntmps211
   go_wp2_with (first | (go_at_call 220;refine HP.out.mono ?_;rintro e w' ⟨rfl,n,rfl⟩) | (go_at_call 66;refine (qz _ _).mono ?_;rintro e w' ⟨rfl,rfl⟩))
   go_ret2
   exact ⟨rfl,_,rfl⟩
  ·rw [if_neg hin] at hp;rw [(Ll ((P:Int) / 1000) (by omega)).1,(Ll ((P:Int) / 1000) (by omega)).2];have HP:=Lib.hid hp;clear hp hsg hs hin hP
   go_enter Tryz.func211,Tryz.ntmps211
   go_wp2_with (first | (go_at_call 220;refine HP.out.mono ?_;rintro e w' ⟨rfl,n,rfl⟩) | (go_at_call 66;refine (oz _ _).mono ?_;rintro e w' ⟨rfl,rfl⟩))
   go_ret2
   exact ⟨rfl,_,rfl⟩
 ·rw [hsg.2 hs,hP];have hp:=AD a b ha ha' hb hb' P hP hs w;have hq:(-(P:Int)) / 1000 = -((P / 1000:Nat):Int) - if (0:Int)<((P % 1000:Nat):Int) then 1 else 0:=by split<;>omega
  by_cases hin:P<=9223372036854775808000
  ·rw [if_pos hin,<- hq] at hp;rw [(fh (-(P:Int) / 1000) (by omega) (by omega)).1,(fh (-(P:Int) / 1000) (by omega) (by omega)).2];have HP:=Lib.hid hp;clear hp hsg hs hin hP hq;obtain ⟨q,hq⟩:∃ q,-(P:Int) / 1000=q:=⟨_,rfl⟩
   rw [hq] at HP ⊢;clear hq
   go_enter Tryz.func211,Tryz.ntmps211
   go_wp2_with (first | (go_at_call 220;refine HP.out.mono ?_;rintro e w' ⟨rfl,n,rfl⟩) | (go_at_call 66;refine (qz _ _).mono ?_;rintro e w' ⟨rfl,rfl⟩))
   go_ret2
   exact ⟨rfl,_,rfl⟩
  ·rw [if_neg hin] at hp;rw [(Kp (-(P:Int) / 1000) (by omega)).1,(Kp (-(P:Int) / 1000) (by omega)).2];have HP:=Lib.hid hp;clear hp hsg hs hin hP hq
   go_enter Tryz.func211,Tryz.ntmps211
   go_wp2_with (first | (go_at_call 220;refine HP.out.mono ?_;rintro e w' ⟨rfl,n,rfl⟩) | (go_at_call 66;refine (oz _ _).mono ?_;rintro e w' ⟨rfl,rfl⟩))
   go_ret2
   exact ⟨rfl,_,rfl⟩
end Go.Proofs.YtgpgppncblldiaaGreatDoor.Mil
namespace Go.Proofs.YtgpgppncblldiaaGreatDoor.Mil
open Go.Eng Go.RowKit
theorem mixed:Tryz.prog.follows .mixedOrders=true:=Checked.mixed Tryz.checked
def inR (a:Int):Bool:=decide (-9223372036854775808<=a)&&decide (a<=9223372036854775807)
theorem bV {a:Int}:inR a=true ↔ -9223372036854775808<=a/\a<=9223372036854775807:=by simp [inR]
def dG (a b:Int):V:=.tup [.s (.int .i64 a),.s (.int .i64 b)]
def bU (a:Int):V:=.s (.int .i64 a)
theorem xB (w:World) (n:Nat):Below w.heap.size w (w.drewN n):=by
 induction n with
 | zero=>exact Below.refl _ _
 | succ n ih=>exact ih.drew
theorem Fo {w w':World} (h:∃ n,w'=w.drewN n):Below w.heap.size w w':=by obtain ⟨n,rfl⟩:=h;exact xB w n
def VY:Eng.Spec
 | [.s (.int .i64 a),.s (.int .i64 b)]=>.ite none (inR a&&inR b) (.ret (dG (bZ (mulI a b)) (jt (mulI a b)))) .fail
 | _=>.fail
theorem aJ {c:Bool} {x:T V} {v:V} (h:(T.ite none c x .fail).eval=some v):c=true/\x.eval=some v:=by
 cases c
 ·cases h
 ·exact ⟨rfl,h⟩
theorem Fe (args:List V) (v:V) (h:(VY args).eval=some v):dh args=true/\flat v=true:=by
 unfold VY at h;split at h
 ·obtain ⟨_,h⟩:=aJ h;simp only [T.eval,c9] at h;subst h;exact ⟨rfl,rfl⟩
 ·cases h
theorem VM:an Tryz.prog 211 VY:=by
 refine an.ae0 Tryz.func211 (by kernel_rfl) (by kernel_rfl) Fe fun args v w hfl h hfv => ?_;clear hfl hfv;unfold VY at h;split at h
 ·rename_i a b;obtain ⟨hc,h⟩:=aJ h;simp only [AS,bV] at hc;simp only [T.eval,c9] at h;subst h;refine (Oh a b hc.1.1 hc.1.2 hc.2.1 hc.2.2 w).mono ?_;rintro e w' ⟨rfl,hw⟩;exact ⟨rfl,Fo hw⟩
 ·cases h
end Go.Proofs.YtgpgppncblldiaaGreatDoor.Mil
namespace Go.Proofs.YtgpgppncblldiaaGreatDoor.Conf
open Go.Eng Go.RowKit Mil
def iP (c:Cf):V:=.agg [bU c.target,bU c.util,bU c.stable,bU c.panic,bU c.grain,bU c.threshold,bU c.up,bU c.down,bU c.min,bU c.max,bU c.initial,bU c.grace,bU c.delay,bU c.burst,bU c.limit,bU c.queue,bU c.timeout,bU c.ready,bU c.subset,bU c.sample]
def gZ {α:Type} (v:V) (k:Cf->T α):T α :=
 match v with
 | .agg [.s (.int .i64 a0),.s (.int .i64 a1),.s (.int .i64 a2),.s (.int .i64 a3),.s (.int .i64 a4),.s (.int .i64 a5),.s (.int .i64 a6),.s (.int .i64 a7),.s (.int .i64 a8),.s (.int .i64 a9),.s (.int .i64 a10),.s (.int .i64 a11),.s (.int .i64 a12),.s (.int .i64 a13),.s (.int .i64 a14),.s (.int .i64 a15),.s (.int .i64 a16),.s (.int .i64 a17),.s (.int .i64 a18),.s (.int .i64 a19)]=>k ⟨a0,a1,a2,a3,a4,a5,a6,a7,a8,a9,a10,a11,a12,a13,a14,a15,a16,a17,a18,a19⟩
 | _=>.fail
theorem cy {α:Type} {v:V} {k:Cf->T α} {r:α} (h:(gZ v k).eval=some r):∃ c,v=iP c/\(k c).eval=some r:=by
 unfold gZ at h;split at h
 ·exact ⟨_,rfl,h⟩
 ·cases h
def mq (l:List UInt8):V:=.s (.str ⟨⟨l⟩⟩)
def um:Eng.Spec
 | [.iface t (.s (.int .i64 n)),.s (.int .i64 lo),.s (.int .i64 hi)]=>if t=3\/t=2 then .ret (.s (.bool (fy n lo hi))) else .fail
 | _=>.fail
def C0:Cfg:=⟨Tryz.prog,lookG [],[],0⟩
theorem jZ:C0.Ok:=Cfg.ok trivial trivial
theorem K4:an Tryz.prog 60 um:=by
 refine (af jZ mixed Tryz.func60 (by kernel_rfl) (by kernel_rfl)).aex fun args v hfl h => ?_;clear hfl;unfold um at h;split at h
 ·rename_i t n lo hi;split at h
  ·rename_i ht;simp only [T.eval,c9] at h;subst h;have e:aK C0 ab 60 [.iface t (.s (.int .i64 n)),.s (.int .i64 lo),.s (.int .i64 hi)]=.ret (.s (.bool (bif decide (n<lo) then true else decide (hi<n)))):=by
    rcases ht with rfl | rfl<;>kernel_rfl
   rw [e];exact ⟨_,rfl,⟨rfl,rfl⟩,by unfold fy;cases decide (n<lo)<;>rfl⟩
  ·cases h
 ·cases h
def vI:Eng.Spec
 | [x]=>gZ x fun c=>.ret (bU (fj c))
 | _=>.fail
theorem nF:an Tryz.prog 61 vI:=by
 refine (af jZ mixed Tryz.func61 (by kernel_rfl) (by kernel_rfl)).aex fun args v hfl h => ?_;clear hfl;unfold vI at h;split at h
 ·obtain ⟨c,rfl,h2⟩:=cy h;obtain rfl:=AI h2;clear h h2;have e:aK C0 ab 61 [iP c]=T.ite (some 8) (c.max==0) (.ret (bU 100)) (.ret (bU c.max)):=by kernel_rfl
  rw [e];cases h1:c.max==0
  ·exact ⟨_,rfl,⟨rfl,rfl⟩,by simp at h1;simp [bU,V.den,S.den,fj,h1]⟩
  ·exact ⟨_,rfl,⟨rfl,rfl⟩,by simp at h1;simp [bU,V.den,S.den,fj,h1]⟩
 ·cases h
def C1:Cfg:=⟨Tryz.prog,lookG [(60,um),(61,vI)],[],0⟩
theorem JC:C1.Ok:=Cfg.ok ⟨K4,nF,trivial⟩ trivial
def E8 (c:Cf):T V :=
 T.ite (some 8) (fy c.target 10 1000000) (.ret (mq [116,97,114,103,101,116])) (
 T.ite (some 16) (fy c.util 100 1000) (.ret (mq [117,116,105,108])) (
 T.ite (some 24) (fy c.stable 6 600) (.ret (mq [115,116,97,98,108,101])) (
 T.ite (some 32) (fy c.panic 1 c.stable) (.ret (mq [112,97,110,105,99])) (
 T.ite (some 40) (fy c.grain 1 c.panic) (.ret (mq [103,114,97,105,110])) (
 T.ite (some 48) (fy c.threshold 1100 10000) (.ret (mq [116,104,114,101,115,104,111,108,100])) (
 T.ite (some 56) (fy c.up 1001 1000000) (.ret (mq [117,112])) (
 T.ite (some 64) (fy c.down 1001 1000000) (.ret (mq [100,111,119,110])) (
 T.ite (some 72) (fy c.min 0 100) (.ret (mq [109,105,110])) (
 T.ite (some 96) ((bif c.max != 0 then fy c.max (if 1>c.min then 1 else c.min) 100 else false)) (.ret (mq [109,97,120])) (
 T.ite (some 144) (fy c.initial 0 (fj c)) (.ret (mq [105,110,105,116,105,97,108])) (
 T.ite (some 160) (fy c.grace 0 600) (.ret (mq [103,114,97,99,101])) (
 T.ite (some 168) (fy c.delay 0 600) (.ret (mq [100,101,108,97,121])) (
 T.ite (some 192) ((bif c.burst != -1000 then fy c.burst 0 100000000 else false)) (.ret (mq [98,117,114,115,116])) (
 T.ite (some 200) (fy c.limit 1 1000) (.ret (mq [108,105,109,105,116])) (
 T.ite (some 208) (fy c.queue 0 200) (.ret (mq [113,117,101,117,101])) (
 T.ite (some 216) (fy c.timeout 1 10000) (.ret (mq [116,105,109,101,111,117,116])) (
 T.ite (some 224) (fy c.ready 0 100) (.ret (mq [114,101,97,100,121])) (
 T.ite (some 232) (fy c.subset 0 100) (.ret (mq [115,117,98,115,101,116])) (
 T.ite (some 240) (fy c.sample 0 100) (.ret (mq [115,97,109,112,108,101])) (
 .ret (mq [])))))))))))))))))))))
theorem dg {i:Option Nat} {b:Bool} {x y:T V} {l r:List UInt8} (hx:x.eval=some (mq l)) (hy:y.eval=some (mq r)):(T.ite i b x y).eval=some (mq (if b=true then l else r)):=by
 cases b
 ·exact hy
 ·exact hx
theorem Kg {n m:Int} {b:Bool}:(bif n != m then b else false)=(!(n==m)&&b):=by cases h:n==m<;>simp [bne,h]
theorem Em (a:Int):(if 1>a then 1 else a)=max a 1:=by
 rw [Int.max_def];split<;>split<;>omega
theorem Bg (c:Cf):(E8 c).eval=some (mq (nq c)):=by
 unfold E8 nq;rw [Em,Kg,Kg];exact dg rfl (dg rfl (dg rfl (dg rfl (dg rfl (dg rfl (dg rfl (dg rfl (dg rfl (dg rfl (dg rfl (dg rfl (dg rfl (dg rfl (dg rfl (dg rfl (dg rfl (dg rfl (dg rfl (dg rfl (rfl))))))))))))))))))))
def Dq:Eng.Spec
 | [x]=>gZ x fun c=>.ret (mq (nq c))
 | _=>.fail
theorem H4:an Tryz.prog 37 Dq:=by
 refine (af JC mixed Tryz.func37 (by kernel_rfl) (by kernel_rfl)).aex fun args v hfl h => ?_;clear hfl;unfold Dq at h;split at h
 ·obtain ⟨c,rfl,h2⟩:=cy h;obtain rfl:=AI h2;clear h h2;have e:aK C1 ab 37 [iP c]=E8 c:=by kernel_rfl
  rw [e,Bg];exact ⟨_,rfl,⟨rfl,rfl⟩,rfl⟩
 ·cases h
def C2:Cfg:=⟨Tryz.prog,lookG [(60,um),(61,vI),(37,Dq),(211,VY)],[],0⟩
theorem Br:C2.Ok:=Cfg.ok ⟨K4,nF,H4,VM,trivial⟩ trivial
theorem vu (l:List UInt8):((⟨⟨l⟩⟩:ByteArray).toList==(⟨#[]⟩:ByteArray).toList)=l.isEmpty:=by
 rw [ByteArray.toList_eq,ByteArray.toList_eq];cases l<;>rfl
def po:Eng.Spec
 | [x]=>gZ x fun c=>.ret (.s (.bool (dC c)))
 | _=>.fail
theorem fz:an Tryz.prog 16 po:=by
 refine (af Br mixed Tryz.func16 (by kernel_rfl) (by kernel_rfl)).aex fun args v hfl h => ?_;clear hfl;unfold po at h;split at h
 ·obtain ⟨c,rfl,h2⟩:=cy h;obtain rfl:=AI h2;clear h h2;have e:aK C2 ab 16 [iP c]=.ret (.s (.bool ((⟨⟨nq c⟩⟩:ByteArray).toList==(⟨#[]⟩:ByteArray).toList))):=by kernel_rfl
  rw [e,vu];exact ⟨_,rfl,⟨rfl,rfl⟩,rfl⟩
 ·cases h
def abB:Eng.Spec
 | [x]=>gZ x fun c=>.ite none (inR c.target&&inR c.util) (.ret (bU (KI c))) .fail
 | _=>.fail
theorem WU:an Tryz.prog 185 abB:=by
 refine (af Br mixed Tryz.func185 (by kernel_rfl) (by kernel_rfl)).aex fun args v hfl h => ?_;clear hfl;unfold abB at h;split at h
 ·obtain ⟨c,rfl,h2⟩:=cy h;have e:aK C2 ab 185 [iP c]=.ite none (inR c.target&&inR c.util) (.ret (bU (if 1>bZ (mulI c.target c.util) then 1 else bZ (mulI c.target c.util)))) .fail:=by kernel_rfl
  rw [e,Em];exact ⟨_,h2,by obtain ⟨_,h3⟩:=aJ h2;obtain rfl:=AI h3;exact ⟨rfl,rfl⟩,rfl⟩
 ·cases h
def aeI:Cf:=⟨10000,700,60,6,1,2000,10000,2000,0,0,1,30,0,20000,10,100,60,3,0,0⟩
def Jj:Eng.Spec
 | []=>.ret (iP aeI)
 | _=>.fail
theorem pF:an Tryz.prog 7 Jj:=by
 refine (af jZ mixed Tryz.func7 (by kernel_rfl) (by kernel_rfl)).aex fun args v hfl h => ?_;clear hfl;unfold Jj at h;split at h
 ·obtain rfl:=AI h;have e:aK C0 ab 7 []=.ret (iP aeI):=by kernel_rfl
  rw [e];exact ⟨_,rfl,⟨rfl,rfl⟩,rfl⟩
 ·cases h
end Go.Proofs.YtgpgppncblldiaaGreatDoor.Conf
namespace Go.Proofs.YtgpgppncblldiaaGreatDoor.Mil
theorem sc (a b:Int):a.tmod b=0↔b∣a:=(Int.dvd_iff_tmod_eq_zero).symm
theorem Bl (b:Int) (h:b≠0):(0<b/\b.sign=1)\/(b<0/\b.sign = -1):=by
 rcases Int.lt_trichotomy b 0 with h1 | h1 | h1
 ·exact .inr ⟨h1,Int.sign_eq_neg_one_of_neg h1⟩
 ·exact absurd h1 h
 ·exact .inl ⟨h1,Int.sign_eq_one_of_pos h1⟩
theorem Xo (a b:Int) (hb:b≠0):dnI a b=a.tdiv b - (if a.tmod b≠0/\(a<0)≠(b<0) then 1 else 0):=by
 unfold dnI;rw [Int.fdiv_eq_ediv,Int.tdiv_eq_ediv];by_cases hd:b∣a
 ·have hm:a.tmod b=0:=(sc a b).2 hd;simp [hd,hm]
 ·have hm:¬ a.tmod b=0:=fun h=>hd ((sc a b).1 h);rcases Bl b hb with ⟨h1,h2⟩ | ⟨h1,h2⟩<;>by_cases ha:a<0
  ·have e1:¬ (0<=a\/b∣a):=by omega
   have e2:(0<=b\/b∣a):=by omega
   have e3:a.tmod b≠0/\(a<0)≠(b<0):=⟨hm,by simp [ha];omega⟩
   rw [if_neg e1,if_pos e2,if_pos e3,h2];omega
  ·have e1:(0<=a\/b∣a):=by omega
   have e2:(0<=b\/b∣a):=by omega
   have e3:¬ (a.tmod b≠0/\(a<0)≠(b<0)):=fun h=>h.2 (by simp [ha];omega);rw [if_pos e1,if_pos e2,if_neg e3];omega
  ·have e1:¬ (0<=a\/b∣a):=by omega
   have e2:¬ (0<=b\/b∣a):=by omega
   have e3:¬ (a.tmod b≠0/\(a<0)≠(b<0)):=fun h=>h.2 (by simp [ha,h1]);rw [if_neg e1,if_neg e2,if_neg e3,h2];omega
  ·have e1:(0<=a\/b∣a):=by omega
   have e2:¬ (0<=b\/b∣a):=by omega
   have e3:a.tmod b≠0/\(a<0)≠(b<0):=⟨hm,by simp [ha,h1]⟩
   rw [if_pos e1,if_neg e2,if_pos e3];omega
theorem aaP (a b:Int) (hb:b≠0):upI a b=a.tdiv b+(if a.tmod b≠0/\(a<0)=(b<0) then 1 else 0):=by
 have h:=Xo (-a) b hb;unfold dnI at h;unfold upI;rw [h,Int.neg_tdiv,Int.neg_tmod];by_cases hm:a.tmod b=0
 ·rw [if_neg (by omega),if_neg (by simp [hm])];omega
 ·have ha:a≠0:=fun h=>hm (by rw [h];simp);have e:((-a<0)≠(b<0))↔((a<0)=(b<0)):=by
   by_cases h1:a<0<;>by_cases h2:b<0
   ·have:¬ (-a<0):=by omega
    rw [eq_false this,eq_true h1,eq_true h2];simp
   ·have:¬ (-a<0):=by omega
    rw [eq_false this,eq_true h1,eq_false h2];simp
   ·have : -a<0:=by omega
    rw [eq_true this,eq_false h1,eq_true h2];simp
   ·have : -a<0:=by omega
    rw [eq_true this,eq_false h1,eq_false h2];simp
  by_cases hs:(a<0)=(b<0)
  ·rw [if_pos ⟨by omega,e.2 hs⟩,if_pos ⟨hm,hs⟩];omega
  ·rw [if_neg (fun h=>hs (e.1 h.2)),if_neg (fun h=>hs h.2)];omega
theorem uX (a b:Int) (ha : -9223372036854775808<=a) (ha':a<=9223372036854775807) (hb:b≠0) (h:¬ (a = -9223372036854775808/\b = -1)) :
  -9223372036854775808<=a.tdiv b/\a.tdiv b<=9223372036854775807/\(a.tmod b≠0 -> -9223372036854775807<=a.tdiv b/\a.tdiv b<=9223372036854775806):=by
 have h1:(a.tdiv b).natAbs=a.natAbs / b.natAbs:=Int.natAbs_tdiv a b;by_cases hb1:b.natAbs=1
 ·have hm:a.tmod b=0:=by
   rw [sc];exact Int.natAbs_dvd_natAbs.1 (by rw [hb1];exact Nat.one_dvd _)
  rcases (show b=1\/b = -1 by omega) with rfl | rfl
  ·simp;omega
  ·rw [show a.tdiv (-1) = -a by rw [Int.tdiv_neg];simp];refine ⟨by omega,by omega,fun h=>absurd hm h⟩
 ·have h2:2<=b.natAbs:=by omega
  have h3:a.natAbs / b.natAbs<=a.natAbs / 2:=Nat.div_le_div_left h2 (by omega);refine ⟨by omega,by omega,fun _=>by omega⟩
end Go.Proofs.YtgpgppncblldiaaGreatDoor.Mil
namespace Go.Proofs.YtgpgppncblldiaaGreatDoor.Mil
open Go.Eng Go.RowKit Conf
theorem bu {i:Option Nat} {c:Bool} {x y:T V} {v:V} (h1:c=true->x.eval=some v) (h2:c=false->y.eval=some v):(T.ite i c x y).eval=some v:=by
 cases c
 ·exact h2 rfl
 ·exact h1 rfl
theorem gk {a b a' b':Int} (h1:a=a') (h2:b=b'):(T.ret (V.tup [V.s (.int .i64 a),V.s (.int .i64 b)])).eval=some (dG a' b'):=by rw [h1,h2];rfl
theorem jN {a a':Int} (h1:a=a'):(T.ret (V.s (.int .i64 a))).eval=some (bU a'):=by rw [h1];rfl
theorem QR {a a':Bool} (h1:a=a'):(T.ret (V.s (.bool a))).eval=some (.s (.bool a')):=by rw [h1];rfl
def two (f:Int->Int->V):Eng.Spec
 | [.s (.int .i64 a),.s (.int .i64 b)]=>.ite none (inR a&&inR b) (.ret (f a b)) .fail
 | _=>.fail
theorem an.two {P:Program} {n:Nat} {sp:Eng.Spec} {f:Int->Int->V} (h:an P n sp) (hf:∀ a b,flat (f a b)=true)
  (he:∀ a b,-9223372036854775808<=a->a<=9223372036854775807 -> -9223372036854775808<=b->b<=9223372036854775807->(sp [bU a,bU b]).eval=some (f a b)):an P n (two f):=by
 refine h.aex fun args v hfl h => ?_;clear hfl;unfold Mil.two at h;split at h
 ·rename_i a b;obtain ⟨hc,h⟩:=aJ h;simp only [AS,bV] at hc;obtain rfl:=AI h;exact ⟨_,he a b hc.1.1 hc.1.2 hc.2.1 hc.2.2,⟨hf a b,hf a b⟩,rfl⟩
 ·cases h
def SU:Eng.Spec:=aK C0 ab 186
def AU:Eng.Spec:=aK C0 ab 66
theorem Qv:an Tryz.prog 186 SU:=af jZ mixed Tryz.func186 (by kernel_rfl) (by kernel_rfl)
theorem rW:an Tryz.prog 66 AU:=af jZ mixed Tryz.func66 (by kernel_rfl) (by kernel_rfl)
def M1:Cfg:=⟨Tryz.prog,lookG [(186,SU),(66,AU)],[],0⟩
theorem xo:M1.Ok:=Cfg.ok ⟨Qv,rW,trivial⟩ trivial
theorem bO {a b:Bool}:(bif a then b else false)=true↔a=true/\b=true:=by cases a<;>simp
theorem dO {a b:Bool}:(bif a then b else false)=false↔(a=true->b=false):=by cases a<;>simp
theorem te {a b:Int}:((decide (a<0)==decide (b<0))=true)↔((a<0)=(b<0)):=by
 rw [beq_iff_eq];constructor
 ·intro h;exact propext (by simpa using h)
 ·intro h;simp only [h]
theorem tS {a b:Int}:((!decide (a<0)==decide (b<0))=true)↔((a<0)≠(b<0)):=by
 by_cases h1:a<0<;>by_cases h2:b<0<;>simp [h1,h2]
def Sj (s:Int) (t:Int->Int->Bool) (a b:Int):T V :=
 T.ite none (b==0) (T.ret (dG 0 3)) (T.ite none (bif a == -9223372036854775808 then b == -1 else false) (T.ret (dG 9223372036854775807 2)) (T.ite none (b==0) T.fail (T.ite none (b==0) T.fail
  (T.ite none (bif Int.tmod a b != 0 then t a b else false) (T.ret (dG (IntKind.wrap IntKind.i64 (IntKind.wrap IntKind.i64 (Int.tdiv a b)+s)) 0)) (T.ret (dG (IntKind.wrap IntKind.i64 (Int.tdiv a b)) 0))))))
theorem NF {t:Int->Int->Bool} (ht:∀ a b,t a b=true↔(a<0)=(b<0)) {a b:Int} (h1 : -9223372036854775808<=a) (h2:a<=9223372036854775807):(Sj 1 t a b).eval=some (dG (upV a b) (upE a b)):=by
 unfold Sj;refine bu (fun h => ?_) fun h0=>bu (fun h => ?_) fun h3=>bu (fun h => ?_) fun _=>bu (fun h => ?_) fun _ => ?_
 ·rw [beq_iff_eq] at h;subst h;rfl
 ·rw [bO,beq_iff_eq,beq_iff_eq] at h;obtain ⟨rfl,rfl⟩:=h;exact gk (by decide) (by decide)
 ·rw [h0] at h;cases h
 ·rw [h0] at h;cases h
 ·have hb:b≠0:=by simpa using h0
  have hn:¬ (a = -9223372036854775808/\b = -1):=by
   rintro ⟨rfl,rfl⟩;revert h3;decide
  obtain ⟨q1,q2,q3⟩:=uX a b h1 h2 hb hn;have e1:upV a b=bZ (upI a b):=if_neg hb;have e2:upE a b=jt (upI a b):=if_neg hb;rw [e1,e2,aaP a b hb];refine bu (fun h => ?_) fun h => ?_
  ·rw [bO,ht] at h;have hm:a.tmod b≠0:=by simpa [bne] using h.1
   have:=q3 hm;rw [if_pos ⟨hm,h.2⟩,(fh (a.tdiv b+1) (by omega) (by omega)).1,(fh (a.tdiv b+1) (by omega) (by omega)).2,wrap64_in q1 q2,wrap64_in (by omega) (by omega)];rfl
  ·have hc:¬ (a.tmod b≠0/\(a<0)=(b<0)):=fun hh=>by
    rw [dO] at h;have:=h (by simpa [bne] using hh.1);rw [(ht a b).2 hh.2] at this;cases this
   rw [if_neg hc,Int.add_zero,(fh (a.tdiv b) (by omega) (by omega)).1,(fh (a.tdiv b) (by omega) (by omega)).2,wrap64_in q1 q2];rfl
theorem L9 {t:Int->Int->Bool} (ht:∀ a b,t a b=true↔(a<0)≠(b<0)) {a b:Int} (h1 : -9223372036854775808<=a) (h2:a<=9223372036854775807):(Sj (-1) t a b).eval=some (dG (dnV a b) (dnE a b)):=by
 unfold Sj;refine bu (fun h => ?_) fun h0=>bu (fun h => ?_) fun h3=>bu (fun h => ?_) fun _=>bu (fun h => ?_) fun _ => ?_
 ·rw [beq_iff_eq] at h;subst h;rfl
 ·rw [bO,beq_iff_eq,beq_iff_eq] at h;obtain ⟨rfl,rfl⟩:=h;exact gk (by decide) (by decide)
 ·rw [h0] at h;cases h
 ·rw [h0] at h;cases h
 ·have hb:b≠0:=by simpa using h0
  have hn:¬ (a = -9223372036854775808/\b = -1):=by
   rintro ⟨rfl,rfl⟩;revert h3;decide
  obtain ⟨q1,q2,q3⟩:=uX a b h1 h2 hb hn;have e1:dnV a b=bZ (dnI a b):=if_neg hb;have e2:dnE a b=jt (dnI a b):=if_neg hb;rw [e1,e2,Xo a b hb];refine bu (fun h => ?_) fun h => ?_
  ·rw [bO,ht] at h;have hm:a.tmod b≠0:=by simpa [bne] using h.1
   have:=q3 hm;rw [if_pos ⟨hm,h.2⟩,(fh (a.tdiv b - 1) (by omega) (by omega)).1,(fh (a.tdiv b - 1) (by omega) (by omega)).2,wrap64_in q1 q2,wrap64_in (by omega) (by omega)];rfl
  ·have hc:¬ (a.tmod b≠0/\(a<0)≠(b<0)):=fun hh=>by
    rw [dO] at h;have:=h (by simpa [bne] using hh.1);rw [(ht a b).2 hh.2] at this;cases this
   rw [if_neg hc,Int.sub_zero,(fh (a.tdiv b) (by omega) (by omega)).1,(fh (a.tdiv b) (by omega) (by omega)).2,wrap64_in q1 q2];rfl
def upS:Eng.Spec:=two fun a b=>dG (upV a b) (upE a b)
def dnS:Eng.Spec:=two fun a b=>dG (dnV a b) (dnE a b)
def aaT:Eng.Spec:=two fun a b=>dG (bZ (a - b)) (jt (a - b))
theorem V5:an Tryz.prog 157 upS:=by
 refine an.two (af xo mixed Tryz.func157 (by kernel_rfl) (by kernel_rfl)) (fun _ _=>rfl) fun a b h1 h2 h3 h4 => ?_;have e:T.anon (aK M1 ab 157 [bU a,bU b])=Sj 1 (fun a b=>(!decide (a<0)==decide (b<0))==decide ((1:Int)<0)) a b:=by kernel_rfl
 rw [<- T.aer,e];refine NF (fun a b => ?_) h1 h2;rw [<- te];cases decide (a<0)<;>cases decide (b<0)<;>decide
theorem abR:an Tryz.prog 213 dnS:=by
 refine an.two (af xo mixed Tryz.func213 (by kernel_rfl) (by kernel_rfl)) (fun _ _=>rfl) fun a b h1 h2 h3 h4 => ?_;have e:T.anon (aK M1 ab 213 [bU a,bU b])=Sj (-1) (fun a b=>(!decide (a<0)==decide (b<0))==decide ((-1:Int)<0)) a b:=by kernel_rfl
 rw [<- T.aer,e];refine L9 (fun a b => ?_) h1 h2;rw [<- tS];cases decide (a<0)<;>cases decide (b<0)<;>decide
theorem gj {n m:Int} (h:n % 18446744073709551616=m % 18446744073709551616):IntKind.wrap .i64 n=IntKind.wrap .i64 m:=by
 have h':n % 2 ^ IntKind.i64.bits=m % 2 ^ IntKind.i64.bits:=h;simp only [IntKind.wrap,h']
theorem Cz {a b:Int} (h1 : -9223372036854775808<=a) (h2:a<=9223372036854775807) (h3 : -9223372036854775808<=b) (h4:b<=9223372036854775807) :
  (IntKind.wrap .i64 (a - b)=if 9223372036854775807<a - b then a - b - 18446744073709551616 else if a - b < -9223372036854775808 then a - b+18446744073709551616 else a - b):=by
 by_cases c1:9223372036854775807<a - b
 ·rw [if_pos c1,<- IntWalk.i64_in (a - b - 18446744073709551616) ⟨by omega,by omega⟩];exact gj (by omega)
 ·rw [if_neg c1];by_cases c2:a - b < -9223372036854775808
  ·rw [if_pos c2,<- IntWalk.i64_in (a - b+18446744073709551616) ⟨by omega,by omega⟩];exact gj (by omega)
  ·rw [if_neg c2,wrap64_in (by omega) (by omega)]
def WA:Eng.Spec:=aK C0 ab 67
theorem L3:an Tryz.prog 67 WA:=af jZ mixed Tryz.func67 (by kernel_rfl) (by kernel_rfl)
def M2:Cfg:=⟨Tryz.prog,lookG [(67,WA),(66,AU)],[],0⟩
theorem Rc:M2.Ok:=Cfg.ok ⟨L3,rW,trivial⟩ trivial
theorem Kv:an Tryz.prog 46 aaT:=by
 refine an.two (af Rc mixed Tryz.func46 (by kernel_rfl) (by kernel_rfl)) (fun _ _=>rfl) fun a b h1 h2 h3 h4 => ?_
 have e:T.anon (aK M2 ab 46 [bU a,bU b])=T.ite none (bif bif decide (a<0) then decide (0<=b) else false then decide (0<=IntKind.wrap IntKind.i64 (a - b)) else false) (T.ret (dG (-9223372036854775808) 2))
   (T.ite none (bif bif decide (0<=a) then decide (b<0) else false then decide (IntKind.wrap IntKind.i64 (a - b)<0) else false) (T.ret (dG 9223372036854775807 2)) (T.ret (dG (IntKind.wrap IntKind.i64 (a - b)) 0))):=by kernel_rfl
 rw [<- T.aer,e,Cz h1 h2 h3 h4];refine bu (fun h => ?_) fun h=>bu (fun h5 => ?_) fun h5 => ?_
 ·simp only [bO,AT] at h;refine gk ?_ ?_<;>simp only [bZ,jt]<;>(split at h<;>repeat' split)<;>omega
 ·simp only [bO,AT] at h5;refine gk ?_ ?_<;>simp only [bZ,jt]<;>(split at h5<;>repeat' split)<;>omega
 ·simp only [dO,bO,AT,afi] at h h5;refine gk ?_ ?_<;>simp only [bZ,jt]<;>(repeat' split)<;>(try split at h)<;>(try split at h5)<;>omega
def oR:Eng.Spec
 | [.s (.int .i64 a),.s (.int .i64 b),.s (.int .i64 c)]=>.ret (bU (aE a b c))
 | _=>.fail
theorem JQ {n:Nat} {C:Cfg} (h:an C.P n (aK C ab n)) (he:∀ a b c,T.anon (aK C ab n [bU a,bU b,bU c])=T.ite none (decide (c<a)) (T.ret (bU c)) (T.ite none (decide (a<b)) (T.ret (bU b)) (T.ret (bU a)))):an C.P n oR:=by
 refine h.aex fun args v hfl h => ?_;clear hfl;unfold oR at h;split at h
 ·rename_i a b c;obtain rfl:=AI h;refine ⟨bU (aE a b c),?_,⟨rfl,rfl⟩,rfl⟩;rw [<- T.aer,show aK C ab n [V.s (.int .i64 a),V.s (.int .i64 b),V.s (.int .i64 c)]=aK C ab n [bU a,bU b,bU c] from rfl,he];unfold aE;refine bu (fun h => ?_) fun h=>bu (fun h5 => ?_) fun h5 => ?_<;>simp only [AT,afi] at *
  ·rw [if_pos h];rfl
  ·rw [if_neg h,if_pos h5];rfl
  ·rw [if_neg h,if_neg h5];rfl
 ·cases h
theorem mZ:an Tryz.prog 45 oR:=JQ (C:=C0) (af jZ mixed Tryz.func45 (by kernel_rfl) (by kernel_rfl)) fun a b c=>by kernel_rfl
end Go.Proofs.YtgpgppncblldiaaGreatDoor.Mil
end
