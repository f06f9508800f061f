/- Layer 9: whole products of 64 bits by 64 bits. -/
import Derived.Test.YtmijloophkkanaaStaA
import Derived.Test.YtmijloophkkanaaRows
import Derived.WalkKit
import Derived.ProofKit
import Derived.OpenShut
import Derived.Lib.Hide
import Derived.Lib.Mul64
import Derived.Laws.Bits64b
import Derived.Shelf.Bits.Mul64
import Derived.Deep.QuietTactic
import Derived.BigQuiet
import Derived.Handy
namespace Go.Proofs.Ytmijloophkkanaa.Sta
open Go.ChangeShapes Go.WideShapes Go.ChangeAt Go.RowKit
set_option linter.unusedVariables false
set_option linter.unusedSimpArgs false
def TwoU (v c : Int) (w : World) (e : Ending) (w' : World) : Prop := e = .returned (.tuple #[.int .u64 v, .int .u64 c]) ∧ w = w'
set_option maxHeartbeats 1000000 in
theorem mul64_any (x y : Nat) (hx : x < 18446744073709551616) (hy : y < 18446744073709551616) (w : World) :
    Calls Try.prog 74 #[.int .u64 x, .int .u64 y] w (TwoU ((x * y / 18446744073709551616 : Nat) : Int) ((x * y % 18446744073709551616 : Nat) : Int) w) := by
  obtain ⟨bd, bt, bw, hhi⟩ := Lib.mul64_hi x y hx hy
  have ba := Lib.half_mul_le (a := x / 4294967296) (b := y / 4294967296) (by omega) (by omega)
  have bb := Lib.half_mul_le (a := x / 4294967296) (b := y % 4294967296) (by omega) (by omega)
  have bc := Lib.half_mul_le (a := x % 4294967296) (b := y / 4294967296) (by omega) (by omega)
  have ba' : x / 4294967296 * (y / 4294967296) < 18446744073709551616 := by omega
  have bb' : x / 4294967296 * (y % 4294967296) < 18446744073709551616 := by omega
  have bc' : x % 4294967296 * (y / 4294967296) < 18446744073709551616 := by omega
  have bh1 : x / 4294967296 * (y / 4294967296) + (x / 4294967296 * (y % 4294967296) + x % 4294967296 * (y % 4294967296) / 4294967296) / 4294967296 < 18446744073709551616 := by omega
  have bh : x / 4294967296 * (y / 4294967296) + (x / 4294967296 * (y % 4294967296) + x % 4294967296 * (y % 4294967296) / 4294967296) / 4294967296 + ((x / 4294967296 * (y % 4294967296) + x % 4294967296 * (y % 4294967296) / 4294967296) % 4294967296 + x % 4294967296 * (y / 4294967296)) / 4294967296 < 18446744073709551616 := by omega
  go_enter Try.func74, Try.ntmps74
  go_wp2
  simp only [Mul64.maskN x hx, Mul64.maskN y hy, Mul64.divN, Mul64.mulN, Mul64.addN, Mul64.wrapN _ bd, Mul64.wrapN _ bb', Mul64.wrapN _ bt, Mul64.maskN _ bt, Mul64.wrapN _ bc', Mul64.wrapN _ bw, Mul64.wrapN _ ba', Mul64.wrapN _ bh1, Mul64.wrapN _ bh, Mul64.wrapM (x * y)]
  rw [hhi]
  go_ret2
  exact ⟨rfl, rfl⟩
open Go.Eng
def uv (n : Int) : V := .s (.int .u64 n)
def inU (a : Int) : Bool := decide (0 ≤ a) && decide (a < 18446744073709551616)
def mul64S : Eng.Spec
  | [.s (.int .u64 x), .s (.int .u64 y)] => .ite none (inU x && inU y) (.ret (.tup [uv (x * y / 18446744073709551616), uv (x * y % 18446744073709551616)])) .fail
  | _ => .fail
theorem mul64_plain (args : List V) (v : V) (h : (mul64S args).eval = some v) : flatL args = true ∧ flat v = true := by
  unfold mul64S at h
  split at h
  · obtain ⟨_, h⟩ := guard_eval h
    simp only [T.eval, Option.some.injEq] at h
    subst h
    exact ⟨rfl, rfl⟩
  · cases h
theorem mul64_ok : SpecOk Try.prog 74 mul64S := by
  refine SpecOk.of_calls Try.func74 (by kernel_rfl) (by kernel_rfl) mul64_plain fun args v w hfl h hfv => ?_
  clear hfl hfv
  unfold mul64S at h
  split at h
  · rename_i x y
    obtain ⟨hc, h⟩ := guard_eval h
    simp only [inU, Bool.and_eq_true, decide_eq_true_eq] at hc
    simp only [T.eval, Option.some.injEq] at h
    subst h
    obtain ⟨a, rfl⟩ := Int.eq_ofNat_of_zero_le hc.1.1
    obtain ⟨b, rfl⟩ := Int.eq_ofNat_of_zero_le hc.2.1
    refine (mul64_any a b (by omega) (by omega) w).mono ?_
    rintro e w' ⟨rfl, rfl⟩
    refine ⟨?_, Below.refl _ _⟩
    simp [uv, V.den, denL, S.den]
  · cases h
end Go.Proofs.Ytmijloophkkanaa.Sta
