/- Layer 13's law with loops, whole. -/
import Derived.Test.YtdkebjdhpioehaaRateLp
namespace Go.Proofs.Ytdkebjdhpioehaa.Conf
open Go.Eng Go.RowKit Mil
set_option linter.unusedVariables false
set_option linter.unusedSimpArgs false
def ratesC (u d : Int) : Cf := { dflt with up := u, down := d }
theorem ratesC_ok {u d : Int} (h1 : 1100 ≤ u) (h2 : u ≤ 100000) (h3 : 1100 ≤ d) (h4 : d ≤ 100000) : ok1 (ratesC u d) = true := by
  have m : dflt.May := may_of (by decide)
  have hm : mayB (ratesC u d) = true := (may_iff _).2 ⟨m.target, m.util, m.stable, m.panic, m.grain, m.threshold, ⟨by show 1001 ≤ u; omega, by show u ≤ 1000000; omega⟩, ⟨by show 1001 ≤ d; omega, by show d ≤ 1000000; omega⟩, m.min, m.max, m.initial, m.grace, m.delay, m.burst, m.limit, m.queue, m.timeout, m.ready, m.subset, m.sample⟩
  unfold ok1
  rw [hm, decide_eq_true (show 1100 ≤ (ratesC u d).up from h1), decide_eq_true (show 1100 ≤ (ratesC u d).down from h3)]; rfl
def rstepsT (c : Cf) : T V :=
  T.ite none ((98901 : Int) == 0) T.fail (T.ite none ((98901 : Int) == 0) T.fail (T.ite none (ok1 c && ((1 : Int) == 1) && ((0 : Int) == 0)) (T.ite none (ok1 c && ((go1 c 61 1 0).1 == 100) && ((0 : Int) == 0))
    (T.ret (.s (.bool (bif (go1 c 61 1 0).1 == 100 then (go2 c 61 100 0).1 == 0 else false)))) .fail) .fail))
theorem rateSteps_walk (a : Int) (ha : (Lit.int .i64 a).wf = true) (b : Int) (hb : (Lit.int .i64 b).wf = true) (w : World) :
    Calls Try.prog 11 #[.int .i64 a, .int .i64 b] w fun e w' => e = .returned (.bool true) ∧ Below w.heap.size w w' := by
  refine law_yes (args := [intV a, intV b]) (execS_loops (Λ := byReg rlist) QL_ok mixed Try.func11 (by kernel_rfl) (by kernel_rfl) rlps_ok) rfl (yes_anon ?_) w
  have e : T.anon (execS QL (byReg rlist) 11 [intV a, intV b]) = rstepsT (ratesC (IntKind.wrap .i64 (1100 + IntKind.wrap .i64 (Int.tmod (IntKind.wrap .u64 a) 98901))) (IntKind.wrap .i64 (1100 + IntKind.wrap .i64 (Int.tmod (IntKind.wrap .u64 b) 98901)))) := by kernel_rfl
  rw [e]
  rw [modU (n := a) (by decide) (by decide), modU (n := b) (by decide) (by decide)]
  have h1 := modU_range a (m := 98901) (by decide)
  have h2 := modU_range b (m := 98901) (by decide)
  generalize (a % 18446744073709551616) % 98901 = x at *
  generalize (b % 18446744073709551616) % 98901 = y at *
  rw [wrap64_in (n := 1100 + x) (by omega) (by omega), wrap64_in (n := 1100 + y) (by omega) (by omega)]
  have hk := ratesC_ok (u := 1100 + x) (d := 1100 + y) (by omega) (by omega) (by omega) (by omega)
  generalize ratesC (1100 + x) (1100 + y) = c at *
  have g1 : (go1 c 61 1 0).1 = 100 := go1_end hk 61 1 0 (by decide) (by decide) (by decide) (by decide) (by decide)
  have g2 : (go2 c 61 100 0).1 = 0 := go2_end hk 61 100 0 (by decide) (by decide) (by decide) (by decide) (by decide)
  unfold rstepsT
  rw [g1, g2, hk]
  exact yes_else rfl (yes_else rfl (yes_then rfl (yes_then rfl (yes_ret rfl))))
end Go.Proofs.Ytdkebjdhpioehaa.Conf
