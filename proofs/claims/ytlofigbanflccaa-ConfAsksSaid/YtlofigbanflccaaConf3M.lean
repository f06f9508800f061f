/- Layer 3's laws: a pod's share rises. -/
import Derived.Test.YtlofigbanflccaaConf3L
namespace Go.Proofs.Ytlofigbanflccaa.Conf
open Go.Eng Go.RowKit Mil
set_option linter.unusedVariables false
set_option linter.unusedSimpArgs false

def near2 (t u : Int) : Cf := { dflt with target := t, util := u }
def nought : Cf := ⟨0, 0, 0, 0, 0, 0, 0, 0, 0, 0, 0, 0, 0, 0, 0, 0, 0, 0, 0, 0⟩
def per1 (tc uc td ud : Int) : Bool := decide (perC (near2 tc uc) ≤ perC (near2 td ud))
def per2 (tc uc td ud : Int) : Bool := bif per1 tc uc td ud then perC (near2 tc 1000) == tc else false
def per3 (tc uc td ud : Int) : Bool := bif per2 tc uc td ud then perC nought == 1 else false
def perTail (tc uc td ud : Int) : T V :=
  .ite none (inR tc && inR uc) (.ite none (inR td && inR ud) (.ite none (bif (per1 tc uc td ud == true) && true then inR tc && inR 1000 else true) (.ite none (bif (per2 tc uc td ud == true) && true then inR 0 && inR 0 else true)
    (.ret (.s (.bool (per3 tc uc td ud)))) .fail) .fail) .fail) .fail
def perT (tc uc td ud : Int) : T V :=
  .ite none ((999991 : Int) == 0) .fail (.ite none ((999991 : Int) == 0) .fail (.ite none ((901 : Int) == 0) .fail (.ite none ((901 : Int) == 0) .fail (
    .ite none (bif !mayB (near2 tc uc) then true else !mayB (near2 td ud)) (.ret .ff) (
    .ite none (decide (td < tc)) (.ite none (decide (ud < uc)) (perTail td ud tc uc) (perTail td uc tc ud)) (.ite none (decide (ud < uc)) (perTail tc ud td uc) (perTail tc uc td ud)))))))
theorem near2_may {t u : Int} (ht : 10 ≤ t ∧ t ≤ 1000000) (hu : 100 ≤ u ∧ u ≤ 1000) : (near2 t u).May := by
  have m : dflt.May := may_of (by decide)
  exact ⟨ht, hu, m.stable, m.panic, m.grain, m.threshold, m.up, m.down, m.min, m.max, m.initial, m.grace, m.delay, m.burst, m.limit, m.queue, m.timeout, m.ready, m.subset, m.sample⟩
theorem per3_true {tc uc td ud : Int} (h1 : 10 ≤ tc) (h2 : tc ≤ td) (h3 : td ≤ 1000000) (h4 : 100 ≤ uc) (h5 : uc ≤ ud) (h6 : ud ≤ 1000) : per3 tc uc td ud = true := by
  have e1 := (per_of (near2_may (t := tc) (u := uc) (by omega) (by omega))).1
  have e2 := (per_of (near2_may (t := td) (u := ud) (by omega) (by omega))).1
  have e3 := (per_of (near2_may (t := tc) (u := 1000) (by omega) (by omega))).1
  have p1 : per1 tc uc td ud = true := by
    unfold per1
    rw [decide_eq_true_eq, e1, e2]
    show tc * uc / 1000 ≤ td * ud / 1000
    have : tc * uc ≤ td * ud := Int.mul_le_mul h2 h5 (by omega) (by omega)
    omega
  unfold per3 per2
  rw [p1, e3]
  show (bif (tc * 1000 / 1000 == tc) then perC nought == 1 else false) = true
  have : (tc * 1000 / 1000 == tc) = true := by rw [beq_iff_eq]; omega
  rw [this]
  decide
theorem perTail_yes {tc uc td ud : Int} (h1 : 10 ≤ tc) (h2 : tc ≤ td) (h3 : td ≤ 1000000) (h4 : 100 ≤ uc) (h5 : uc ≤ ud) (h6 : ud ≤ 1000) : (perTail tc uc td ud).yes := by
  have r1 : (inR tc && inR uc) = true := by rw [Bool.and_eq_true, inR_iff, inR_iff]; omega
  have r2 : (inR td && inR ud) = true := by rw [Bool.and_eq_true, inR_iff, inR_iff]; omega
  have r3 : (inR tc && inR 1000) = true := by rw [Bool.and_eq_true, inR_iff, inR_iff]; omega
  have r4 : (inR 0 && inR 0) = true := by rw [Bool.and_eq_true, inR_iff]; omega
  exact yes_then r1 (yes_then r2 (yes_then (by rw [r3]; cases (per1 tc uc td ud == true) && true <;> rfl) (yes_then (by rw [r4]; cases (per2 tc uc td ud == true) && true <;> rfl) (yes_ret (per3_true h1 h2 h3 h4 h5 h6)))))
theorem perT_yes {tc uc td ud : Int} (h1 : 10 ≤ tc ∧ tc ≤ 1000000) (h2 : 100 ≤ uc ∧ uc ≤ 1000) (h3 : 10 ≤ td ∧ td ≤ 1000000) (h4 : 100 ≤ ud ∧ ud ≤ 1000) : (perT tc uc td ud).yes := by
  refine yes_else rfl (yes_else rfl (yes_else rfl (yes_else rfl (yes_else ?_ (yes_ite (fun a => yes_ite (fun b => ?_) fun b => ?_) fun a => yes_ite (fun b => ?_) fun b => ?_)))))
  · rw [(may_iff _).2 (near2_may h1 h2), (may_iff _).2 (near2_may h3 h4)]; rfl
  all_goals simp only [decide_eq_true_eq, decide_eq_false_iff_not] at a b; exact perTail_yes (by omega) (by omega) (by omega) (by omega) (by omega) (by omega)
def farE (n a m : Int) : Int := IntKind.wrap IntKind.i64 (n + IntKind.wrap IntKind.i64 (Int.tmod (IntKind.wrap IntKind.u64 a) m))
theorem farE_range (n a : Int) {m : Int} (hm : 0 < m) (h2 : m ≤ 1000000) (h3 : 0 ≤ n) (h4 : n ≤ 1000000) : n ≤ farE n a m ∧ farE n a m ≤ n + m - 1 := by
  unfold farE
  rw [modU hm (by omega)]
  have := modU_range a hm
  rw [wrap64_in (by omega) (by omega)]
  omega
theorem per_walk (a : Int) (_ : (Lit.int .i64 a).wf = true) (b : Int) (_ : (Lit.int .i64 b).wf = true) (x : Int) (_ : (Lit.int .i64 x).wf = true) (y : Int) (_ : (Lit.int .i64 y).wf = true) (w : World) :
    Calls Try.prog 4 #[.int .i64 a, .int .i64 b, .int .i64 x, .int .i64 y] w fun e w' => e = .returned (.bool true) ∧ Below w.heap.size w w' := by
  refine law_yes (args := [intV a, intV b, intV x, intV y]) (execS_plain C4_ok mixed Try.func4 (by kernel_rfl) (by kernel_rfl)) rfl (yes_anon ?_) w
  have e : T.anon (execS C4 noLoops 4 [intV a, intV b, intV x, intV y]) = perT (farE 10 a 999991) (farE 100 x 901) (farE 10 b 999991) (farE 100 y 901) := by kernel_rfl
  rw [e]
  have r1 := farE_range 10 a (m := 999991) (by decide) (by decide) (by decide) (by decide)
  have r2 := farE_range 100 x (m := 901) (by decide) (by decide) (by decide) (by decide)
  have r3 := farE_range 10 b (m := 999991) (by decide) (by decide) (by decide) (by decide)
  have r4 := farE_range 100 y (m := 901) (by decide) (by decide) (by decide) (by decide)
  exact perT_yes (by omega) (by omega) (by omega) (by omega)
end Go.Proofs.Ytlofigbanflccaa.Conf
