/- Layer 8: the pod's methods. -/
import Derived.Test.YtacdadifjgppbaaPodT
namespace Go.Proofs.Ytacdadifjgppbaa.Pod
open Go.Eng Go.RowKit Go.Flt Lod Brk
set_option linter.unusedVariables false
set_option linter.unusedSimpArgs false
def okT (m t u s : Int) : Bool := decide (0 ≤ m ∧ m ≤ t ∧ t ≤ u ∧ u ≤ 1099511627776 ∧ 0 ≤ s ∧ s ≤ 4000 * (u - t))
def okR (m t u s L D : Int) (x y : Nat) : Bool := okB L D x y && okT m t u s
def bad (u n : Int) : Bool := bif decide (n < u) then true else decide (1099511627776 < n)
def passC : Eng.Obj := fun args h => argR args fun n => heapR h fun id m t u s L D x y => .ite none (okR m t u s L D x y) (.ite none (bad u n) (.ret (.ff, rnH id m t u s L D x y)) (.ret (.tt, rnH id m t n (s + (valW x + valW y) * (n - u)) L D x y))) .fail
theorem pass_run (id m t u s L D n : Int) (x y : Nat) : T.anon (passP [.ptr 0 0, iv n] (rnH id m t u s L D x y)) = T.ite none (bad u n) (.ret (.ff, rnH id m t u s L D x y))
    (T.ite none (isW x && isW y) (.ret (.tt, rnH id m t n (IntKind.wrap .i64 (s + IntKind.wrap .i64 ((valW x + valW y) * IntKind.wrap .i64 (n - u)))) L D x y)) .fail) := by kernel_rfl
theorem okT_some {m t u s : Int} (h : okT m t u s = true) : 0 ≤ m ∧ m ≤ t ∧ t ≤ u ∧ u ≤ 1099511627776 ∧ 0 ≤ s ∧ s ≤ 4000 * (u - t) := of_decide_eq_true h
theorem bad_false {u n : Int} (h : bad u n = false) : u ≤ n ∧ n ≤ 1099511627776 := by
  unfold bad at h
  by_cases h1 : n < u
  · rw [decide_eq_true h1] at h; cases h
  · rw [decide_eq_false h1] at h
    have : ¬ (1099511627776 < n) := of_decide_eq_false h
    omega
theorem passC_ok : ObjOk Try.prog 64 passC := passP_ok.of_eval fun args h v hv => by
  obtain ⟨n, rfl, hv⟩ := argR_some (show (argR args _).eval = some v from hv)
  obtain ⟨id, m, t, u, s, L, D, x, y, rfl, hv⟩ := heapR_some hv
  obtain ⟨hk, hv⟩ := guardO hv
  unfold okR at hk
  simp only [Bool.and_eq_true] at hk
  obtain ⟨b, w, rfl, rfl, eb, ew, hb, hw, l1, l2, d1, d2, wx, wy⟩ := okB_some hk.1
  obtain ⟨t1, t2, t3, t4, t5, t6⟩ := okT_some hk.2
  rw [← T.eval_anon (t := passP _ _)]
  refine Eq.trans (congrArg T.eval (pass_run id m t u s L D n (fI b) (fI w))) ?_
  cases q : bad u n
  · rw [q] at hv
    have hn := bad_false q
    refine tev_else rfl (tev_then (by rw [wx, wy]; rfl) ?_)
    rw [eb, ew] at hv ⊢
    have hp : 0 ≤ ((b : Int) + w) * (n - u) ∧ ((b : Int) + w) * (n - u) ≤ 4000 * (n - u) := ⟨Int.mul_nonneg (by omega) (by omega), Int.mul_le_mul_of_nonneg_right (by omega) (by omega)⟩
    rw [wrap64_in (n := n - u) (by omega) (by omega), wrap64_in (n := ((b : Int) + w) * (n - u)) (by omega) (by omega), wrap64_in (n := s + _) (by omega) (by omega)]
    exact hv
  · rw [q] at hv
    exact tev_then rfl hv
noncomputable def D3 : Cfg := ⟨Try.prog, lookG [(63, .obj runsP), (64, .obj passC), (65, .see allS), (66, .val dnC), (40, .get 76 loadG), (29, .obj enterC), (36, .obj leaveC)], [], 0⟩
theorem D3_ok : D3.Ok := Cfg.ok ⟨runsP_ok, passC_ok, allS_ok, dnC_ok, loadG_ok, enterC_ok, leaveC_ok, trivial⟩ trivial
noncomputable def enterP : Eng.Obj := execO D3 noLoops 45
theorem enterP_ok : ObjOk Try.prog 45 enterP := execO_plain D3_ok mixed Try.func45 (by kernel_rfl) (by kernel_rfl)
noncomputable def leaveP : Eng.Obj := execO D3 noLoops 46
theorem leaveP_ok : ObjOk Try.prog 46 leaveP := execO_plain D3_ok mixed Try.func46 (by kernel_rfl) (by kernel_rfl)
noncomputable def statP : Eng.Obj := execO D3 noLoops 47
theorem statP_ok : ObjOk Try.prog 47 statP := execO_plain D3_ok mixed Try.func47 (by kernel_rfl) (by kernel_rfl)
noncomputable def loadP : Eng.Obj := execO D3 noLoops 53
theorem loadP_ok : ObjOk Try.prog 53 loadP := execO_plain D3_ok mixed Try.func53 (by kernel_rfl) (by kernel_rfl)
end Go.Proofs.Ytacdadifjgppbaa.Pod
