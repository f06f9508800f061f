/- Layer 10: how many are asked. -/
import Derived.Test.YtmijloophkkanaaSamS
namespace Go.Proofs.Ytmijloophkkanaa.Sam
open Go.Eng Go.RowKit
set_option linter.unusedVariables false
set_option linter.unusedSimpArgs false
def sizeF (n : Int) : Int := if n ≤ 3 then (if 0 > n then 0 else n) else if 208 < n then 16 else 16 - 208 / (n + 13)
def sizeS : Eng.Spec
  | [.s (.int .i64 n)] => .ret (iv (sizeF n))
  | _ => .fail
theorem ev_ite {i : Option Nat} {c : Bool} {x y : T V} {v : V} (h1 : c = true → x.eval = some v) (h2 : c = false → y.eval = some v) : (T.ite i c x y).eval = some v := by
  cases c
  · exact h2 rfl
  · exact h1 rfl
theorem size_run (n : Int) : T.anon (sizeD [iv n]) = T.ite none (decide (n ≤ 3)) (T.ret (iv (if 0 > n then 0 else n))) (T.ite none (decide (208 < n)) (T.ret (iv 16)) (T.ite none (IntKind.wrap .i64 (n + 13) == 0) T.fail (T.ret (iv (IntKind.wrap .i64 (16 - IntKind.wrap .i64 (Int.tdiv 208 (IntKind.wrap .i64 (n + 13))))))))) := by kernel_rfl
theorem sizeS_ok : SpecOk Try.prog 29 sizeS := by
  refine sizeD_ok.of_den fun args v hfl h => ?_
  clear hfl
  unfold sizeS at h
  split at h
  · rename_i n
    obtain rfl := Option.some.inj h
    refine ⟨iv (sizeF n), ?_, ⟨rfl, rfl⟩, rfl⟩
    rw [← T.eval_anon, show sizeD [V.s (.int .i64 n)] = sizeD [iv n] from rfl, size_run]
    unfold sizeF
    refine ev_ite (fun h => ?_) fun h => ev_ite (fun h5 => ?_) fun h5 => ?_ <;> simp only [decide_eq_true_eq, decide_eq_false_iff_not] at *
    · rw [if_pos h]; rfl
    · rw [if_neg h, if_pos h5]; rfl
    · rw [if_neg h, if_neg h5]
      have e1 : IntKind.wrap .i64 (n + 13) = n + 13 := wrap64_in (by omega) (by omega)
      rw [e1]
      have e2 : Int.tdiv 208 (n + 13) = 208 / (n + 13) := Int.tdiv_eq_ediv_of_nonneg (by decide)
      have h6 : 0 ≤ 208 / (n + 13) := Int.ediv_nonneg (by decide) (by omega)
      have h7 : 208 / (n + 13) ≤ 208 := Int.ediv_le_self _ (by decide)
      rw [e2, wrap64_in (n := 208 / (n + 13)) (by omega) (by omega), wrap64_in (n := 16 - 208 / (n + 13)) (by omega) (by omega)]
      refine ev_ite (fun h => ?_) fun h => ?_
      · simp only [beq_iff_eq] at h; omega
      · rfl
  · cases h
theorem sizeF_all : ∀ n : Nat, n < 210 → sizeF n ≤ 16 ∧ sizeF n ≤ n ∧ (n < 3 ∨ 3 ≤ sizeF n) ∧ sizeF n ≤ sizeF (n + 1) ∧ (0 < n → 0 < sizeF n) ∧ 0 ≤ sizeF n := by decide +kernel
theorem sizeF_big {n : Int} (h : 208 < n) : sizeF n = 16 := by unfold sizeF; rw [if_neg (by omega), if_pos h]
theorem sizeF_says {n : Int} (h : 0 ≤ n) : sizeF n ≤ 16 ∧ sizeF n ≤ n ∧ (n < 3 ∨ 3 ≤ sizeF n) ∧ sizeF n ≤ sizeF (n + 1) ∧ (0 < n → 0 < sizeF n) ∧ 0 ≤ sizeF n := by
  by_cases q : n ≤ 208
  · obtain ⟨m, rfl⟩ := Int.eq_ofNat_of_zero_le h
    obtain ⟨h1, h2, h3, h4, h5, h6⟩ := sizeF_all m (by omega)
    exact ⟨h1, h2, by omega, h4, fun h => h5 (by omega), h6⟩
  · rw [sizeF_big (by omega), sizeF_big (n := n + 1) (by omega)]; omega
noncomputable def P5 : Cfg := ⟨Try.prog, lookG [(30, .val yesD), (29, .val sizeS)], [], 0⟩
theorem P5_ok : P5.Ok := Cfg.ok ⟨told_ok, sizeS_ok, trivial⟩ trivial
end Go.Proofs.Ytmijloophkkanaa.Sam
