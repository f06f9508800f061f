/- The walks of the statements of layer 1, out of the contracts of package milli and of the document's own answer. -/
import Derived.Test.Ytkcnompioahnfaa1Told
import Derived.Test.Ytkcnompioahnfaa1RefQuo
import Derived.Test.Ytkcnompioahnfaa1RefMul
namespace Go.Proofs.Ytkcnompioahnfaa.Mil
open Go.ChangeShapes Go.WideShapes Go.ChangeAt Go.RowKit
set_option linter.unusedVariables false
set_option linter.unusedSimpArgs false

theorem grown_drewN (w : World) (n : Nat) : Grown w (w.drewN n) := by
  induction n with
  | zero => exact Grown.refl _
  | succ n ih => exact ih.drew

theorem r64 {a : Int} (h : (Lit.int .i64 a).wf = true) : R64 a := by
  simp only [Lit.wf, IntKind.min, IntKind.max, IntKind.signed, IntKind.bits, Bool.and_eq_true, decide_eq_true_eq, if_true] at h
  exact ⟨by omega, by omega⟩

/-- how a law's walk ends -/
theorem law_end {w : World} {n : Nat} {e : Ending} (h : e = .returned (.bool true)) : e = .returned (.bool true) ∧ Grown w (w.drewN n) := ⟨h, grown_drewN w n⟩

theorem clamp_facts (a lo hi c : Int) (h : lo ≤ hi) (hc : clampI a lo hi = c) : lo ≤ c ∧ c ≤ hi ∧ clampI c lo hi = c ∧ (a < lo ∨ (lo ≤ a ∧ hi < a) ∨ (lo ≤ a ∧ a ≤ hi ∧ c = a)) := by
  have h0 : lo ≤ c ∧ c ≤ hi ∧ (a < lo ∨ (lo ≤ a ∧ hi < a) ∨ (lo ≤ a ∧ a ≤ hi ∧ c = a)) := by
    unfold clampI at hc
    split at hc <;> (try split at hc) <;> omega
  refine ⟨h0.1, h0.2.1, ?_, h0.2.2⟩
  unfold clampI; rw [if_neg (by omega), if_neg (by omega)]

set_option maxHeartbeats 1000000 in
theorem clamps_walk (a0 a1 a2 : Int) (w0 : (Lit.int .i64 a0).wf = true) (w1 : (Lit.int .i64 a1).wf = true) (w2 : (Lit.int .i64 a2).wf = true) (w : World) :
    Calls Try.prog 8 #[.int .i64 a0, .int .i64 a1, .int .i64 a2] w fun e w' => e = .returned (.bool true) ∧ Grown w w' := by
  clear w0 w1 w2
  obtain ⟨lo, hi, hle, hor⟩ : ∃ lo hi : Int, lo ≤ hi ∧ ((lo = a1 ∧ hi = a2 ∧ (a1 < a2 ∨ a1 = a2)) ∨ (lo = a2 ∧ hi = a1 ∧ a2 < a1)) := ⟨min a1 a2, max a1 a2, by omega, by omega⟩
  obtain ⟨c, hc⟩ : ∃ c, clampI a0 lo hi = c := ⟨_, rfl⟩
  obtain ⟨h1, h2, h4, h3⟩ := clamp_facts a0 lo hi c hle hc
  have hA := clamp_any a0 lo hi
  have hB := clamp_any c lo hi
  rw [hc] at hA
  rw [h4] at hB
  have HA := Lib.hid hA
  have HB := Lib.hid hB
  clear h4 hA hB hc
  rcases hor with ⟨rfl, rfl, hlt | rfl⟩ | ⟨rfl, rfl, hlt⟩
  all_goals
    rcases h3 with h3 | ⟨h5, h3⟩ | ⟨h5, h6, rfl⟩
    all_goals
      go_enter Try.func8, Try.ntmps8
      go_wp2_with fail
      refine (HA.out _).mono ?_
      rintro e w' ⟨rfl, rfl⟩
      go_wp2_with fail
      refine (told_yes _).mono ?_
      rintro e w' ⟨rfl, n, rfl⟩
      go_wp2_with fail
      refine (HB.out _).mono ?_
      rintro e w' ⟨rfl, rfl⟩
      go_wp2_with fail
      go_ret
      exact law_end rfl

def Drawn (w w' : World) : Prop := ∃ n, w' = w.drewN n

set_option maxRecDepth 100000 in
set_option maxHeartbeats 4000000 in
theorem asks_walk (a0 a1 a2 a3 : Int) (w0 : (Lit.int .i64 a0).wf = true) (w1 : (Lit.int .i64 a1).wf = true) (w2 : (Lit.int .i64 a2).wf = true) (w3 : (Lit.int .i64 a3).wf = true) (w : World) :
    Calls Try.prog 4 #[.int .i64 a0, .int .i64 a1, .int .i64 a2, .int .i64 a3] w fun e w' => e = .returned (.bool true) ∧ Grown w w' := by
  obtain ⟨ha, ha'⟩ := r64 w0
  obtain ⟨hb, hb'⟩ := r64 w1
  clear w0 w1 w2 w3
  go_enter Try.func4, Try.ntmps4
  go_wp2_with (first | (go_at_call 10; refine (told_yes _).mono ?_; rintro e w' ⟨rfl, n, rfl⟩) | (go_at_call 11; refine (add_any _ _ ha ha' hb hb' _).mono ?_; rintro e w' ⟨rfl, rfl⟩) | (go_at_call 12; refine (refadd_any _ _ ha ha' hb hb' _).mono ?_; rintro e w' ⟨rfl, rfl⟩) | (go_at_call 13; refine (sub_any _ _ ha ha' hb hb' _).mono ?_; rintro e w' ⟨rfl, rfl⟩) | (go_at_call 14; refine (refsub_any _ _ ha ha' hb hb' _).mono ?_; rintro e w' ⟨rfl, rfl⟩) | (go_at_call 9; refine (mul_any _ _ ha ha' hb hb' _).mono ?_; rintro e w' ⟨rfl, n1, rfl⟩) | (go_at_call 15; refine (refmul_any _ _ ha ha' hb hb' _).mono ?_; rintro e w' ⟨rfl, rfl⟩) | (go_at_call 16; refine (up_any _ _ ha ha' hb hb' _).mono ?_; rintro e w' ⟨rfl, rfl⟩) | (go_at_call 17; refine (refup_any _ _ ha ha' hb hb' _).mono ?_; rintro e w' ⟨rfl, rfl⟩) | (go_at_call 18; refine (dn_any _ _ ha ha' hb hb' _).mono ?_; rintro e w' ⟨rfl, rfl⟩) | (go_at_call 19; refine (refdn_any _ _ ha ha' hb hb' _).mono ?_; rintro e w' ⟨rfl, rfl⟩) | (go_at_call 20; refine (clamp_any _ _ _ _).mono ?_; rintro e w' ⟨rfl, rfl⟩) | (go_at_call 21; refine (refclamp_any _ _ _ _).mono ?_; rintro e w' ⟨rfl, rfl⟩))
  go_ret
  exact law_end rfl
end Go.Proofs.Ytkcnompioahnfaa.Mil
