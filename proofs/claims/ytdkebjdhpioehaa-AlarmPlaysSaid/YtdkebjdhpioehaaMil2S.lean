/- Contracts of package milli's quotients, differences and clamps, and of the document's own, as the machine takes them. -/
import Derived.Test.YtdkebjdhpioehaaConfS
import Derived.Test.YtdkebjdhpioehaaYes
import Derived.Test.YtdkebjdhpioehaaQuoMath
namespace Go.Proofs.Ytdkebjdhpioehaa.Mil
open Go.Eng Go.RowKit Conf
set_option linter.unusedVariables false
set_option linter.unusedSimpArgs false

theorem ev_ite {i : Option Nat} {c : Bool} {x y : T V} {v : V} (h1 : c = true → x.eval = some v) (h2 : c = false → y.eval = some v) : (T.ite i c x y).eval = some v := by
  cases c
  · exact h2 rfl
  · exact h1 rfl
theorem ev_pair {a b a' b' : Int} (h1 : a = a') (h2 : b = b') : (T.ret (V.tup [V.s (.int .i64 a), V.s (.int .i64 b)])).eval = some (pairV a' b') := by rw [h1, h2]; rfl
theorem ev_int {a a' : Int} (h1 : a = a') : (T.ret (V.s (.int .i64 a))).eval = some (intV a') := by rw [h1]; rfl
theorem ev_bool {a a' : Bool} (h1 : a = a') : (T.ret (V.s (.bool a))).eval = some (.s (.bool a')) := by rw [h1]; rfl
/-- a contract of two numbers in 64 bits out of a run -/
def two (f : Int → Int → V) : Eng.Spec
  | [.s (.int .i64 a), .s (.int .i64 b)] => .ite none (inR a && inR b) (.ret (f a b)) .fail
  | _ => .fail
theorem SpecOk.two {P : Program} {n : Nat} {sp : Eng.Spec} {f : Int → Int → V} (h : SpecOk P n sp) (hf : ∀ a b, flat (f a b) = true)
    (he : ∀ a b, -9223372036854775808 ≤ a → a ≤ 9223372036854775807 → -9223372036854775808 ≤ b → b ≤ 9223372036854775807 → (sp [intV a, intV b]).eval = some (f a b)) : SpecOk P n (two f) := by
  refine h.of_den fun args v hfl h => ?_
  clear hfl
  unfold Mil.two at h
  split at h
  · rename_i a b
    obtain ⟨hc, h⟩ := guard_eval h
    simp only [Bool.and_eq_true, inR_iff] at hc
    obtain rfl := Option.some.inj h
    exact ⟨_, he a b hc.1.1 hc.1.2 hc.2.1 hc.2.2, ⟨hf a b, hf a b⟩, rfl⟩
  · cases h
theorem pair_flat (a b : Int) : flat (pairV a b) = true := rfl

noncomputable def quotS : Eng.Spec := execS C0 noLoops 81
noncomputable def tellS : Eng.Spec := execS C0 noLoops 80
theorem quot_ok : SpecOk Try.prog 81 quotS := execS_plain C0_ok mixed Try.func81 (by kernel_rfl) (by kernel_rfl)
theorem tell_ok : SpecOk Try.prog 80 tellS := execS_plain C0_ok mixed Try.func80 (by kernel_rfl) (by kernel_rfl)
noncomputable def M1 : Cfg := ⟨Try.prog, lookG [(81, quotS), (80, tellS)], [], 0⟩
theorem M1_ok : M1.Ok := Cfg.ok ⟨quot_ok, tell_ok, trivial⟩ trivial

theorem bif_eq_true {a b : Bool} : (bif a then b else false) = true ↔ a = true ∧ b = true := by cases a <;> simp
theorem bif_eq_false {a b : Bool} : (bif a then b else false) = false ↔ (a = true → b = false) := by cases a <;> simp
theorem eq_iff_sides {a b : Int} : ((decide (a < 0) == decide (b < 0)) = true) ↔ ((a < 0) = (b < 0)) := by
  rw [beq_iff_eq]; constructor
  · intro h; exact propext (by simpa using h)
  · intro h; simp only [h]
theorem ne_iff_sides {a b : Int} : ((!decide (a < 0) == decide (b < 0)) = true) ↔ ((a < 0) ≠ (b < 0)) := by
  by_cases h1 : a < 0 <;> by_cases h2 : b < 0 <;> simp [h1, h2]
/-- the tree of a quotient: t tells whether it is moved, by s -/
def quoT (s : Int) (t : Int → Int → Bool) (a b : Int) : T V :=
  T.ite none (b == 0) (T.ret (pairV 0 3)) (T.ite none (bif a == -9223372036854775808 then b == -1 else false) (T.ret (pairV 9223372036854775807 2)) (T.ite none (b == 0) T.fail (T.ite none (b == 0) T.fail
    (T.ite none (bif Int.tmod a b != 0 then t a b else false) (T.ret (pairV (IntKind.wrap IntKind.i64 (IntKind.wrap IntKind.i64 (Int.tdiv a b) + s)) 0)) (T.ret (pairV (IntKind.wrap IntKind.i64 (Int.tdiv a b)) 0))))))
theorem quoT_up {t : Int → Int → Bool} (ht : ∀ a b, t a b = true ↔ (a < 0) = (b < 0)) {a b : Int} (h1 : -9223372036854775808 ≤ a) (h2 : a ≤ 9223372036854775807) : (quoT 1 t a b).eval = some (pairV (upV a b) (upE a b)) := by
  unfold quoT
  refine ev_ite (fun h => ?_) fun h0 => ev_ite (fun h => ?_) fun h3 => ev_ite (fun h => ?_) fun _ => ev_ite (fun h => ?_) fun _ => ?_
  · rw [beq_iff_eq] at h; subst h; rfl
  · rw [bif_eq_true, beq_iff_eq, beq_iff_eq] at h
    obtain ⟨rfl, rfl⟩ := h
    exact ev_pair (by decide) (by decide)
  · rw [h0] at h; cases h
  · rw [h0] at h; cases h
  · have hb : b ≠ 0 := by simpa using h0
    have hn : ¬ (a = -9223372036854775808 ∧ b = -1) := by
      rintro ⟨rfl, rfl⟩; revert h3; decide
    obtain ⟨q1, q2, q3⟩ := quo_range a b h1 h2 hb hn
    have e1 : upV a b = cutV (upI a b) := if_neg hb
    have e2 : upE a b = cutE (upI a b) := if_neg hb
    rw [e1, e2, up_of a b hb]
    refine ev_ite (fun h => ?_) fun h => ?_
    · rw [bif_eq_true, ht] at h
      have hm : a.tmod b ≠ 0 := by simpa [bne] using h.1
      have := q3 hm
      rw [if_pos ⟨hm, h.2⟩, (cut_in (a.tdiv b + 1) (by omega) (by omega)).1, (cut_in (a.tdiv b + 1) (by omega) (by omega)).2, wrap64_in q1 q2, wrap64_in (by omega) (by omega)]
      rfl
    · have hc : ¬ (a.tmod b ≠ 0 ∧ (a < 0) = (b < 0)) := fun hh => by
        rw [bif_eq_false] at h
        have := h (by simpa [bne] using hh.1)
        rw [(ht a b).2 hh.2] at this; cases this
      rw [if_neg hc, Int.add_zero, (cut_in (a.tdiv b) (by omega) (by omega)).1, (cut_in (a.tdiv b) (by omega) (by omega)).2, wrap64_in q1 q2]
      rfl
theorem quoT_dn {t : Int → Int → Bool} (ht : ∀ a b, t a b = true ↔ (a < 0) ≠ (b < 0)) {a b : Int} (h1 : -9223372036854775808 ≤ a) (h2 : a ≤ 9223372036854775807) : (quoT (-1) t a b).eval = some (pairV (dnV a b) (dnE a b)) := by
  unfold quoT
  refine ev_ite (fun h => ?_) fun h0 => ev_ite (fun h => ?_) fun h3 => ev_ite (fun h => ?_) fun _ => ev_ite (fun h => ?_) fun _ => ?_
  · rw [beq_iff_eq] at h; subst h; rfl
  · rw [bif_eq_true, beq_iff_eq, beq_iff_eq] at h
    obtain ⟨rfl, rfl⟩ := h
    exact ev_pair (by decide) (by decide)
  · rw [h0] at h; cases h
  · rw [h0] at h; cases h
  · have hb : b ≠ 0 := by simpa using h0
    have hn : ¬ (a = -9223372036854775808 ∧ b = -1) := by
      rintro ⟨rfl, rfl⟩; revert h3; decide
    obtain ⟨q1, q2, q3⟩ := quo_range a b h1 h2 hb hn
    have e1 : dnV a b = cutV (dnI a b) := if_neg hb
    have e2 : dnE a b = cutE (dnI a b) := if_neg hb
    rw [e1, e2, dn_of a b hb]
    refine ev_ite (fun h => ?_) fun h => ?_
    · rw [bif_eq_true, ht] at h
      have hm : a.tmod b ≠ 0 := by simpa [bne] using h.1
      have := q3 hm
      rw [if_pos ⟨hm, h.2⟩, (cut_in (a.tdiv b - 1) (by omega) (by omega)).1, (cut_in (a.tdiv b - 1) (by omega) (by omega)).2, wrap64_in q1 q2, wrap64_in (by omega) (by omega)]
      rfl
    · have hc : ¬ (a.tmod b ≠ 0 ∧ (a < 0) ≠ (b < 0)) := fun hh => by
        rw [bif_eq_false] at h
        have := h (by simpa [bne] using hh.1)
        rw [(ht a b).2 hh.2] at this; cases this
      rw [if_neg hc, Int.sub_zero, (cut_in (a.tdiv b) (by omega) (by omega)).1, (cut_in (a.tdiv b) (by omega) (by omega)).2, wrap64_in q1 q2]
      rfl
def upS : Eng.Spec := two fun a b => pairV (upV a b) (upE a b)
def dnS : Eng.Spec := two fun a b => pairV (dnV a b) (dnE a b)
def subS : Eng.Spec := two fun a b => pairV (cutV (a - b)) (cutE (a - b))
theorem up_ok : SpecOk Try.prog 60 upS := by
  refine SpecOk.two (execS_plain M1_ok mixed Try.func60 (by kernel_rfl) (by kernel_rfl)) (fun _ _ => rfl) fun a b h1 h2 h3 h4 => ?_
  have e : T.anon (execS M1 noLoops 60 [intV a, intV b]) = quoT 1 (fun a b => (!decide (a < 0) == decide (b < 0)) == decide ((1 : Int) < 0)) a b := by kernel_rfl
  rw [← T.eval_anon, e]
  refine quoT_up (fun a b => ?_) h1 h2
  rw [← eq_iff_sides]
  cases decide (a < 0) <;> cases decide (b < 0) <;> decide
theorem dn_ok : SpecOk Try.prog 88 dnS := by
  refine SpecOk.two (execS_plain M1_ok mixed Try.func88 (by kernel_rfl) (by kernel_rfl)) (fun _ _ => rfl) fun a b h1 h2 h3 h4 => ?_
  have e : T.anon (execS M1 noLoops 88 [intV a, intV b]) = quoT (-1) (fun a b => (!decide (a < 0) == decide (b < 0)) == decide ((-1 : Int) < 0)) a b := by kernel_rfl
  rw [← T.eval_anon, e]
  refine quoT_dn (fun a b => ?_) h1 h2
  rw [← ne_iff_sides]
  cases decide (a < 0) <;> cases decide (b < 0) <;> decide
theorem refup_ok : SpecOk Try.prog 62 upS := by
  refine SpecOk.two (execS_plain C0_ok mixed Try.func62 (by kernel_rfl) (by kernel_rfl)) (fun _ _ => rfl) fun a b h1 h2 h3 h4 => ?_
  have e : T.anon (execS C0 noLoops 62 [intV a, intV b]) = quoT 1 (fun a b => decide (a < 0) == decide (b < 0)) a b := by kernel_rfl
  rw [← T.eval_anon, e]
  exact quoT_up (fun a b => eq_iff_sides) h1 h2
theorem wrap_congr {n m : Int} (h : n % 18446744073709551616 = m % 18446744073709551616) : IntKind.wrap .i64 n = IntKind.wrap .i64 m := by
  have h' : n % 2 ^ IntKind.i64.bits = m % 2 ^ IntKind.i64.bits := h
  simp only [IntKind.wrap, h']
theorem sub_cases {a b : Int} (h1 : -9223372036854775808 ≤ a) (h2 : a ≤ 9223372036854775807) (h3 : -9223372036854775808 ≤ b) (h4 : b ≤ 9223372036854775807) :
    (IntKind.wrap .i64 (a - b) = if 9223372036854775807 < a - b then a - b - 18446744073709551616 else if a - b < -9223372036854775808 then a - b + 18446744073709551616 else a - b) := by
  by_cases c1 : 9223372036854775807 < a - b
  · rw [if_pos c1, ← IntWalk.i64_in (a - b - 18446744073709551616) ⟨by omega, by omega⟩]
    exact wrap_congr (by omega)
  · rw [if_neg c1]
    by_cases c2 : a - b < -9223372036854775808
    · rw [if_pos c2, ← IntWalk.i64_in (a - b + 18446744073709551616) ⟨by omega, by omega⟩]
      exact wrap_congr (by omega)
    · rw [if_neg c2, wrap64_in (by omega) (by omega)]
noncomputable def diffS : Eng.Spec := execS C0 noLoops 90
theorem diff_ok : SpecOk Try.prog 90 diffS := execS_plain C0_ok mixed Try.func90 (by kernel_rfl) (by kernel_rfl)
noncomputable def M2 : Cfg := ⟨Try.prog, lookG [(90, diffS), (80, tellS)], [], 0⟩
theorem M2_ok : M2.Ok := Cfg.ok ⟨diff_ok, tell_ok, trivial⟩ trivial
theorem sub_ok : SpecOk Try.prog 75 subS := by
  refine SpecOk.two (execS_plain M2_ok mixed Try.func75 (by kernel_rfl) (by kernel_rfl)) (fun _ _ => rfl) fun a b h1 h2 h3 h4 => ?_
  have e : T.anon (execS M2 noLoops 75 [intV a, intV b]) = T.ite none (bif bif decide (a < 0) then decide (0 ≤ b) else false then decide (0 ≤ IntKind.wrap IntKind.i64 (a - b)) else false) (T.ret (pairV (-9223372036854775808) 2))
      (T.ite none (bif bif decide (0 ≤ a) then decide (b < 0) else false then decide (IntKind.wrap IntKind.i64 (a - b) < 0) else false) (T.ret (pairV 9223372036854775807 2)) (T.ret (pairV (IntKind.wrap IntKind.i64 (a - b)) 0))) := by kernel_rfl
  rw [← T.eval_anon, e, sub_cases h1 h2 h3 h4]
  refine ev_ite (fun h => ?_) fun h => ev_ite (fun h5 => ?_) fun h5 => ?_
  · simp only [bif_eq_true, decide_eq_true_eq] at h
    refine ev_pair ?_ ?_ <;> simp only [cutV, cutE] <;> (split at h <;> repeat' split) <;> omega
  · simp only [bif_eq_true, decide_eq_true_eq] at h5
    refine ev_pair ?_ ?_ <;> simp only [cutV, cutE] <;> (split at h5 <;> repeat' split) <;> omega
  · simp only [bif_eq_false, bif_eq_true, decide_eq_true_eq, decide_eq_false_iff_not] at h h5
    refine ev_pair ?_ ?_ <;> simp only [cutV, cutE] <;> (repeat' split) <;> (try split at h) <;> (try split at h5) <;> omega
theorem refsub_ok : SpecOk Try.prog 76 subS := by
  refine SpecOk.two (execS_plain C0_ok mixed Try.func76 (by kernel_rfl) (by kernel_rfl)) (fun _ _ => rfl) fun a b h1 h2 h3 h4 => ?_
  have e : T.anon (execS C0 noLoops 76 [intV a, intV b]) = T.ite none (bif decide (b < 0) then decide (IntKind.wrap IntKind.i64 (9223372036854775807 + b) < a) else false) (T.ret (pairV 9223372036854775807 2))
      (T.ite none (bif decide (0 < b) then decide (a < IntKind.wrap IntKind.i64 (-9223372036854775808 + b)) else false) (T.ret (pairV (-9223372036854775808) 2)) (T.ret (pairV (IntKind.wrap IntKind.i64 (a - b)) 0))) := by kernel_rfl
  rw [← T.eval_anon, e]
  refine ev_ite (fun h => ?_) fun h => ev_ite (fun h5 => ?_) fun h5 => ?_
  · simp only [bif_eq_true, decide_eq_true_eq] at h
    rw [wrap64_in (by omega) (by omega)] at h
    refine ev_pair ?_ ?_ <;> simp only [cutV, cutE] <;> (repeat' split) <;> omega
  · simp only [bif_eq_true, decide_eq_true_eq] at h5
    rw [wrap64_in (by omega) (by omega)] at h5
    refine ev_pair ?_ ?_ <;> simp only [cutV, cutE] <;> (repeat' split) <;> omega
  · simp only [bif_eq_false, decide_eq_true_eq, decide_eq_false_iff_not] at h h5
    have k1 : b < 0 → ¬ (9223372036854775807 + b < a) := fun hb => by have := h hb; rwa [wrap64_in (by omega) (by omega)] at this
    have k2 : 0 < b → ¬ (a < -9223372036854775808 + b) := fun hb => by have := h5 hb; rwa [wrap64_in (by omega) (by omega)] at this
    rw [sub_cases h1 h2 h3 h4]
    refine ev_pair ?_ ?_ <;> simp only [cutV, cutE] <;> (repeat' split) <;> omega
def clampS : Eng.Spec
  | [.s (.int .i64 a), .s (.int .i64 b), .s (.int .i64 c)] => .ret (intV (clampI a b c))
  | _ => .fail
theorem clamp_of {n : Nat} {C : Cfg} (h : SpecOk C.P n (execS C noLoops n)) (he : ∀ a b c, T.anon (execS C noLoops n [intV a, intV b, intV c]) = T.ite none (decide (c < a)) (T.ret (intV c)) (T.ite none (decide (a < b)) (T.ret (intV b)) (T.ret (intV a)))) : SpecOk C.P n clampS := by
  refine h.of_den fun args v hfl h => ?_
  clear hfl
  unfold clampS at h
  split at h
  · rename_i a b c
    obtain rfl := Option.some.inj h
    refine ⟨intV (clampI a b c), ?_, ⟨rfl, rfl⟩, rfl⟩
    rw [← T.eval_anon, show execS C noLoops n [V.s (.int .i64 a), V.s (.int .i64 b), V.s (.int .i64 c)] = execS C noLoops n [intV a, intV b, intV c] from rfl, he]
    unfold clampI
    refine ev_ite (fun h => ?_) fun h => ev_ite (fun h5 => ?_) fun h5 => ?_ <;> simp only [decide_eq_true_eq, decide_eq_false_iff_not] at *
    · rw [if_pos h]; rfl
    · rw [if_neg h, if_pos h5]; rfl
    · rw [if_neg h, if_neg h5]; rfl
  · cases h
theorem clamp_ok : SpecOk Try.prog 61 clampS := clamp_of (C := C0) (execS_plain C0_ok mixed Try.func61 (by kernel_rfl) (by kernel_rfl)) fun a b c => by kernel_rfl
theorem refclamp_ok : SpecOk Try.prog 63 clampS := clamp_of (C := C0) (execS_plain C0_ok mixed Try.func63 (by kernel_rfl) (by kernel_rfl)) fun a b c => by kernel_rfl
end Go.Proofs.Ytdkebjdhpioehaa.Mil
