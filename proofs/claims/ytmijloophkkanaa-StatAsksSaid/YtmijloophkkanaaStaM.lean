/- Layer 9: heard, Mean, Spread over any list. -/
import Derived.Test.YtmijloophkkanaaStaL
namespace Go.Proofs.Ytmijloophkkanaa.Sta
open Go.Eng Go.RowKit Mil
set_option linter.unusedVariables false
set_option linter.unusedSimpArgs false
noncomputable def Q1 : Cfg := ⟨Try.prog, lookG [(72, .val addC)], [], 0⟩
theorem Q1_ok : Q1.Ok := Cfg.ok ⟨addC_ok, trivial⟩ trivial
def ors (l : List St3) : V := .orow 23 [.int .i64, .int .i64, .int .i64] l
noncomputable def heardE : Eng.Spec := execS Q1 noLoops 54
theorem heardE_ok : SpecOk Try.prog 54 heardE := execS_plain Q1_ok mixed Try.func54 (by kernel_rfl) (by kernel_rfl)
noncomputable def timesE : Eng.Spec := execS PL noLoops 56
theorem timesE_ok : SpecOk Try.prog 56 timesE := execS_plain PL_ok mixed Try.func56 (by kernel_rfl) (by kernel_rfl)
/-- what is heard: of those that are old enough, or of all -/
def heardL (y : Int) (l : List St3) : Tot := if (totL y l).n = 0 then totL 0 l else totL y l
theorem stepT_ok (y : Int) (t : Tot) (x : St3) (h : 0 ≤ t.s ∧ t.s ≤ 9223372036854775807 ∧ 0 ≤ t.n) : 0 ≤ (stepT y t x).s ∧ (stepT y t x).s ≤ 9223372036854775807 ∧ 0 ≤ (stepT y t x).n ∧ (stepT y t x).n ≤ t.n + 1 := by
  unfold stepT
  split
  · rename_i hm
    unfold mayC mayR at hm
    simp only [Bool.and_eq_true, decide_eq_true_eq] at hm
    have := cutV_range (t.s + x.2.2)
    refine ⟨?_, this.2, by dsimp only; omega, by dsimp only; omega⟩
    dsimp only
    unfold cutV
    split
    · omega
    · split <;> omega
  · omega
theorem foldT_ok (y : Int) : ∀ (l : List St3) (t : Tot), (0 ≤ t.s ∧ t.s ≤ 9223372036854775807 ∧ 0 ≤ t.n) → 0 ≤ (l.foldl (stepT y) t).s ∧ (l.foldl (stepT y) t).s ≤ 9223372036854775807 ∧ 0 ≤ (l.foldl (stepT y) t).n ∧ (l.foldl (stepT y) t).n ≤ t.n + l.length
  | [], t, h => ⟨h.1, h.2.1, h.2.2, by simp⟩
  | x :: r, t, h => by
    have h1 := stepT_ok y t x h
    have h2 := foldT_ok y r (stepT y t x) ⟨h1.1, h1.2.1, h1.2.2.1⟩
    simp only [List.foldl_cons, List.length_cons]
    exact ⟨h2.1, h2.2.1, h2.2.2.1, by omega⟩
theorem totL_ok (y : Int) (l : List St3) : 0 ≤ (totL y l).s ∧ (totL y l).s ≤ 9223372036854775807 ∧ 0 ≤ (totL y l).n ∧ (totL y l).n ≤ l.length := by
  have := foldT_ok y l ⟨0, 0, false⟩ ⟨by decide, by decide, by decide⟩
  unfold totL
  simpa using this
theorem heardL_ok (y : Int) (l : List St3) : 0 ≤ (heardL y l).s ∧ (heardL y l).s ≤ 9223372036854775807 ∧ 0 ≤ (heardL y l).n ∧ (heardL y l).n ≤ l.length := by
  unfold heardL; split
  · exact totL_ok 0 l
  · exact totL_ok y l
def asLI {α : Type} (args : List V) (f : List St3 → Int → T α) : T α :=
  match args with
  | [.orow t [.int .i64, .int .i64, .int .i64] l, .s (.int .i64 y)] => if t = 23 then f l y else .fail
  | _ => .fail
theorem asLI_some {α : Type} {args : List V} {f : List St3 → Int → T α} {r : α} (e : (asLI args f).eval = some r) : ∃ l y, args = [ors l, iv y] ∧ (f l y).eval = some r := by
  unfold asLI at e
  split at e
  · split at e
    · rename_i ht; subst ht; exact ⟨_, _, rfl, e⟩
    · cases e
  · cases e
def asLII {α : Type} (args : List V) (f : List St3 → Int → Int → T α) : T α :=
  match args with
  | [.orow t [.int .i64, .int .i64, .int .i64] l, .s (.int .i64 y), .s (.int .i64 r)] => if t = 23 then f l y r else .fail
  | _ => .fail
theorem asLII_some {α : Type} {args : List V} {f : List St3 → Int → Int → T α} {r : α} (e : (asLII args f).eval = some r) : ∃ l y z, args = [ors l, iv y, iv z] ∧ (f l y z).eval = some r := by
  unfold asLII at e
  split at e
  · split at e
    · rename_i ht; subst ht; exact ⟨_, _, _, rfl, e⟩
    · cases e
  · cases e
def heardC : Eng.Spec := fun args => asLI args fun l y => .ite none (okL3 l) (.ite none ((heardL y l).n == 0) (.ret nothingV) (.ret (totalV (heardL y l)))) .fail
theorem heard_run (l : List St3) (y : Int) : T.anon (heardE [ors l, iv y]) = T.ite none (decide (0 + l.length ≤ l.length)) (T.ite none (okL3 ((l.drop 0).take l.length)) (T.ite none ((totL y ((l.drop 0).take l.length)).n == 0)
    (T.ite none (decide (0 + l.length ≤ l.length)) (T.ite none (okL3 ((l.drop 0).take l.length)) (T.ite none ((totL 0 ((l.drop 0).take l.length)).n == 0) (.ret nothingV) (.ret (totalV (totL 0 ((l.drop 0).take l.length))))) .fail) .fail)
    (.ret (totalV (totL y ((l.drop 0).take l.length))))) .fail) .fail := by kernel_rfl
theorem whole3 (l : List St3) : (l.drop 0).take l.length = l := by rw [List.drop_zero, List.take_length]
theorem flat_two {c : Bool} {v1 v2 v : V} (h1 : flat v1 = true) (h2 : flat v2 = true) (h : (T.ite none c (.ret v1) (.ret v2)).eval = some v) : flat v = true := by
  cases c <;> (obtain rfl := Option.some.inj h) <;> assumption
theorem heardC_ok : SpecOk Try.prog 54 heardC := by
  refine heardE_ok.of_den fun args v hfl h => ?_
  clear hfl
  obtain ⟨l, y, rfl, h1⟩ := asLI_some (show (asLI args _).eval = some v from h)
  clear h
  obtain ⟨hk, h⟩ := guard_eval h1
  refine ⟨v, ?_, ⟨flat_two rfl rfl h, flat_two rfl rfl h⟩, rfl⟩
  rw [← T.eval_anon, heard_run, whole3]
  refine tev_then (by simp) (tev_then hk ?_)
  unfold heardL at h
  by_cases q : (totL y l).n = 0
  · rw [if_pos q] at h
    exact tev_then (by simpa using q) (tev_then (by simp) (tev_then hk h))
  · rw [if_neg q] at h
    have q2 : ((totL y l).n == 0) = false := by simpa using q
    rw [q2] at h
    exact tev_else q2 h
def timesC : Eng.Spec
  | [.s (.int .i64 s), .s (.int .i64 r)] => .ite none (decide (0 ≤ s) && decide (s ≤ 9223372036854775807) && (decide (0 ≤ r) && decide (r ≤ 9223372036854775807))) (.ite none (decide (9223372036854775807 < s * r)) (.ret (.tup [iv 9223372036854775807, .tt])) (.ret (.tup [iv (s * r), .ff]))) .fail
  | _ => .fail
theorem times_run (s r : Int) : T.anon (timesE [iv s, iv r]) = T.ite none (inU (IntKind.wrap .u64 s) && inU (IntKind.wrap .u64 r))
    (T.ite none (bif decide (0 < IntKind.wrap .u64 s * IntKind.wrap .u64 r / 18446744073709551616) then true else decide (9223372036854775807 < IntKind.wrap .u64 s * IntKind.wrap .u64 r % 18446744073709551616))
      (.ret (.tup [iv 9223372036854775807, .tt])) (.ret (.tup [iv (IntKind.wrap .i64 (IntKind.wrap .u64 s * IntKind.wrap .u64 r % 18446744073709551616)), .ff]))) .fail := by kernel_rfl
theorem timesC_ok : SpecOk Try.prog 56 timesC := by
  refine timesE_ok.of_den fun args v hfl h => ?_
  clear hfl
  unfold timesC at h
  split at h
  · rename_i s r
    obtain ⟨hk, h⟩ := guard_eval h
    simp only [Bool.and_eq_true, decide_eq_true_eq] at hk
    obtain ⟨⟨h1, h2⟩, h3, h4⟩ := hk
    refine ⟨v, ?_, ⟨flat_two rfl rfl h, flat_two rfl rfl h⟩, rfl⟩
    rw [← T.eval_anon, show timesE [V.s (.int .i64 s), V.s (.int .i64 r)] = timesE [iv s, iv r] from rfl, times_run, wrapu64, wrapu64, Int.emod_eq_of_lt h1 (by omega), Int.emod_eq_of_lt h3 (by omega)]
    have hp : 0 ≤ s * r := Int.mul_nonneg h1 h3
    generalize s * r = p at *
    refine tev_then (by unfold inU; simp only [Bool.and_eq_true, decide_eq_true_eq]; omega) ?_
    by_cases q : 9223372036854775807 < p
    · rw [decide_eq_true q] at h
      refine tev_then ?_ h
      simp only [cond_or, Bool.or_eq_true, decide_eq_true_eq]
      omega
    · rw [decide_eq_false q] at h
      refine tev_else ?_ ?_
      · simp only [cond_or, Bool.or_eq_false_iff, decide_eq_false_iff_not]; omega
      · rw [show p % 18446744073709551616 = p by omega, wrap64_in (by omega) (by omega)]; exact h
  · cases h
noncomputable def Q2 : Cfg := ⟨Try.prog, lookG [(54, .val heardC), (56, .val timesC)], [], 0⟩
theorem Q2_ok : Q2.Ok := Cfg.ok ⟨heardC_ok, timesC_ok, trivial⟩ trivial
noncomputable def meanE : Eng.Spec := execS Q2 noLoops 22
theorem meanE_ok : SpecOk Try.prog 22 meanE := execS_plain Q2_ok mixed Try.func22 (by kernel_rfl) (by kernel_rfl)
noncomputable def spreadE : Eng.Spec := execS Q2 noLoops 27
theorem spreadE_ok : SpecOk Try.prog 27 spreadE := execS_plain Q2_ok mixed Try.func27 (by kernel_rfl) (by kernel_rfl)
end Go.Proofs.Ytmijloophkkanaa.Sta
