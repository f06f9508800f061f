/- Layer 10: where a round begins. -/
import Derived.Test.YtmijloophkkanaaSamF
import Derived.Test.YtmijloophkkanaaEngK
namespace Go.Proofs.Ytmijloophkkanaa.Sam
open Go.Eng Go.RowKit
set_option linter.unusedVariables false
set_option linter.unusedSimpArgs false
noncomputable def P6 : Cfg := ⟨Try.prog, lookG [(29, .val sizeS)], [], 0⟩
theorem P6_ok : P6.Ok := Cfg.ok ⟨sizeS_ok, trivial⟩ trivial
noncomputable def askedE : Eng.Spec := execS P6 noLoops 57
theorem askedE_ok : SpecOk Try.prog 57 askedE := execS_plain P6_ok mixed Try.func57 (by kernel_rfl) (by kernel_rfl)
def ori (l : List Int) : V := .orow 3 [.int .i64] l
/-- how many are asked, and from where on -/
def lenF (n most : Int) : Int := if 0 < most then (if most < sizeF n then most else sizeF n) else sizeF n
def mx0 (r : Int) : Int := if 0 > r then 0 else r
def startF (n most r : Int) : Int := (mx0 r % n * lenF n most) % n
def askedC : Eng.Spec
  | [.s (.int .i64 n), .s (.int .i64 m), .s (.int .i64 r)] => .ite none (decide (0 ≤ n) && decide (n ≤ 1000) && decide (r ≤ 9223372036854775807)) (.ite none (n == 0) (.ret (.iface 110 (.agg []))) (.ret (.iface 79 (.agg [iv (startF n m r), iv (lenF n m)])))) .fail
  | _ => .fail
theorem asked_run (n m r : Int) : T.anon (askedE [iv n, iv m, iv r]) = T.ite none (n == 0) (.ret (.iface 110 (.agg []))) (T.ite none (decide (0 < m))
    (T.ite none (n == 0) .fail (T.ite none (n == 0) .fail (.ret (.iface 79 (.agg [iv (Int.tmod (IntKind.wrap .i64 (Int.tmod (mx0 r) n * (if m < sizeF n then m else sizeF n))) n), iv (if m < sizeF n then m else sizeF n)])))))
    (T.ite none (n == 0) .fail (T.ite none (n == 0) .fail (.ret (.iface 79 (.agg [iv (Int.tmod (IntKind.wrap .i64 (Int.tmod (mx0 r) n * sizeF n)) n), iv (sizeF n)])))))) := by kernel_rfl
theorem lenF_range {n : Int} (hn : 0 < n) (m : Int) : 0 < lenF n m ∧ lenF n m ≤ 16 ∧ lenF n m ≤ n := by
  obtain ⟨h1, h2, -, -, h5, -⟩ := sizeF_says (n := n) (by omega)
  have := h5 hn
  unfold lenF
  split
  · split <;> omega
  · omega
theorem start_eq {n L x : Int} (hn : 0 < n) (h2 : n ≤ 1000) (h3 : 0 < L) (h4 : L ≤ 16) (hx : 0 ≤ x) : Int.tmod (IntKind.wrap .i64 (Int.tmod x n * L)) n = (x % n * L) % n := by
  rw [Int.tmod_eq_emod_of_nonneg hx]
  have a1 := Int.emod_nonneg x (b := n) (by omega)
  have a2 := Int.emod_lt_of_pos x hn
  have a3 : 0 ≤ x % n * L := Int.mul_nonneg a1 (by omega)
  have a4 : x % n * L ≤ 1000 * 16 := Int.mul_le_mul (by omega) h4 (by omega) (by omega)
  rw [wrap64_in (by omega) (by omega), Int.tmod_eq_emod_of_nonneg a3]
theorem askedC_ok : SpecOk Try.prog 57 askedC := by
  refine askedE_ok.of_den fun args v hfl h => ?_
  clear hfl
  unfold askedC at h
  split at h
  · rename_i n m r
    cases hk : (decide (0 ≤ n) && decide (n ≤ 1000) && decide (r ≤ 9223372036854775807))
    · rw [hk] at h; cases h
    · rw [hk] at h
      simp only [Bool.and_eq_true, decide_eq_true_eq] at hk
      have h : (T.ite none (n == 0) (.ret (.iface 110 (.agg []))) (.ret (.iface 79 (.agg [iv (startF n m r), iv (lenF n m)]))) : T V).eval = some v := h
      refine ⟨v, ?_, ?_, rfl⟩
      · rw [← T.eval_anon, show askedE [V.s (.int .i64 n), V.s (.int .i64 m), V.s (.int .i64 r)] = askedE [iv n, iv m, iv r] from rfl, asked_run]
        by_cases q : n = 0
        · subst q; exact h
        · have q2 : (n == 0) = false := by simpa using q
          rw [q2] at h
          obtain rfl := Option.some.inj h
          have hx : 0 ≤ mx0 r := by unfold mx0; split <;> omega
          obtain ⟨l1, l2, l3⟩ := lenF_range (n := n) (by omega) m
          refine tev_else q2 ?_
          have hs : startF n m r = (mx0 r % n * lenF n m) % n := rfl
          by_cases hm : 0 < m
          · have e : lenF n m = if m < sizeF n then m else sizeF n := by unfold lenF; rw [if_pos hm]
            rw [← e]
            refine tev_then (decide_eq_true hm) (tev_else q2 (tev_else q2 ?_))
            rw [start_eq (by omega) hk.1.2 l1 l2 hx]; rfl
          · have e : lenF n m = sizeF n := by unfold lenF; rw [if_neg hm]
            rw [← e]
            refine tev_else (decide_eq_false hm) (tev_else q2 (tev_else q2 ?_))
            rw [start_eq (by omega) hk.1.2 l1 l2 hx]; rfl
      · cases q : n == 0 <;> rw [q] at h <;> (obtain rfl := Option.some.inj h; exact ⟨rfl, rfl⟩)
  · cases h
noncomputable def P7 : Cfg := ⟨Try.prog, lookG [(57, .val askedC)], [], 0⟩
theorem P7_ok : P7.Ok := Cfg.ok ⟨askedC_ok, trivial⟩ trivial
noncomputable def wh1 : Code := loopAt Try.prog 31 0
def rI (own : Bool) (l : List Int) : Blk := .lst own 3 [.int .i64] l
abbrev SH : List (Nat × Src) := [(0, .same), (9, .same), (1000, .tmp 9)]
structure PH where (g : List Int) (k : Nat) (st ln : Int) (j : Nat) (n : Int)
structure AH where (l : List Int) (i : Int)
def vsH (p : PH) (a : AH) : List V := [.sub 0 1 0 p.k, .ptr 9 0, .sub 1000 1 0 p.j, iv p.n, iv a.i]
def bsH (p : PH) (a : AH) : List Blk := [rI false p.g, .cells 79 [iv p.st, iv p.ln], rI true a.l]
noncomputable def FH (p : PH) (a : AH) : St := mkSt [0,7,9,26,27] [0,9,1000] 1001 45 (vsH p a) (bsH p a)
end Go.Proofs.Ytmijloophkkanaa.Sam
