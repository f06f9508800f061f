/- Contracts of package rate, and of the document's own answer for it. -/
import Derived.Test.YtdkebjdhpioehaaWantC
import Derived.Test.YtdkebjdhpioehaaWantL
namespace Go.Proofs.Ytdkebjdhpioehaa.Conf
open Go.Eng Go.RowKit Mil
set_option linter.unusedVariables false
set_option linter.unusedSimpArgs false

def capM (q : Int) : Int := if 1000000 < q then 1000000 else q
def mostR (c : Cf) (a : Int) : Int := if mayB c then capM (upI (c.up * clampI a 1 1000000) 1000) else 0
def leastR (c : Cf) (a : Int) : Int := if mayB c then 1000 * clampI a 0 1000000 / c.down else 0
def midR (lo w hi : Int) : Int := if hi < (if lo > w then lo else w) then hi else (if lo > w then lo else w)
def limitR (c : Cf) (w a : Int) : Int := if mayB c then midR (leastR c a) w (mostR c a) else 0
theorem clamp_one (a : Int) : (if 1 > clampI a 0 1000000 then 1 else clampI a 0 1000000) = clampI a 1 1000000 := by
  unfold clampI; repeat' split
  all_goals omega
theorem upR {c : Cf} (h : mayB c = true) (a : Int) : IntKind.wrap .i64 (c.up * clampI a 1 1000000) = c.up * clampI a 1 1000000 ∧ 0 ≤ c.up * clampI a 1 1000000 ∧ c.up * clampI a 1 1000000 ≤ 1000000000000 := by
  have h1 := (may_of h).up
  have h2 := clampI_range a (lo := 1) (hi := 1000000) (by omega)
  have h4 : c.up * clampI a 1 1000000 ≤ 1000000 * 1000000 := Int.mul_le_mul h1.2 h2.2 (by omega) (by omega)
  have h5 : 0 ≤ c.up * clampI a 1 1000000 := Int.mul_nonneg (by omega) (by omega)
  exact ⟨wrap64_in (by omega) (by omega), h5, by omega⟩
theorem upV_k {x : Int} (h1 : 0 ≤ x) (h2 : x ≤ 1000000000000) : upV x 1000 = upI x 1000 := by
  have := up_nonneg h1 (show (0 : Int) < 1000 by decide)
  unfold upV
  rw [if_neg (by decide), (cut_in _ (by omega) (by omega)).1]
theorem dnR {c : Cf} (h : mayB c = true) (a : Int) : IntKind.wrap .i64 (1000 * clampI a 0 1000000) = 1000 * clampI a 0 1000000 ∧ dnV (1000 * clampI a 0 1000000) c.down = 1000 * clampI a 0 1000000 / c.down ∧ 0 ≤ 1000 * clampI a 0 1000000 / c.down ∧ 1000 * clampI a 0 1000000 / c.down ≤ 1000 * clampI a 0 1000000 := by
  have h1 := (may_of h).down
  have h2 := clampI_range a (lo := 0) (hi := 1000000) (by omega)
  have h3 := Int.ediv_nonneg (a := 1000 * clampI a 0 1000000) (b := c.down) (by omega) (by omega)
  have h4 := Int.ediv_le_self (a := 1000 * clampI a 0 1000000) c.down (by omega)
  refine ⟨wrap64_in (by omega) (by omega), ?_, h3, h4⟩
  unfold dnV dnI
  rw [if_neg (by omega), Int.fdiv_eq_ediv_of_nonneg _ (by omega), (cut_in _ (by omega) (by omega)).1]
def mostS2 : Eng.Spec := cI (fun _ _ => true) fun c a => intV (mostR c a)
def leastS2 : Eng.Spec := cI (fun _ _ => true) fun c a => intV (leastR c a)
def limitS2 : Eng.Spec := cII (fun _ _ _ => true) fun c w a => intV (limitR c w a)
noncomputable def Q1 : Cfg := ⟨Try.prog, lookG [(71, mayS), (60, upS), (88, dnS), (61, clampS)], [], 0⟩
theorem Q1_ok : Q1.Ok := Cfg.ok ⟨may_ok, up_ok, dn_ok, clamp_ok, trivial⟩ trivial
noncomputable def rofS : Eng.Spec := execS Q1 noLoops 67
noncomputable def rwS : Eng.Spec := execS Q1 noLoops 69
noncomputable def rlS : Eng.Spec := execS Q1 noLoops 68
noncomputable def rmS : Eng.Spec := execS Q1 noLoops 70
theorem rof_ok : SpecOk Try.prog 67 rofS := execS_plain Q1_ok mixed Try.func67 (by kernel_rfl) (by kernel_rfl)
theorem rw_ok : SpecOk Try.prog 69 rwS := execS_plain Q1_ok mixed Try.func69 (by kernel_rfl) (by kernel_rfl)
theorem rl_ok : SpecOk Try.prog 68 rlS := execS_plain Q1_ok mixed Try.func68 (by kernel_rfl) (by kernel_rfl)
theorem rm_ok : SpecOk Try.prog 70 rmS := execS_plain Q1_ok mixed Try.func70 (by kernel_rfl) (by kernel_rfl)
noncomputable def Q2 : Cfg := ⟨Try.prog, lookG [(67, rofS), (69, rwS), (68, rlS), (70, rmS), (28, mayS), (62, upS), (64, cutS)], [], 0⟩
theorem Q2_ok : Q2.Ok := Cfg.ok ⟨rof_ok, rw_ok, rl_ok, rm_ok, refmay_ok, refup_ok, cut_ok, trivial⟩ trivial
theorem most_eq {c : Cf} (hm : mayB c = true) (a : Int) : (if 1000000 < upV (IntKind.wrap .i64 (c.up * clampI a 1 1000000)) 1000 then 1000000 else upV (IntKind.wrap .i64 (c.up * clampI a 1 1000000)) 1000) = mostR c a := by
  obtain ⟨h1, h2, h3⟩ := upR hm a
  rw [h1, upV_k h2 h3]
  unfold mostR capM
  rw [if_pos hm]
theorem most_in {c : Cf} (hm : mayB c = true) (a : Int) : (inR (IntKind.wrap .i64 (c.up * clampI a 1 1000000)) && inR 1000) = true := by
  obtain ⟨h1, h2, h3⟩ := upR hm a
  rw [h1, inR_in (by omega) (by omega)]; rfl
theorem least_in {c : Cf} (hm : mayB c = true) (a : Int) : (inR (IntKind.wrap .i64 (1000 * clampI a 0 1000000)) && inR c.down) = true := by
  obtain ⟨h1, -⟩ := dnR hm a
  have h2 := clampI_range a (lo := 0) (hi := 1000000) (by omega)
  have h3 := (may_of hm).down
  rw [h1, inR_in (by omega) (by omega), inR_in (by omega) (by omega)]; rfl
theorem least_eq {c : Cf} (hm : mayB c = true) (a : Int) : dnV (IntKind.wrap .i64 (1000 * clampI a 0 1000000)) c.down = leastR c a := by
  obtain ⟨h1, h2, -⟩ := dnR hm a
  rw [h1, h2]; unfold leastR; rw [if_pos hm]
theorem ratemost_ok : SpecOk Try.prog 33 mostS2 := by
  refine SpecOk.cI (execS_plain Q2_ok mixed Try.func33 (by kernel_rfl) (by kernel_rfl)) (fun _ _ => rfl) fun c a _ => ⟨_, ?_, rfl, rfl⟩
  have e : T.anon (execS Q2 noLoops 33 [confV c, intV a]) = T.ite none (!mayB c) (T.ret (intV 0)) (T.ite none (inR (IntKind.wrap .i64 (c.up * if 1 > clampI a 0 1000000 then 1 else clampI a 0 1000000)) && inR 1000)
    (T.ret (intV (if 1000000 < upV (IntKind.wrap .i64 (c.up * if 1 > clampI a 0 1000000 then 1 else clampI a 0 1000000)) 1000 then 1000000 else upV (IntKind.wrap .i64 (c.up * if 1 > clampI a 0 1000000 then 1 else clampI a 0 1000000)) 1000))) T.fail) := by kernel_rfl
  rw [← T.eval_anon, e, clamp_one]
  refine ev_ite (fun h1 => ?_) fun h1 => ?_
  · exact ev_int (by unfold mostR; rw [Bool.not_eq_true'] at h1; rw [h1]; rfl)
  · rw [Bool.not_eq_false'] at h1
    exact ev_then (most_in h1 a) (ev_int (most_eq h1 a))
theorem rateleast_ok : SpecOk Try.prog 32 leastS2 := by
  refine SpecOk.cI (execS_plain Q2_ok mixed Try.func32 (by kernel_rfl) (by kernel_rfl)) (fun _ _ => rfl) fun c a _ => ⟨_, ?_, rfl, rfl⟩
  have e : T.anon (execS Q2 noLoops 32 [confV c, intV a]) = T.ite none (!mayB c) (T.ret (intV 0)) (T.ite none (inR (IntKind.wrap .i64 (1000 * clampI a 0 1000000)) && inR c.down) (T.ret (intV (dnV (IntKind.wrap .i64 (1000 * clampI a 0 1000000)) c.down))) T.fail) := by kernel_rfl
  rw [← T.eval_anon, e]
  refine ev_ite (fun h1 => ?_) fun h1 => ?_
  · exact ev_int (by unfold leastR; rw [Bool.not_eq_true'] at h1; rw [h1]; rfl)
  · rw [Bool.not_eq_false'] at h1
    exact ev_then (least_in h1 a) (ev_int (least_eq h1 a))
theorem ratelimit_ok : SpecOk Try.prog 34 limitS2 := by
  refine SpecOk.cII (execS_plain Q2_ok mixed Try.func34 (by kernel_rfl) (by kernel_rfl)) (fun _ _ _ => rfl) fun c w a _ => ⟨_, ?_, rfl, rfl⟩
  have e : T.anon (execS Q2 noLoops 34 [confV c, intV w, intV a]) = T.ite none (!mayB c) (T.ret (intV 0)) (T.ite none (inR (IntKind.wrap .i64 (1000 * clampI a 0 1000000)) && inR c.down) (T.ite none (inR (IntKind.wrap .i64 (c.up * if 1 > clampI a 0 1000000 then 1 else clampI a 0 1000000)) && inR 1000)
    (T.ret (intV (midR (dnV (IntKind.wrap .i64 (1000 * clampI a 0 1000000)) c.down) w (if 1000000 < upV (IntKind.wrap .i64 (c.up * if 1 > clampI a 0 1000000 then 1 else clampI a 0 1000000)) 1000 then 1000000 else upV (IntKind.wrap .i64 (c.up * if 1 > clampI a 0 1000000 then 1 else clampI a 0 1000000)) 1000)))) T.fail) T.fail) := by kernel_rfl
  rw [← T.eval_anon, e, clamp_one]
  refine ev_ite (fun h1 => ?_) fun h1 => ?_
  · exact ev_int (by unfold limitR; rw [Bool.not_eq_true'] at h1; rw [h1]; rfl)
  · rw [Bool.not_eq_false'] at h1
    refine ev_then (least_in h1 a) (ev_then (most_in h1 a) (ev_int ?_))
    rw [least_eq h1, most_eq h1]; unfold limitR; rw [if_pos h1]
theorem refmost2_ok : SpecOk Try.prog 35 mostS2 := by
  refine SpecOk.cI (execS_plain Q2_ok mixed Try.func35 (by kernel_rfl) (by kernel_rfl)) (fun _ _ => rfl) fun c a _ => ⟨_, ?_, rfl, rfl⟩
  have e : T.anon (execS Q2 noLoops 35 [confV c, intV a]) = T.ite none (!mayB c) (T.ret (intV 0)) (T.ite none (inR (IntKind.wrap .i64 (c.up * if 1000000 < if 1 > a then 1 else a then 1000000 else if 1 > a then 1 else a)) && inR 1000)
    (T.ret (intV (if 1000000 < upV (IntKind.wrap .i64 (c.up * if 1000000 < if 1 > a then 1 else a then 1000000 else if 1 > a then 1 else a)) 1000 then 1000000 else upV (IntKind.wrap .i64 (c.up * if 1000000 < if 1 > a then 1 else a then 1000000 else if 1 > a then 1 else a)) 1000))) T.fail) := by kernel_rfl
  rw [← T.eval_anon, e, clamp_min a 1 1000000 (by omega)]
  refine ev_ite (fun h1 => ?_) fun h1 => ?_
  · exact ev_int (by unfold mostR; rw [Bool.not_eq_true'] at h1; rw [h1]; rfl)
  · rw [Bool.not_eq_false'] at h1
    exact ev_then (most_in h1 a) (ev_int (most_eq h1 a))
theorem refleast_ok : SpecOk Try.prog 36 leastS2 := by
  refine SpecOk.cI (execS_plain Q2_ok mixed Try.func36 (by kernel_rfl) (by kernel_rfl)) (fun _ _ => rfl) fun c a _ => ⟨_, ?_, rfl, rfl⟩
  have e : T.anon (execS Q2 noLoops 36 [confV c, intV a]) = T.ite none (!mayB c) (T.ret (intV 0)) (T.ite none (c.down == 0) T.fail (T.ret (intV (IntKind.wrap .i64 (Int.tdiv (IntKind.wrap .i64 (1000 * if 1000000 < if 0 > a then 0 else a then 1000000 else if 0 > a then 0 else a)) c.down))))) := by kernel_rfl
  rw [← T.eval_anon, e, clamp_min a 0 1000000 (by omega)]
  refine ev_ite (fun h1 => ?_) fun h1 => ?_
  · exact ev_int (by unfold leastR; rw [Bool.not_eq_true'] at h1; rw [h1]; rfl)
  · rw [Bool.not_eq_false'] at h1
    obtain ⟨k1, k2, k3, k4⟩ := dnR h1 a
    have h2 := clampI_range a (lo := 0) (hi := 1000000) (by omega)
    have hd := (may_of h1).down
    refine ev_ite (fun h => ?_) fun _ => ev_int ?_
    · rw [beq_iff_eq] at h; omega
    · rw [k1, Int.tdiv_eq_ediv_of_nonneg (by omega), wrap64_in (by omega) (by omega)]
      unfold leastR; rw [if_pos h1]
noncomputable def Q3 : Cfg := ⟨Try.prog, lookG [(28, mayS), (36, leastS2), (35, mostS2)], [], 0⟩
theorem Q3_ok : Q3.Ok := Cfg.ok ⟨refmay_ok, refleast_ok, refmost2_ok, trivial⟩ trivial
theorem reflimit_ok : SpecOk Try.prog 37 limitS2 := by
  refine SpecOk.cII (execS_plain Q3_ok mixed Try.func37 (by kernel_rfl) (by kernel_rfl)) (fun _ _ _ => rfl) fun c w a _ => ⟨_, ?_, rfl, rfl⟩
  have e : T.anon (execS Q3 noLoops 37 [confV c, intV w, intV a]) = T.ite none (!mayB c) (T.ret (intV 0)) (T.ite none true (T.ite none true (T.ret (intV (midR (leastR c a) w (mostR c a)))) T.fail) T.fail) := by kernel_rfl
  rw [← T.eval_anon, e]
  refine ev_ite (fun h1 => ?_) fun h1 => ?_
  · exact ev_int (by unfold limitR; rw [Bool.not_eq_true'] at h1; rw [h1]; rfl)
  · rw [Bool.not_eq_false'] at h1
    exact ev_then rfl (ev_then rfl (ev_int (by unfold limitR; rw [if_pos h1])))
noncomputable def QT : Cfg := ⟨Try.prog, lookG [(33, mostS2), (32, leastS2), (34, limitS2), (30, dfltS)], [], 0⟩
theorem QT_ok : QT.Ok := Cfg.ok ⟨ratemost_ok, rateleast_ok, ratelimit_ok, refdflt_ok, trivial⟩ trivial
theorem told13_ok : SpecOk Try.prog 31 yesS :=
  SpecOk.yes (execS_plain QT_ok mixed Try.func31 (by kernel_rfl) (by kernel_rfl)) (.inl (by kernel_rfl))
noncomputable def QL : Cfg := ⟨Try.prog, lookG [(31, yesS), (33, mostS2), (32, leastS2), (34, limitS2), (35, mostS2), (36, leastS2), (37, limitS2), (28, mayS), (30, dfltS)], [], 0⟩
theorem QL_ok : QL.Ok := Cfg.ok ⟨told13_ok, ratemost_ok, rateleast_ok, ratelimit_ok, refmost2_ok, refleast_ok, reflimit_ok, refmay_ok, refdflt_ok, trivial⟩ trivial
end Go.Proofs.Ytdkebjdhpioehaa.Conf
