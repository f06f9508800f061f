/- Contracts of package want, and of the document's own answer for it. -/
import Derived.Test.YtdkebjdhpioehaaMil2S
import Derived.Test.YtdkebjdhpioehaaConfR
namespace Go.Proofs.Ytdkebjdhpioehaa.Conf
open Go.Eng Go.RowKit Mil
set_option linter.unusedVariables false
set_option linter.unusedSimpArgs false

def inC (c : Cf) : Bool := inR c.target && inR c.util
theorem inC_ok {c : Cf} (h : c.Ok) : inC c = true := by unfold inC; rw [Bool.and_eq_true, inR_iff, inR_iff]; exact ⟨h.target, h.util⟩
theorem cutV_inR (n : Int) : inR (cutV n) = true := inR_iff.2 (cutV_range n)
theorem perC_inR (c : Cf) : inR (perC c) = true := by
  have := cutV_range (mulI c.target c.util)
  rw [inR_iff]; unfold perC; omega
theorem perC_pos (c : Cf) : 1 ≤ perC c := by unfold perC; omega
theorem clampI_range (a : Int) {lo hi : Int} (h : lo ≤ hi) : lo ≤ clampI a lo hi ∧ clampI a lo hi ≤ hi := by unfold clampI; split <;> (try split) <;> omega
theorem inR_in {n : Int} (h1 : -9223372036854775808 ≤ n) (h2 : n ≤ 9223372036854775807) : inR n = true := inR_iff.2 ⟨h1, h2⟩
theorem clamp_min (a lo hi : Int) (h : lo ≤ hi) : (if hi < if lo > a then lo else a then hi else if lo > a then lo else a) = clampI a lo hi := by
  unfold clampI; repeat' split
  all_goals omega
/-- contracts of settings and numbers -/
def cI (g : Cf → Int → Bool) (f : Cf → Int → V) : Eng.Spec
  | [x, .s (.int .i64 a)] => asConf x fun c => .ite none (g c a) (.ret (f c a)) .fail
  | _ => .fail
theorem SpecOk.cI {P : Program} {n : Nat} {sp : Eng.Spec} {g : Cf → Int → Bool} {f : Cf → Int → V} (h : SpecOk P n sp) (hf : ∀ c a, flat (f c a) = true)
    (he : ∀ c a, g c a = true → ∃ v, (sp [confV c, intV a]).eval = some v ∧ flat v = true ∧ v.den nu0 = (f c a).den nu0) : SpecOk P n (Conf.cI g f) := by
  refine h.of_den fun args v hfl h => ?_
  clear hfl
  unfold Conf.cI at h
  split at h
  · rename_i x a
    obtain ⟨c, rfl, h⟩ := asConf_some h
    obtain ⟨hc, h⟩ := guard_eval h
    obtain rfl := Option.some.inj h
    obtain ⟨v, h1, h2, h3⟩ := he c a hc
    exact ⟨v, h1, ⟨h2, hf c a⟩, h3⟩
  · cases h
def cII (g : Cf → Int → Int → Bool) (f : Cf → Int → Int → V) : Eng.Spec
  | [x, .s (.int .i64 a), .s (.int .i64 b)] => asConf x fun c => .ite none (g c a b) (.ret (f c a b)) .fail
  | _ => .fail
theorem SpecOk.cII {P : Program} {n : Nat} {sp : Eng.Spec} {g : Cf → Int → Int → Bool} {f : Cf → Int → Int → V} (h : SpecOk P n sp) (hf : ∀ c a b, flat (f c a b) = true)
    (he : ∀ c a b, g c a b = true → ∃ v, (sp [confV c, intV a, intV b]).eval = some v ∧ flat v = true ∧ v.den nu0 = (f c a b).den nu0) : SpecOk P n (Conf.cII g f) := by
  refine h.of_den fun args v hfl h => ?_
  clear hfl
  unfold Conf.cII at h
  split at h
  · rename_i x a b
    obtain ⟨c, rfl, h⟩ := asConf_some h
    obtain ⟨hc, h⟩ := guard_eval h
    obtain rfl := Option.some.inj h
    obtain ⟨v, h1, h2, h3⟩ := he c a b hc
    exact ⟨v, h1, ⟨h2, hf c a b⟩, h3⟩
  · cases h
theorem ev_then {i : Option Nat} {c : Bool} {x y : T V} {v : V} (h : c = true) (h1 : x.eval = some v) : (T.ite i c x y).eval = some v := by rw [h]; exact h1

/-! ### want -/
def ofC (c : Cf) (m : Int) : Int := if mayB c then clampI (upV m (perC c)) 0 1000000 else 0
def overC (c : Cf) (w r : Int) : Bool := mayB c && decide (c.threshold * clampI r 1 1000000 ≤ clampI w 0 1000000 * 1000)
theorem ofC_range (c : Cf) (m : Int) : 0 ≤ ofC c m ∧ ofC c m ≤ 1000000 := by
  unfold ofC; split
  · exact clampI_range _ (by omega)
  · omega
def ofS : Eng.Spec := cI (fun c a => inC c && inR a) fun c a => intV (ofC c a)
def overS : Eng.Spec := cII (fun c a b => inC c) fun c a b => .s (.bool (overC c a b))
noncomputable def W1 : Cfg := ⟨Try.prog, lookG [(71, mayS), (79, perS)], [], 0⟩
theorem W1_ok : W1.Ok := Cfg.ok ⟨may_ok, per_ok, trivial⟩ trivial
noncomputable def byS : Eng.Spec := execS W1 noLoops 59
theorem by_ok : SpecOk Try.prog 59 byS := execS_plain W1_ok mixed Try.func59 (by kernel_rfl) (by kernel_rfl)
noncomputable def W2 : Cfg := ⟨Try.prog, lookG [(59, byS), (60, upS), (61, clampS)], [], 0⟩
theorem W2_ok : W2.Ok := Cfg.ok ⟨by_ok, up_ok, clamp_ok, trivial⟩ trivial
theorem of_tree {c : Cf} {a : Int} (h : (inC c && inR a) = true) : (T.ite none (!mayB c) (T.ret (intV 0)) (T.ite none (inR c.target && inR c.util) (T.ite none (inR a && inR (perC c)) (T.ret (intV (clampI (upV a (perC c)) 0 1000000))) T.fail) T.fail)).eval = some (intV (ofC c a)) := by
  rw [Bool.and_eq_true] at h
  refine ev_ite (fun h1 => ?_) fun h1 => ev_then h.1 (ev_then (by rw [h.2, perC_inR]; rfl) ?_)
  · exact ev_int (by unfold ofC; rw [Bool.not_eq_true'] at h1; rw [h1]; rfl)
  · exact ev_int (by unfold ofC; rw [Bool.not_eq_false'] at h1; rw [h1]; rfl)
theorem of_ok : SpecOk Try.prog 24 ofS := by
  refine SpecOk.cI (execS_plain W2_ok mixed Try.func24 (by kernel_rfl) (by kernel_rfl)) (fun _ _ => rfl) fun c a h => ⟨_, ?_, rfl, rfl⟩
  have e : T.anon (execS W2 noLoops 24 [confV c, intV a]) = T.ite none (!mayB c) (T.ret (intV 0)) (T.ite none (inR c.target && inR c.util) (T.ite none (inR a && inR (perC c)) (T.ret (intV (clampI (upV a (perC c)) 0 1000000))) T.fail) T.fail) := by kernel_rfl
  rw [← T.eval_anon, e]
  exact of_tree h
theorem thr_of {c : Cf} (h : mayB c = true) (w r : Int) : IntKind.wrap .i64 (c.threshold * clampI r 1 1000000) = c.threshold * clampI r 1 1000000 ∧ IntKind.wrap .i64 (clampI w 0 1000000 * 1000) = clampI w 0 1000000 * 1000 := by
  have h1 := (may_of h).threshold
  have h2 := clampI_range r (lo := 1) (hi := 1000000) (by omega)
  have h3 := clampI_range w (lo := 0) (hi := 1000000) (by omega)
  have h4 : c.threshold * clampI r 1 1000000 ≤ 10000 * 1000000 := Int.mul_le_mul h1.2 h2.2 (by omega) (by omega)
  have h5 : 0 ≤ c.threshold * clampI r 1 1000000 := Int.mul_nonneg (by omega) (by omega)
  exact ⟨wrap64_in (by omega) (by omega), wrap64_in (by omega) (by omega)⟩
theorem over_ok : SpecOk Try.prog 26 overS := by
  refine SpecOk.cII (execS_plain W2_ok mixed Try.func26 (by kernel_rfl) (by kernel_rfl)) (fun _ _ _ => rfl) fun c a b h => ?_
  have e : T.anon (execS W2 noLoops 26 [confV c, intV a, intV b]) = T.ite none (!mayB c) (T.ret V.ff) (T.ite none (inR c.target && inR c.util) (T.ret (V.s (S.bool (decide (IntKind.wrap .i64 (c.threshold * clampI b 1 1000000) ≤ IntKind.wrap .i64 (clampI a 0 1000000 * 1000)))))) T.fail) := by kernel_rfl
  rw [← T.eval_anon, e]
  cases hm : mayB c
  · exact ⟨.ff, rfl, rfl, by unfold overC; rw [hm]; rfl⟩
  · refine ⟨.s (.bool (overC c a b)), ev_ite (fun h1 => by cases h1) fun _ => ev_then h ?_, rfl, rfl⟩
    exact ev_bool (by unfold overC; rw [hm, (thr_of hm a b).1, (thr_of hm a b).2]; rfl)
noncomputable def W0 : Cfg := ⟨Try.prog, lookG [], [], 0⟩
theorem W0_ok : W0.Ok := Cfg.ok trivial trivial
noncomputable def cutS : Eng.Spec := execS W0 noLoops 64
theorem cut_ok : SpecOk Try.prog 64 cutS := execS_plain W0_ok mixed Try.func64 (by kernel_rfl) (by kernel_rfl)
noncomputable def W3 : Cfg := ⟨Try.prog, lookG [(28, mayS), (29, perS), (62, upS), (63, clampS), (64, cutS)], [], 0⟩
theorem W3_ok : W3.Ok := Cfg.ok ⟨refmay_ok, refper_ok, refup_ok, refclamp_ok, cut_ok, trivial⟩ trivial
theorem refof_ok : SpecOk Try.prog 25 ofS := by
  refine SpecOk.cI (execS_plain W3_ok mixed Try.func25 (by kernel_rfl) (by kernel_rfl)) (fun _ _ => rfl) fun c a h => ⟨_, ?_, rfl, rfl⟩
  have e : T.anon (execS W3 noLoops 25 [confV c, intV a]) = T.ite none (!mayB c) (T.ret (intV 0)) (T.ite none (inR c.target && inR c.util) (T.ite none (inR a && inR (perC c)) (T.ret (intV (clampI (upV a (perC c)) 0 1000000))) T.fail) T.fail) := by kernel_rfl
  rw [← T.eval_anon, e]
  exact of_tree h
theorem refover_ok : SpecOk Try.prog 27 overS := by
  refine SpecOk.cII (execS_plain W3_ok mixed Try.func27 (by kernel_rfl) (by kernel_rfl)) (fun _ _ _ => rfl) fun c a b h => ?_
  have e : T.anon (execS W3 noLoops 27 [confV c, intV a, intV b]) = T.ret (V.s (S.bool (bif mayB c then decide (IntKind.wrap .i64 (c.threshold * if 1000000 < if 1 > b then 1 else b then 1000000 else if 1 > b then 1 else b) ≤ IntKind.wrap .i64 ((if 1000000 < if 0 > a then 0 else a then 1000000 else if 0 > a then 0 else a) * 1000)) else false))) := by kernel_rfl
  rw [← T.eval_anon, e, clamp_min b 1 1000000 (by omega), clamp_min a 0 1000000 (by omega)]
  refine ⟨.s (.bool (overC c a b)), ev_bool ?_, rfl, rfl⟩
  unfold overC
  cases hm : mayB c
  · rfl
  · rw [(thr_of hm a b).1, (thr_of hm a b).2]; rfl
end Go.Proofs.Ytdkebjdhpioehaa.Conf
