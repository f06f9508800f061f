import Derived.Test.YtebibmioiigplaaGreatGJ
/- Contracts of package want, and of the document's own answer for it. -/
namespace Go.Proofs.YtebibmioiigplaaGreat.Conf
open Go.Eng Go.RowKit Mil
set_option linter.unusedVariables false
set_option linter.unusedSimpArgs false

def inC (c : Cf) : Bool := inR c.target && inR c.util
theorem inC_ok {c : Cf} (h : c.Ok) : inC c = true := by unfold inC; rw [Bool.and_eq_true, inR_iff, inR_iff]; exact ⟨h.target, h.util⟩
theorem cutV_inR (n : Int) : inR (cutV n) = true := inR_iff.2 (cutV_range n)
theorem perC_inR (c : Cf) : inR (perC c) = true := by
  have := cutV_range (mulI c.target c.util)
  rw [inR_iff]; unfold perC; omega
theorem perC_pos (c : Cf) : 1 ≤ perC c := by unfold perC; omega
theorem clampI_range (a : Int) {lo hi : Int} (h : lo ≤ hi) : lo ≤ clampI a lo hi ∧ clampI a lo hi ≤ hi := by unfold clampI; split <;> (try split) <;> omega
theorem inR_in {n : Int} (h1 : -9223372036854775808 ≤ n) (h2 : n ≤ 9223372036854775807) : inR n = true := inR_iff.2 ⟨h1, h2⟩
theorem clamp_min (a lo hi : Int) (h : lo ≤ hi) : (if hi < if lo > a then lo else a then hi else if lo > a then lo else a) = clampI a lo hi := by
  unfold clampI; repeat' split
  all_goals omega
/-- contracts of settings and numbers -/
def cI (g : Cf → Int → Bool) (f : Cf → Int → V) : Eng.Spec
  | [x, .s (.int .i64 a)] => asConf x fun c => .ite none (g c a) (.ret (f c a)) .fail
  | _ => .fail
theorem SpecOk.cI {P : Program} {n : Nat} {sp : Eng.Spec} {g : Cf → Int → Bool} {f : Cf → Int → V} (h : SpecOk P n sp) (hf : ∀ c a, flat (f c a) = true)
    (he : ∀ c a, g c a = true → ∃ v, (sp [confV c, intV a]).eval = some v ∧ flat v = true ∧ v.den nu0 = (f c a).den nu0) : SpecOk P n (Conf.cI g f) := by
  refine h.of_den fun args v hfl h => ?_
  clear hfl
  unfold Conf.cI at h
  split at h
  · rename_i x a
    obtain ⟨c, rfl, h⟩ := asConf_some h
    obtain ⟨hc, h⟩ := guard_eval h
    obtain rfl := Option.some.inj h
    obtain ⟨v, h1, h2, h3⟩ := he c a hc
    exact ⟨v, h1, ⟨h2, hf c a⟩, h3⟩
  · cases h
def cII (g : Cf → Int → Int → Bool) (f : Cf → Int → Int → V) : Eng.Spec
  | [x, .s (.int .i64 a), .s (.int .i64 b)] => asConf x fun c => .ite none (g c a b) (.ret (f c a b)) .fail
  | _ => .fail
theorem SpecOk.cII {P : Program} {n : Nat} {sp : Eng.Spec} {g : Cf → Int → Int → Bool} {f : Cf → Int → Int → V} (h : SpecOk P n sp) (hf : ∀ c a b, flat (f c a b) = true)
    (he : ∀ c a b, g c a b = true → ∃ v, (sp [confV c, intV a, intV b]).eval = some v ∧ flat v = true ∧ v.den nu0 = (f c a b).den nu0) : SpecOk P n (Conf.cII g f) := by
  refine h.of_den fun args v hfl h => ?_
  clear hfl
  unfold Conf.cII at h
  split at h
  · rename_i x a b
    obtain ⟨c, rfl, h⟩ := asConf_some h
    obtain ⟨hc, h⟩ := guard_eval h
    obtain rfl := Option.some.inj h
    obtain ⟨v, h1, h2, h3⟩ := he c a b hc
    exact ⟨v, h1, ⟨h2, hf c a b⟩, h3⟩
  · cases h
theorem ev_then {i : Option Nat} {c : Bool} {x y : T V} {v : V} (h : c = true) (h1 : x.eval = some v) : (T.ite i c x y).eval = some v := by rw [h]; exact h1

/-! ### want -/
def ofC (c : Cf) (m : Int) : Int := if mayB c then clampI (upV m (perC c)) 0 1000000 else 0
def overC (c : Cf) (w r : Int) : Bool := mayB c && decide (c.threshold * clampI r 1 1000000 ≤ clampI w 0 1000000 * 1000)
theorem ofC_range (c : Cf) (m : Int) : 0 ≤ ofC c m ∧ ofC c m ≤ 1000000 := by
  unfold ofC; split
  · exact clampI_range _ (by omega)
  · omega
def ofS : Eng.Spec := cI (fun c a => inC c && inR a) fun c a => intV (ofC c a)
def overS : Eng.Spec := cII (fun c a b => inC c) fun c a b => .s (.bool (overC c a b))
noncomputable def W1 : Cfg := ⟨Tryz.prog, lookG [(24, mayS), (108, perS)], [], 0⟩
theorem W1_ok : W1.Ok := Cfg.ok ⟨may_ok, per_ok, trivial⟩ trivial
noncomputable def byS : Eng.Spec := execS W1 noLoops 83
theorem by_ok : SpecOk Tryz.prog 83 byS := execS_plain W1_ok mixed Tryz.func83 (by kernel_rfl) (by kernel_rfl)
noncomputable def W2 : Cfg := ⟨Tryz.prog, lookG [(83, byS), (84, upS), (85, clampS)], [], 0⟩
theorem W2_ok : W2.Ok := Cfg.ok ⟨by_ok, up_ok, clamp_ok, trivial⟩ trivial
theorem of_tree {c : Cf} {a : Int} (h : (inC c && inR a) = true) : (T.ite none (!mayB c) (T.ret (intV 0)) (T.ite none (inR c.target && inR c.util) (T.ite none (inR a && inR (perC c)) (T.ret (intV (clampI (upV a (perC c)) 0 1000000))) T.fail) T.fail)).eval = some (intV (ofC c a)) := by
  rw [Bool.and_eq_true] at h
  refine ev_ite (fun h1 => ?_) fun h1 => ev_then h.1 (ev_then (by rw [h.2, perC_inR]; rfl) ?_)
  · exact ev_int (by unfold ofC; rw [Bool.not_eq_true'] at h1; rw [h1]; rfl)
  · exact ev_int (by unfold ofC; rw [Bool.not_eq_false'] at h1; rw [h1]; rfl)
theorem of_ok : SpecOk Tryz.prog 55 ofS := by
  refine SpecOk.cI (execS_plain W2_ok mixed Tryz.func55 (by kernel_rfl) (by kernel_rfl)) (fun _ _ => rfl) fun c a h => ⟨_, ?_, rfl, rfl⟩
  have e : T.anon (execS W2 noLoops 55 [confV c, intV a]) = T.ite none (!mayB c) (T.ret (intV 0)) (T.ite none (inR c.target && inR c.util) (T.ite none (inR a && inR (perC c)) (T.ret (intV (clampI (upV a (perC c)) 0 1000000))) T.fail) T.fail) := by kernel_rfl
  rw [← T.eval_anon, e]
  exact of_tree h
theorem thr_of {c : Cf} (h : mayB c = true) (w r : Int) : IntKind.wrap .i64 (c.threshold * clampI r 1 1000000) = c.threshold * clampI r 1 1000000 ∧ IntKind.wrap .i64 (clampI w 0 1000000 * 1000) = clampI w 0 1000000 * 1000 := by
  have h1 := (may_of h).threshold
  have h2 := clampI_range r (lo := 1) (hi := 1000000) (by omega)
  have h3 := clampI_range w (lo := 0) (hi := 1000000) (by omega)
  have h4 : c.threshold * clampI r 1 1000000 ≤ 10000 * 1000000 := Int.mul_le_mul h1.2 h2.2 (by omega) (by omega)
  have h5 : 0 ≤ c.threshold * clampI r 1 1000000 := Int.mul_nonneg (by omega) (by omega)
  exact ⟨wrap64_in (by omega) (by omega), wrap64_in (by omega) (by omega)⟩
theorem over_ok : SpecOk Tryz.prog 70 overS := by
  refine SpecOk.cII (execS_plain W2_ok mixed Tryz.func70 (by kernel_rfl) (by kernel_rfl)) (fun _ _ _ => rfl) fun c a b h => ?_
  have e : T.anon (execS W2 noLoops 70 [confV c, intV a, intV b]) = T.ite none (!mayB c) (T.ret V.ff) (T.ite none (inR c.target && inR c.util) (T.ret (V.s (S.bool (decide (IntKind.wrap .i64 (c.threshold * clampI b 1 1000000) ≤ IntKind.wrap .i64 (clampI a 0 1000000 * 1000)))))) T.fail) := by kernel_rfl
  rw [← T.eval_anon, e]
  cases hm : mayB c
  · exact ⟨.ff, rfl, rfl, by unfold overC; rw [hm]; rfl⟩
  · refine ⟨.s (.bool (overC c a b)), ev_ite (fun h1 => by cases h1) fun _ => ev_then h ?_, rfl, rfl⟩
    exact ev_bool (by unfold overC; rw [hm, (thr_of hm a b).1, (thr_of hm a b).2]; rfl)
noncomputable def W0 : Cfg := ⟨Tryz.prog, lookG [], [], 0⟩
theorem W0_ok : W0.Ok := Cfg.ok trivial trivial
noncomputable def cutS : Eng.Spec := execS W0 noLoops 78
theorem cut_ok : SpecOk Tryz.prog 78 cutS := execS_plain W0_ok mixed Tryz.func78 (by kernel_rfl) (by kernel_rfl)
noncomputable def W3 : Cfg := ⟨Tryz.prog, lookG [(28, mayS), (77, perS), (76, upS), (54, clampS), (78, cutS)], [], 0⟩
theorem W3_ok : W3.Ok := Cfg.ok ⟨refmay_ok, refper_ok, refup_ok, refclamp_ok, cut_ok, trivial⟩ trivial
theorem refof_ok : SpecOk Tryz.prog 43 ofS := by
  refine SpecOk.cI (execS_plain W3_ok mixed Tryz.func43 (by kernel_rfl) (by kernel_rfl)) (fun _ _ => rfl) fun c a h => ⟨_, ?_, rfl, rfl⟩
  have e : T.anon (execS W3 noLoops 43 [confV c, intV a]) = T.ite none (!mayB c) (T.ret (intV 0)) (T.ite none (inR c.target && inR c.util) (T.ite none (inR a && inR (perC c)) (T.ret (intV (clampI (upV a (perC c)) 0 1000000))) T.fail) T.fail) := by kernel_rfl
  rw [← T.eval_anon, e]
  exact of_tree h
theorem refover_ok : SpecOk Tryz.prog 45 overS := by
  refine SpecOk.cII (execS_plain W3_ok mixed Tryz.func45 (by kernel_rfl) (by kernel_rfl)) (fun _ _ _ => rfl) fun c a b h => ?_
  have e : T.anon (execS W3 noLoops 45 [confV c, intV a, intV b]) = T.ret (V.s (S.bool (bif mayB c then decide (IntKind.wrap .i64 (c.threshold * if 1000000 < if 1 > b then 1 else b then 1000000 else if 1 > b then 1 else b) ≤ IntKind.wrap .i64 ((if 1000000 < if 0 > a then 0 else a then 1000000 else if 0 > a then 0 else a) * 1000)) else false))) := by kernel_rfl
  rw [← T.eval_anon, e, clamp_min b 1 1000000 (by omega), clamp_min a 0 1000000 (by omega)]
  refine ⟨.s (.bool (overC c a b)), ev_bool ?_, rfl, rfl⟩
  unfold overC
  cases hm : mayB c
  · rfl
  · rw [(thr_of hm a b).1, (thr_of hm a b).2]; rfl
end Go.Proofs.YtebibmioiigplaaGreat.Conf

/- Layer 12: what is told of a few; the contracts that its laws lean on. -/
namespace Go.Proofs.YtebibmioiigplaaGreat.Conf
open Go.Eng Go.RowKit Mil
set_option linter.unusedVariables false
set_option linter.unusedSimpArgs false
/-- nothing asked, true answered -/
def yesS : Eng.Spec
  | [] => .ret .tt
  | _ => .fail
theorem SpecOk.yes {P : Program} {n : Nat} {sp : Eng.Spec} (h : SpecOk P n sp) (he : (sp []).eval = some (.s (.bool true)) ∨ (sp []).eval = some .tt) : SpecOk P n yesS := by
  refine h.of_den fun args v hfl h => ?_
  clear hfl
  unfold yesS at h
  split at h
  · obtain rfl := Option.some.inj h
    rcases he with e | e
    · exact ⟨_, e, ⟨rfl, rfl⟩, rfl⟩
    · exact ⟨_, e, ⟨rfl, rfl⟩, rfl⟩
  · cases h
theorem grd {x g : Bool} (h : g = true) : (bif (x && true) then g else true) = true := by rw [h]; cases x && true <;> rfl
end Go.Proofs.YtebibmioiigplaaGreat.Conf

/- Trees as the machine prints them. -/
namespace Go.Proofs.YtebibmioiigplaaGreat.Conf
open Go.Eng Go.RowKit Mil
set_option linter.unusedVariables false
set_option maxRecDepth 100000
end Go.Proofs.YtebibmioiigplaaGreat.Conf

/- Layer 12's laws: how many pods. -/
namespace Go.Proofs.YtebibmioiigplaaGreat.Conf
open Go.Eng Go.RowKit Mil
set_option linter.unusedVariables false
set_option linter.unusedSimpArgs false

theorem guards_and {x y g : Bool} (h : g = true) : (bif (x && y) then g else true) = true := by rw [h]; cases x && y <;> rfl
/-- the whole share, as the law reckons it -/
theorem per_go {c : Cf} (h : c.May) : (if 1 > IntKind.wrap .i64 (Int.tdiv (IntKind.wrap .i64 (c.target * c.util)) 1000) then 1 else IntKind.wrap .i64 (Int.tdiv (IntKind.wrap .i64 (c.target * c.util)) 1000)) = perC c ∧ 1 ≤ perC c ∧ perC c ≤ 1000000 := by
  have ht := h.target
  have hu := h.util
  have h1 : 1000 ≤ c.target * c.util := by have := Int.mul_le_mul ht.1 hu.1 (by omega) (by omega); omega
  have h2 : c.target * c.util ≤ c.target * 1000 := Int.mul_le_mul_of_nonneg_left hu.2 (by omega)
  have e : perC c = c.target * c.util / 1000 := by
    unfold perC mulI
    rw [(cut_in _ (by omega) (by omega)).1]; omega
  have e2 : IntKind.wrap .i64 (Int.tdiv (IntKind.wrap .i64 (c.target * c.util)) 1000) = c.target * c.util / 1000 := by
    rw [wrap64_in (n := c.target * c.util) (by omega) (by omega), Int.tdiv_eq_ediv_of_nonneg (by omega), wrap64_in (by omega) (by omega)]
  rw [e, e2, if_neg (by omega)]
  omega
/-- the least number of shares that bear it -/
theorem up_spec (v : Int) {p : Int} (hp : 0 < p) : v ≤ upI v p * p ∧ upI v p * p < v + p := by
  unfold upI
  rw [Int.fdiv_eq_ediv_of_nonneg _ (by omega)]
  have h1 := Int.ediv_mul_le (-v) (b := p) (by omega)
  have h2 := Int.lt_ediv_add_one_mul_self (-v) hp
  rw [Int.neg_mul]
  rw [Int.add_mul] at h2
  omega
theorem up_nonneg {v p : Int} (hv : 0 ≤ v) (hp : 0 < p) : 0 ≤ upI v p ∧ upI v p ≤ v := by
  obtain ⟨h1, h2⟩ := up_spec v hp
  constructor
  · by_cases h : upI v p < 0
    · have : upI v p * p < 0 := Int.mul_neg_of_neg_of_pos h hp
      omega
    · omega
  · by_cases h : v < upI v p
    · have h3 : (v + 1) * p ≤ upI v p * p := Int.mul_le_mul_of_nonneg_right (by omega) (by omega)
      have h4 : v * 1 ≤ v * p := Int.mul_le_mul_of_nonneg_left (by omega) hv
      rw [Int.add_mul] at h3
      omega
    · omega
theorem up_mono {a b p : Int} (h : a ≤ b) (hp : 0 < p) : upI a p ≤ upI b p := by
  unfold upI
  rw [Int.fdiv_eq_ediv_of_nonneg _ (by omega), Int.fdiv_eq_ediv_of_nonneg _ (by omega)]
  have := Int.ediv_le_ediv hp (show -b ≤ -a by omega)
  omega
theorem cutV_mono {a b : Int} (h : a ≤ b) : cutV a ≤ cutV b := by
  unfold cutV; repeat' split
  all_goals omega
theorem clampI_mono {a b lo hi : Int} (h : a ≤ b) (hl : lo ≤ hi) : clampI a lo hi ≤ clampI b lo hi := by
  unfold clampI; repeat' split
  all_goals omega
theorem ofC_mono (c : Cf) {a b : Int} (h : a ≤ b) : ofC c a ≤ ofC c b := by
  unfold ofC
  split
  · rename_i hm
    have hp := perC_pos c
    refine clampI_mono ?_ (by omega)
    unfold upV
    rw [if_neg (by omega), if_neg (by omega)]
    exact cutV_mono (up_mono h (by omega))
  · exact Int.le_refl _
theorem overC_mono (c : Cf) (w : Int) {r s : Int} (h : r ≤ s) (ho : overC c w s = true) : overC c w r = true := by
  unfold overC at *
  rw [Bool.and_eq_true, decide_eq_true_eq] at *
  refine ⟨ho.1, Int.le_trans (Int.mul_le_mul_of_nonneg_left (clampI_mono h (by omega)) ?_) ho.2⟩
  have := (may_of ho.1).threshold
  omega
/-- wanted, of what is no more than ten to the ninth -/
theorem ofC_of {c : Cf} (h : c.May) {v : Int} (hv : 0 ≤ v) (hv2 : v ≤ 9000000000000) : ofC c v = if 1000000 < upI v (perC c) then 1000000 else upI v (perC c) := by
  have hp := perC_pos c
  have h1 := up_nonneg hv (show 0 < perC c by omega)
  unfold ofC upV
  rw [if_pos ((may_iff c).2 h), if_neg (by omega), (cut_in _ (by omega) (by omega)).1]
  unfold clampI
  split
  · rfl
  · rw [if_neg (by omega)]

theorem up_eq {v p q : Int} (hp : 0 < p) (h1 : v ≤ q * p) (h2 : q * p < v + p) : upI v p = q := by
  obtain ⟨h3, h4⟩ := up_spec v hp
  have a : ¬ upI v p < q := fun h => by
    have := Int.mul_le_mul_of_nonneg_right (show upI v p + 1 ≤ q by omega) (show 0 ≤ p by omega)
    rw [Int.add_mul] at this; omega
  have b : ¬ q < upI v p := fun h => by
    have := Int.mul_le_mul_of_nonneg_right (show q + 1 ≤ upI v p by omega) (show 0 ≤ p by omega)
    rw [Int.add_mul] at this; omega
  omega
end Go.Proofs.YtebibmioiigplaaGreat.Conf

/- Contracts of package rate, and of the document's own answer for it. -/
namespace Go.Proofs.YtebibmioiigplaaGreat.Conf
open Go.Eng Go.RowKit Mil
set_option linter.unusedVariables false
set_option linter.unusedSimpArgs false

def capM (q : Int) : Int := if 1000000 < q then 1000000 else q
def mostR (c : Cf) (a : Int) : Int := if mayB c then capM (upI (c.up * clampI a 1 1000000) 1000) else 0
def leastR (c : Cf) (a : Int) : Int := if mayB c then 1000 * clampI a 0 1000000 / c.down else 0
def midR (lo w hi : Int) : Int := if hi < (if lo > w then lo else w) then hi else (if lo > w then lo else w)
def limitR (c : Cf) (w a : Int) : Int := if mayB c then midR (leastR c a) w (mostR c a) else 0
theorem clamp_one (a : Int) : (if 1 > clampI a 0 1000000 then 1 else clampI a 0 1000000) = clampI a 1 1000000 := by
  unfold clampI; repeat' split
  all_goals omega
theorem upR {c : Cf} (h : mayB c = true) (a : Int) : IntKind.wrap .i64 (c.up * clampI a 1 1000000) = c.up * clampI a 1 1000000 ∧ 0 ≤ c.up * clampI a 1 1000000 ∧ c.up * clampI a 1 1000000 ≤ 1000000000000 := by
  have h1 := (may_of h).up
  have h2 := clampI_range a (lo := 1) (hi := 1000000) (by omega)
  have h4 : c.up * clampI a 1 1000000 ≤ 1000000 * 1000000 := Int.mul_le_mul h1.2 h2.2 (by omega) (by omega)
  have h5 : 0 ≤ c.up * clampI a 1 1000000 := Int.mul_nonneg (by omega) (by omega)
  exact ⟨wrap64_in (by omega) (by omega), h5, by omega⟩
theorem upV_k {x : Int} (h1 : 0 ≤ x) (h2 : x ≤ 1000000000000) : upV x 1000 = upI x 1000 := by
  have := up_nonneg h1 (show (0 : Int) < 1000 by decide)
  unfold upV
  rw [if_neg (by decide), (cut_in _ (by omega) (by omega)).1]
theorem dnR {c : Cf} (h : mayB c = true) (a : Int) : IntKind.wrap .i64 (1000 * clampI a 0 1000000) = 1000 * clampI a 0 1000000 ∧ dnV (1000 * clampI a 0 1000000) c.down = 1000 * clampI a 0 1000000 / c.down ∧ 0 ≤ 1000 * clampI a 0 1000000 / c.down ∧ 1000 * clampI a 0 1000000 / c.down ≤ 1000 * clampI a 0 1000000 := by
  have h1 := (may_of h).down
  have h2 := clampI_range a (lo := 0) (hi := 1000000) (by omega)
  have h3 := Int.ediv_nonneg (a := 1000 * clampI a 0 1000000) (b := c.down) (by omega) (by omega)
  have h4 := Int.ediv_le_self (a := 1000 * clampI a 0 1000000) c.down (by omega)
  refine ⟨wrap64_in (by omega) (by omega), ?_, h3, h4⟩
  unfold dnV dnI
  rw [if_neg (by omega), Int.fdiv_eq_ediv_of_nonneg _ (by omega), (cut_in _ (by omega) (by omega)).1]
def mostS2 : Eng.Spec := cI (fun _ _ => true) fun c a => intV (mostR c a)
def leastS2 : Eng.Spec := cI (fun _ _ => true) fun c a => intV (leastR c a)
def limitS2 : Eng.Spec := cII (fun _ _ _ => true) fun c w a => intV (limitR c w a)
noncomputable def Q1 : Cfg := ⟨Tryz.prog, lookG [(24, mayS), (84, upS), (127, dnS), (85, clampS)], [], 0⟩
theorem Q1_ok : Q1.Ok := Cfg.ok ⟨may_ok, up_ok, dn_ok, clamp_ok, trivial⟩ trivial
noncomputable def rofS : Eng.Spec := execS Q1 noLoops 116
noncomputable def rwS : Eng.Spec := execS Q1 noLoops 117
noncomputable def rlS : Eng.Spec := execS Q1 noLoops 118
noncomputable def rmS : Eng.Spec := execS Q1 noLoops 119
theorem rof_ok : SpecOk Tryz.prog 116 rofS := execS_plain Q1_ok mixed Tryz.func116 (by kernel_rfl) (by kernel_rfl)
theorem rw_ok : SpecOk Tryz.prog 117 rwS := execS_plain Q1_ok mixed Tryz.func117 (by kernel_rfl) (by kernel_rfl)
theorem rl_ok : SpecOk Tryz.prog 118 rlS := execS_plain Q1_ok mixed Tryz.func118 (by kernel_rfl) (by kernel_rfl)
theorem rm_ok : SpecOk Tryz.prog 119 rmS := execS_plain Q1_ok mixed Tryz.func119 (by kernel_rfl) (by kernel_rfl)
noncomputable def Q2 : Cfg := ⟨Tryz.prog, lookG [(116, rofS), (117, rwS), (118, rlS), (119, rmS), (28, mayS), (76, upS), (78, cutS)], [], 0⟩
theorem Q2_ok : Q2.Ok := Cfg.ok ⟨rof_ok, rw_ok, rl_ok, rm_ok, refmay_ok, refup_ok, cut_ok, trivial⟩ trivial
theorem most_eq {c : Cf} (hm : mayB c = true) (a : Int) : (if 1000000 < upV (IntKind.wrap .i64 (c.up * clampI a 1 1000000)) 1000 then 1000000 else upV (IntKind.wrap .i64 (c.up * clampI a 1 1000000)) 1000) = mostR c a := by
  obtain ⟨h1, h2, h3⟩ := upR hm a
  rw [h1, upV_k h2 h3]
  unfold mostR capM
  rw [if_pos hm]
theorem most_in {c : Cf} (hm : mayB c = true) (a : Int) : (inR (IntKind.wrap .i64 (c.up * clampI a 1 1000000)) && inR 1000) = true := by
  obtain ⟨h1, h2, h3⟩ := upR hm a
  rw [h1, inR_in (by omega) (by omega)]; rfl
theorem least_in {c : Cf} (hm : mayB c = true) (a : Int) : (inR (IntKind.wrap .i64 (1000 * clampI a 0 1000000)) && inR c.down) = true := by
  obtain ⟨h1, -⟩ := dnR hm a
  have h2 := clampI_range a (lo := 0) (hi := 1000000) (by omega)
  have h3 := (may_of hm).down
  rw [h1, inR_in (by omega) (by omega), inR_in (by omega) (by omega)]; rfl
theorem least_eq {c : Cf} (hm : mayB c = true) (a : Int) : dnV (IntKind.wrap .i64 (1000 * clampI a 0 1000000)) c.down = leastR c a := by
  obtain ⟨h1, h2, -⟩ := dnR hm a
  rw [h1, h2]; unfold leastR; rw [if_pos hm]
theorem ratelimit_ok : SpecOk Tryz.prog 103 limitS2 := by
  refine SpecOk.cII (execS_plain Q2_ok mixed Tryz.func103 (by kernel_rfl) (by kernel_rfl)) (fun _ _ _ => rfl) fun c w a _ => ⟨_, ?_, rfl, rfl⟩
  have e : T.anon (execS Q2 noLoops 103 [confV c, intV w, intV a]) = T.ite none (!mayB c) (T.ret (intV 0)) (T.ite none (inR (IntKind.wrap .i64 (1000 * clampI a 0 1000000)) && inR c.down) (T.ite none (inR (IntKind.wrap .i64 (c.up * if 1 > clampI a 0 1000000 then 1 else clampI a 0 1000000)) && inR 1000)
    (T.ret (intV (midR (dnV (IntKind.wrap .i64 (1000 * clampI a 0 1000000)) c.down) w (if 1000000 < upV (IntKind.wrap .i64 (c.up * if 1 > clampI a 0 1000000 then 1 else clampI a 0 1000000)) 1000 then 1000000 else upV (IntKind.wrap .i64 (c.up * if 1 > clampI a 0 1000000 then 1 else clampI a 0 1000000)) 1000)))) T.fail) T.fail) := by kernel_rfl
  rw [← T.eval_anon, e, clamp_one]
  refine ev_ite (fun h1 => ?_) fun h1 => ?_
  · exact ev_int (by unfold limitR; rw [Bool.not_eq_true'] at h1; rw [h1]; rfl)
  · rw [Bool.not_eq_false'] at h1
    refine ev_then (least_in h1 a) (ev_then (most_in h1 a) (ev_int ?_))
    rw [least_eq h1, most_eq h1]; unfold limitR; rw [if_pos h1]
theorem refmost2_ok : SpecOk Tryz.prog 80 mostS2 := by
  refine SpecOk.cI (execS_plain Q2_ok mixed Tryz.func80 (by kernel_rfl) (by kernel_rfl)) (fun _ _ => rfl) fun c a _ => ⟨_, ?_, rfl, rfl⟩
  have e : T.anon (execS Q2 noLoops 80 [confV c, intV a]) = T.ite none (!mayB c) (T.ret (intV 0)) (T.ite none (inR (IntKind.wrap .i64 (c.up * if 1000000 < if 1 > a then 1 else a then 1000000 else if 1 > a then 1 else a)) && inR 1000)
    (T.ret (intV (if 1000000 < upV (IntKind.wrap .i64 (c.up * if 1000000 < if 1 > a then 1 else a then 1000000 else if 1 > a then 1 else a)) 1000 then 1000000 else upV (IntKind.wrap .i64 (c.up * if 1000000 < if 1 > a then 1 else a then 1000000 else if 1 > a then 1 else a)) 1000))) T.fail) := by kernel_rfl
  rw [← T.eval_anon, e, clamp_min a 1 1000000 (by omega)]
  refine ev_ite (fun h1 => ?_) fun h1 => ?_
  · exact ev_int (by unfold mostR; rw [Bool.not_eq_true'] at h1; rw [h1]; rfl)
  · rw [Bool.not_eq_false'] at h1
    exact ev_then (most_in h1 a) (ev_int (most_eq h1 a))
theorem refleast_ok : SpecOk Tryz.prog 79 leastS2 := by
  refine SpecOk.cI (execS_plain Q2_ok mixed Tryz.func79 (by kernel_rfl) (by kernel_rfl)) (fun _ _ => rfl) fun c a _ => ⟨_, ?_, rfl, rfl⟩
  have e : T.anon (execS Q2 noLoops 79 [confV c, intV a]) = T.ite none (!mayB c) (T.ret (intV 0)) (T.ite none (c.down == 0) T.fail (T.ret (intV (IntKind.wrap .i64 (Int.tdiv (IntKind.wrap .i64 (1000 * if 1000000 < if 0 > a then 0 else a then 1000000 else if 0 > a then 0 else a)) c.down))))) := by kernel_rfl
  rw [← T.eval_anon, e, clamp_min a 0 1000000 (by omega)]
  refine ev_ite (fun h1 => ?_) fun h1 => ?_
  · exact ev_int (by unfold leastR; rw [Bool.not_eq_true'] at h1; rw [h1]; rfl)
  · rw [Bool.not_eq_false'] at h1
    obtain ⟨k1, k2, k3, k4⟩ := dnR h1 a
    have h2 := clampI_range a (lo := 0) (hi := 1000000) (by omega)
    have hd := (may_of h1).down
    refine ev_ite (fun h => ?_) fun _ => ev_int ?_
    · rw [beq_iff_eq] at h; omega
    · rw [k1, Int.tdiv_eq_ediv_of_nonneg (by omega), wrap64_in (by omega) (by omega)]
      unfold leastR; rw [if_pos h1]
noncomputable def Q3 : Cfg := ⟨Tryz.prog, lookG [(28, mayS), (79, leastS2), (80, mostS2)], [], 0⟩
theorem Q3_ok : Q3.Ok := Cfg.ok ⟨refmay_ok, refleast_ok, refmost2_ok, trivial⟩ trivial
theorem reflimit_ok : SpecOk Tryz.prog 46 limitS2 := by
  refine SpecOk.cII (execS_plain Q3_ok mixed Tryz.func46 (by kernel_rfl) (by kernel_rfl)) (fun _ _ _ => rfl) fun c w a _ => ⟨_, ?_, rfl, rfl⟩
  have e : T.anon (execS Q3 noLoops 46 [confV c, intV w, intV a]) = T.ite none (!mayB c) (T.ret (intV 0)) (T.ite none true (T.ite none true (T.ret (intV (midR (leastR c a) w (mostR c a)))) T.fail) T.fail) := by kernel_rfl
  rw [← T.eval_anon, e]
  refine ev_ite (fun h1 => ?_) fun h1 => ?_
  · exact ev_int (by unfold limitR; rw [Bool.not_eq_true'] at h1; rw [h1]; rfl)
  · rw [Bool.not_eq_false'] at h1
    exact ev_then rfl (ev_then rfl (ev_int (by unfold limitR; rw [if_pos h1])))
end Go.Proofs.YtebibmioiigplaaGreat.Conf

/- Trees as the machine prints them. -/
namespace Go.Proofs.YtebibmioiigplaaGreat.Conf
open Go.Eng Go.RowKit Mil
set_option linter.unusedVariables false
set_option maxRecDepth 100000
end Go.Proofs.YtebibmioiigplaaGreat.Conf

/- Layer 13's laws: not too fast. -/
namespace Go.Proofs.YtebibmioiigplaaGreat.Conf
open Go.Eng Go.RowKit Mil
set_option linter.unusedVariables false
set_option linter.unusedSimpArgs false

theorem capM_mono {a b : Int} (h : a ≤ b) : capM a ≤ capM b := by
  unfold capM; repeat' split
  all_goals omega
theorem mostR_mono (c : Cf) {a b : Int} (h : a ≤ b) : mostR c a ≤ mostR c b := by
  unfold mostR
  split
  · rename_i hm
    have hu := (may_of hm).up
    exact capM_mono (up_mono (Int.mul_le_mul_of_nonneg_left (clampI_mono h (by omega)) (by omega)) (by decide))
  · exact Int.le_refl _
theorem leastR_mono (c : Cf) {a b : Int} (h : a ≤ b) : leastR c a ≤ leastR c b := by
  unfold leastR
  split
  · rename_i hm
    have hd := (may_of hm).down
    have := clampI_mono h (show (0 : Int) ≤ 1000000 by omega)
    exact Int.ediv_le_ediv (by omega) (by omega)
  · exact Int.le_refl _
theorem midR_mono {l w h l' w' h' : Int} (h1 : l ≤ l') (h2 : w ≤ w') (h3 : h ≤ h') : midR l w h ≤ midR l' w' h' := by
  unfold midR; repeat' split
  all_goals omega
theorem limitR_mono (c : Cf) {w w' a b : Int} (h : w ≤ w') (h2 : a ≤ b) : limitR c w a ≤ limitR c w' b := by
  unfold limitR
  split
  · exact midR_mono (leastR_mono c h2) h (mostR_mono c h2)
  · exact Int.le_refl _
/-- between the bounds -/
theorem rate_between {c : Cf} (h : c.May) {r : Int} (h0 : 0 ≤ r) (h1 : r ≤ 900000) : leastR c r ≤ r ∧ r < mostR c r ∧ (r = 0 ∨ leastR c r < r) ∧ 0 ≤ leastR c r := by
  have hm := (may_iff c).2 h
  have hu := h.up
  have hd := h.down
  have e0 : clampI r 0 1000000 = r := by unfold clampI; rw [if_neg (by omega), if_neg (by omega)]
  have el : leastR c r = 1000 * r / c.down := by unfold leastR; rw [if_pos hm, e0]
  have l0 := Int.ediv_nonneg (a := 1000 * r) (b := c.down) (by omega) (by omega)
  have l1 : 0 < r → 1000 * r / c.down < r := fun hr => Int.ediv_lt_of_lt_mul (by omega) (by
    have : r * 1001 ≤ r * c.down := Int.mul_le_mul_of_nonneg_left (by omega) (by omega)
    omega)
  have em : mostR c r = capM (upI (c.up * clampI r 1 1000000) 1000) := by unfold mostR; rw [if_pos hm]
  have m1 : r < mostR c r := by
    rw [em]
    obtain ⟨R, hR⟩ : ∃ R, clampI r 1 1000000 = R := ⟨_, rfl⟩
    have hR2 : 1 ≤ R ∧ r ≤ R ∧ R ≤ 1000000 := by
      rw [← hR]; unfold clampI; repeat' split
      all_goals omega
    rw [hR]
    have h4 : 1001 * R ≤ c.up * R := Int.mul_le_mul_of_nonneg_right (by omega) (by omega)
    obtain ⟨u1, u2⟩ := up_spec (c.up * R) (show (0 : Int) < 1000 by decide)
    unfold capM; split <;> omega
  rw [el]
  refine ⟨?_, m1, ?_, l0⟩
  · by_cases hr : 0 < r
    · have := l1 hr; omega
    · have : r = 0 := by omega
      subst this; simp
  · by_cases hr : 0 < r
    · exact .inr (l1 hr)
    · exact .inl (by omega)
theorem yes_guard {x y g : Bool} {t : T V} (h : g = true) (h2 : t.yes) : T.yes (.ite none (bif (x && y) then g else true) t .fail) := yes_then (guards_and h) h2

end Go.Proofs.YtebibmioiigplaaGreat.Conf

/- Contracts of packages alarm, burst, zero, and of the document's own answers for them. -/
namespace Go.Proofs.YtebibmioiigplaaGreat.Conf
open Go.Eng Go.RowKit Mil
set_option linter.unusedVariables false
set_option linter.unusedSimpArgs false

/-! ### burst -/
def excB (c : Cf) (r q : Int) : Int := if mayB c then (if c.burst = -1000 then -1000 else cutV (cutV (clampI r 0 1000000 * c.limit * 1000 - q) - c.burst)) else 0
def proxyB (c : Cf) (r e : Int) : Bool := !mayB c || c.burst == -1000 || decide (r < 1) || (decide (0 < c.burst) && decide (e < 0))
def excS : Eng.Spec := cII (fun _ _ q => inR q) fun c r q => intV (excB c r q)
def proxyS : Eng.Spec := cII (fun _ _ _ => true) fun c r e => .s (.bool (proxyB c r e))
noncomputable def A1 : Cfg := ⟨Tryz.prog, lookG [(24, mayS), (105, subS), (85, clampS)], [], 0⟩
theorem A1_ok : A1.Ok := Cfg.ok ⟨may_ok, sub_ok, clamp_ok, trivial⟩ trivial
noncomputable def basksS : Eng.Spec := execS A1 noLoops 104
theorem basks_ok : SpecOk Tryz.prog 104 basksS := execS_plain A1_ok mixed Tryz.func104 (by kernel_rfl) (by kernel_rfl)
noncomputable def A2 : Cfg := ⟨Tryz.prog, lookG [(105, subS), (85, clampS), (104, basksS)], [], 0⟩
theorem A2_ok : A2.Ok := Cfg.ok ⟨sub_ok, clamp_ok, basks_ok, trivial⟩ trivial
noncomputable def A3 : Cfg := ⟨Tryz.prog, lookG [(28, mayS), (81, subS), (78, cutS)], [], 0⟩
theorem A3_ok : A3.Ok := Cfg.ok ⟨refmay_ok, refsub_ok, cut_ok, trivial⟩ trivial
def excT (k : Int → Int) (c : Cf) (r q : Int) : T V :=
  T.ite none (!mayB c) (T.ret (intV 0)) (T.ite none (c.burst == -1000) (T.ret (intV (-1000))) (T.ite none (inR (IntKind.wrap .i64 (IntKind.wrap .i64 (k r * c.limit) * 1000)) && inR q) (T.ite none (inR (cutV (IntKind.wrap .i64 (IntKind.wrap .i64 (k r * c.limit) * 1000) - q)) && inR c.burst)
    (T.ret (intV (cutV (cutV (IntKind.wrap .i64 (IntKind.wrap .i64 (k r * c.limit) * 1000) - q) - c.burst)))) T.fail) T.fail))
theorem room_of {c : Cf} (h : c.May) (r : Int) : IntKind.wrap .i64 (IntKind.wrap .i64 (clampI r 0 1000000 * c.limit) * 1000) = clampI r 0 1000000 * c.limit * 1000 ∧ 0 ≤ clampI r 0 1000000 * c.limit ∧ clampI r 0 1000000 * c.limit ≤ 1000000000 := by
  have h1 := h.limit
  have h2 := clampI_range r (lo := 0) (hi := 1000000) (by omega)
  have h4 : clampI r 0 1000000 * c.limit ≤ 1000000 * 1000 := Int.mul_le_mul h2.2 h1.2 (by omega) (by omega)
  have h5 : 0 ≤ clampI r 0 1000000 * c.limit := Int.mul_nonneg (by omega) (by omega)
  rw [wrap64_in (n := clampI r 0 1000000 * c.limit) (by omega) (by omega), wrap64_in (by omega) (by omega)]
  omega
theorem burst_in {c : Cf} (h : c.May) : -1000 ≤ c.burst ∧ c.burst ≤ 100000000 := by have := h.burst; omega
theorem excT_eval {k : Int → Int} (hk : ∀ r, k r = clampI r 0 1000000) {c : Cf} {r q : Int} (hq : inR q = true) : (excT k c r q).eval = some (intV (excB c r q)) := by
  unfold excT
  rw [hk]
  refine ev_ite (fun h => ?_) fun h => ev_ite (fun h2 => ?_) fun h2 => ?_
  · rw [Bool.not_eq_true'] at h; exact ev_int (by unfold excB; rw [h]; rfl)
  · rw [Bool.not_eq_false'] at h; rw [beq_iff_eq] at h2; exact ev_int (by unfold excB; rw [if_pos h, if_pos h2])
  · rw [Bool.not_eq_false'] at h; rw [beq_eq_false_iff_ne] at h2
    obtain ⟨e, r1, r2⟩ := room_of (may_of h) r
    have hb := burst_in (may_of h)
    rw [e]
    refine ev_then (by rw [inR_in (by omega) (by omega), hq]; rfl) (ev_then (by rw [cutV_inR, inR_in (by omega) (by omega)]; rfl) (ev_int ?_))
    unfold excB; rw [if_pos h, if_neg h2]
theorem exc_ok : SpecOk Tryz.prog 74 excS := by
  refine SpecOk.cII (execS_plain A2_ok mixed Tryz.func74 (by kernel_rfl) (by kernel_rfl)) (fun _ _ _ => rfl) fun c r q h => ⟨_, ?_, rfl, rfl⟩
  have e : T.anon (execS A2 noLoops 74 [confV c, intV r, intV q]) = excT (fun r => clampI r 0 1000000) c r q := by kernel_rfl
  rw [← T.eval_anon, e]
  exact excT_eval (fun _ => rfl) h
theorem refexc_ok : SpecOk Tryz.prog 51 excS := by
  refine SpecOk.cII (execS_plain A3_ok mixed Tryz.func51 (by kernel_rfl) (by kernel_rfl)) (fun _ _ _ => rfl) fun c r q h => ⟨_, ?_, rfl, rfl⟩
  have e : T.anon (execS A3 noLoops 51 [confV c, intV r, intV q]) = excT (fun r => if 1000000 < if 0 > r then 0 else r then 1000000 else if 0 > r then 0 else r) c r q := by kernel_rfl
  rw [← T.eval_anon, e]
  exact excT_eval (fun r => clamp_min r 0 1000000 (by omega)) h
/-- told truths as truths -/
def bv : V → V
  | .tt => .s (.bool true)
  | .ff => .s (.bool false)
  | v => v
theorem holds_bv {n : Nat} {w : World} {v : V} {x : Value} (h : holdsP n w v x) : holdsP n w (bv v) x := by cases v <;> exact h
theorem rowy_bv {v : V} : rowy (bv v) = rowy v := by cases v <;> rfl
theorem holdsL_bv {n : Nat} {w : World} : ∀ {l : List V} {xs : List Value}, holdsL n w l xs → holdsL n w (l.map bv) xs
  | [], [], _ => trivial
  | v :: r, x :: xs, h => ⟨holds_bv h.1, holdsL_bv h.2⟩
  | [], _ :: _, h => h.elim
  | _ :: _, [], h => h.elim
theorem SpecOk.bv {P : Program} {f : Nat} {sp : Eng.Spec} (h : SpecOk P f sp) : SpecOk P f (fun args => sp (args.map Conf.bv)) :=
  ⟨h.body, fun args v xs w ha he hr hh => h.calls (args.map Conf.bv) v xs w (by
    unfold rowyL at *
    rw [List.all_map, List.all_eq_true] at *
    intro x hx
    show rowy (Conf.bv x) = true
    rw [rowy_bv]
    exact ha x hx) he hr (holdsL_bv hh)⟩

/-! ### alarm -/
def modeV (s m : Int) : V := .agg [intV s, intV m]
structure Md where
  since : Int
  most : Int
def Md.v (m : Md) : V := modeV m.since m.most
def nextA (c : Cf) (m : Md) (n : Int) (b : Bool) : Md :=
  if !mayB c || decide (n < 0) || decide (1099511627776 < n) then m else if b then ⟨n, if m.since < 0 then 0 else m.most⟩ else if m.since < 0 then m else if c.stable ≤ n - m.since then ⟨-1, 0⟩ else m
def keepA (m : Md) (w : Int) : Md := if m.since < 0 then m else ⟨m.since, if w > m.most then w else m.most⟩
def keepW (m : Md) (w : Int) : Int := if m.since < 0 then w else if w > m.most then w else m.most
def nextS' : Eng.Spec
  | [x, .agg [.s (.int .i64 s), .s (.int .i64 m)], .s (.int .i64 n), .s (.bool b)] => asConf x fun c => .ite none (inR s && inR n) (.ret (nextA c ⟨s, m⟩ n b).v) .fail
  | _ => .fail
def rnextS' : Eng.Spec
  | [.agg [.s (.int .i64 s), .s (.int .i64 m)], x, .s (.int .i64 n), .s (.bool b)] => asConf x fun c => .ite none (inR s && inR n) (.ret (nextA c ⟨s, m⟩ n b).v) .fail
  | _ => .fail
def nextS : Eng.Spec := fun args => nextS' (args.map bv)
def rnextS : Eng.Spec := fun args => rnextS' (args.map bv)
def keepS : Eng.Spec
  | [.agg [.s (.int .i64 s), .s (.int .i64 m)], .s (.int .i64 w)] => .ret (.tup [(keepA ⟨s, m⟩ w).v, intV (keepW ⟨s, m⟩ w)])
  | _ => .fail
def isS : Eng.Spec
  | [.agg [.s (.int .i64 s), .s (.int .i64 m)]] => .ret (.s (.bool (decide (0 ≤ s))))
  | _ => .fail
noncomputable def astS : Eng.Spec := execS C0 noLoops 99
theorem ast_ok : SpecOk Tryz.prog 99 astS := execS_plain C0_ok mixed Tryz.func99 (by kernel_rfl) (by kernel_rfl)
def calmS : Eng.Spec
  | [] => .ret (modeV (-1) 0)
  | _ => .fail
theorem calm_ok : SpecOk Tryz.prog 27 calmS := by
  refine (execS_plain C0_ok mixed Tryz.func27 (by kernel_rfl) (by kernel_rfl)).of_den fun args v hfl h => ?_
  clear hfl
  unfold calmS at h
  split at h
  · obtain rfl := Option.some.inj h
    have e : execS C0 noLoops 27 [] = .ret (modeV (-1) 0) := by kernel_rfl
    rw [e]
    exact ⟨_, rfl, ⟨rfl, rfl⟩, rfl⟩
  · cases h
noncomputable def A4 : Cfg := ⟨Tryz.prog, lookG [(99, astS)], [], 0⟩
theorem A4_ok : A4.Ok := Cfg.ok ⟨ast_ok, trivial⟩ trivial
noncomputable def arnS : Eng.Spec := execS A4 noLoops 98
theorem arn_ok : SpecOk Tryz.prog 98 arnS := execS_plain A4_ok mixed Tryz.func98 (by kernel_rfl) (by kernel_rfl)
noncomputable def A5 : Cfg := ⟨Tryz.prog, lookG [(24, mayS), (99, astS), (27, calmS), (98, arnS)], [], 0⟩
theorem A5_ok : A5.Ok := Cfg.ok ⟨may_ok, ast_ok, calm_ok, arn_ok, trivial⟩ trivial
theorem is_ok : SpecOk Tryz.prog 73 isS := by
  refine (execS_plain A4_ok mixed Tryz.func73 (by kernel_rfl) (by kernel_rfl)).of_den fun args v hfl h => ?_
  clear hfl
  unfold isS at h
  split at h
  · rename_i s m
    obtain rfl := Option.some.inj h
    have e : T.anon (execS A4 noLoops 73 [modeV s m]) = .ite none (decide (s < 0)) (.ret .ff) (.ret .tt) := by kernel_rfl
    rw [← T.eval_anon, show execS A4 noLoops 73 [.agg [.s (.int .i64 s), .s (.int .i64 m)]] = execS A4 noLoops 73 [modeV s m] from rfl, e]
    by_cases hs : s < 0
    · rw [decide_eq_true hs]; exact ⟨_, rfl, ⟨rfl, rfl⟩, by rw [decide_eq_false (by omega)]; rfl⟩
    · rw [decide_eq_false hs]; exact ⟨_, rfl, ⟨rfl, rfl⟩, by rw [decide_eq_true (by omega)]; rfl⟩
  · cases h
theorem refis_ok : SpecOk Tryz.prog 47 isS := by
  refine (execS_plain A4_ok mixed Tryz.func47 (by kernel_rfl) (by kernel_rfl)).of_den fun args v hfl h => ?_
  clear hfl
  unfold isS at h
  split at h
  · rename_i s m
    obtain rfl := Option.some.inj h
    have e : T.anon (execS A4 noLoops 47 [modeV s m]) = .ret (.s (.bool (decide (0 ≤ s)))) := by kernel_rfl
    rw [← T.eval_anon, show execS A4 noLoops 47 [.agg [.s (.int .i64 s), .s (.int .i64 m)]] = execS A4 noLoops 47 [modeV s m] from rfl, e]
    exact ⟨_, rfl, ⟨rfl, rfl⟩, rfl⟩
  · cases h
theorem ev_mode {i : Md} {a b : Int} (h1 : a = i.since) (h2 : b = i.most) : (T.ret (V.agg [V.s (.int .i64 a), V.s (.int .i64 b)])).eval = some i.v := by rw [h1, h2]; rfl
theorem next_ok : SpecOk Tryz.prog 69 nextS := by
  refine SpecOk.bv (sp := nextS') ?_
  refine (execS_plain A5_ok mixed Tryz.func69 (by kernel_rfl) (by kernel_rfl)).of_den fun args v hfl h => ?_
  clear hfl
  unfold nextS' at h
  split at h
  · rename_i x s m n b
    obtain ⟨c, rfl, h⟩ := asConf_some h
    obtain ⟨hc, h⟩ := guard_eval h
    obtain rfl := Option.some.inj h
    refine ⟨_, ?_, ⟨rfl, rfl⟩, rfl⟩
    have e : T.anon (execS A5 noLoops 69 [confV c, .agg [.s (.int .i64 s), .s (.int .i64 m)], .s (.int .i64 n), .s (.bool b)]) = T.ite none (bif bif !mayB c then true else decide (n < 0) then true else decide (1099511627776 < n)) (.ret (modeV s m))
      (T.ite none b (T.ite none (decide (s < 0)) (.ret (modeV n 0)) (.ret (modeV n m))) (T.ite none (decide (s < 0)) (.ret (modeV s m)) (T.ite none (decide (c.stable ≤ IntKind.wrap .i64 (n - s))) (.ret (modeV (-1) 0)) (.ret (modeV s m))))) := by kernel_rfl
    rw [← T.eval_anon, e]
    simp only [Bool.and_eq_true, inR_iff] at hc
    unfold nextA
    simp only [bif_or]
    refine ev_ite (fun h1 => ?_) fun h1 => ?_
    · rw [if_pos h1]; rfl
    · rw [if_neg (by simp [h1])]
      have hn : 0 ≤ n ∧ n ≤ 1099511627776 := by simp only [Bool.or_eq_false_iff, decide_eq_false_iff_not] at h1; omega
      refine ev_ite (fun h2 => ?_) fun h2 => ?_
      · rw [h2]
        refine ev_ite (fun h3 => ?_) fun h3 => ?_ <;> simp only [decide_eq_true_eq, decide_eq_false_iff_not] at h3
        · exact ev_mode rfl (by simp [h3])
        · exact ev_mode rfl (by simp [h3])
      · rw [h2]
        refine ev_ite (fun h3 => ?_) fun h3 => ev_ite (fun h4 => ?_) fun h4 => ?_ <;> simp only [decide_eq_true_eq, decide_eq_false_iff_not] at h3
        · simp only [h3, if_true, Bool.false_eq_true, if_false]; rfl
        · rw [wrap64_in (by omega) (by omega), decide_eq_true_eq] at h4
          simp only [h3, h4, if_true, Bool.false_eq_true, if_false]; rfl
        · rw [wrap64_in (by omega) (by omega), decide_eq_false_iff_not] at h4
          simp only [h3, h4, Bool.false_eq_true, if_false]; rfl
  · cases h
noncomputable def A6 : Cfg := ⟨Tryz.prog, lookG [(28, mayS), (47, isS)], [], 0⟩
theorem A6_ok : A6.Ok := Cfg.ok ⟨refmay_ok, refis_ok, trivial⟩ trivial
theorem refnext_ok : SpecOk Tryz.prog 44 rnextS := by
  refine SpecOk.bv (sp := rnextS') ?_
  refine (execS_plain A6_ok mixed Tryz.func44 (by kernel_rfl) (by kernel_rfl)).of_den fun args v hfl h => ?_
  clear hfl
  unfold rnextS' at h
  split at h
  · rename_i s m x n b
    obtain ⟨c, rfl, h⟩ := asConf_some h
    obtain ⟨hc, h⟩ := guard_eval h
    obtain rfl := Option.some.inj h
    refine ⟨_, ?_, ⟨rfl, rfl⟩, rfl⟩
    have e : T.anon (execS A6 noLoops 44 [.agg [.s (.int .i64 s), .s (.int .i64 m)], confV c, .s (.int .i64 n), .s (.bool b)]) = T.ite none (bif bif !mayB c then true else decide (n < 0) then true else decide (1099511627776 < n)) (.ret (modeV s m))
      (T.ite none (bif b then decide (0 ≤ s) else false) (.ret (modeV n m)) (T.ite none b (.ret (modeV n 0)) (T.ite none (bif decide (0 ≤ s) then decide (s ≤ IntKind.wrap .i64 (n - c.stable)) else false) (.ret (modeV (-1) 0)) (.ret (modeV s m))))) := by kernel_rfl
    rw [← T.eval_anon, e]
    simp only [Bool.and_eq_true, inR_iff] at hc
    unfold nextA
    simp only [bif_or, bif_and]
    refine ev_ite (fun h1 => ?_) fun h1 => ?_
    · rw [if_pos h1]; rfl
    · rw [if_neg (by simp [h1])]
      simp only [Bool.or_eq_false_iff, decide_eq_false_iff_not, Bool.not_eq_false'] at h1
      have hst := (may_of h1.1.1).stable
      rw [wrap64_in (n := n - c.stable) (by omega) (by omega)]
      refine ev_ite (fun h2 => ?_) fun h2 => ev_ite (fun h3 => ?_) fun h3 => ev_ite (fun h4 => ?_) fun h4 => ?_
      · simp only [Bool.and_eq_true, decide_eq_true_eq] at h2
        rw [h2.1]; exact ev_mode rfl (by simp; omega)
      · rw [h3] at h2 ⊢
        simp only [Bool.true_and, decide_eq_false_iff_not] at h2
        exact ev_mode rfl (by simp; omega)
      · simp only [Bool.and_eq_true, decide_eq_true_eq] at h4
        rw [h3]
        simp only [Bool.false_eq_true, if_false]
        rw [if_neg (by omega), if_pos (by omega)]; rfl
      · simp only [Bool.and_eq_false_iff, decide_eq_false_iff_not] at h4
        rw [h3]
        simp only [Bool.false_eq_true, if_false]
        by_cases hs : s < 0
        · rw [if_pos hs]; rfl
        · rw [if_neg hs, if_neg (by omega)]; rfl
  · cases h
theorem keep_ok : SpecOk Tryz.prog 101 keepS := by
  refine (execS_plain A4_ok mixed Tryz.func101 (by kernel_rfl) (by kernel_rfl)).of_den fun args v hfl h => ?_
  clear hfl
  unfold keepS at h
  split at h
  · rename_i s m n
    obtain rfl := Option.some.inj h
    refine ⟨_, ?_, ⟨rfl, rfl⟩, rfl⟩
    have e : T.anon (execS A4 noLoops 101 [.agg [.s (.int .i64 s), .s (.int .i64 m)], .s (.int .i64 n)]) = T.ite none (decide (s < 0)) (.ret (.tup [modeV s m, intV n])) (.ret (.tup [modeV s (if n > m then n else m), intV (if n > m then n else m)])) := by kernel_rfl
    rw [← T.eval_anon, e]
    unfold keepA keepW
    by_cases hs : s < 0
    · rw [decide_eq_true hs, if_pos hs, if_pos hs]; rfl
    · rw [decide_eq_false hs, if_neg hs, if_neg hs]; rfl
  · cases h
theorem refkeep_ok : SpecOk Tryz.prog 50 keepS := by
  refine (execS_plain A6_ok mixed Tryz.func50 (by kernel_rfl) (by kernel_rfl)).of_den fun args v hfl h => ?_
  clear hfl
  unfold keepS at h
  split at h
  · rename_i s m n
    obtain rfl := Option.some.inj h
    refine ⟨_, ?_, ⟨rfl, rfl⟩, rfl⟩
    have e : T.anon (execS A6 noLoops 50 [.agg [.s (.int .i64 s), .s (.int .i64 m)], .s (.int .i64 n)]) = T.ite none (!decide (0 ≤ s)) (.ret (.tup [modeV s m, intV n])) (.ret (.tup [modeV s (if n > m then n else m), intV (if n > m then n else m)])) := by kernel_rfl
    rw [← T.eval_anon, e]
    unfold keepA keepW
    by_cases hs : s < 0
    · rw [decide_eq_false (show ¬ 0 ≤ s by omega), if_pos hs, if_pos hs]; rfl
    · rw [decide_eq_true (show 0 ≤ s by omega), if_neg hs, if_neg hs]; rfl
  · cases h
/-! ### zero -/
end Go.Proofs.YtebibmioiigplaaGreat.Conf

