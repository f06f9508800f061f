/- Contracts of packages alarm, burst, zero, and of the document's own answers for them. -/
import Derived.Test.YtdkebjdhpioehaaRateL
namespace Go.Proofs.Ytdkebjdhpioehaa.Conf
open Go.Eng Go.RowKit Mil
set_option linter.unusedVariables false
set_option linter.unusedSimpArgs false

/-! ### burst -/
def excB (c : Cf) (r q : Int) : Int := if mayB c then (if c.burst = -1000 then -1000 else cutV (cutV (clampI r 0 1000000 * c.limit * 1000 - q) - c.burst)) else 0
def proxyB (c : Cf) (r e : Int) : Bool := !mayB c || c.burst == -1000 || decide (r < 1) || (decide (0 < c.burst) && decide (e < 0))
def excS : Eng.Spec := cII (fun _ _ q => inR q) fun c r q => intV (excB c r q)
def proxyS : Eng.Spec := cII (fun _ _ _ => true) fun c r e => .s (.bool (proxyB c r e))
noncomputable def A1 : Cfg := ⟨Try.prog, lookG [(71, mayS), (75, subS), (61, clampS)], [], 0⟩
theorem A1_ok : A1.Ok := Cfg.ok ⟨may_ok, sub_ok, clamp_ok, trivial⟩ trivial
noncomputable def basksS : Eng.Spec := execS A1 noLoops 74
theorem basks_ok : SpecOk Try.prog 74 basksS := execS_plain A1_ok mixed Try.func74 (by kernel_rfl) (by kernel_rfl)
noncomputable def A2 : Cfg := ⟨Try.prog, lookG [(75, subS), (61, clampS), (74, basksS)], [], 0⟩
theorem A2_ok : A2.Ok := Cfg.ok ⟨sub_ok, clamp_ok, basks_ok, trivial⟩ trivial
noncomputable def A3 : Cfg := ⟨Try.prog, lookG [(28, mayS), (76, subS), (64, cutS)], [], 0⟩
theorem A3_ok : A3.Ok := Cfg.ok ⟨refmay_ok, refsub_ok, cut_ok, trivial⟩ trivial
def excT (k : Int → Int) (c : Cf) (r q : Int) : T V :=
  T.ite none (!mayB c) (T.ret (intV 0)) (T.ite none (c.burst == -1000) (T.ret (intV (-1000))) (T.ite none (inR (IntKind.wrap .i64 (IntKind.wrap .i64 (k r * c.limit) * 1000)) && inR q) (T.ite none (inR (cutV (IntKind.wrap .i64 (IntKind.wrap .i64 (k r * c.limit) * 1000) - q)) && inR c.burst)
    (T.ret (intV (cutV (cutV (IntKind.wrap .i64 (IntKind.wrap .i64 (k r * c.limit) * 1000) - q) - c.burst)))) T.fail) T.fail))
theorem room_of {c : Cf} (h : c.May) (r : Int) : IntKind.wrap .i64 (IntKind.wrap .i64 (clampI r 0 1000000 * c.limit) * 1000) = clampI r 0 1000000 * c.limit * 1000 ∧ 0 ≤ clampI r 0 1000000 * c.limit ∧ clampI r 0 1000000 * c.limit ≤ 1000000000 := by
  have h1 := h.limit
  have h2 := clampI_range r (lo := 0) (hi := 1000000) (by omega)
  have h4 : clampI r 0 1000000 * c.limit ≤ 1000000 * 1000 := Int.mul_le_mul h2.2 h1.2 (by omega) (by omega)
  have h5 : 0 ≤ clampI r 0 1000000 * c.limit := Int.mul_nonneg (by omega) (by omega)
  rw [wrap64_in (n := clampI r 0 1000000 * c.limit) (by omega) (by omega), wrap64_in (by omega) (by omega)]
  omega
theorem burst_in {c : Cf} (h : c.May) : -1000 ≤ c.burst ∧ c.burst ≤ 100000000 := by have := h.burst; omega
theorem excT_eval {k : Int → Int} (hk : ∀ r, k r = clampI r 0 1000000) {c : Cf} {r q : Int} (hq : inR q = true) : (excT k c r q).eval = some (intV (excB c r q)) := by
  unfold excT
  rw [hk]
  refine ev_ite (fun h => ?_) fun h => ev_ite (fun h2 => ?_) fun h2 => ?_
  · rw [Bool.not_eq_true'] at h; exact ev_int (by unfold excB; rw [h]; rfl)
  · rw [Bool.not_eq_false'] at h; rw [beq_iff_eq] at h2; exact ev_int (by unfold excB; rw [if_pos h, if_pos h2])
  · rw [Bool.not_eq_false'] at h; rw [beq_eq_false_iff_ne] at h2
    obtain ⟨e, r1, r2⟩ := room_of (may_of h) r
    have hb := burst_in (may_of h)
    rw [e]
    refine ev_then (by rw [inR_in (by omega) (by omega), hq]; rfl) (ev_then (by rw [cutV_inR, inR_in (by omega) (by omega)]; rfl) (ev_int ?_))
    unfold excB; rw [if_pos h, if_neg h2]
theorem exc_ok : SpecOk Try.prog 47 excS := by
  refine SpecOk.cII (execS_plain A2_ok mixed Try.func47 (by kernel_rfl) (by kernel_rfl)) (fun _ _ _ => rfl) fun c r q h => ⟨_, ?_, rfl, rfl⟩
  have e : T.anon (execS A2 noLoops 47 [confV c, intV r, intV q]) = excT (fun r => clampI r 0 1000000) c r q := by kernel_rfl
  rw [← T.eval_anon, e]
  exact excT_eval (fun _ => rfl) h
theorem refexc_ok : SpecOk Try.prog 48 excS := by
  refine SpecOk.cII (execS_plain A3_ok mixed Try.func48 (by kernel_rfl) (by kernel_rfl)) (fun _ _ _ => rfl) fun c r q h => ⟨_, ?_, rfl, rfl⟩
  have e : T.anon (execS A3 noLoops 48 [confV c, intV r, intV q]) = excT (fun r => if 1000000 < if 0 > r then 0 else r then 1000000 else if 0 > r then 0 else r) c r q := by kernel_rfl
  rw [← T.eval_anon, e]
  exact excT_eval (fun r => clamp_min r 0 1000000 (by omega)) h
theorem proxy_ok : SpecOk Try.prog 49 proxyS := by
  refine SpecOk.cII (execS_plain A2_ok mixed Try.func49 (by kernel_rfl) (by kernel_rfl)) (fun _ _ _ => rfl) fun c r q h => ?_
  have e : T.anon (execS A2 noLoops 49 [confV c, intV r, intV q]) = T.ite none (!mayB c) (T.ret V.tt) (T.ite none (c.burst == -1000) (T.ret V.tt) (T.ret (V.s (S.bool (bif decide (r < 1) then true else bif decide (0 < c.burst) then decide (q < 0) else false))))) := by kernel_rfl
  rw [← T.eval_anon, e]
  unfold proxyB
  cases h1 : !mayB c
  · cases h2 : c.burst == -1000
    · exact ⟨_, rfl, rfl, by simp [V.den, S.den, bif_and, bif_or]⟩
    · exact ⟨_, rfl, rfl, by simp [V.den, S.den]⟩
  · exact ⟨_, rfl, rfl, by simp [V.den, S.den]⟩
theorem refproxy_ok : SpecOk Try.prog 50 proxyS := by
  refine SpecOk.cII (execS_plain A3_ok mixed Try.func50 (by kernel_rfl) (by kernel_rfl)) (fun _ _ _ => rfl) fun c r q h => ⟨_, ?_, rfl, rfl⟩
  have e : T.anon (execS A3 noLoops 50 [confV c, intV r, intV q]) = T.ret (V.s (S.bool (bif bif bif !mayB c then true else c.burst == -1000 then true else decide (r < 1) then true else bif decide (0 < c.burst) then decide (q < 0) else false))) := by kernel_rfl
  rw [← T.eval_anon, e]
  exact ev_bool (by unfold proxyB; simp only [bif_and, bif_or])
noncomputable def BT : Cfg := ⟨Try.prog, lookG [(47, excS), (49, proxyS), (30, dfltS)], [], 0⟩
theorem BT_ok : BT.Ok := Cfg.ok ⟨exc_ok, proxy_ok, refdflt_ok, trivial⟩ trivial
theorem told16_ok : SpecOk Try.prog 46 yesS :=
  SpecOk.yes (execS_plain BT_ok mixed Try.func46 (by kernel_rfl) (by kernel_rfl)) (.inl (by kernel_rfl))
noncomputable def BL : Cfg := ⟨Try.prog, lookG [(46, yesS), (47, excS), (49, proxyS), (48, excS), (50, proxyS), (28, mayS)], [], 0⟩
theorem BL_ok : BL.Ok := Cfg.ok ⟨told16_ok, exc_ok, proxy_ok, refexc_ok, refproxy_ok, refmay_ok, trivial⟩ trivial

/-- told truths as truths -/
def bv : V → V
  | .tt => .s (.bool true)
  | .ff => .s (.bool false)
  | v => v
theorem holds_bv {n : Nat} {w : World} {v : V} {x : Value} (h : holdsP n w v x) : holdsP n w (bv v) x := by cases v <;> exact h
theorem rowy_bv {v : V} : rowy (bv v) = rowy v := by cases v <;> rfl
theorem holdsL_bv {n : Nat} {w : World} : ∀ {l : List V} {xs : List Value}, holdsL n w l xs → holdsL n w (l.map bv) xs
  | [], [], _ => trivial
  | v :: r, x :: xs, h => ⟨holds_bv h.1, holdsL_bv h.2⟩
  | [], _ :: _, h => h.elim
  | _ :: _, [], h => h.elim
theorem SpecOk.bv {P : Program} {f : Nat} {sp : Eng.Spec} (h : SpecOk P f sp) : SpecOk P f (fun args => sp (args.map Conf.bv)) :=
  ⟨h.body, fun args v xs w ha he hr hh => h.calls (args.map Conf.bv) v xs w (by
    unfold rowyL at *
    rw [List.all_map, List.all_eq_true] at *
    intro x hx
    show rowy (Conf.bv x) = true
    rw [rowy_bv]
    exact ha x hx) he hr (holdsL_bv hh)⟩

/-! ### alarm -/
def modeV (s m : Int) : V := .agg [intV s, intV m]
structure Md where
  since : Int
  most : Int
def Md.v (m : Md) : V := modeV m.since m.most
def nextA (c : Cf) (m : Md) (n : Int) (b : Bool) : Md :=
  if !mayB c || decide (n < 0) || decide (1099511627776 < n) then m else if b then ⟨n, if m.since < 0 then 0 else m.most⟩ else if m.since < 0 then m else if c.stable ≤ n - m.since then ⟨-1, 0⟩ else m
def keepA (m : Md) (w : Int) : Md := if m.since < 0 then m else ⟨m.since, if w > m.most then w else m.most⟩
def keepW (m : Md) (w : Int) : Int := if m.since < 0 then w else if w > m.most then w else m.most
def nextS' : Eng.Spec
  | [x, .agg [.s (.int .i64 s), .s (.int .i64 m)], .s (.int .i64 n), .s (.bool b)] => asConf x fun c => .ite none (inR s && inR n) (.ret (nextA c ⟨s, m⟩ n b).v) .fail
  | _ => .fail
def rnextS' : Eng.Spec
  | [.agg [.s (.int .i64 s), .s (.int .i64 m)], x, .s (.int .i64 n), .s (.bool b)] => asConf x fun c => .ite none (inR s && inR n) (.ret (nextA c ⟨s, m⟩ n b).v) .fail
  | _ => .fail
def nextS : Eng.Spec := fun args => nextS' (args.map bv)
def rnextS : Eng.Spec := fun args => rnextS' (args.map bv)
def keepS : Eng.Spec
  | [.agg [.s (.int .i64 s), .s (.int .i64 m)], .s (.int .i64 w)] => .ret (.tup [(keepA ⟨s, m⟩ w).v, intV (keepW ⟨s, m⟩ w)])
  | _ => .fail
def isS : Eng.Spec
  | [.agg [.s (.int .i64 s), .s (.int .i64 m)]] => .ret (.s (.bool (decide (0 ≤ s))))
  | _ => .fail
noncomputable def astS : Eng.Spec := execS C0 noLoops 73
theorem ast_ok : SpecOk Try.prog 73 astS := execS_plain C0_ok mixed Try.func73 (by kernel_rfl) (by kernel_rfl)
def calmS : Eng.Spec
  | [] => .ret (modeV (-1) 0)
  | _ => .fail
theorem calm_ok : SpecOk Try.prog 45 calmS := by
  refine (execS_plain C0_ok mixed Try.func45 (by kernel_rfl) (by kernel_rfl)).of_den fun args v hfl h => ?_
  clear hfl
  unfold calmS at h
  split at h
  · obtain rfl := Option.some.inj h
    have e : execS C0 noLoops 45 [] = .ret (modeV (-1) 0) := by kernel_rfl
    rw [e]
    exact ⟨_, rfl, ⟨rfl, rfl⟩, rfl⟩
  · cases h
noncomputable def A4 : Cfg := ⟨Try.prog, lookG [(73, astS)], [], 0⟩
theorem A4_ok : A4.Ok := Cfg.ok ⟨ast_ok, trivial⟩ trivial
noncomputable def arnS : Eng.Spec := execS A4 noLoops 72
theorem arn_ok : SpecOk Try.prog 72 arnS := execS_plain A4_ok mixed Try.func72 (by kernel_rfl) (by kernel_rfl)
noncomputable def A5 : Cfg := ⟨Try.prog, lookG [(71, mayS), (73, astS), (45, calmS), (72, arnS)], [], 0⟩
theorem A5_ok : A5.Ok := Cfg.ok ⟨may_ok, ast_ok, calm_ok, arn_ok, trivial⟩ trivial
theorem is_ok : SpecOk Try.prog 43 isS := by
  refine (execS_plain A4_ok mixed Try.func43 (by kernel_rfl) (by kernel_rfl)).of_den fun args v hfl h => ?_
  clear hfl
  unfold isS at h
  split at h
  · rename_i s m
    obtain rfl := Option.some.inj h
    have e : T.anon (execS A4 noLoops 43 [modeV s m]) = .ite none (decide (s < 0)) (.ret .ff) (.ret .tt) := by kernel_rfl
    rw [← T.eval_anon, show execS A4 noLoops 43 [.agg [.s (.int .i64 s), .s (.int .i64 m)]] = execS A4 noLoops 43 [modeV s m] from rfl, e]
    by_cases hs : s < 0
    · rw [decide_eq_true hs]; exact ⟨_, rfl, ⟨rfl, rfl⟩, by rw [decide_eq_false (by omega)]; rfl⟩
    · rw [decide_eq_false hs]; exact ⟨_, rfl, ⟨rfl, rfl⟩, by rw [decide_eq_true (by omega)]; rfl⟩
  · cases h
theorem refis_ok : SpecOk Try.prog 44 isS := by
  refine (execS_plain A4_ok mixed Try.func44 (by kernel_rfl) (by kernel_rfl)).of_den fun args v hfl h => ?_
  clear hfl
  unfold isS at h
  split at h
  · rename_i s m
    obtain rfl := Option.some.inj h
    have e : T.anon (execS A4 noLoops 44 [modeV s m]) = .ret (.s (.bool (decide (0 ≤ s)))) := by kernel_rfl
    rw [← T.eval_anon, show execS A4 noLoops 44 [.agg [.s (.int .i64 s), .s (.int .i64 m)]] = execS A4 noLoops 44 [modeV s m] from rfl, e]
    exact ⟨_, rfl, ⟨rfl, rfl⟩, rfl⟩
  · cases h
theorem ev_mode {i : Md} {a b : Int} (h1 : a = i.since) (h2 : b = i.most) : (T.ret (V.agg [V.s (.int .i64 a), V.s (.int .i64 b)])).eval = some i.v := by rw [h1, h2]; rfl
theorem next_ok : SpecOk Try.prog 38 nextS := by
  refine SpecOk.bv (sp := nextS') ?_
  refine (execS_plain A5_ok mixed Try.func38 (by kernel_rfl) (by kernel_rfl)).of_den fun args v hfl h => ?_
  clear hfl
  unfold nextS' at h
  split at h
  · rename_i x s m n b
    obtain ⟨c, rfl, h⟩ := asConf_some h
    obtain ⟨hc, h⟩ := guard_eval h
    obtain rfl := Option.some.inj h
    refine ⟨_, ?_, ⟨rfl, rfl⟩, rfl⟩
    have e : T.anon (execS A5 noLoops 38 [confV c, .agg [.s (.int .i64 s), .s (.int .i64 m)], .s (.int .i64 n), .s (.bool b)]) = T.ite none (bif bif !mayB c then true else decide (n < 0) then true else decide (1099511627776 < n)) (.ret (modeV s m))
      (T.ite none b (T.ite none (decide (s < 0)) (.ret (modeV n 0)) (.ret (modeV n m))) (T.ite none (decide (s < 0)) (.ret (modeV s m)) (T.ite none (decide (c.stable ≤ IntKind.wrap .i64 (n - s))) (.ret (modeV (-1) 0)) (.ret (modeV s m))))) := by kernel_rfl
    rw [← T.eval_anon, e]
    simp only [Bool.and_eq_true, inR_iff] at hc
    unfold nextA
    simp only [bif_or]
    refine ev_ite (fun h1 => ?_) fun h1 => ?_
    · rw [if_pos h1]; rfl
    · rw [if_neg (by simp [h1])]
      have hn : 0 ≤ n ∧ n ≤ 1099511627776 := by simp only [Bool.or_eq_false_iff, decide_eq_false_iff_not] at h1; omega
      refine ev_ite (fun h2 => ?_) fun h2 => ?_
      · rw [h2]
        refine ev_ite (fun h3 => ?_) fun h3 => ?_ <;> simp only [decide_eq_true_eq, decide_eq_false_iff_not] at h3
        · exact ev_mode rfl (by simp [h3])
        · exact ev_mode rfl (by simp [h3])
      · rw [h2]
        refine ev_ite (fun h3 => ?_) fun h3 => ev_ite (fun h4 => ?_) fun h4 => ?_ <;> simp only [decide_eq_true_eq, decide_eq_false_iff_not] at h3
        · simp only [h3, if_true, Bool.false_eq_true, if_false]; rfl
        · rw [wrap64_in (by omega) (by omega), decide_eq_true_eq] at h4
          simp only [h3, h4, if_true, Bool.false_eq_true, if_false]; rfl
        · rw [wrap64_in (by omega) (by omega), decide_eq_false_iff_not] at h4
          simp only [h3, h4, Bool.false_eq_true, if_false]; rfl
  · cases h
noncomputable def A6 : Cfg := ⟨Try.prog, lookG [(28, mayS), (44, isS)], [], 0⟩
theorem A6_ok : A6.Ok := Cfg.ok ⟨refmay_ok, refis_ok, trivial⟩ trivial
theorem refnext_ok : SpecOk Try.prog 39 rnextS := by
  refine SpecOk.bv (sp := rnextS') ?_
  refine (execS_plain A6_ok mixed Try.func39 (by kernel_rfl) (by kernel_rfl)).of_den fun args v hfl h => ?_
  clear hfl
  unfold rnextS' at h
  split at h
  · rename_i s m x n b
    obtain ⟨c, rfl, h⟩ := asConf_some h
    obtain ⟨hc, h⟩ := guard_eval h
    obtain rfl := Option.some.inj h
    refine ⟨_, ?_, ⟨rfl, rfl⟩, rfl⟩
    have e : T.anon (execS A6 noLoops 39 [.agg [.s (.int .i64 s), .s (.int .i64 m)], confV c, .s (.int .i64 n), .s (.bool b)]) = T.ite none (bif bif !mayB c then true else decide (n < 0) then true else decide (1099511627776 < n)) (.ret (modeV s m))
      (T.ite none (bif b then decide (0 ≤ s) else false) (.ret (modeV n m)) (T.ite none b (.ret (modeV n 0)) (T.ite none (bif decide (0 ≤ s) then decide (s ≤ IntKind.wrap .i64 (n - c.stable)) else false) (.ret (modeV (-1) 0)) (.ret (modeV s m))))) := by kernel_rfl
    rw [← T.eval_anon, e]
    simp only [Bool.and_eq_true, inR_iff] at hc
    unfold nextA
    simp only [bif_or, bif_and]
    refine ev_ite (fun h1 => ?_) fun h1 => ?_
    · rw [if_pos h1]; rfl
    · rw [if_neg (by simp [h1])]
      simp only [Bool.or_eq_false_iff, decide_eq_false_iff_not, Bool.not_eq_false'] at h1
      have hst := (may_of h1.1.1).stable
      rw [wrap64_in (n := n - c.stable) (by omega) (by omega)]
      refine ev_ite (fun h2 => ?_) fun h2 => ev_ite (fun h3 => ?_) fun h3 => ev_ite (fun h4 => ?_) fun h4 => ?_
      · simp only [Bool.and_eq_true, decide_eq_true_eq] at h2
        rw [h2.1]; exact ev_mode rfl (by simp; omega)
      · rw [h3] at h2 ⊢
        simp only [Bool.true_and, decide_eq_false_iff_not] at h2
        exact ev_mode rfl (by simp; omega)
      · simp only [Bool.and_eq_true, decide_eq_true_eq] at h4
        rw [h3]
        simp only [Bool.false_eq_true, if_false]
        rw [if_neg (by omega), if_pos (by omega)]; rfl
      · simp only [Bool.and_eq_false_iff, decide_eq_false_iff_not] at h4
        rw [h3]
        simp only [Bool.false_eq_true, if_false]
        by_cases hs : s < 0
        · rw [if_pos hs]; rfl
        · rw [if_neg hs, if_neg (by omega)]; rfl
  · cases h
theorem keep_ok : SpecOk Try.prog 40 keepS := by
  refine (execS_plain A4_ok mixed Try.func40 (by kernel_rfl) (by kernel_rfl)).of_den fun args v hfl h => ?_
  clear hfl
  unfold keepS at h
  split at h
  · rename_i s m n
    obtain rfl := Option.some.inj h
    refine ⟨_, ?_, ⟨rfl, rfl⟩, rfl⟩
    have e : T.anon (execS A4 noLoops 40 [.agg [.s (.int .i64 s), .s (.int .i64 m)], .s (.int .i64 n)]) = T.ite none (decide (s < 0)) (.ret (.tup [modeV s m, intV n])) (.ret (.tup [modeV s (if n > m then n else m), intV (if n > m then n else m)])) := by kernel_rfl
    rw [← T.eval_anon, e]
    unfold keepA keepW
    by_cases hs : s < 0
    · rw [decide_eq_true hs, if_pos hs, if_pos hs]; rfl
    · rw [decide_eq_false hs, if_neg hs, if_neg hs]; rfl
  · cases h
theorem refkeep_ok : SpecOk Try.prog 41 keepS := by
  refine (execS_plain A6_ok mixed Try.func41 (by kernel_rfl) (by kernel_rfl)).of_den fun args v hfl h => ?_
  clear hfl
  unfold keepS at h
  split at h
  · rename_i s m n
    obtain rfl := Option.some.inj h
    refine ⟨_, ?_, ⟨rfl, rfl⟩, rfl⟩
    have e : T.anon (execS A6 noLoops 41 [.agg [.s (.int .i64 s), .s (.int .i64 m)], .s (.int .i64 n)]) = T.ite none (!decide (0 ≤ s)) (.ret (.tup [modeV s m, intV n])) (.ret (.tup [modeV s (if n > m then n else m), intV (if n > m then n else m)])) := by kernel_rfl
    rw [← T.eval_anon, e]
    unfold keepA keepW
    by_cases hs : s < 0
    · rw [decide_eq_false (show ¬ 0 ≤ s by omega), if_pos hs, if_pos hs]; rfl
    · rw [decide_eq_true (show 0 ≤ s by omega), if_neg hs, if_neg hs]; rfl
  · cases h
noncomputable def AT : Cfg := ⟨Try.prog, lookG [(38, nextS), (40, keepS), (43, isS), (45, calmS), (30, dfltS)], [42], 0⟩
theorem AT_ok : AT.Ok := Cfg.ok ⟨next_ok, keep_ok, is_ok, calm_ok, refdflt_ok, trivial⟩ ⟨⟨by kernel_rfl, by kernel_rfl⟩, trivial⟩
theorem told14_ok : SpecOk Try.prog 42 yesS :=
  SpecOk.yes (execS_plain AT_ok mixed Try.func42 (by kernel_rfl) (by kernel_rfl)) (.inl (by kernel_rfl))
noncomputable def AL : Cfg := ⟨Try.prog, lookG [(42, yesS), (38, nextS), (40, keepS), (43, isS), (45, calmS), (39, rnextS), (41, keepS), (44, isS), (30, dfltS)], [42], 0⟩
theorem AL_ok : AL.Ok := Cfg.ok ⟨told14_ok, next_ok, keep_ok, is_ok, calm_ok, refnext_ok, refkeep_ok, refis_ok, refdflt_ok, trivial⟩ ⟨⟨by kernel_rfl, by kernel_rfl⟩, trivial⟩

/-! ### zero -/
def nextZ (s n : Int) (b : Bool) : Int := if b then (if s < 0 then n else s) else -1
def mayZ (c : Cf) (s n m w b : Int) : Bool := (m == 0) && (w == 0) && (b == 0) && decide (0 ≤ s) && mayB c && (c.min == 0) && decide (s ≤ n) && decide (c.grace ≤ n - s)
def wantZ (c : Cf) (s n want have_ m w b : Int) : Int := if 0 < want then want else if ((have_ == 0) && (w == 0)) || mayZ c s n m w b then 0 else 1
def stV (s : Int) : V := .agg [intV s]
def znextS' : Eng.Spec
  | [.agg [.s (.int .i64 s)], .s (.int .i64 n), .s (.bool b)] => .ret (stV (nextZ s n b))
  | _ => .fail
def znextS : Eng.Spec := fun args => znextS' (args.map bv)
def zrefS' : Eng.Spec
  | [.s (.int .i64 s), .s (.int .i64 n), .s (.bool b)] => .ret (intV (nextZ s n b))
  | _ => .fail
def zrefS : Eng.Spec := fun args => zrefS' (args.map bv)
def zmayS : Eng.Spec
  | [x, .agg [.s (.int .i64 s)], .s (.int .i64 n), .s (.int .i64 m), .s (.int .i64 w), .s (.int .i64 b)] => asConf x fun c => .ite none (inR s && inR n) (.ret (.s (.bool (mayZ c s n m w b)))) .fail
  | _ => .fail
def zrmayS : Eng.Spec
  | [x, .s (.int .i64 s), .s (.int .i64 n), .s (.int .i64 m), .s (.int .i64 w), .s (.int .i64 b)] => asConf x fun c => .ite none (inR s && inR n) (.ret (.s (.bool (mayZ c s n m w b)))) .fail
  | _ => .fail
def zwantS : Eng.Spec
  | [x, .agg [.s (.int .i64 s)], .s (.int .i64 n), .s (.int .i64 want), .s (.int .i64 hv), .s (.int .i64 m), .s (.int .i64 w), .s (.int .i64 b)] => asConf x fun c => .ite none (inR s && inR n) (.ret (intV (wantZ c s n want hv m w b))) .fail
  | _ => .fail
def zrwantS : Eng.Spec
  | [x, .s (.int .i64 s), .s (.int .i64 n), .s (.int .i64 want), .s (.int .i64 hv), .s (.int .i64 m), .s (.int .i64 w), .s (.int .i64 b)] => asConf x fun c => .ite none (inR s && inR n) (.ret (intV (wantZ c s n want hv m w b))) .fail
  | _ => .fail
noncomputable def wayS : Eng.Spec := execS C0 noLoops 77
theorem way_ok : SpecOk Try.prog 77 wayS := execS_plain C0_ok mixed Try.func77 (by kernel_rfl) (by kernel_rfl)
noncomputable def grS : Eng.Spec := execS C0 noLoops 78
theorem gr_ok : SpecOk Try.prog 78 grS := execS_plain C0_ok mixed Try.func78 (by kernel_rfl) (by kernel_rfl)
noncomputable def znewS : Eng.Spec := execS C0 noLoops 58
theorem znew_ok : SpecOk Try.prog 58 znewS := execS_plain C0_ok mixed Try.func58 (by kernel_rfl) (by kernel_rfl)
noncomputable def Z1 : Cfg := ⟨Try.prog, lookG [(71, mayS), (77, wayS), (78, grS), (58, znewS), (28, mayS)], [], 0⟩
theorem Z1_ok : Z1.Ok := Cfg.ok ⟨may_ok, way_ok, gr_ok, znew_ok, refmay_ok, trivial⟩ trivial
theorem ev_st {a b : Int} (h : a = b) : (T.ret (V.agg [V.s (.int .i64 a)])).eval = some (stV b) := by rw [h]; rfl
theorem znext_ok : SpecOk Try.prog 52 znextS := by
  refine SpecOk.bv (sp := znextS') ?_
  refine (execS_plain Z1_ok mixed Try.func52 (by kernel_rfl) (by kernel_rfl)).of_den fun args v hfl h => ?_
  clear hfl
  unfold znextS' at h
  split at h
  · rename_i s n b
    obtain rfl := Option.some.inj h
    refine ⟨_, ?_, ⟨rfl, rfl⟩, rfl⟩
    have e : T.anon (execS Z1 noLoops 52 [.agg [.s (.int .i64 s)], .s (.int .i64 n), .s (.bool b)]) = T.ite none (!b) (.ret (stV (-1))) (T.ite none (decide (s < 0)) (.ret (stV n)) (.ret (stV s))) := by kernel_rfl
    rw [← T.eval_anon, e]
    unfold nextZ
    refine ev_ite (fun h => ?_) fun h => ev_ite (fun h2 => ?_) fun h2 => ?_ <;> simp only [Bool.not_eq_true', Bool.not_eq_false', decide_eq_true_eq, decide_eq_false_iff_not] at *
    · subst h; exact ev_st rfl
    · subst h; exact ev_st (by simp [h2])
    · subst h; exact ev_st (by simp [h2])
  · cases h
theorem zref_ok : SpecOk Try.prog 53 zrefS := by
  refine SpecOk.bv (sp := zrefS') ?_
  refine (execS_plain Z1_ok mixed Try.func53 (by kernel_rfl) (by kernel_rfl)).of_den fun args v hfl h => ?_
  clear hfl
  unfold zrefS' at h
  split at h
  · rename_i s n b
    obtain rfl := Option.some.inj h
    refine ⟨_, ?_, ⟨rfl, rfl⟩, rfl⟩
    have e : T.anon (execS Z1 noLoops 53 [.s (.int .i64 s), .s (.int .i64 n), .s (.bool b)]) = T.ite none (!b) (.ret (intV (-1))) (T.ite none (decide (0 ≤ s)) (.ret (intV s)) (.ret (intV n))) := by kernel_rfl
    rw [← T.eval_anon, e]
    unfold nextZ
    refine ev_ite (fun h => ?_) fun h => ev_ite (fun h2 => ?_) fun h2 => ?_ <;> simp only [Bool.not_eq_true', Bool.not_eq_false', decide_eq_true_eq, decide_eq_false_iff_not] at *
    · subst h; exact ev_int rfl
    · subst h; exact ev_int (by simp; omega)
    · subst h; exact ev_int (by simp; omega)
  · cases h
theorem zmay_tree {c : Cf} {s n m w b : Int} (hs : -9223372036854775808 ≤ s) (hn : n ≤ 9223372036854775807) : ∃ v, (T.ite none (bif bif m != 0 then true else w != 0 then true else b != 0) (T.ret V.ff) (T.ite none (decide (s < 0)) (T.ret V.ff) (T.ret (V.s (.bool (bif bif mayB c then c.min == 0 else false then bif decide (s ≤ n) then decide (c.grace ≤ IntKind.wrap .i64 (n - s)) else false else false)))))).eval = some v ∧ flat v = true ∧ v.den nu0 = .bool (mayZ c s n m w b) := by
  unfold mayZ
  by_cases h1 : (bif bif m != 0 then true else w != 0 then true else b != 0) = true
  · rw [h1]
    refine ⟨.ff, rfl, rfl, ?_⟩
    have : ((m == 0) && (w == 0) && (b == 0)) = false := by
      simp only [bif_or, Bool.or_eq_true, bne_iff_ne] at h1
      simp only [Bool.and_eq_false_iff, beq_eq_false_iff_ne]; exact h1
    simp only [V.den]
    rw [this]; simp
  · have h1 : (bif bif m != 0 then true else w != 0 then true else b != 0) = false := by simpa using h1
    have e1 : ((m == 0) && (w == 0) && (b == 0)) = true := by
      simp only [bif_or, Bool.or_eq_false_iff] at h1
      simp only [Bool.and_eq_true]; simpa [bne] using h1
    rw [h1, e1]
    by_cases h2 : s < 0
    · rw [decide_eq_true h2, decide_eq_false (show ¬ 0 ≤ s by omega)]
      exact ⟨.ff, rfl, rfl, by simp [V.den]⟩
    · rw [decide_eq_false h2, decide_eq_true (show 0 ≤ s by omega)]
      refine ⟨_, rfl, rfl, ?_⟩
      simp only [V.den, S.den, bif_and, Bool.true_and]
      by_cases h3 : s ≤ n
      · rw [wrap64_in (n := n - s) (by omega) (by omega)]
        simp only [Bool.and_assoc]
      · rw [decide_eq_false h3]; simp
theorem zmay_ok : SpecOk Try.prog 54 zmayS := by
  refine (execS_plain Z1_ok mixed Try.func54 (by kernel_rfl) (by kernel_rfl)).of_den fun args v hfl h => ?_
  clear hfl
  unfold zmayS at h
  split at h
  · rename_i x s n m w b
    obtain ⟨c, rfl, h⟩ := asConf_some h
    obtain ⟨hc, h⟩ := guard_eval h
    obtain rfl := Option.some.inj h
    simp only [Bool.and_eq_true, inR_iff] at hc
    have e : T.anon (execS Z1 noLoops 54 [confV c, .agg [.s (.int .i64 s)], .s (.int .i64 n), .s (.int .i64 m), .s (.int .i64 w), .s (.int .i64 b)]) = T.ite none (bif bif m != 0 then true else w != 0 then true else b != 0) (T.ret V.ff) (T.ite none (decide (s < 0)) (T.ret V.ff) (T.ret (V.s (.bool (bif bif mayB c then c.min == 0 else false then bif decide (s ≤ n) then decide (c.grace ≤ IntKind.wrap .i64 (n - s)) else false else false))))) := by kernel_rfl
    rw [← T.eval_anon, e]
    obtain ⟨v, h1, h2, h3⟩ := zmay_tree (c := c) (m := m) (w := w) (b := b) hc.1.1 hc.2.2
    exact ⟨v, h1, ⟨h2, rfl⟩, h3⟩
  · cases h
theorem zrmay_ok : SpecOk Try.prog 55 zrmayS := by
  refine (execS_plain Z1_ok mixed Try.func55 (by kernel_rfl) (by kernel_rfl)).of_den fun args v hfl h => ?_
  clear hfl
  unfold zrmayS at h
  split at h
  · rename_i x s n m w b
    obtain ⟨c, rfl, h⟩ := asConf_some h
    obtain ⟨hc, h⟩ := guard_eval h
    obtain rfl := Option.some.inj h
    simp only [Bool.and_eq_true, inR_iff] at hc
    have e : T.anon (execS Z1 noLoops 55 [confV c, .s (.int .i64 s), .s (.int .i64 n), .s (.int .i64 m), .s (.int .i64 w), .s (.int .i64 b)]) = T.ret (V.s (.bool (bif bif bif bif bif bif bif mayB c then c.min == 0 else false then m == 0 else false then w == 0 else false then b == 0 else false then decide (0 ≤ s) else false then decide (s ≤ n) else false then decide (IntKind.wrap .u64 c.grace ≤ IntKind.wrap .u64 (IntKind.wrap .u64 n - IntKind.wrap .u64 s)) else false))) := by kernel_rfl
    rw [← T.eval_anon, e]
    refine ⟨_, ev_bool (a' := mayZ c s n m w b) ?_, ⟨rfl, rfl⟩, rfl⟩
    simp only [bif_and]
    unfold mayZ
    cases hm : mayB c
    · simp
    · by_cases h3 : 0 ≤ s
      · by_cases h4 : s ≤ n
        · have hg := (may_of hm).grace
          rw [wrapu64, wrapu64, wrapu64, wrapu64]
          rw [show (n % 18446744073709551616 - s % 18446744073709551616) % 18446744073709551616 = n - s by omega, show c.grace % 18446744073709551616 = c.grace by omega]
          rw [decide_eq_true h3, decide_eq_true h4]
          cases (m == 0) <;> cases (w == 0) <;> cases (b == 0) <;> cases (c.min == 0) <;> simp
        · rw [decide_eq_false h4]; simp
      · rw [decide_eq_false h3]; simp
  · cases h
noncomputable def Z2 : Cfg := ⟨Try.prog, lookG [(54, zmayS), (55, zrmayS)], [], 0⟩
theorem Z2_ok : Z2.Ok := Cfg.ok ⟨zmay_ok, zrmay_ok, trivial⟩ trivial
end Go.Proofs.Ytdkebjdhpioehaa.Conf
