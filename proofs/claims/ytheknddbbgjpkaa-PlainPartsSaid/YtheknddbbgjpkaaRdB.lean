/- Layer 5: the document's ring: the rounds of its loops. -/
import Derived.Test.YtheknddbbgjpkaaRdA
namespace Go.Proofs.Ytheknddbbgjpkaa.Rin
open Go.Eng Go.RowKit Mil
set_option linter.unusedVariables false
set_option linter.unusedSimpArgs false
abbrev TV := Int × Int
def xF (l : List TV) (j : Int) : TV := l.getD (0 + j.toNat) (0, 0)
theorem xF_at {l : List TV} {j : Int} (h0 : 0 ≤ j) (h : j.toNat < l.length) : xF l j = l[j.toNat] := getD0 rfl h
/-- what the document's ring may be -/
structure OkD (w g : Int) (nw : Int) (l : List TV) : Prop where
  g1 : 1 ≤ g
  g2 : g ≤ w
  w1 : w ≤ 600
  n0 : -1 ≤ nw
  n1 : nw ≤ 1099511627776
  ln : l.length ≤ 100000
  el : ∀ x ∈ l, 0 ≤ x.1 ∧ x.1 ≤ 1099511627776 ∧ 0 ≤ x.2 ∧ x.2 ≤ 9223372036854775807
theorem nnI_is {w g : Int} (h1 : 1 ≤ g) (h2 : g ≤ w) (h3 : w ≤ 600) : nnI w g = (nN w g : Nat) := by
  obtain ⟨n0, n1, n2, _⟩ := nN_bd h1 h2 h3
  unfold nnI
  rw [wrap64_in (n := w + g) (by omega) (by omega), wrap64_in (n := w + g - 1) (by omega) (by omega), ← n2]
  exact wrap64_in (by omega) (by omega)
def kpD (w g nw : Int) (x : TV) : Bool := decide (nw - Int.tdiv x.1 g < (nN w g : Nat))
def dFo (p : PFo) (a : AFo) : Int := IntKind.wrap .i64 (p.nw - IntKind.wrap .i64 (Int.tdiv (xF p.l a.j).1 p.g))
theorem wayFo0 (p : PFo) (a : AFo) : T.path [true, true, true, false, false, false] (rdFo p a) = some ([(decide (a.j < (p.n : Int)), true), (idR p.l p.n a.j, true), (ldR p.l a.j, true), (p.g == 0, false), (p.g == 0, false), (decide (dFo p a < nnI p.w p.g), false)], (.normal, FFo p ⟨a.m, a.k, IntKind.wrap .i64 (a.j + 1)⟩)) := by kernel_rfl
theorem wayFo1 (p : PFo) (a : AFo) : T.path [true, true, true, false, false, true, true, true, true] (rdFo p a) = some ([(decide (a.j < (p.n : Int)), true), (idR p.l p.n a.j, true), (ldR p.l a.j, true), (p.g == 0, false), (p.g == 0, false), (decide (dFo p a < nnI p.w p.g), true), (idR p.l p.n a.j, true), (ldR p.l a.j, true), (apC a.m a.k ((xF p.l a.j).1, (xF p.l a.j).2), true)],
   (.normal, FFo p ⟨a.m + [((xF p.l a.j).1, (xF p.l a.j).2)].length, List.take a.m a.k ++ [((xF p.l a.j).1, (xF p.l a.j).2)], IntKind.wrap .i64 (a.j + 1)⟩)) := by kernel_rfl
theorem wayFox (p : PFo) (a : AFo) : T.path [false] (rdFo p a) = some ([(decide (a.j < (p.n : Int)), false)], (.exit 0, FFo p a)) := by kernel_rfl
structure okFo (p : PFo) (a : AFo) : Prop where
  d : OkD p.w p.g p.nw p.l
  n : p.n = p.l.length
  j0 : 0 ≤ a.j
  j1 : a.j ≤ p.n
  m : a.m = a.k.length
  k : a.k = (p.l.take a.j.toNat).filter (kpD p.w p.g p.nw)
def goFo (p : PFo) (a : AFo) : Bool := decide (a.j < (p.n : Int))
def muFo (p : PFo) (a : AFo) : Nat := (p.n - a.j).toNat
theorem tdiv_w {t g : Int} (h0 : 0 ≤ t) (h1 : t ≤ 9223372036854775807) (hg : 1 ≤ g) : IntKind.wrap .i64 (Int.tdiv t g) = Int.tdiv t g := by
  obtain ⟨q1, q2⟩ := tdiv_bd h0 hg
  exact wrap64_in (by omega) (by omega)
theorem stepFo (p : PFo) (a : AFo) (h : okFo p a) (hg : goFo p a = true) : ∃ b, stepC okFo rdFo FFo muFo p a b := by
  obtain ⟨d, hn, j0, j1, hm, hk⟩ := h
  have hj : a.j < (p.n : Int) := of_decide_eq_true hg
  have hl := d.ln
  have e1 : IntKind.wrap .i64 (a.j + 1) = a.j + 1 := wrap64_in (by omega) (by omega)
  obtain ⟨x1, x2⟩ := idR_is (g := p.l) (k := p.n) (i := a.j) hn j0 hj
  have hlt : a.j.toNat < p.l.length := by omega
  have hx := xF_at j0 hlt
  obtain ⟨y1, y2, y3, y4⟩ := d.el _ (List.getElem_mem hlt)
  obtain ⟨q1, q2⟩ := tdiv_bd y1 d.g1
  have g0 : (p.g == 0) = false := by rw [beq_eq_false_iff_ne]; have := d.g1; omega
  have n0 := d.n0
  have n1 := d.n1
  have hd : decide (dFo p a < nnI p.w p.g) = kpD p.w p.g p.nw p.l[a.j.toNat] := by
    unfold dFo kpD
    rw [hx, tdiv_w y1 (by omega) d.g1, nnI_is d.g1 d.g2 d.w1, wrap64_in (by omega) (by omega)]
  have tk := take_next j0 hlt
  have mu : (p.n - IntKind.wrap .i64 (a.j + 1)).toNat < (p.n - a.j).toNat := by rw [e1]; omega
  have f3 : 0 ≤ IntKind.wrap .i64 (a.j + 1) := by rw [e1]; omega
  have f4 : IntKind.wrap .i64 (a.j + 1) ≤ p.n := by rw [e1]; omega
  have kl : a.k.length ≤ 100000 := by rw [hk]; have := List.length_filter_le (kpD p.w p.g p.nw) (p.l.take a.j.toNat); rw [List.length_take] at this; omega
  cases hkp : kpD p.w p.g p.nw p.l[a.j.toNat] with
  | false =>
    refine ⟨_, T.path_eval (wayFo0 p a) ⟨hg, x1, x2, g0, g0, by rw [hd]; exact hkp, trivial⟩, ⟨d, hn, f3, f4, hm, ?_⟩, mu⟩
    show a.k = (p.l.take (IntKind.wrap .i64 (a.j + 1)).toNat).filter _
    rw [e1, tk, List.filter_append, ← hk, List.filter_cons, hkp]; simp
  | true =>
    refine ⟨_, T.path_eval (wayFo1 p a) ⟨hg, x1, x2, g0, g0, by rw [hd]; exact hkp, x1, x2, apC_is _ hm kl, trivial⟩, ⟨d, hn, f3, f4, ?_, ?_⟩, mu⟩
    · show a.m + 1 = (List.take a.m a.k ++ [_]).length
      rw [hm, List.take_length, List.length_append]; rfl
    · show List.take a.m a.k ++ [((xF p.l a.j).1, (xF p.l a.j).2)] = (p.l.take (IntKind.wrap .i64 (a.j + 1)).toNat).filter _
      rw [e1, tk, List.filter_append, ← hk, List.filter_cons, hkp, hm, List.take_length, hx]; simp
theorem exFo (p : PFo) (a : AFo) (h : okFo p a) (hg : goFo p a = false) : (rdFo p a).eval = some (.exit 0, FFo p a) := T.path_eval (wayFox p a) ⟨hg, trivial⟩
noncomputable def famFo : LSpec := famC [0,2,3] SFo 1000 1001 45 decFo okFo goFo rdFo FFo muFo (.exit 0)
theorem lpFo_ok : LoopOk D1 lpFo famFo := famC_ok (vs := vsFo) (bs := bsFo) D1_ok mixed (noLoops_ok _) decFo_ok (by simp) (fun _ _ => rfl) (fun _ _ => rfl) stepFo exFo
noncomputable def foD0 : Eng.Obj := execO D1 (byReg [(rgFo, famFo)]) 96
theorem foD0_ok : ObjOk Try.prog 96 foD0 := execO_loops D1_ok mixed Try.func96 (by kernel_rfl) (by kernel_rfl) (one_lp (by kernel_rfl) rgFo_is lpFo_ok)
noncomputable def foD1 : Eng.Obj := fun args h0 => (foD0 args h0).bind (tidyO 1 h0)
theorem foD1_ok : ObjOk Try.prog 96 foD1 := foD0_ok.tidy 1
/-! ### Sum -/
def dDs (p : PDs) (a : ADs) : Int := IntKind.wrap .i64 (IntKind.wrap .i64 (Int.tdiv p.t p.g) - IntKind.wrap .i64 (Int.tdiv (xF p.l a.j).1 p.g))
def hdDs (p : PDs) (a : ADs) : List (Bool × Bool) := [(bif decide (a.j < (p.n : Int)) then decide (0 ≤ p.t) else false, true), (p.g == 0, false), (idR p.l p.n a.j, true), (ldR p.l a.j, true), (p.g == 0, false)]
def skDs (p : PDs) (a : ADs) : Bool := bif decide (dDs p a < 0) then true else decide (nnI p.w p.g ≤ dDs p a)
theorem wayDsa (p : PDs) (a : ADs) : T.path [true, false, true, true, false, true, true, true] (rdDs p a) = some (hdDs p a ++ [(decide (dDs p a < 0), true), (decide (dDs p a < 0), true), (decide (dDs p a < 0), true)], (.normal, FDs p ⟨a.ov, a.s, a.c, IntKind.wrap .i64 (a.j + 1)⟩)) := by kernel_rfl
theorem wayDsb (p : PDs) (a : ADs) : T.path [true, false, true, true, false, false, false, true] (rdDs p a) = some (hdDs p a ++ [(decide (dDs p a < 0), false), (p.g == 0, false), (skDs p a, true)], (.normal, FDs p ⟨a.ov, a.s, a.c, IntKind.wrap .i64 (a.j + 1)⟩)) := by kernel_rfl
theorem wayDsc (p : PDs) (a : ADs) : T.path [true, false, true, true, false, false, false, false, true, true, true] (rdDs p a) = some (hdDs p a ++ [(decide (dDs p a < 0), false), (p.g == 0, false), (skDs p a, false), (idR p.l p.n a.j, true), (ldR p.l a.j, true), (Sta.inR a.s && Sta.inR (xF p.l a.j).2, true)],
  (.normal, FDs p ⟨bif a.ov then true else Mil.cutE (a.s + (xF p.l a.j).2) != 0, Mil.cutV (a.s + (xF p.l a.j).2), IntKind.wrap .i64 (a.c + 1), IntKind.wrap .i64 (a.j + 1)⟩)) := by kernel_rfl
theorem wayDsx (p : PDs) (a : ADs) : T.path [false] (rdDs p a) = some ([(bif decide (a.j < (p.n : Int)) then decide (0 ≤ p.t) else false, false)], (.exit 0, FDs p a)) := by kernel_rfl
/-- is it summed? -/
def inD (w g t : Int) (x : TV) : Bool := decide (0 ≤ t) && (decide (0 ≤ Int.tdiv t g - Int.tdiv x.1 g) && decide (Int.tdiv t g - Int.tdiv x.1 g < (nN w g : Nat)))
structure okDs (p : PDs) (a : ADs) : Prop where
  d : OkD p.w p.g p.nw p.l
  t1 : p.t ≤ 9223372036854775807
  n : p.n = p.l.length
  j0 : 0 ≤ a.j
  j1 : a.j ≤ p.n
  s : a.s = Mil.cutV (sv ((p.l.take a.j.toNat).filter (inD p.w p.g p.t)))
  c : a.c = (((p.l.take a.j.toNat).filter (inD p.w p.g p.t)).length : Int)
  ov : a.ov = (p.ov0 || decide (tpI < sv ((p.l.take a.j.toNat).filter (inD p.w p.g p.t))))
  tn : p.t < 0 → a.j = 0
def goDs (p : PDs) (a : ADs) : Bool := bif decide (a.j < (p.n : Int)) then decide (0 ≤ p.t) else false
def muDs (p : PDs) (a : ADs) : Nat := (p.n - a.j).toNat
theorem cutE_ne {s v : Int} (h1 : 0 ≤ s) (h2 : 0 ≤ v) : (decide (tpI < s) || (Mil.cutE (Mil.cutV s + v) != 0)) = decide (tpI < s + v) := by
  rw [← cutE_add h1 h2]
  congr 1
  unfold Mil.cutE
  split <;> rfl
theorem stepDs (p : PDs) (a : ADs) (h : okDs p a) (hg : goDs p a = true) : ∃ b, stepC okDs rdDs FDs muDs p a b := by
  obtain ⟨d, t1, hn, j0, j1, hs, hc, hov, tn⟩ := h
  have hg0 : (decide (a.j < (p.n : Int)) && decide (0 ≤ p.t)) = true := by rw [← cond_and]; exact hg
  simp only [Bool.and_eq_true, decide_eq_true_eq] at hg0
  obtain ⟨hj, t0⟩ := hg0
  have hl := d.ln
  have e1 : IntKind.wrap .i64 (a.j + 1) = a.j + 1 := wrap64_in (by omega) (by omega)
  obtain ⟨x1, x2⟩ := idR_is (g := p.l) (k := p.n) (i := a.j) hn j0 hj
  have hlt : a.j.toNat < p.l.length := by omega
  have hx := xF_at j0 hlt
  obtain ⟨y1, y2, y3, y4⟩ := d.el _ (List.getElem_mem hlt)
  obtain ⟨q1, q2⟩ := tdiv_bd y1 d.g1
  obtain ⟨q3, q4⟩ := tdiv_bd t0 d.g1
  have g0 : (p.g == 0) = false := by rw [beq_eq_false_iff_ne]; have := d.g1; omega
  obtain ⟨n0, n1, _⟩ := nN_bd d.g1 d.g2 d.w1
  have hd : dDs p a = Int.tdiv p.t p.g - Int.tdiv p.l[a.j.toNat].1 p.g := by
    unfold dDs
    rw [hx, tdiv_w y1 (by omega) d.g1, tdiv_w t0 t1 d.g1, wrap64_in (by omega) (by omega)]
  have tk := take_next j0 hlt
  have mu : (p.n - IntKind.wrap .i64 (a.j + 1)).toNat < (p.n - a.j).toNat := by rw [e1]; omega
  have f3 : 0 ≤ IntKind.wrap .i64 (a.j + 1) := by rw [e1]; omega
  have f4 : IntKind.wrap .i64 (a.j + 1) ≤ p.n := by rw [e1]; omega
  have f5 : p.t < 0 → IntKind.wrap .i64 (a.j + 1) = 0 := fun h => by omega
  have hH : allSay (hdDs p a) := ⟨hg, g0, x1, x2, g0, trivial⟩
  have skip : inD p.w p.g p.t p.l[a.j.toNat] = false → okDs p ⟨a.ov, a.s, a.c, IntKind.wrap .i64 (a.j + 1)⟩ := by
    intro hi
    have e : (p.l.take (a.j + 1).toNat).filter (inD p.w p.g p.t) = (p.l.take a.j.toNat).filter (inD p.w p.g p.t) := by rw [tk, List.filter_append, List.filter_cons, hi]; simp
    refine ⟨d, t1, hn, f3, f4, ?_, ?_, ?_, f5⟩
    · show a.s = Mil.cutV (sv ((p.l.take (IntKind.wrap .i64 (a.j + 1)).toNat).filter _)); rw [e1, e]; exact hs
    · show a.c = (((p.l.take (IntKind.wrap .i64 (a.j + 1)).toNat).filter _).length : Int); rw [e1, e]; exact hc
    · show a.ov = (p.ov0 || decide (tpI < sv ((p.l.take (IntKind.wrap .i64 (a.j + 1)).toNat).filter _))); rw [e1, e]; exact hov
  have hin : inD p.w p.g p.t p.l[a.j.toNat] = (decide (0 ≤ dDs p a) && decide (dDs p a < (nN p.w p.g : Nat))) := by unfold inD; rw [hd, decide_eq_true t0]; rfl
  by_cases c1 : dDs p a < 0
  · exact ⟨_, T.path_eval (wayDsa p a) (allSay_append hH ⟨decide_eq_true c1, decide_eq_true c1, decide_eq_true c1, trivial⟩), skip (by rw [hin, decide_eq_false (show ¬ 0 ≤ dDs p a by omega)]; rfl), mu⟩
  · by_cases c2 : ((nN p.w p.g : Nat) : Int) ≤ dDs p a
    · exact ⟨_, T.path_eval (wayDsb p a) (allSay_append hH ⟨decide_eq_false c1, g0, by unfold skDs; rw [decide_eq_false c1, nnI_is d.g1 d.g2 d.w1, decide_eq_true c2]; rfl, trivial⟩), skip (by rw [hin, decide_eq_false (show ¬ dDs p a < (nN p.w p.g : Nat) by omega), Bool.and_false]), mu⟩
    · have hi : inD p.w p.g p.t p.l[a.j.toNat] = true := by rw [hin, decide_eq_true (show 0 ≤ dDs p a by omega), decide_eq_true (show dDs p a < (nN p.w p.g : Nat) by omega)]; rfl
      have e : (p.l.take (a.j + 1).toNat).filter (inD p.w p.g p.t) = (p.l.take a.j.toNat).filter (inD p.w p.g p.t) ++ [p.l[a.j.toNat]] := by rw [tk, List.filter_append, List.filter_cons, hi]; simp
      generalize hF : (p.l.take a.j.toNat).filter (inD p.w p.g p.t) = F at *
      have fn : 0 ≤ sv F := sv_nonneg fun z hz => by
        rw [← hF] at hz
        exact (d.el z (List.mem_of_mem_take (List.mem_filter.1 hz).1)).2.2.1
      have fl : F.length ≤ 100000 := by
        rw [← hF]
        have := List.length_filter_le (inD p.w p.g p.t) (p.l.take a.j.toNat)
        rw [List.length_take] at this; omega
      have se : sv (F ++ [p.l[a.j.toNat]]) = sv F + p.l[a.j.toNat].2 := by rw [sv_append, sv_cons, sv_nil, Int.add_zero]
      have cs := cutV_in fn
      have hR : (Sta.inR a.s && Sta.inR (xF p.l a.j).2) = true := by rw [hs, hx, Sta.inR_iff.2 ⟨by omega, cs.2⟩, Sta.inR_iff.2 ⟨by omega, y4⟩]; rfl
      refine ⟨_, T.path_eval (wayDsc p a) (allSay_append hH ⟨decide_eq_false c1, g0, by unfold skDs; rw [decide_eq_false c1, nnI_is d.g1 d.g2 d.w1, decide_eq_false c2]; rfl, x1, x2, hR, trivial⟩), ⟨d, t1, hn, f3, f4, ?_, ?_, ?_, f5⟩, mu⟩
      · show Mil.cutV (a.s + (xF p.l a.j).2) = Mil.cutV (sv ((p.l.take (IntKind.wrap .i64 (a.j + 1)).toNat).filter _))
        rw [e1, e, se, hs, hx, cutV_add fn y3]
      · show IntKind.wrap .i64 (a.c + 1) = (((p.l.take (IntKind.wrap .i64 (a.j + 1)).toNat).filter _).length : Int)
        rw [e1, e, hc, wrap64_in (by omega) (by omega)]; simp
      · show (bif a.ov then true else Mil.cutE (a.s + (xF p.l a.j).2) != 0) = (p.ov0 || decide (tpI < sv ((p.l.take (IntKind.wrap .i64 (a.j + 1)).toNat).filter _)))
        rw [e1, e, se, hov, hs, hx, ← cutE_ne fn y3]
        cases p.ov0 <;> cases decide (tpI < sv F) <;> rfl
theorem exDs (p : PDs) (a : ADs) (h : okDs p a) (hg : goDs p a = false) : (rdDs p a).eval = some (.exit 0, FDs p a) := T.path_eval (wayDsx p a) ⟨hg, trivial⟩
noncomputable def famDs : LSpec := famC [0,1,6,7,8] SDs 100 100 76 decDs okDs goDs rdDs FDs muDs (.exit 0)
theorem lpDs_ok : LoopOk D2 lpDs famDs := famC_ok (vs := vsDs) (bs := bsDs) D2_ok mixed (noLoops_ok _) decDs_ok (by simp) (fun _ _ => rfl) (fun _ _ => rfl) stepDs exDs
noncomputable def suD0 : Eng.Obj := execO D2 (byReg [(rgDs, famDs)]) 49
theorem suD0_ok : ObjOk Try.prog 49 suD0 := execO_loops D2_ok mixed Try.func49 (by kernel_rfl) (by kernel_rfl) (one_lp (by kernel_rfl) rgDs_is lpDs_ok)
end Go.Proofs.Ytheknddbbgjpkaa.Rin
