/- Layer 6: PlainRising: its loops. -/
import Derived.Test.YtheknddbbgjpkaaPlaT
namespace Go.Proofs.Ytheknddbbgjpkaa.Pla
open Go.Eng Go.RowKit Mil Rin
set_option linter.unusedVariables false
set_option linter.unusedSimpArgs false
theorem told6_ok : SpecOk Try.prog 58 yesR :=
  tolE_ok.of_den fun args v _ h => by
    unfold yesR at h
    split at h
    · simp only [T.eval, Option.some.injEq] at h
      subst h
      exact ⟨_, tol_run, ⟨rfl, rfl⟩, rfl⟩
    · cases h
noncomputable def P5 : Cfg := ⟨Try.prog, lookG [(57, .val sumC6), (58, .val yesR)], [], 0⟩
theorem P5_ok : P5.Ok := Cfg.ok ⟨sumC6_ok, told6_ok, trivial⟩ trivial
noncomputable def lpRa : Code := loopAt Try.prog 17 0
structure PRa where (q : Nat) (o : List Int) (w : Int)
structure ARa where (m : Nat) (l : List (Int × Int)) (t : Int) (i : Int)
abbrev SRa : List (Nat × Src) := [(0, .same), (1000, .tmp 6)]
def vsRa (p : PRa) (a : ARa) : List V := [.sub 0 1 0 p.q, iv p.w, .sub 1000 2 0 a.m, iv a.t, iv a.i]
def bsRa (p : PRa) (a : ARa) : List Blk := [.lst false 3 [.int .i64] p.o, .lst true 86 [.int .i64, .int .i64] a.l]
noncomputable def FRa (p : PRa) (a : ARa) : St := mkSt [0,5,6,7,8] (keysR SRa) 1001 103 (vsRa p a) (bsRa p a)
noncomputable def rdRa (p : PRa) (a : ARa) : T (Ex × St) := T.anon (roundN P5 noLoops lpRa [0,5,6,7,8] SRa 1000 1001 (mkSt [0,5,6,7,8] (keysR SRa) 1001 103 (vsRa p a) (bsRa p a)))
def decRa : List V → List Blk → Option (PRa × ARa)
  | [.sub 0 1 0 q, .s (.int .i64 w), .sub 1000 2 0 m, .s (.int .i64 t), .s (.int .i64 i)], [.lst false tt0 [.int .i64] o, .lst true tt1 [.int .i64, .int .i64] l] =>
    if tt0 = 3 then if tt1 = 86 then some (⟨q, o, w⟩, ⟨m, l, t, i⟩) else none else none
  | _, _ => none
theorem decRa_ok (l : List V) (b : List Blk) (d : PRa × ARa) (h : decRa l b = some d) : l = vsRa d.1 d.2 ∧ b = bsRa d.1 d.2 := by
  unfold decRa at h
  split at h
  · obtain ⟨e0, h⟩ := ite_some0 h
    obtain ⟨e1, h⟩ := ite_some0 h
    subst e0 e1
    cases h
    exact ⟨rfl, rfl⟩
  · cases h
noncomputable def rgRa : Nat := (firstReg lpRa).getD 0
theorem rgRa_is : firstReg lpRa = some rgRa := by kernel_rfl
noncomputable def lpRb : Code := loopAt Try.prog 17 1
structure PRb where (w : Int) (m : Nat) (l : List (Int × Int)) (t : Int)
structure ARb where (s : Int) (n : Int) (i : Int)
abbrev SRb : List (Nat × Src) := [(1000, .same)]
def vsRb (p : PRb) (a : ARb) : List V := [iv p.w, .sub 1000 2 0 p.m, iv p.t, iv a.s, iv a.n, iv a.i]
def bsRb (p : PRb) (a : ARb) : List Blk := [.lst true 86 [.int .i64, .int .i64] p.l]
noncomputable def FRb (p : PRb) (a : ARb) : St := mkSt [5,6,7,9,10,11] (keysR SRb) 2000 103 (vsRb p a) (bsRb p a)
noncomputable def rdRb (p : PRb) (a : ARb) : T (Ex × St) := T.anon (roundN P5 noLoops lpRb [5,6,7,9,10,11] SRb 2000 2000 (mkSt [5,6,7,9,10,11] (keysR SRb) 2000 103 (vsRb p a) (bsRb p a)))
def decRb : List V → List Blk → Option (PRb × ARb)
  | [.s (.int .i64 w), .sub 1000 2 0 m, .s (.int .i64 t), .s (.int .i64 s), .s (.int .i64 n), .s (.int .i64 i)], [.lst true tt0 [.int .i64, .int .i64] l] =>
    if tt0 = 86 then some (⟨w, m, l, t⟩, ⟨s, n, i⟩) else none
  | _, _ => none
theorem decRb_ok (l : List V) (b : List Blk) (d : PRb × ARb) (h : decRb l b = some d) : l = vsRb d.1 d.2 ∧ b = bsRb d.1 d.2 := by
  unfold decRb at h
  split at h
  · obtain ⟨e0, h⟩ := ite_some0 h
    subst e0
    cases h
    exact ⟨rfl, rfl⟩
  · cases h
noncomputable def rgRb : Nat := (firstReg lpRb).getD 0
theorem rgRb_is : firstReg lpRb = some rgRb := by kernel_rfl
abbrev wU (n : Int) : Int := IntKind.wrap .u64 n
def vS (o : List Int) (i : Int) : Int := o.getD (0 + i.toNat) 0
def tR (t x : Int) : Int := wI (t + wI (Int.tmod (wU x) 10))
theorem tR_bd {t : Int} (x : Int) (h0 : 0 ≤ t) (h1 : t ≤ 100000) : t ≤ tR t x ∧ tR t x ≤ t + 9 := by
  have h : 0 ≤ wI (Int.tmod (wU x) 10) ∧ wI (Int.tmod (wU x) 10) < 10 := modI x (by omega) (by omega)
  unfold tR
  generalize wI (Int.tmod (wU x) 10) = z at h ⊢
  rw [show wI (t + z) = t + z from wrap64_in (by omega) (by omega)]; omega
theorem wayRa (p : PRa) (a : ARa) : T.path [true, true, true, false, true] (rdRa p a) = some ([(bif decide (a.i < (p.q : Int)) then decide (a.i < 40) else false, true), (idR p.o p.q a.i, true), (ldR p.o a.i, true), ((10 : Int) == 0, false), (apC a.m a.l (tR a.t (vS p.o a.i), wI (a.i + 1)), true)],
   (.normal, FRa p ⟨a.m + [(tR a.t (vS p.o a.i), wI (a.i + 1))].length, List.take a.m a.l ++ [(tR a.t (vS p.o a.i), wI (a.i + 1))], tR a.t (vS p.o a.i), wI (a.i + 1)⟩)) := by kernel_rfl
theorem wayRax (p : PRa) (a : ARa) : T.path [false] (rdRa p a) = some ([(bif decide (a.i < (p.q : Int)) then decide (a.i < 40) else false, false)], (.exit 0, FRa p a)) := by kernel_rfl
structure okEl (l : List TV) (t : Int) : Prop where
  t0 : 0 ≤ t
  t1 : t ≤ 360
  ln : l.length ≤ 40
  el : ∀ x ∈ l, 0 ≤ x.1 ∧ x.1 ≤ t ∧ 1 ≤ x.2 ∧ x.2 ≤ 40
  nw : l = [] ∨ newV l = t
structure okRa (p : PRa) (a : ARa) : Prop where
  k : p.q = p.o.length
  w0 : 1 ≤ p.w
  w1 : p.w ≤ 30
  m : a.m = a.l.length
  li : (a.l.length : Int) = a.i
  i1 : a.i ≤ 40
  t1 : a.t ≤ 9 * a.i
  e : okEl a.l a.t
def goRa (p : PRa) (a : ARa) : Bool := bif decide (a.i < (p.q : Int)) then decide (a.i < 40) else false
def muRa (p : PRa) (a : ARa) : Nat := (40 - a.i).toNat
theorem okEl.app {l : List TV} {t : Int} (h : okEl l t) {z v : Int} (h1 : t ≤ z) (h2 : z ≤ 360) (h3 : l.length < 40) (h4 : 1 ≤ v) (h5 : v ≤ 40) : okEl (l ++ [(z, v)]) z := by
  have t0 := h.t0
  refine ⟨by omega, h2, by rw [List.length_append]; show l.length + 1 ≤ 40; omega, ?_, .inr ?_⟩
  · intro x hx
    rcases List.mem_append.1 hx with hx | hx
    · have := h.el x hx; omega
    · rw [List.mem_singleton] at hx; rw [hx]; exact ⟨by show 0 ≤ z; omega, Int.le_refl _, h4, h5⟩
  · rw [newV_app]
    unfold nxV
    rw [show badA z v = false from badA_false.2 ⟨by omega, by omega, by omega⟩]
    simp only [cond_false]
    rcases h.nw with q | q
    · rw [q]; exact mxR_r (by show (-1 : Int) ≤ z; omega)
    · rw [q]; exact mxR_r h1
theorem stepRa (p : PRa) (a : ARa) (h : okRa p a) (hg : goRa p a = true) : ∃ b, stepC okRa rdRa FRa muRa p a b := by
  obtain ⟨hk, w0, w1, hm, li, i1, t1, he⟩ := h
  have hg0 : (decide (a.i < (p.q : Int)) && decide (a.i < 40)) = true := by rw [← cond_and]; exact hg
  simp only [Bool.and_eq_true, decide_eq_true_eq] at hg0
  obtain ⟨hi, hi4⟩ := hg0
  have hw : wI (a.i + 1) = a.i + 1 := wrap64_in (by omega) (by omega)
  obtain ⟨x1, x2⟩ := idR_is (g := p.o) (k := p.q) (i := a.i) hk (by omega) hi
  have e0 := he.t0
  obtain ⟨z0, z1⟩ := tR_bd (vS p.o a.i) e0 (by omega)
  have hz := he.app (z := tR a.t (vS p.o a.i)) (v := a.i + 1) z0 (by omega) (by omega) (by omega) (by omega)
  refine ⟨_, T.path_eval (wayRa p a) ⟨hg, x1, x2, rfl, apC_is _ hm (by omega), trivial⟩, ⟨hk, w0, w1, ?_, ?_, ?_, ?_, ?_⟩, ?_⟩
  · show a.m + 1 = (List.take a.m a.l ++ [_]).length
    rw [hm, List.take_length, List.length_append]; rfl
  · show ((List.take a.m a.l ++ [_]).length : Int) = wI (a.i + 1)
    rw [hm, List.take_length, List.length_append, hw]; simp; omega
  · show wI (a.i + 1) ≤ 40; rw [hw]; omega
  · show tR a.t (vS p.o a.i) ≤ 9 * wI (a.i + 1); rw [hw]; omega
  · show okEl (List.take a.m a.l ++ [(tR a.t (vS p.o a.i), wI (a.i + 1))]) (tR a.t (vS p.o a.i))
    rw [hm, List.take_length, hw]; exact hz
  · show (40 - wI (a.i + 1)).toNat < (40 - a.i).toNat; rw [hw]; omega
theorem exRa (p : PRa) (a : ARa) (h : okRa p a) (hg : goRa p a = false) : (rdRa p a).eval = some (.exit 0, FRa p a) := T.path_eval (wayRax p a) ⟨hg, trivial⟩
noncomputable def famRa : LSpec := famC [0,5,6,7,8] SRa 1000 1001 103 decRa okRa goRa rdRa FRa muRa (.exit 0)
theorem lpRa_ok : LoopOk P5 lpRa famRa := famC_ok (vs := vsRa) (bs := bsRa) P5_ok mixed (noLoops_ok _) decRa_ok (by simp) (fun _ _ => rfl) (fun _ _ => rfl) stepRa exRa
/-! ### what it wants -/
def gtW (w t : Int) (x : TV) : Bool := decide (t - w < x.1)
theorem wayRb (p : PRb) (a : ARb) (e : Bool) : T.path ([true, true, true, e] ++ (bif e then [true, true] else [])) (rdRb p a) = some ([(decide (a.i < (p.m : Int)), true), (idR p.l p.m a.i, true), (ldR p.l a.i, true), (decide (wI (p.t - p.w) < (xF p.l a.i).1), e)] ++ (bif e then [(idR p.l p.m a.i, true), (ldR p.l a.i, true)] else []),
   (.normal, FRb p ⟨bif e then wI (a.s + (xF p.l a.i).2) else a.s, bif e then wI (a.n + 1) else a.n, wI (a.i + 1)⟩)) := by cases e <;> kernel_rfl
theorem wayRbx (p : PRb) (a : ARb) : T.path [false] (rdRb p a) = some ([(decide (a.i < (p.m : Int)), false)], (.exit 2, FRb p a)) := by kernel_rfl
theorem sv_40 : ∀ {l : List TV}, (∀ x ∈ l, 1 ≤ x.2 ∧ x.2 ≤ 40) → 0 ≤ sv l ∧ sv l ≤ 40 * l.length
  | [], _ => by simp [Rin.sv]
  | z :: r, h => by
    rw [sv_cons, List.length_cons]
    have := sv_40 (l := r) fun y hy => h y (List.mem_cons_of_mem _ hy)
    have := h z List.mem_cons_self
    omega
structure okRb (p : PRb) (a : ARb) : Prop where
  w0 : 1 ≤ p.w
  w1 : p.w ≤ 30
  m : p.m = p.l.length
  e : okEl p.l p.t
  i0 : 0 ≤ a.i
  i1 : a.i ≤ p.m
  s : a.s = sv ((p.l.take a.i.toNat).filter (gtW p.w p.t))
  n : a.n = (((p.l.take a.i.toNat).filter (gtW p.w p.t)).length : Int)
def goRb (p : PRb) (a : ARb) : Bool := decide (a.i < (p.m : Int))
def muRb (p : PRb) (a : ARb) : Nat := (p.m - a.i).toNat
theorem fil_bd {l : List TV} {t : Int} (h : okEl l t) (f : TV → Bool) (k : Nat) : 0 ≤ sv ((l.take k).filter f) ∧ sv ((l.take k).filter f) ≤ 1600 ∧ ((l.take k).filter f).length ≤ 40 := by
  have l1 : ((l.take k).filter f).length ≤ 40 := by
    have := List.length_filter_le f (l.take k)
    have := h.ln
    rw [List.length_take] at *; omega
  have := sv_40 (l := (l.take k).filter f) fun x hx => (h.el x (List.mem_of_mem_take (List.mem_filter.1 hx).1)).2.2
  omega
theorem stepRb (p : PRb) (a : ARb) (h : okRb p a) (hg : goRb p a = true) : ∃ b, stepC okRb rdRb FRb muRb p a b := by
  obtain ⟨w0, w1, hm, he, i0, i1, hs, hn⟩ := h
  have hi : a.i < (p.m : Int) := of_decide_eq_true hg
  have ln := he.ln
  have t0 := he.t0
  have t1 := he.t1
  have hw : wI (a.i + 1) = a.i + 1 := wrap64_in (by omega) (by omega)
  obtain ⟨x1, x2⟩ := idR_is (g := p.l) (k := p.m) (i := a.i) hm i0 hi
  have hlt : a.i.toNat < p.l.length := by omega
  have hx := xF_at i0 hlt
  have tk := take_next i0 hlt
  obtain ⟨y1, y2, y3, y4⟩ := he.el _ (List.getElem_mem hlt)
  obtain ⟨s0, s1, s2⟩ := fil_bd he (gtW p.w p.t) a.i.toNat
  have hc : decide (wI (p.t - p.w) < (xF p.l a.i).1) = gtW p.w p.t p.l[a.i.toNat] := by
    unfold gtW; rw [hx, show wI (p.t - p.w) = p.t - p.w from wrap64_in (by omega) (by omega)]
  cases hf : gtW p.w p.t p.l[a.i.toNat] with
  | false =>
    have e : (p.l.take (a.i + 1).toNat).filter (gtW p.w p.t) = (p.l.take a.i.toNat).filter (gtW p.w p.t) := by rw [tk, List.filter_append, List.filter_cons, hf]; simp
    refine ⟨_, T.path_eval (wayRb p a false) ⟨hg, x1, x2, by rw [hc]; exact hf, trivial⟩, ⟨w0, w1, hm, he, ?_, ?_, ?_, ?_⟩, ?_⟩
    · show 0 ≤ wI (a.i + 1); rw [hw]; omega
    · show wI (a.i + 1) ≤ p.m; rw [hw]; omega
    · show a.s = sv ((p.l.take (wI (a.i + 1)).toNat).filter _); rw [hw, e]; exact hs
    · show a.n = (((p.l.take (wI (a.i + 1)).toNat).filter _).length : Int); rw [hw, e]; exact hn
    · show (p.m - wI (a.i + 1)).toNat < (p.m - a.i).toNat; rw [hw]; omega
  | true =>
    have e : (p.l.take (a.i + 1).toNat).filter (gtW p.w p.t) = (p.l.take a.i.toNat).filter (gtW p.w p.t) ++ [p.l[a.i.toNat]] := by rw [tk, List.filter_append, List.filter_cons, hf]; simp
    refine ⟨_, T.path_eval (wayRb p a true) ⟨hg, x1, x2, by rw [hc]; exact hf, x1, x2, trivial⟩, ⟨w0, w1, hm, he, ?_, ?_, ?_, ?_⟩, ?_⟩
    · show 0 ≤ wI (a.i + 1); rw [hw]; omega
    · show wI (a.i + 1) ≤ p.m; rw [hw]; omega
    · show wI (a.s + (xF p.l a.i).2) = sv ((p.l.take (wI (a.i + 1)).toNat).filter _)
      rw [hw, e, sv_append, sv_cons, sv_nil, Int.add_zero, hs, hx]; exact wrap64_in (by omega) (by omega)
    · show wI (a.n + 1) = (((p.l.take (wI (a.i + 1)).toNat).filter _).length : Int)
      rw [hw, e, hn, show wI ((((p.l.take a.i.toNat).filter (gtW p.w p.t)).length : Int) + 1) = _ + 1 from wrap64_in (by omega) (by omega)]; simp
    · show (p.m - wI (a.i + 1)).toNat < (p.m - a.i).toNat; rw [hw]; omega
theorem exRb (p : PRb) (a : ARb) (h : okRb p a) (hg : goRb p a = false) : (rdRb p a).eval = some (.exit 2, FRb p a) := T.path_eval (wayRbx p a) ⟨hg, trivial⟩
noncomputable def famRb : LSpec := famC [5,6,7,9,10,11] SRb 2000 2000 103 decRb okRb goRb rdRb FRb muRb (.exit 2)
theorem lpRb_ok : LoopOk P5 lpRb famRb := famC_ok (vs := vsRb) (bs := bsRb) P5_ok mixed (noLoops_ok _) decRb_ok (by simp) (fun _ _ => rfl) (fun _ _ => rfl) stepRb exRb
/-- the document's Sum of these -/
theorem pl_is {l : List TV} {w t : Int} (h : okEl l t) (w0 : 1 ≤ w) (w1 : w ≤ 30) : plV w 1 t l = l.filter (gtW w t) := by
  unfold plV
  apply List.filter_congr
  intro x hx
  obtain ⟨y1, y2, y3, y4⟩ := h.el x hx
  have t1 := h.t1
  have hn : newV l = t := by
    rcases h.nw with q | q
    · rw [q] at hx; cases hx
    · exact q
  unfold pw gtW
  rw [hn, Int.tdiv_one, Int.tdiv_one, nN_one w0, show badA x.1 x.2 = false from badA_false.2 ⟨by omega, by omega, by omega⟩, Bool.eq_iff_iff]
  simp only [Bool.not_false, Bool.true_and, Bool.and_eq_true, decide_eq_true_eq]
  omega
noncomputable def risR (o : List Int) (b : Int) : T V := execS P5 (byReg [(rgRa, famRa), (rgRb, famRb)]) 17 [.orow 3 [.int .i64] o, Eng.iv b]
end Go.Proofs.Ytheknddbbgjpkaa.Pla
