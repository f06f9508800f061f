/- Layer 21: spare. -/
import Derived.Test.YtfnadebkobfemaaLifW
namespace Go.Proofs.Ytfnadebkobfemaa.Lif
open Go.Eng Go.RowKit
set_option linter.unusedVariables false
set_option linter.unusedSimpArgs false
def bestV : Option (Nat × R4) → V
  | none => noV
  | some (j, _) => spotV j
theorem waySpS (p : PSp) (b : Option Int) (i : Int) : T.path [true, true, true, true] (rdSp p ⟨match b with | none => noV | some j => spotV j, i⟩) = some ([(decide (i < p.z), true), (idR p.l p.k i, true), (ldR p.l i, true), ((g4 p.l i).2.1 == 3, true)], (.normal, FSp p ⟨match b with | none => noV | some j => spotV j, IntKind.wrap .i64 (i + 1)⟩)) := by cases b <;> kernel_rfl
theorem waySpN (p : PSp) (i : Int) : T.path [true, true, true, false] (rdSp p ⟨noV, i⟩) = some ([(decide (i < p.z), true), (idR p.l p.k i, true), (ldR p.l i, true), ((g4 p.l i).2.1 == 3, false)], (.normal, FSp p ⟨spotV i, IntKind.wrap .i64 (i + 1)⟩)) := by kernel_rfl
def spB (i b : Int) : Bool → V
  | true => spotV i
  | false => spotV b
theorem waySpB (p : PSp) (i b : Int) (e : Bool) : T.path [true, true, true, false, true, true, e] (rdSp p ⟨spotV b, i⟩) = some ([(decide (i < p.z), true), (idR p.l p.k i, true), (ldR p.l i, true), ((g4 p.l i).2.1 == 3, false), (idR p.l p.n b, true), (ldR p.l b, true), (!bef (g4 p.l b) (g4 p.l i), e)], (.normal, FSp p ⟨spB i b e, IntKind.wrap .i64 (i + 1)⟩)) := by cases e <;> kernel_rfl
theorem waySpx (p : PSp) (b : Option Int) (i : Int) : T.path [false] (rdSp p ⟨match b with | none => noV | some j => spotV j, i⟩) = some ([(decide (i < p.z), false)], (.exit 0, FSp p ⟨match b with | none => noV | some j => spotV j, i⟩)) := by cases b <;> kernel_rfl
def okSp (p : PSp) (a : ASp) : Prop := p.n = p.l.length ∧ p.k = p.l.length ∧ p.z = p.l.length ∧ p.l.length ≤ 100000 ∧ 0 ≤ a.i ∧ a.i ≤ p.z ∧ a.b = bestV (spO (p.l.take a.i.toNat))
def goSp (p : PSp) (a : ASp) : Bool := decide (a.i < p.z)
def muSp (p : PSp) (a : ASp) : Nat := (p.z - a.i).toNat
noncomputable def outSp (p : PSp) (a : ASp) : T (Ex × St) := .ite none (spO p.l).isSome (.ret (.exit 0, FSp p ⟨spotV (((spO p.l).getD (0, (0, 0, 0, 0))).1 : Nat), a.i⟩)) (.ret (.exit 0, FSp p ⟨noV, a.i⟩))
theorem stepSp (p : PSp) (a : ASp) (h : okSp p a) (hg : goSp p a = true) : ∃ b, stepC okSp rdSp FSp muSp p a b := by
  obtain ⟨b, i⟩ := a
  obtain ⟨h0, h1, h2, h3, h4, h5, h6⟩ := id h
  simp only at h4 h5 h6
  have hi : i < p.z := of_decide_eq_true hg
  have hw : IntKind.wrap .i64 (i + 1) = i + 1 := wrap64_in (by omega) (by omega)
  have hj : i.toNat < p.l.length := by omega
  obtain ⟨x1, x2⟩ := idR_is (g := p.l) (k := p.k) (i := i) h1 h4 (by omega)
  have hmu : (p.z - IntKind.wrap .i64 (i + 1)).toNat < (p.z - i).toNat := by rw [hw]; omega
  have i1 : 0 ≤ IntKind.wrap .i64 (i + 1) := by rw [hw]; omega
  have i2 : IntKind.wrap .i64 (i + 1) ≤ p.z := by rw [hw]; omega
  have hn := spO_next h4 hj
  have hi1 : (IntKind.wrap .i64 (i + 1)).toNat = (i + 1).toNat := by rw [hw]
  have hg4 : g4 p.l i = p.l[i.toNat] := g4_at hj
  cases q : (g4 p.l i).2.1 == 3
  · cases ho : spO (p.l.take i.toNat) with
    | none =>
      rw [ho] at h6 hn
      subst h6
      refine ⟨_, T.path_eval (waySpN p i) ⟨hg, x1, x2, q, trivial⟩, ⟨h0, h1, h2, h3, i1, i2, ?_⟩, hmu⟩
      show spotV i = bestV (spO (p.l.take (IntKind.wrap .i64 (i + 1)).toNat))
      rw [hi1, hn]
      unfold spStep
      rw [hg4] at q
      rw [q]
      exact congrArg spotV (show i = ((i.toNat : Nat) : Int) by omega)
    | some r =>
      obtain ⟨j, r⟩ := r
      have hr := (spO_some ho).1
      have hjl : j < p.l.length := by
        have := spO_lt ho
        rw [List.length_take] at this; omega
      rw [ho] at h6 hn
      subst h6
      obtain ⟨y1, y2⟩ := idR_is (g := p.l) (k := p.n) (i := (j : Int)) h0 (by omega) (by omega)
      have hrg : g4 p.l (j : Int) = r := by
        rw [g4_at (by omega)]
        rw [List.getElem?_take] at hr
        split at hr
        · exact (List.getElem?_eq_some_iff.1 hr).2
        · cases hr
      refine ⟨_, T.path_eval (waySpB p i (j : Int) (!bef (g4 p.l j) (g4 p.l i))) ⟨hg, x1, x2, q, y1, y2, rfl, trivial⟩, ⟨h0, h1, h2, h3, i1, i2, ?_⟩, hmu⟩
      show spB i j (!bef (g4 p.l j) (g4 p.l i)) = bestV (spO (p.l.take (IntKind.wrap .i64 (i + 1)).toNat))
      rw [hi1, hn, hrg, hg4]
      unfold spStep
      rw [hg4] at q
      rw [q]
      simp only [cond_false]
      cases bef r p.l[i.toNat]
      · exact congrArg spotV (show i = ((i.toNat : Nat) : Int) by omega)
      · rfl
  · have key : ∀ (ob : Option Int), b = (match ob with | none => noV | some j => spotV j) → ∃ b', stepC okSp rdSp FSp muSp p ⟨b, i⟩ b' := by
      intro ob hb
      subst hb
      refine ⟨_, T.path_eval (waySpS p ob i) ⟨hg, x1, x2, q, trivial⟩, ⟨h0, h1, h2, h3, i1, i2, ?_⟩, hmu⟩
      show _ = bestV (spO (p.l.take (IntKind.wrap .i64 (i + 1)).toNat))
      rw [hi1, hn]
      unfold spStep
      rw [hg4] at q
      rw [q]
      exact h6
    cases ho : spO (p.l.take i.toNat) with
    | none => exact key none (by rw [h6, ho]; rfl)
    | some r => exact key (some r.1) (by rw [h6, ho]; rfl)
theorem exSp (p : PSp) (a : ASp) (h : okSp p a) (hg : goSp p a = false) (r : Ex × St) (hr : (outSp p a).eval = some r) : r.1 ≠ .normal ∧ (rdSp p a).eval = some r := by
  obtain ⟨b, i⟩ := a
  obtain ⟨h0, h1, h2, h3, h4, h5, h6⟩ := id h
  simp only at h4 h5 h6
  have hi : ¬ i < p.z := of_decide_eq_false hg
  rw [List.take_of_length_le (show p.l.length ≤ i.toNat by omega)] at h6
  cases ho : spO p.l with
  | none =>
    simp only [outSp, ho, Option.isSome_none, T.eval, cond_false, Option.some.injEq] at hr
    subst hr
    rw [ho] at h6
    subst h6
    exact ⟨by simp, T.path_eval (waySpx p none i) ⟨hg, trivial⟩⟩
  | some q =>
    simp only [outSp, ho, Option.isSome_some, T.eval, cond_true, Option.some.injEq] at hr
    subst hr
    rw [ho] at h6
    subst h6
    exact ⟨by simp, T.path_eval (waySpx p (some (q.1 : Nat)) i) ⟨hg, trivial⟩⟩
noncomputable def famSp : LSpec := famD [0,3,13,14,15] SSp 1000 1000 46 decSp okSp goSp rdSp FSp muSp outSp
theorem lpSp_ok : LoopOk J3 lpSp famSp := famD_ok (vs := vsSp) (bs := bsSp) J3_ok mixed (noLoops_ok _) decSp_ok (fun _ _ => rfl) (fun _ _ => rfl) stepSp exSp
noncomputable def spaE : Eng.Obj := execO J3 (byReg [(rgSp, famSp)]) 95
theorem spaE_ok : ObjOk Try.prog 95 spaE := execO_loops J3_ok mixed Try.func95 (by kernel_rfl) (by kernel_rfl) (one_lp (c := lpSp) (by kernel_rfl) rgSp_is lpSp_ok)
def spJ (l : List R4) : Nat := ((spO l).getD (0, (0, 0, 0, 0))).1
theorem waySE1 (m : Int) (n : Nat) (l : List R4) : T.path [true, true] (spaE [.ptr 0 0] (hL m n l)) = some ([(invC okSp ⟨m, n, l, n, n⟩ ⟨noV, 0⟩, true), ((spO l).isSome, true)], (spotV (spJ l : Nat), hL m n l)) := by kernel_rfl
theorem waySE0 (m : Int) (n : Nat) (l : List R4) : T.path [true, false] (spaE [.ptr 0 0] (hL m n l)) = some ([(invC okSp ⟨m, n, l, n, n⟩ ⟨noV, 0⟩, true), ((spO l).isSome, false)], (noV, hL m n l)) := by kernel_rfl
def spaL (args : List V) (h : Heap) : T (V × Heap) := match args with
  | [.ptr 0 0] => opt (dH h) fun x => .ite none (okN x.2.1 x.2.2) (.ite none (spO x.2.2).isSome (.ret (spotV (spJ x.2.2 : Nat), hL x.1 x.2.1 x.2.2)) (.ret (noV, hL x.1 x.2.1 x.2.2))) .fail
  | _ => .fail
theorem spaL_ok : ObjOk Try.prog 95 spaL := spaE_ok.of_eval fun args h v hv => by
  unfold spaL at hv
  split at hv
  · obtain ⟨⟨m, n, l⟩, hd, hv⟩ := opt_eval hv
    have := dH_ok hd
    subst this
    obtain ⟨hc, hv⟩ := ite_some hv
    obtain ⟨h1, h2⟩ := okN_is (n := n) (l := l) hc
    have h0 : okSp ⟨m, n, l, n, n⟩ ⟨noV, 0⟩ := ⟨h1, h1, by show (n : Int) = (l.length : Int); omega, h2, Int.le_refl _, by show (0 : Int) ≤ n; omega, rfl⟩
    cases hf : (spO l).isSome
    · simp only [hf, T.eval, cond_false, Option.some.injEq] at hv
      subst hv
      exact T.path_eval (waySE0 m n l) ⟨invC_is h0, hf, trivial⟩
    · simp only [hf, T.eval, cond_true, Option.some.injEq] at hv
      subst hv
      exact T.path_eval (waySE1 m n l) ⟨invC_is h0, hf, trivial⟩
  · cases hv
noncomputable def J4 : Cfg := ⟨Try.prog, lookG [(74, .obj finL), (75, .obj remL), (95, .obj spaL)], [], 0⟩
theorem J4_ok : J4.Ok := Cfg.ok ⟨finL_ok, remL_ok, spaL_ok, trivial⟩ trivial
noncomputable def disE : Eng.Obj := execO J4 noLoops 73
theorem disE_ok : ObjOk Try.prog 73 disE := execO_plain J4_ok mixed Try.func73 (by kernel_rfl) (by kernel_rfl)
noncomputable def entE : Eng.Obj := execO J4 noLoops 27
theorem entE_ok : ObjOk Try.prog 27 entE := execO_plain J4_ok mixed Try.func27 (by kernel_rfl) (by kernel_rfl)
noncomputable def leaE : Eng.Obj := execO J4 noLoops 29
theorem leaE_ok : ObjOk Try.prog 29 leaE := execO_plain J4_ok mixed Try.func29 (by kernel_rfl) (by kernel_rfl)
noncomputable def craE : Eng.Obj := execO J4 noLoops 28
theorem craE_ok : ObjOk Try.prog 28 craE := execO_plain J4_ok mixed Try.func28 (by kernel_rfl) (by kernel_rfl)
end Go.Proofs.Ytfnadebkobfemaa.Lif
