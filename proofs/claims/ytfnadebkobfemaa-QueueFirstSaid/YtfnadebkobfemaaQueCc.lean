/- Layer 20: QueueFirst: the rounds of its inner loop. -/
import Derived.Test.YtfnadebkobfemaaQueCb
namespace Go.Proofs.Ytfnadebkobfemaa.Que
open Go.Eng Go.RowKit
set_option linter.unusedVariables false
set_option linter.unusedSimpArgs false
def cI (c : List Int) (y : Int) : Int := c.getD y.toNat 0
def faO (p : PFa) (a : AFa) : Bool := bif gI p.W a.j != a.y then true else decide (p.x ≤ a.y)
def faG (g c : Bool) : Bool := bif g == false && true then c else true
theorem faG_is {g c : Bool} (h : c = true) : faG g c = true := by subst h; unfold faG; cases g <;> rfl
def c130 (c : List Int) (y : Int) : Bool := decide (0 ≤ y) && (decide (y < ((130 : Nat) : Int)) && decide (y.toNat < c.length))
theorem wayFa (p : PFa) (a : AFa) (o : Option Int) (hu : p.u = lastV o) : T.path [true, true, true, true, true, false] (rdFa p a) = some ([(decide (a.j < (p.q : Int)), true), (idR p.W p.q a.j, true), (ldR p.W a.j, true), (faG (faO p a) (c130 p.c a.y), true), (faG (faO p a) (decide (a.y.toNat < p.c.length)), true), (bif faO p a then true else decide (IntKind.wrap .i64 (p.i - cI p.c a.y) < p.a), false)], (.normal, FFa p ⟨IntKind.wrap .i64 (a.y + 1), IntKind.wrap .i64 (a.j + 1)⟩)) := by
  obtain ⟨g, kg, age, d, x, i, c, u, n, l, a0, W, q, y0⟩ := p
  simp only at hu
  subst hu
  cases o <;> kernel_rfl
theorem wayFax (p : PFa) (a : AFa) (o : Option Int) (hu : p.u = lastV o) : T.path [false] (rdFa p a) = some ([(decide (a.j < (p.q : Int)), false)], (.exit 3, FFa p a)) := by
  obtain ⟨g, kg, age, d, x, i, c, u, n, l, a0, W, q, y0⟩ := p
  simp only at hu
  subst hu
  cases o <;> kernel_rfl
def okFa (p : PFa) (a : AFa) : Prop := p.q = p.W.length ∧ p.c.length = 130 ∧ 0 ≤ p.y0 ∧ p.y0 + p.q ≤ p.x ∧ p.x ≤ 120 ∧ 0 ≤ p.i ∧ p.i ≤ 120 ∧ (∀ j : Int, 0 ≤ j → j < p.q → gI p.W j = p.y0 + j) ∧ (∀ z : Int, p.y0 ≤ z → z < p.y0 + p.q → 0 ≤ cI p.c z ∧ cI p.c z ≤ 120 ∧ p.a ≤ p.i - cI p.c z) ∧ 0 ≤ a.j ∧ a.j ≤ p.q ∧ a.y = p.y0 + a.j ∧ ∃ o, p.u = lastV o
def goFa (p : PFa) (a : AFa) : Bool := decide (a.j < (p.q : Int))
def muFa (p : PFa) (a : AFa) : Nat := (p.q - a.j).toNat
theorem stepFa (p : PFa) (a : AFa) (h : okFa p a) (hg : goFa p a = true) : ∃ b, stepC okFa rdFa FFa muFa p a b := by
  obtain ⟨h1, h2, h3, h4, h5, h6, h7, h8, h9, h10, h11, h12, o, ho⟩ := id h
  have hj : a.j < (p.q : Int) := of_decide_eq_true hg
  have hw : IntKind.wrap .i64 (a.j + 1) = a.j + 1 := wrap64_in (by omega) (by omega)
  have hy : IntKind.wrap .i64 (a.y + 1) = a.y + 1 := wrap64_in (by omega) (by omega)
  obtain ⟨x1, x2⟩ := idR_is (g := p.W) (k := p.q) (i := a.j) h1 h10 hj
  have hW := h8 a.j h10 hj
  obtain ⟨c1, c2, c3⟩ := h9 a.y (by omega) (by omega)
  have hc : IntKind.wrap .i64 (p.i - cI p.c a.y) = p.i - cI p.c a.y := wrap64_in (by omega) (by omega)
  have hO : faO p a = false := by
    unfold faO
    rw [hW, show (p.y0 + a.j != a.y) = false by rw [h12]; simp, decide_eq_false (show ¬ p.x ≤ a.y by omega)]; rfl
  have d1 : c130 p.c a.y = true := by
    unfold c130
    rw [decide_eq_true (show 0 ≤ a.y by omega), decide_eq_true (show a.y < ((130 : Nat) : Int) by omega), decide_eq_true (show a.y.toNat < p.c.length by omega)]; rfl
  refine ⟨_, T.path_eval (wayFa p a o ho) ⟨hg, x1, x2, faG_is d1, faG_is (decide_eq_true (by omega)), by rw [hO, hc]; exact decide_eq_false (by omega), trivial⟩, ⟨h1, h2, h3, h4, h5, h6, h7, h8, h9, ?_, ?_, ?_, o, ho⟩, ?_⟩
  · show 0 ≤ IntKind.wrap .i64 (a.j + 1); rw [hw]; omega
  · show IntKind.wrap .i64 (a.j + 1) ≤ p.q; rw [hw]; omega
  · show IntKind.wrap .i64 (a.y + 1) = p.y0 + IntKind.wrap .i64 (a.j + 1); rw [hw, hy]; omega
  · show (p.q - IntKind.wrap .i64 (a.j + 1)).toNat < (p.q - a.j).toNat; rw [hw]; omega
theorem exFa (p : PFa) (a : AFa) (h : okFa p a) (hg : goFa p a = false) : (rdFa p a).eval = some (.exit 3, FFa p a) := by
  obtain ⟨_, _, _, _, _, _, _, _, _, _, _, _, o, ho⟩ := h
  exact T.path_eval (wayFax p a o ho) ⟨hg, trivial⟩
noncomputable def famFa : LSpec := famC [0,1,5,6,7,8,9,14,15,16] SFa 2000 2002 139 decFa okFa goFa rdFa FFa muFa (.exit 3)
theorem lpFa_ok : LoopOk J7 lpFa famFa := famC_ok (vs := vsFa) (bs := bsFa) J7_ok mixed (noLoops_ok _) decFa_ok (by simp) (fun _ _ => rfl) (fun _ _ => rfl) stepFa exFa
end Go.Proofs.Ytfnadebkobfemaa.Que
