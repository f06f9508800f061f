/- Layer 21: LifeGoes: its last loop. -/
import Derived.Test.YtfnadebkobfemaaLifAf
namespace Go.Proofs.Ytfnadebkobfemaa.Lif
open Go.Eng Go.RowKit
set_option linter.unusedVariables false
set_option linter.unusedSimpArgs false
def mnk (k w : Int) : Int := IntKind.wrap .i64 (k - if k < w then k else w)
def nC (g : Bool) (c : Bool) : Bool := bif g == false && true then c else true
theorem nC_is {g c : Bool} (h : c = true) : nC g c = true := by subst h; unfold nC; cases g <;> rfl
theorem wayGp2 (p : PGp) (a : AGp) : T.path [true, true, true, true, true, true, false] (rdGp p a) = some ([(decide (a.i < (p.q : Int)), true), (idR p.g p.q a.i, true), (ldR p.g a.i, true), ((g4 p.g a.i).2.1 == 2, true), (idR p.g p.q a.i, true), (ldR p.g a.i, true), (decide ((g4 p.g a.i).1 < mnk p.k p.w), false)], (.normal, FGp p ⟨IntKind.wrap .i64 (a.r + 1), IntKind.wrap .i64 (a.i + 1)⟩)) := by kernel_rfl
theorem wayGp1 (p : PGp) (a : AGp) : T.path [true, true, true, false, true, false] (rdGp p a) = some ([(decide (a.i < (p.q : Int)), true), (idR p.g p.q a.i, true), (ldR p.g a.i, true), ((g4 p.g a.i).2.1 == 2, false), ((g4 p.g a.i).2.1 == 1, true), (decide (p.w ≤ p.k), false)], (.normal, FGp p ⟨a.r, IntKind.wrap .i64 (a.i + 1)⟩)) := by kernel_rfl
theorem wayGp3 (p : PGp) (a : AGp) : T.path [true, true, true, false, false, true, true, true, true, false] (rdGp p a) = some ([(decide (a.i < (p.q : Int)), true), (idR p.g p.q a.i, true), (ldR p.g a.i, true), ((g4 p.g a.i).2.1 == 2, false), ((g4 p.g a.i).2.1 == 1, false), (idR p.g p.q a.i, true), (ldR p.g a.i, true), (nC ((g4 p.g a.i).2.2.1 == 0) (idR p.g p.q a.i), true), (nC ((g4 p.g a.i).2.2.1 == 0) (ldR p.g a.i), true), (bif (g4 p.g a.i).2.2.1 == 0 then true else decide (mnk p.k p.w ≤ (g4 p.g a.i).1), false)], (.normal, FGp p ⟨a.r, IntKind.wrap .i64 (a.i + 1)⟩)) := by kernel_rfl
theorem wayGpx (p : PGp) (a : AGp) : T.path [false] (rdGp p a) = some ([(decide (a.i < (p.q : Int)), false)], (.exit 4, FGp p a)) := by kernel_rfl
def gpOk (k w : Int) (p : R4) : Bool := bif p.2.1 == 2 then !(decide (p.1 < mnk k w)) else bif p.2.1 == 1 then !(decide (w ≤ k)) else !(bif p.2.2.1 == 0 then true else decide (mnk k w ≤ p.1))
def okGp (p : PGp) (a : AGp) : Prop := p.q = p.g.length ∧ p.g.length ≤ 1000 ∧ (∀ x ∈ p.g, gpOk p.k p.w x = true) ∧ 0 ≤ a.i ∧ a.i ≤ p.q ∧ a.r = (rdy (p.g.take a.i.toNat)).length
def goGp (p : PGp) (a : AGp) : Bool := decide (a.i < (p.q : Int))
def muGp (p : PGp) (a : AGp) : Nat := (p.q - a.i).toNat
theorem stepGp (p : PGp) (a : AGp) (h : okGp p a) (hg : goGp p a = true) : ∃ b, stepC okGp rdGp FGp muGp p a b := by
  obtain ⟨h1, h2, h3, h4, h5, h6⟩ := id h
  have hi : a.i < p.q := of_decide_eq_true hg
  have hw : IntKind.wrap .i64 (a.i + 1) = a.i + 1 := wrap64_in (by omega) (by omega)
  have hj : a.i.toNat < p.g.length := by omega
  obtain ⟨x1, x2⟩ := idR_is (g := p.g) (k := p.q) (i := a.i) h1 h4 hi
  have hmu : (p.q - IntKind.wrap .i64 (a.i + 1)).toNat < (p.q - a.i).toNat := by rw [hw]; omega
  have i1 : 0 ≤ IntKind.wrap .i64 (a.i + 1) := by rw [hw]; omega
  have i2 : IntKind.wrap .i64 (a.i + 1) ≤ p.q := by rw [hw]; omega
  have hn := rdy_next h4 hj
  have hl : (rdy (p.g.take a.i.toNat)).length ≤ 1000 := Nat.le_trans (rdy_le _) (by rw [List.length_take]; omega)
  have ho := h3 _ (List.getElem_mem hj)
  rw [← g4_at hj] at ho hn
  unfold gpOk at ho
  cases q2 : (g4 p.g a.i).2.1 == 2
  · rw [q2] at ho hn
    simp only [cond_false, List.append_nil] at ho hn
    have fin : a.r = (rdy (p.g.take (IntKind.wrap .i64 (a.i + 1)).toNat)).length := by rw [hw, hn]; exact h6
    cases q1 : (g4 p.g a.i).2.1 == 1
    · rw [q1] at ho
      simp only [cond_false, Bool.not_eq_true'] at ho
      exact ⟨_, T.path_eval (wayGp3 p a) ⟨hg, x1, x2, q2, q1, x1, x2, nC_is x1, nC_is x2, ho, trivial⟩, ⟨h1, h2, h3, i1, i2, fin⟩, hmu⟩
    · rw [q1] at ho
      simp only [cond_true, Bool.not_eq_true'] at ho
      exact ⟨_, T.path_eval (wayGp1 p a) ⟨hg, x1, x2, q2, q1, ho, trivial⟩, ⟨h1, h2, h3, i1, i2, fin⟩, hmu⟩
  · rw [q2] at ho hn
    simp only [cond_true, Bool.not_eq_true'] at ho hn
    refine ⟨_, T.path_eval (wayGp2 p a) ⟨hg, x1, x2, q2, x1, x2, ho, trivial⟩, ⟨h1, h2, h3, i1, i2, ?_⟩, hmu⟩
    show IntKind.wrap .i64 (a.r + 1) = ((rdy (p.g.take (IntKind.wrap .i64 (a.i + 1)).toNat)).length : Int)
    rw [hw, hn, wrap64_in (by omega) (by omega), List.length_append, h6]; simp
theorem exGp (p : PGp) (a : AGp) (h : okGp p a) (hg : goGp p a = false) : (rdGp p a).eval = some (.exit 4, FGp p a) := T.path_eval (wayGpx p a) ⟨hg, trivial⟩
noncomputable def famGp : LSpec := famC [7,9,12,13,14,15] SGp 4000 4002 135 decGp okGp goGp rdGp FGp muGp (.exit 4)
theorem lpGp_ok : LoopOk JL lpGp famGp := famC_ok (vs := vsGp) (bs := bsGp) JL_ok mixed (noLoops_ok _) decGp_ok (by simp) (fun _ _ => rfl) (fun _ _ => rfl) stepGp exGp
end Go.Proofs.Ytfnadebkobfemaa.Lif
