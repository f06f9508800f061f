/- Layer 20: All, its loop; the contracts that the statements call. -/
import Derived.Test.YtfnadebkobfemaaQueU
namespace Go.Proofs.Ytfnadebkobfemaa.Que
open Go.Eng Go.RowKit
set_option linter.unusedVariables false
set_option linter.unusedSimpArgs false
def g2w (l : List (Int × Int)) (i : Int) : Int × Int := l.getD (0 + i.toNat) (0, 0)
def idR {α : Type} (g : List α) (k : Nat) (i : Int) : Bool := decide (0 ≤ i) && (decide (i < (k : Int)) && decide (0 + i.toNat < g.length))
def ldR {α : Type} (g : List α) (i : Int) : Bool := decide (0 + i.toNat < g.length)
theorem wayA (p : PA) (a : AA) : T.path [true, true, true, true, true] (rdA p a) = some ([(decide (a.i < p.c), true), (idR p.l p.k a.i, true), (ldR p.l a.i, true), (idR a.W a.j a.i, true), (ldR a.W a.i, true)], (.normal, FA p ⟨a.W.set (0 + a.i.toNat) (g2w p.l a.i).1, a.j, IntKind.wrap .i64 (a.i + 1)⟩)) := by
  obtain ⟨d, u, n, l, k, c⟩ := p
  cases u <;> kernel_rfl
theorem wayAx (p : PA) (a : AA) : T.path [false] (rdA p a) = some ([(decide (a.i < p.c), false)], (.exit 0, FA p a)) := by
  obtain ⟨d, u, n, l, k, c⟩ := p
  cases u <;> kernel_rfl
def okA (p : PA) (a : AA) : Prop := p.n = p.l.length ∧ p.k = p.l.length ∧ p.c = p.l.length ∧ p.l.length ≤ 1000 ∧ a.j = a.W.length ∧ a.W.length = p.l.length ∧ 0 ≤ a.i ∧ a.i ≤ p.c ∧ ∀ j : Nat, j < a.i.toNat → a.W[j]? = (p.l[j]?).map (·.1)
def goA (p : PA) (a : AA) : Bool := decide (a.i < p.c)
def muA (p : PA) (a : AA) : Nat := (p.c - a.i).toNat
theorem idR_is {α : Type} {g : List α} {k : Nat} {i : Int} (h : k = g.length) (h0 : 0 ≤ i) (h1 : i < k) : idR g k i = true ∧ ldR g i = true := by
  unfold idR ldR
  rw [decide_eq_true h0, decide_eq_true h1, decide_eq_true (show 0 + i.toNat < g.length by omega)]
  exact ⟨rfl, rfl⟩
theorem stepA (p : PA) (a : AA) (h : okA p a) (hg : goA p a = true) : ∃ b, stepC okA rdA FA muA p a b := by
  obtain ⟨h1, h2, h3, h4, h5, h6, h7, h8, h9⟩ := id h
  have hi : a.i < p.c := of_decide_eq_true hg
  have hw : IntKind.wrap .i64 (a.i + 1) = a.i + 1 := wrap64_in (by omega) (by omega)
  obtain ⟨x1, x2⟩ := idR_is (g := p.l) (k := p.k) (i := a.i) h2 h7 (by omega)
  obtain ⟨y1, y2⟩ := idR_is (g := a.W) (k := a.j) (i := a.i) h5 h7 (by omega)
  refine ⟨_, T.path_eval (wayA p a) ⟨hg, x1, x2, y1, y2, trivial⟩, ⟨h1, h2, h3, h4, ?_, ?_, ?_, ?_, ?_⟩, ?_⟩
  · show a.j = (a.W.set _ _).length; rw [List.length_set]; exact h5
  · show (a.W.set _ _).length = _; rw [List.length_set]; exact h6
  · show 0 ≤ IntKind.wrap .i64 (a.i + 1); rw [hw]; omega
  · show IntKind.wrap .i64 (a.i + 1) ≤ p.c; rw [hw]; omega
  · show ∀ j : Nat, j < (IntKind.wrap .i64 (a.i + 1)).toNat → (a.W.set (0 + a.i.toNat) (g2w p.l a.i).1)[j]? = _
    rw [hw]
    intro j hj
    rw [Nat.zero_add, List.getElem?_set]
    by_cases e : a.i.toNat = j
    · have hl : j < p.l.length := by omega
      rw [if_pos e, if_pos (by omega), List.getElem?_eq_getElem hl]
      unfold g2w
      rw [List.getD_eq_getElem?_getD, Nat.zero_add, e, List.getElem?_eq_getElem hl]; rfl
    · rw [if_neg e]; exact h9 j (by omega)
  · show (p.c - IntKind.wrap .i64 (a.i + 1)).toNat < (p.c - a.i).toNat
    rw [hw]; omega
theorem exA (p : PA) (a : AA) (h : okA p a) (hg : goA p a = false) : (rdA p a).eval = some (.exit 0, FA p a) := T.path_eval (wayAx p a) ⟨hg, trivial⟩
noncomputable def famA : LSpec := famC [0,3,17,18,19] SA 1000 1001 31 decA okA goA rdA FA muA (.exit 0)
theorem lqA_ok : LoopOk J0 lqA famA := famC_ok (vs := vsA) (bs := bsA) J0_ok mixed (noLoops_ok _) decA_ok (by simp) (fun _ _ => rfl) (fun _ _ => rfl) stepA exA
noncomputable def qalist : List (Nat × LSpec) := [(5, famA)]
theorem qareg : firstReg lqA = some 5 := by kernel_rfl
theorem one_lp {c : Code} {n : Nat} {sp : LSpec} {C : Cfg} {f : Nat} (e : loopsIn (codeOf Try.prog f) = [c]) (hr : firstReg c = some n) (h : LoopOk C c sp) : ∀ a ∈ loopsIn (codeOf Try.prog f), ∀ s, byReg [(n, sp)] a = some s → LoopOk C a s := by
  rw [e]
  intro a ha
  rcases List.mem_cons.1 ha with q | ha
  · rw [q]; exact byReg_mem hr (by simp [findL]) h
  · cases ha
noncomputable def allQ : Eng.Obj := execO J0 (byReg qalist) 23
theorem allQ_ok : ObjOk Try.prog 23 allQ := execO_loops J0_ok mixed Try.func23 (by kernel_rfl) (by kernel_rfl) (one_lp (c := lqA) (by kernel_rfl) qareg lqA_ok)
def pA (d : Int) (u : Option Int) (n : Nat) (l : List (Int × Int)) : PA := ⟨d, u, n, l, n, n⟩
noncomputable def eA (p : PA) : AA := endW (nxtC okA goA rdA FA muA p) ⟨List.replicate p.c.toNat 0, p.c.toNat, 0⟩
theorem all_ok {d : Int} {u : Option Int} {n : Nat} {l : List (Int × Int)} (hn : n = l.length) (hl : l.length ≤ 1000) : invC okA (pA d u n l) ⟨List.replicate (n : Int).toNat 0, (n : Int).toNat, 0⟩ = true ∧ (eA (pA d u n l)).W = l.map (·.1) ∧ (eA (pA d u n l)).j = l.length := by
  have h0 : okA (pA d u n l) ⟨List.replicate (n : Int).toNat 0, (n : Int).toNat, 0⟩ :=
    ⟨hn, hn, by show (n : Int) = (l.length : Int); rw [hn], hl, by show (n : Int).toNat = (List.replicate (n : Int).toNat (0 : Int)).length; rw [List.length_replicate], by show (List.replicate (n : Int).toNat (0 : Int)).length = l.length; rw [List.length_replicate]; omega, Int.le_refl 0, by show (0 : Int) ≤ (n : Int); omega, fun j hj => absurd hj (by show ¬ j < (0 : Int).toNat; omega)⟩
  refine ⟨invC_is h0, ?_⟩
  obtain ⟨⟨-, -, -, -, e5, e6, e7, e8, e9⟩, e10⟩ := endC stepA h0
  have f10 : ¬ (eA (pA d u n l)).i < (n : Int) := of_decide_eq_false e10
  have f8 : (eA (pA d u n l)).i ≤ (n : Int) := e8
  have f6 : (eA (pA d u n l)).W.length = l.length := e6
  have f5 : (eA (pA d u n l)).j = (eA (pA d u n l)).W.length := e5
  have f9 : ∀ j : Nat, j < (eA (pA d u n l)).i.toNat → (eA (pA d u n l)).W[j]? = (l[j]?).map (·.1) := e9
  refine ⟨List.ext_getElem? fun j => ?_, by rw [f5, f6]⟩
  rw [List.getElem?_map]
  by_cases q : j < l.length
  · exact f9 j (by omega)
  · rw [List.getElem?_eq_none (by omega), List.getElem?_eq_none (by omega)]; rfl
def yesD : Eng.Spec := fun args => match args with
  | [] => .ret .tt
  | _ => .fail
theorem told_ok : SpecOk Try.prog 22 yesD :=
  (execS_plain J2_ok mixed Try.func22 (by kernel_rfl) (by kernel_rfl)).of_den fun args v _ h => by
    unfold yesD at h
    split at h
    · simp only [T.eval, Option.some.injEq] at h
      subst h
      exact ⟨_, told_run, ⟨rfl, rfl⟩, rfl⟩
    · cases h
end Go.Proofs.Ytfnadebkobfemaa.Que
