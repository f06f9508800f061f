/- Layer 21: LifeNumbers: its inner loop. -/
import Derived.Test.YtfnadebkobfemaaLifAh
namespace Go.Proofs.Ytfnadebkobfemaa.Lif
open Go.Eng Go.RowKit
set_option linter.unusedVariables false
set_option linter.unusedSimpArgs false
noncomputable def lpN0 : Code := loopAt Try.prog 9 0
noncomputable def lpNj : Code := (loopsIn lpN0).getD 0 .skip
structure PNj where (g : List Int) (kg : Nat) (top : Int) (sm : Int) (i : Int) (was : Int) (wn : Int) (q : Nat) (m : Int) (n : Nat) (l : List R4) (p : List R4)
structure ANj where (j : Int)
abbrev SNj : List (Nat × Src) := [(0, .same), (1, .same), (3000, .cell 1 1), (3001, .tmp 9)]
def vsNj (p : PNj) (a : ANj) : List V := [.sub 0 1 0 p.kg, .ptr 1 0, iv p.top, iv p.sm, iv p.i, iv p.was, iv p.wn, .sub 3001 4 0 p.q, iv a.j]
def bsNj (p : PNj) (a : ANj) : List Blk := [.lst false 3 [.int .i64] p.g, .cells 108 [iv p.m, .sub 3000 4 0 p.n], .lst true 39 [.int .i64, .int .i64, .int .i64, .int .i64] p.l, .lst true 39 [.int .i64, .int .i64, .int .i64, .int .i64] p.p]
noncomputable def FNj (p : PNj) (a : ANj) : St := mkSt [0,3,4,5,6,7,8,9,10] (keysR SNj) 3002 132 (vsNj p a) (bsNj p a)
noncomputable def rdNj (p : PNj) (a : ANj) : T (Ex × St) := T.anon (roundN JL noLoops lpNj [0,3,4,5,6,7,8,9,10] SNj 3000 3002 (mkSt [0,3,4,5,6,7,8,9,10] (keysR SNj) 3002 132 (vsNj p a) (bsNj p a)))
def decNj : List V → List Blk → Option (PNj × ANj)
  | [.sub 0 1 0 kg, .ptr 1 0, .s (.int .i64 top), .s (.int .i64 sm), .s (.int .i64 i), .s (.int .i64 was), .s (.int .i64 wn), .sub 3001 4 0 q, .s (.int .i64 j)], [.lst false tt0 [.int .i64] g, .cells tt1 [.s (.int .i64 m), .sub 3000 4 0 n], .lst true tt2 [.int .i64, .int .i64, .int .i64, .int .i64] l, .lst true tt3 [.int .i64, .int .i64, .int .i64, .int .i64] p] =>
    if tt0 = 3 then if tt1 = 108 then if tt2 = 39 then if tt3 = 39 then some (⟨g, kg, top, sm, i, was, wn, q, m, n, l, p⟩, ⟨j⟩) else none else none else none else none
  | _, _ => none
theorem decNj_ok (l : List V) (b : List Blk) (d : PNj × ANj) (h : decNj l b = some d) : l = vsNj d.1 d.2 ∧ b = bsNj d.1 d.2 := by
  unfold decNj at h
  split at h
  · obtain ⟨e0, h⟩ := ite_some0 h
    obtain ⟨e1, h⟩ := ite_some0 h
    obtain ⟨e2, h⟩ := ite_some0 h
    obtain ⟨e3, h⟩ := ite_some0 h
    subst e0 e1 e2 e3
    cases h
    exact ⟨rfl, rfl⟩
  · cases h
noncomputable def rgNj : Nat := (firstReg lpNj).getD 0
theorem rgNj_is : firstReg lpNj = some rgNj := by kernel_rfl
def gC2 (g : Bool) (c : Bool) : Bool := bif g == true && true then c else true
theorem gC2_is {g c : Bool} (h : c = true) : gC2 g c = true := by subst h; unfold gC2; cases g <;> rfl
theorem wayNj (p : PNj) (a : ANj) : T.path [true, true, true, true, true, true, true, false] (rdNj p a) = some ([(decide (a.j < (p.q : Int)), true), (idR p.p p.q a.j, true), (ldR p.p a.j, true), (gC2 ((g4 p.p a.j).2.2.2 == p.i) (idR p.p p.q a.j), true), (gC2 ((g4 p.p a.j).2.2.2 == p.i) (ldR p.p a.j), true),
    (gC2 (bif (g4 p.p a.j).2.2.2 == p.i then decide ((g4 p.p a.j).1 ≤ p.top) else false) (idR p.p p.q a.j), true), (gC2 (bif (g4 p.p a.j).2.2.2 == p.i then decide ((g4 p.p a.j).1 ≤ p.top) else false) (ldR p.p a.j), true),
    (bif bif bif bif (g4 p.p a.j).2.2.2 == p.i then decide ((g4 p.p a.j).1 ≤ p.top) else false then (g4 p.p a.j).2.1 == 1 else false then decide (p.was < p.wn) else false then decide (p.was ≤ a.j) else false, false)], (.normal, FNj p ⟨IntKind.wrap .i64 (a.j + 1)⟩)) := by kernel_rfl
theorem wayNjx (p : PNj) (a : ANj) : T.path [false] (rdNj p a) = some ([(decide (a.j < (p.q : Int)), false)], (.exit 2, FNj p a)) := by kernel_rfl
def okNj (p : PNj) (a : ANj) : Prop := p.q = p.p.length ∧ p.p.length ≤ 10000 ∧ 0 ≤ a.j ∧ a.j ≤ p.q ∧ (p.was < p.wn → ∀ j : Nat, p.was ≤ (j : Int) → ∀ x, p.p[j]? = some x → p.top < x.1)
def goNj (p : PNj) (a : ANj) : Bool := decide (a.j < (p.q : Int))
def muNj (p : PNj) (a : ANj) : Nat := (p.q - a.j).toNat
theorem stepNj (p : PNj) (a : ANj) (h : okNj p a) (hg : goNj p a = true) : ∃ b, stepC okNj rdNj FNj muNj p a b := by
  obtain ⟨h1, h2, h3, h4, h5⟩ := id h
  have hi : a.j < p.q := of_decide_eq_true hg
  have hw : IntKind.wrap .i64 (a.j + 1) = a.j + 1 := wrap64_in (by omega) (by omega)
  have hj : a.j.toNat < p.p.length := by omega
  obtain ⟨x1, x2⟩ := idR_is (g := p.p) (k := p.q) (i := a.j) h1 h3 hi
  refine ⟨_, T.path_eval (wayNj p a) ⟨hg, x1, x2, gC2_is x1, gC2_is x2, gC2_is x1, gC2_is x2, ?_, trivial⟩, ⟨h1, h2, ?_, ?_, h5⟩, ?_⟩
  · show (bif bif bif bif (g4 p.p a.j).2.2.2 == p.i then decide ((g4 p.p a.j).1 ≤ p.top) else false then (g4 p.p a.j).2.1 == 1 else false then decide (p.was < p.wn) else false then decide (p.was ≤ a.j) else false) = false
    rw [cond_and, cond_and, cond_and, cond_and]
    cases e1 : decide (p.was < p.wn)
    · simp
    · cases e2 : decide (p.was ≤ a.j)
      · simp
      · have q := h5 (of_decide_eq_true e1) a.j.toNat (by have := of_decide_eq_true e2; omega) p.p[a.j.toNat] (List.getElem?_eq_getElem hj)
        rw [g4_at hj, decide_eq_false (show ¬ p.p[a.j.toNat].1 ≤ p.top by omega)]
        simp
  · show 0 ≤ IntKind.wrap .i64 (a.j + 1); rw [hw]; omega
  · show IntKind.wrap .i64 (a.j + 1) ≤ p.q; rw [hw]; omega
  · show (p.q - IntKind.wrap .i64 (a.j + 1)).toNat < (p.q - a.j).toNat
    rw [hw]; omega
theorem exNj (p : PNj) (a : ANj) (h : okNj p a) (hg : goNj p a = false) : (rdNj p a).eval = some (.exit 2, FNj p a) := T.path_eval (wayNjx p a) ⟨hg, trivial⟩
noncomputable def famNj : LSpec := famC [0,3,4,5,6,7,8,9,10] SNj 3000 3002 132 decNj okNj goNj rdNj FNj muNj (.exit 2)
theorem lpNj_ok : LoopOk JL lpNj famNj := famC_ok (vs := vsNj) (bs := bsNj) JL_ok mixed (noLoops_ok _) decNj_ok (by simp) (fun _ _ => rfl) (fun _ _ => rfl) stepNj exNj
/-! ### pods that only start -/
def fresh1 (l : List R4) : Prop := ∀ p ∈ l, p.2.1 = 1 ∧ p.2.2.1 = 0
theorem fresh1_cnt {l : List R4} (h : fresh1 l) : cnt l = l.length := by
  unfold cnt
  rw [List.filter_eq_self.2 (fun p hp => by unfold stay; rw [(h p hp).1]; rfl)]
theorem spO_none : ∀ (l : List (R4 × Nat)) (o : Option (Nat × R4)), (∀ x ∈ l, (x.1.2.1 == 3) = false) → (l ≠ [] ∨ o.isSome = true) → (l.foldl spStep o).isSome = true
  | [], o, _, h => by rcases h with h | h; exact absurd rfl h; exact h
  | x :: t, o, h, _ => by
    refine spO_none t _ (fun y hy => h y (by simp [hy])) (.inr ?_)
    unfold spStep
    rw [h x (by simp)]
    cases o with
    | none => rfl
    | some q => obtain ⟨j, q⟩ := q; simp only [cond_false]; cases bef q x.1 <;> rfl
theorem disL_fresh {now : Int} {l : List R4} (h : fresh1 l) : (disL now l).length = l.length - 1 ∧ ∀ p ∈ disL now l, p ∈ l := by
  unfold disL
  cases ho : spO l with
  | none =>
    have hl : l = [] := by
      by_cases q : l = []
      · exact q
      · have := spO_none l.zipIdx none (fun x hx => by
          have := (List.mem_zipIdx_iff_getElem?.1 hx)
          have hm := List.mem_of_getElem? this
          rw [(h _ hm).1]; rfl) (.inl (by simpa using q))
        unfold spO at ho; rw [ho] at this; cases this
    subst hl; simp
  | some r =>
    obtain ⟨j, q⟩ := r
    have hq := (spO_some ho).1
    have hlt := spO_lt ho
    have hb := (h q (List.mem_of_getElem? hq)).2
    simp only
    rw [decide_eq_false (show ¬ 0 < q.2.2.1 by omega)]
    simp only [cond_false]
    exact ⟨by rw [List.length_eraseIdx, if_pos hlt], fun p hp => (List.eraseIdx_sublist _ _).subset hp⟩
theorem disN_fresh {now : Int} : ∀ (n : Nat) {l : List R4}, fresh1 l → (disN now n l).length = l.length - n ∧ ∀ p ∈ disN now n l, p ∈ l
  | 0, l, _ => ⟨rfl, fun p hp => hp⟩
  | n + 1, l, h => by
    obtain ⟨a, b⟩ := disL_fresh (now := now) h
    obtain ⟨c, d⟩ := disN_fresh n (l := disL now l) (fun p hp => h p (b p hp))
    refine ⟨?_, fun p hp => b p (d p hp)⟩
    show (disN now n (disL now l)).length = _
    rw [c, a]; omega
theorem newP_mem {now : Int} : ∀ (n : Nat) {m : Int} {p : R4}, p ∈ newP now n m → m ≤ p.1 ∧ p.1 < m + n ∧ p.2.1 = 1 ∧ p.2.2.1 = 0
  | 0, m, p, h => by cases h
  | n + 1, m, p, h => by
    rcases List.mem_cons.1 h with rfl | h
    · exact ⟨Int.le_refl _, by show m < m + (n + 1 : Nat); omega, rfl, rfl⟩
    · have := newP_mem n h; omega
end Go.Proofs.Ytfnadebkobfemaa.Lif
