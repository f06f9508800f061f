/- Layer 20: QueuePlays, the document's own queue: its loops. -/
import Derived.Test.YtenifknkahogjaaQueBa
namespace Go.Proofs.Ytenifknkahogjaa.Que
open Go.Eng Go.RowKit
set_option linter.unusedVariables false
set_option linter.unusedSimpArgs false
theorem wayRA (p : PR) (a : AR) : T.path [true, true, true, true] (rdRA p a) = some ([(decide (a.i < (p.n : Int)), true), (idR p.l p.n a.i, true), (ldR p.l a.i, true), (true && (decide (a.j ≤ a.W.length) && decide (a.j + [(g2w p.l a.i).1].length ≤ 1000000)), true)], (.normal, FRA p ⟨List.take a.j a.W ++ [(g2w p.l a.i).1], a.j + [(g2w p.l a.i).1].length, IntKind.wrap .i64 (a.i + 1)⟩)) := by
  obtain ⟨d, u, n, l⟩ := p
  cases u <;> kernel_rfl
theorem wayRAx (p : PR) (a : AR) : T.path [false] (rdRA p a) = some ([(decide (a.i < (p.n : Int)), false)], (.exit 0, FRA p a)) := by
  obtain ⟨d, u, n, l⟩ := p
  cases u <;> kernel_rfl
def okRA (p : PR) (a : AR) : Prop := p.n = p.l.length ∧ p.l.length ≤ 1000 ∧ a.j = a.W.length ∧ 0 ≤ a.i ∧ a.i ≤ p.n ∧ a.W = (p.l.take a.i.toNat).map (·.1)
def goRA (p : PR) (a : AR) : Bool := decide (a.i < (p.n : Int))
def muRA (p : PR) (a : AR) : Nat := (p.n - a.i).toNat
theorem g2w_at {l : List (Int × Int)} {i : Int} {j : Nat} (h : i.toNat = j) (hj : j < l.length) : g2w l i = l[j] := by
  unfold g2w
  rw [List.getD_eq_getElem?_getD, h, Nat.zero_add, List.getElem?_eq_getElem hj]; rfl
theorem take_next {α : Type} {l : List α} {i : Int} (h : 0 ≤ i) (hj : i.toNat < l.length) : l.take (i + 1).toNat = l.take i.toNat ++ [l[i.toNat]] := by
  rw [show (i + 1).toNat = i.toNat + 1 by omega, List.take_add_one, List.getElem?_eq_getElem hj]; rfl
theorem stepRA (p : PR) (a : AR) (h : okRA p a) (hg : goRA p a = true) : ∃ b, stepC okRA rdRA FRA muRA p a b := by
  obtain ⟨h1, h2, h3, h4, h5, h6⟩ := id h
  have hi : a.i < (p.n : Int) := of_decide_eq_true hg
  have hj : a.i.toNat < p.l.length := by omega
  have hw : IntKind.wrap .i64 (a.i + 1) = a.i + 1 := wrap64_in (by omega) (by omega)
  obtain ⟨x1, x2⟩ := idR_is (g := p.l) (k := p.n) (i := a.i) h1 h4 (by omega)
  have hl : a.W.length ≤ p.l.length := by rw [h6, List.length_map, List.length_take]; omega
  refine ⟨_, T.path_eval (wayRA p a) ⟨hg, x1, x2, ?_, trivial⟩, ⟨h1, h2, ?_, ?_, ?_, ?_⟩, ?_⟩
  · rw [decide_eq_true (show a.j ≤ a.W.length by omega), decide_eq_true (show a.j + [(g2w p.l a.i).1].length ≤ 1000000 by simp; omega)]; rfl
  · show a.j + [(g2w p.l a.i).1].length = (List.take a.j a.W ++ [(g2w p.l a.i).1]).length
    rw [h3, List.take_length]; simp
  · show 0 ≤ IntKind.wrap .i64 (a.i + 1); rw [hw]; omega
  · show IntKind.wrap .i64 (a.i + 1) ≤ p.n; rw [hw]; omega
  · show List.take a.j a.W ++ [(g2w p.l a.i).1] = (p.l.take (IntKind.wrap .i64 (a.i + 1)).toNat).map (·.1)
    rw [hw, take_next h4 hj, h3, List.take_length, List.map_append, ← h6, g2w_at rfl hj]; rfl
  · show (p.n - IntKind.wrap .i64 (a.i + 1)).toNat < (p.n - a.i).toNat
    rw [hw]; omega
theorem exRA (p : PR) (a : AR) (h : okRA p a) (hg : goRA p a = false) : (rdRA p a).eval = some (.exit 0, FRA p a) := T.path_eval (wayRAx p a) ⟨hg, trivial⟩
def decRA : List V → List Blk → Option (PR × AR)
  | [.ptr 0 0, .sub 1000 1 0 j, .s (.int .i64 i)], [.cells t0 [.s (.int .i64 d), .sub 1 2 0 n, .s (.int .i64 t), .s (.bool true)], .lst true t1 [.int .i64, .int .i64] l, .lst true t2 [.int .i64] W] =>
    if t0 = 108 then if t1 = 110 then if t2 = 3 then some (⟨d, some t, n, l⟩, ⟨W, j, i⟩) else none else none else none
  | [.ptr 0 0, .sub 1000 1 0 j, .s (.int .i64 i)], [.cells t0 [.s (.int .i64 d), .sub 1 2 0 n, .s (.int .i64 t), .s (.bool false)], .lst true t1 [.int .i64, .int .i64] l, .lst true t2 [.int .i64] W] =>
    if t = 0 then if t0 = 108 then if t1 = 110 then if t2 = 3 then some (⟨d, none, n, l⟩, ⟨W, j, i⟩) else none else none else none else none
  | _, _ => none
theorem decRA_ok (l : List V) (b : List Blk) (d : PR × AR) (h : decRA l b = some d) : l = vsRA d.1 d.2 ∧ b = bsRA d.1 d.2 := by
  unfold decRA at h
  split at h
  · obtain ⟨e0, h⟩ := ite_some' h
    obtain ⟨e1, h⟩ := ite_some' h
    obtain ⟨e2, h⟩ := ite_some' h
    subst e0 e1 e2
    cases h
    exact ⟨rfl, rfl⟩
  · obtain ⟨e, h⟩ := ite_some' h
    obtain ⟨e0, h⟩ := ite_some' h
    obtain ⟨e1, h⟩ := ite_some' h
    obtain ⟨e2, h⟩ := ite_some' h
    subst e e0 e1 e2
    cases h
    exact ⟨rfl, rfl⟩
  · cases h
noncomputable def famRA : LSpec := famC [0,3,4] SRA 1000 1001 26 decRA okRA goRA rdRA FRA muRA (.exit 0)
theorem lrA_ok : LoopOk J5 lrA famRA := famC_ok (vs := vsRA) (bs := bsRA) J5_ok mixed (noLoops_ok _) decRA_ok (by simp) (fun _ _ => rfl) (fun _ _ => rfl) stepRA exRA
/-! ### Ints -/
theorem wayRI (p : PI) (a : AI) : T.path [true, true, true, true, true, false] (rdRI p a) = some ([(decide (a.i < (p.n : Int)), true), (idR p.a p.n a.i, true), (ldR p.a a.i, true), (idR p.b p.m a.i, true), (ldR p.b a.i, true), (gI p.a a.i != gI p.b a.i, false)], (.normal, FRI p ⟨IntKind.wrap .i64 (a.i + 1)⟩)) := by kernel_rfl
theorem wayRIx (p : PI) (a : AI) : T.path [false] (rdRI p a) = some ([(decide (a.i < (p.n : Int)), false)], (.exit 0, FRI p a)) := by kernel_rfl
def okRI (p : PI) (a : AI) : Prop := p.a = p.b ∧ p.n = p.a.length ∧ p.m = p.b.length ∧ p.a.length ≤ 1000 ∧ 0 ≤ a.i ∧ a.i ≤ p.n
def goRI (p : PI) (a : AI) : Bool := decide (a.i < (p.n : Int))
def muRI (p : PI) (a : AI) : Nat := (p.n - a.i).toNat
theorem stepRI (p : PI) (a : AI) (h : okRI p a) (hg : goRI p a = true) : ∃ b, stepC okRI rdRI FRI muRI p a b := by
  obtain ⟨h1, h2, h3, h4, h5, h6⟩ := id h
  have hi : a.i < (p.n : Int) := of_decide_eq_true hg
  have hw : IntKind.wrap .i64 (a.i + 1) = a.i + 1 := wrap64_in (by omega) (by omega)
  have hl : p.a.length = p.b.length := by rw [h1]
  obtain ⟨x1, x2⟩ := idR_is (g := p.a) (k := p.n) (i := a.i) h2 h5 (by omega)
  obtain ⟨y1, y2⟩ := idR_is (g := p.b) (k := p.m) (i := a.i) h3 h5 (by omega)
  refine ⟨_, T.path_eval (wayRI p a) ⟨hg, x1, x2, y1, y2, by rw [h1]; simp, trivial⟩, ⟨h1, h2, h3, h4, ?_, ?_⟩, ?_⟩
  · show 0 ≤ IntKind.wrap .i64 (a.i + 1); rw [hw]; omega
  · show IntKind.wrap .i64 (a.i + 1) ≤ p.n; rw [hw]; omega
  · show (p.n - IntKind.wrap .i64 (a.i + 1)).toNat < (p.n - a.i).toNat
    rw [hw]; omega
theorem exRI (p : PI) (a : AI) (h : okRI p a) (hg : goRI p a = false) : (rdRI p a).eval = some (.exit 0, FRI p a) := T.path_eval (wayRIx p a) ⟨hg, trivial⟩
def decRI : List V → List Blk → Option (PI × AI)
  | [.sub 0 1 0 n, .sub 1 1 0 m, .s (.int .i64 i)], [.lst false t0 [.int .i64] a, .lst false t1 [.int .i64] b] =>
    if t0 = 3 then if t1 = 3 then some (⟨a, b, n, m⟩, ⟨i⟩) else none else none
  | _, _ => none
theorem decRI_ok (l : List V) (b : List Blk) (d : PI × AI) (h : decRI l b = some d) : l = vsRI d.1 d.2 ∧ b = bsRI d.1 := by
  unfold decRI at h
  split at h
  · obtain ⟨e0, h⟩ := ite_some' h
    obtain ⟨e1, h⟩ := ite_some' h
    subst e0 e1
    cases h
    exact ⟨rfl, rfl⟩
  · cases h
noncomputable def famRI : LSpec := famC [0,1,5] SRI 1000 1000 26 decRI okRI goRI rdRI FRI muRI (.exit 0)
theorem lrI_ok : LoopOk J5 lrI famRI := famC_ok (vs := vsRI) (bs := fun p _ => bsRI p) J5_ok mixed (noLoops_ok _) decRI_ok (by simp) (fun _ _ => rfl) (fun _ _ => rfl) stepRI exRI
end Go.Proofs.Ytenifknkahogjaa.Que
