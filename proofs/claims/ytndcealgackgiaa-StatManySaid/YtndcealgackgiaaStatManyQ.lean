import Derived.Test.YtndcealgackgiaaHC
/- Layer 9: the states of the laws' loops that make lists. -/
namespace Go.Proofs.Ytndcealgackgiaa.Sta
open Go.Eng Go.RowKit Mil
set_option linter.unusedVariables false
set_option linter.unusedSimpArgs false
abbrev SB : List (Nat × Src) := [(1000, .tmp 10)]
structure PB1 where (x k r : Int)
structure AB1 where (l : List St3) (j : Nat) (i : Int)
def vsB (p : PB1) (a : AB1) : List V := [iv p.x, iv p.k, iv p.r, .sub 1000 3 0 a.j, iv a.i]
def bsB (p : PB1) (a : AB1) : List Blk := [rowsB true a.l]
end Go.Proofs.Ytndcealgackgiaa.Sta

/- Layer 9: lists of pods with one load. -/
namespace Go.Proofs.Ytndcealgackgiaa.Sta
open Go.Eng Go.RowKit Mil
set_option linter.unusedVariables false
set_option linter.unusedSimpArgs false
noncomputable def FB (p : PB1) (a : AB1) : St := mkSt [7,8,9,10,11] [1000] 1001 76 (vsB p a) (bsB p a)
noncomputable def rtB (x k r : Int) (l : List St3) (j : Nat) (i : Int) : T (Ex × St) :=
  T.ite none (decide (i < k)) (T.ite none (true && (decide (j ≤ List.length l) && decide (j + List.length [(i, i, x)] ≤ 1000000))) (T.ret (.normal, FB ⟨x, k, r⟩ ⟨l.take j ++ [(i, i, x)], j + 1, IntKind.wrap .i64 (i + 1)⟩)) .fail) (T.ret (.exit 0, FB ⟨x, k, r⟩ ⟨l, j, i⟩))
def decB : List V → List Blk → Option (PB1 × AB1)
  | [.s (.int .i64 x), .s (.int .i64 k), .s (.int .i64 r), .sub 1000 3 0 j, .s (.int .i64 i)], [.lst true t [.int .i64, .int .i64, .int .i64] l] =>
    if t = 23 then some (⟨x, k, r⟩, ⟨l, j, i⟩) else none
  | _, _ => none
theorem decB_ok (l : List V) (b : List Blk) (d : PB1 × AB1) (h : decB l b = some d) : l = vsB d.1 d.2 ∧ b = bsB d.1 d.2 := by
  unfold decB at h
  split at h
  · split at h
    · rename_i ht
      subst ht
      cases h
      exact ⟨rfl, rfl⟩
    · cases h
  · cases h
def invB (p : PB1) (a : AB1) : Bool := decide (a.j = a.l.length) && decide ((a.j : Int) = a.i) && decide (a.i ≤ p.k) && decide (p.k ≤ 1000)
def nxtB (p : PB1) (a : AB1) : Option AB1 := if a.i < p.k then some ⟨a.l.take a.j ++ [(a.i, a.i, p.x)], a.j + 1, a.i + 1⟩ else none
noncomputable def outB (p : PB1) (a : AB1) : T (Ex × St) := .ret (.exit 0, FB p a)
theorem stB (p : PB1) (a b : AB1) (h : invB p a = true) (e : nxtB p a = some b) : invB p b = true ∧ (p.k - b.i).toNat < (p.k - a.i).toNat := by
  obtain ⟨l, j, i⟩ := a
  unfold nxtB at e
  split at e
  · rename_i hc
    obtain rfl := Option.some.inj e
    simp only [invB, Bool.and_eq_true, decide_eq_true_eq] at h hc ⊢
    obtain ⟨⟨⟨rfl, rfl⟩, h3⟩, h4⟩ := h
    exact ⟨⟨⟨⟨by simp, by omega⟩, by omega⟩, h4⟩, by omega⟩
  · cases e
noncomputable def blist : List (Nat × LSpec) := [(4, famWN [7,8,9,10,11] SB 1000 1001 76 decB invB nxtB outB)]
theorem bfind : findL blist 4 = some (famWN [7,8,9,10,11] SB 1000 1001 76 decB invB nxtB outB) := rfl
/-- m pods with load x -/
def mkB (x : Int) (m : Nat) : List St3 := (List.range m).map fun (j : Nat) => ((j : Int), (j : Int), x)
theorem mkB_succ (x : Int) (m : Nat) : mkB x (m + 1) = mkB x m ++ [((m : Int), (m : Int), x)] := by unfold mkB; rw [List.range_succ, List.map_append]; rfl
theorem mkB_length (x : Int) (m : Nat) : (mkB x m).length = m := by simp [mkB]
theorem endB {p : PB1} (h : invB p ⟨[], 0, 0⟩ = true) : endW (nxtB p) ⟨[], 0, 0⟩ = ⟨mkB p.x p.k.toNat, p.k.toNat, p.k⟩ := by
  obtain ⟨h1, h2, h3⟩ := endW_says (stB p) h
  have h4 := h3 (fun a => a.l = mkB p.x a.j) rfl fun a b hi hq e => by
    obtain ⟨l, j, i⟩ := a
    simp only [invB, Bool.and_eq_true, decide_eq_true_eq] at hi
    obtain ⟨⟨⟨h5, rfl⟩, -⟩, -⟩ := hi
    unfold nxtB at e
    split at e
    · obtain rfl := Option.some.inj e
      dsimp only at hq ⊢
      rw [mkB_succ, ← hq, List.take_of_length_le (by omega)]
    · cases e
  generalize endW (nxtB p) ⟨[], 0, 0⟩ = E at *
  obtain ⟨l, j, i⟩ := E
  simp only [invB, Bool.and_eq_true, decide_eq_true_eq] at h1
  obtain ⟨⟨⟨h5, h6⟩, h7⟩, h8⟩ := h1
  unfold nxtB at h2
  split at h2
  · cases h2
  · rename_i hc
    dsimp only at hc h4
    have : i = p.k := by omega
    subst this
    have : p.k.toNat = j := by omega
    rw [this, h4]
theorem totL_mkB (x : Int) (h1 : 0 ≤ x) (h2 : x ≤ 1000000000) (y : Int) (hy : 0 ≤ y) : ∀ m : Nat, m ≤ 1000 → totL y (mkB x m) = ⟨x * (((m : Int) - y).toNat : Nat), (((m : Int) - y).toNat : Nat), false⟩
  | 0, _ => by
    have : (((0 : Nat) : Int) - y).toNat = 0 := by omega
    rw [this]
    show (⟨0, 0, false⟩ : Tot) = _
    simp
  | m + 1, hm => by
    rw [mkB_succ, totL_snoc, totL_mkB x h1 h2 y hy m (by omega)]
    unfold stepT mayC mayR
    by_cases q : y ≤ (m : Int)
    · rw [if_pos (by simp; omega)]
      have e : (((m + 1 : Nat) : Int) - y).toNat = ((m : Int) - y).toNat + 1 := by omega
      rw [e]
      have hb : ((m : Int) - y).toNat ≤ 1000 := by omega
      generalize ((m : Int) - y).toNat = z at *
      have h5 : 0 ≤ x * (z : Int) := Int.mul_nonneg h1 (by omega)
      have h6 : x * (z : Int) ≤ 1000000000 * 1000 := Int.mul_le_mul h2 (by omega) (by omega) (by omega)
      have e2 : x * ((z + 1 : Nat) : Int) = x * (z : Int) + x := by push_cast; rw [Int.mul_add, Int.mul_one]
      rw [e2]
      obtain ⟨c1, c2⟩ := cut_in (x * (z : Int) + x) (by omega) (by omega)
      simp only [c1, c2]
      simp
    · rw [if_neg (by simp; omega)]
      have e : (((m + 1 : Nat) : Int) - y).toNat = 0 := by omega
      have e' : ((m : Int) - y).toNat = 0 := by omega
      rw [e, e']
theorem okL3_mkB (x : Int) (h1 : 0 ≤ x) (h2 : x ≤ 1000000000) (m : Nat) (hm : m ≤ 1000) : okL3 (mkB x m) = true := by
  unfold okL3
  simp only [Bool.and_eq_true, decide_eq_true_eq, List.all_eq_true, mkB_length]
  refine ⟨by omega, fun y hy => ?_⟩
  obtain ⟨j, _, rfl⟩ := List.mem_map.1 hy
  exact inR_iff.2 (by dsimp only; omega)
end Go.Proofs.Ytndcealgackgiaa.Sta

/- Layer 9: StatMany: the law's config, its loop's states. -/
namespace Go.Proofs.Ytndcealgackgiaa.Sta
open Go.Eng Go.RowKit Mil
set_option linter.unusedVariables false
set_option linter.unusedSimpArgs false
noncomputable def Q9 : Cfg := ⟨Try.prog, lookG [(6, .val yesD), (5, .val mayS'), (4, .val meanC)], [oldK], 0⟩
theorem Q9_ok : Q9.Ok := Cfg.ok ⟨told_ok, mayS'_ok, meanC_ok, trivial⟩ ⟨⟨by kernel_rfl, by kernel_rfl⟩, trivial⟩
noncomputable def lpMn : Code := loopAt Try.prog 3 0
structure PMn where (x : Int) (k : Int) (ra : Int) (rb : Int) (rc : Int)
structure AMn where (l : List St3) (j : Nat) (i : Int)
abbrev SMn : List (Nat × Src) := [(0, .same), (1000, .tmp 9)]
def vsMn (p : PMn) (a : AMn) : List V := [.ptr 0 0, iv p.x, iv p.k, .sub 1000 3 0 a.j, iv a.i]
def bsMn (p : PMn) (a : AMn) : List Blk := [.cells 23 [iv p.ra, iv p.rb, iv p.rc], .lst true 23 [.int .i64, .int .i64, .int .i64] a.l]
noncomputable def FMn (p : PMn) (a : AMn) : St := mkSt [5,7,8,9,10] (keysR SMn) 1002 92 (vsMn p a) (bsMn p a)
noncomputable def rdMn (p : PMn) (a : AMn) : T (Ex × St) := T.anon (roundN Q9 noLoops lpMn [5,7,8,9,10] SMn 1000 1002 (mkSt [5,7,8,9,10] (keysR SMn) 1002 92 (vsMn p a) (bsMn p a)))
def decMn_v0 : V → Option (Unit)
  | .ptr 0 0 => some ()
  | _ => none
theorem decMn_v0_ok (b : V) (x0 : Unit) (h : decMn_v0 b = some x0) : b = .ptr 0 0 := by
  unfold decMn_v0 at h
  split at h
  · cases h
    rfl
  · cases h
def decMn_v1 : V → Option ((Int))
  | .s (.int .i64 x) => some (x)
  | _ => none
theorem decMn_v1_ok (b : V) (x1 : (Int)) (h : decMn_v1 b = some x1) : b = iv (x1) := by
  unfold decMn_v1 at h
  split at h
  · cases h
    rfl
  · cases h
def decMn_v2 : V → Option ((Int))
  | .s (.int .i64 k) => some (k)
  | _ => none
theorem decMn_v2_ok (b : V) (x2 : (Int)) (h : decMn_v2 b = some x2) : b = iv (x2) := by
  unfold decMn_v2 at h
  split at h
  · cases h
    rfl
  · cases h
def decMn_v3 : V → Option ((Nat))
  | .sub 1000 3 0 j => some (j)
  | _ => none
theorem decMn_v3_ok (b : V) (x3 : (Nat)) (h : decMn_v3 b = some x3) : b = .sub 1000 3 0 (x3) := by
  unfold decMn_v3 at h
  split at h
  · cases h
    rfl
  · cases h
def decMn_v4 : V → Option ((Int))
  | .s (.int .i64 i) => some (i)
  | _ => none
theorem decMn_v4_ok (b : V) (x4 : (Int)) (h : decMn_v4 b = some x4) : b = iv (x4) := by
  unfold decMn_v4 at h
  split at h
  · cases h
    rfl
  · cases h
def decMn_b0 : Blk → Option ((Int) × (Int) × (Int))
  | .cells tt0 [.s (.int .i64 ra), .s (.int .i64 rb), .s (.int .i64 rc)] => if tt0 = 23 then some (ra, rb, rc) else none
  | _ => none
theorem decMn_b0_ok (b : Blk) (y0 : (Int) × (Int) × (Int)) (h : decMn_b0 b = some y0) : b = .cells 23 [iv (y0.1), iv (y0.2.1), iv (y0.2.2)] := by
  unfold decMn_b0 at h
  split at h
  · obtain ⟨e0, h⟩ := ite_some0 h
    subst e0
    cases h
    rfl
  · cases h
def decMn_b1 : Blk → Option ((List St3))
  | .lst true tt0 [.int .i64, .int .i64, .int .i64] l => if tt0 = 23 then some (l) else none
  | _ => none
theorem decMn_b1_ok (b : Blk) (y1 : (List St3)) (h : decMn_b1 b = some y1) : b = .lst true 23 [.int .i64, .int .i64, .int .i64] (y1) := by
  unfold decMn_b1 at h
  split at h
  · obtain ⟨e0, h⟩ := ite_some0 h
    subst e0
    cases h
    rfl
  · cases h
def decMn : List V → List Blk → Option (PMn × AMn)
  | [v0, v1, v2, v3, v4], [b0, b1] => (decMn_v0 v0).bind fun x0 => (decMn_v1 v1).bind fun x1 => (decMn_v2 v2).bind fun x2 => (decMn_v3 v3).bind fun x3 => (decMn_v4 v4).bind fun x4 => (decMn_b0 b0).bind fun y0 => (decMn_b1 b1).bind fun y1 => some (⟨(x1), (x2), (y0.1), (y0.2.1), (y0.2.2)⟩, ⟨(y1), (x3), (x4)⟩)
  | _, _ => none
theorem decMn_ok (l : List V) (b : List Blk) (d : PMn × AMn) (h : decMn l b = some d) : l = vsMn d.1 d.2 ∧ b = bsMn d.1 d.2 := by
  unfold decMn at h
  split at h
  · obtain ⟨x0, hx0, h⟩ := Option.bind_eq_some_iff.1 h
    obtain ⟨x1, hx1, h⟩ := Option.bind_eq_some_iff.1 h
    obtain ⟨x2, hx2, h⟩ := Option.bind_eq_some_iff.1 h
    obtain ⟨x3, hx3, h⟩ := Option.bind_eq_some_iff.1 h
    obtain ⟨x4, hx4, h⟩ := Option.bind_eq_some_iff.1 h
    obtain ⟨y0, hy0, h⟩ := Option.bind_eq_some_iff.1 h
    obtain ⟨y1, hy1, h⟩ := Option.bind_eq_some_iff.1 h
    have ex0 := decMn_v0_ok _ _ hx0
    have ex1 := decMn_v1_ok _ _ hx1
    have ex2 := decMn_v2_ok _ _ hx2
    have ex3 := decMn_v3_ok _ _ hx3
    have ex4 := decMn_v4_ok _ _ hx4
    have ey0 := decMn_b0_ok _ _ hy0
    have ey1 := decMn_b1_ok _ _ hy1
    cases h
    subst ex0 ex1 ex2 ex3 ex4 ey0 ey1
    exact ⟨rfl, rfl⟩
  · cases h
noncomputable def rgMn : Nat := (firstReg lpMn).getD 0
theorem rgMn_is : firstReg lpMn = some rgMn := by kernel_rfl
end Go.Proofs.Ytndcealgackgiaa.Sta

/- Layer 9: StatMany: its loop. -/
namespace Go.Proofs.Ytndcealgackgiaa.Sta
open Go.Eng Go.RowKit Mil
set_option linter.unusedVariables false
set_option linter.unusedSimpArgs false
def nwM (x i : Int) : St3 := (i, 0, IntKind.wrap .i64 (x + Int.tmod i 2))
theorem mn_n (p : PMn) (a : AMn) : T.path [true, false, true] (rdMn p a) = some ([(decide (a.i < p.k), true), ((2 : Int) == 0, false), (true && (decide (a.j = a.l.length) && decide (a.j + [nwM p.x a.i].length ≤ 1000000)), true)], (.normal, FMn p ⟨a.l ++ [nwM p.x a.i], a.j + 1, IntKind.wrap .i64 (a.i + 1)⟩)) := by kernel_rfl
theorem mn_x (p : PMn) (a : AMn) : T.path [false] (rdMn p a) = some ([(decide (a.i < p.k), false)], (.exit 0, FMn p a)) := by kernel_rfl
/-- m pods, told in turn -/
def mkM (x : Int) : Nat → List St3
  | 0 => []
  | m + 1 => mkM x m ++ [((m : Int), 0, x + (m : Int) % 2)]
theorem mkM_length (x : Int) : ∀ m, (mkM x m).length = m
  | 0 => rfl
  | m + 1 => by simp [mkM, mkM_length x m]
structure okMn (p : PMn) (a : AMn) : Prop where
  x0 : 0 ≤ p.x
  x1 : p.x ≤ 1000000
  k1 : p.k ≤ 1000
  i0 : 0 ≤ a.i
  i1 : a.i ≤ p.k
  j : (a.j : Int) = a.i
  l : a.l = mkM p.x a.j
def goMn (p : PMn) (a : AMn) : Bool := decide (a.i < p.k)
def muMn (p : PMn) (a : AMn) : Nat := (p.k - a.i).toNat
theorem nwM_is {x i : Int} (h0 : 0 ≤ x) (h1 : x ≤ 1000000) (h2 : 0 ≤ i) : nwM x i = (i, 0, x + i % 2) := by
  unfold nwM
  rw [Int.tmod_eq_emod_of_nonneg h2, wrap64_in (by omega) (by omega)]
theorem Mn_on {p : PMn} {a : AMn} (h : okMn p a) (hg : goMn p a = true) : (rdMn p a).eval = some (.normal, FMn p ⟨mkM p.x (a.j + 1), a.j + 1, a.i + 1⟩) ∧ okMn p ⟨mkM p.x (a.j + 1), a.j + 1, a.i + 1⟩ := by
  have hi : a.i < p.k := of_decide_eq_true hg
  obtain ⟨h0, h1, h2, h3, h4, h5, h6⟩ := h
  have way := mn_n p a
  have e : a.l ++ [nwM p.x a.i] = mkM p.x (a.j + 1) := by
    rw [nwM_is h0 h1 h3, h6, ← h5]; rfl
  have hl : a.j = a.l.length := by rw [h6, mkM_length]
  rw [wrap64_in (n := a.i + 1) (by omega) (by omega), e] at way
  refine ⟨T.path_eval way ⟨hg, by decide, ?_, trivial⟩, h0, h1, h2, by show 0 ≤ a.i + 1; omega, by show a.i + 1 ≤ p.k; omega, by show ((a.j + 1 : Nat) : Int) = a.i + 1; omega, rfl⟩
  simp only [Bool.true_and, Bool.and_eq_true, decide_eq_true_eq, List.length_singleton]
  exact ⟨hl, by omega⟩
theorem stepMn (p : PMn) (a : AMn) (h : okMn p a) (hg : goMn p a = true) : ∃ b, stepC okMn rdMn FMn muMn p a b := by
  obtain ⟨r1, r2⟩ := Mn_on h hg
  have hi : a.i < p.k := of_decide_eq_true hg
  exact ⟨_, r1, r2, by show (p.k - (a.i + 1)).toNat < (p.k - a.i).toNat; omega⟩
theorem exMn (p : PMn) (a : AMn) (h : okMn p a) (hg : goMn p a = false) : (rdMn p a).eval = some (.exit 0, FMn p a) := T.path_eval (mn_x p a) ⟨hg, trivial⟩
noncomputable def famMn : LSpec := famC [5,7,8,9,10] SMn 1000 1002 92 decMn okMn goMn rdMn FMn muMn (.exit 0)
theorem lpMn_ok : LoopOk Q9 lpMn famMn := famC_ok (vs := vsMn) (bs := bsMn) Q9_ok mixed (noLoops_ok _) decMn_ok (by simp) (fun _ _ => rfl) (fun _ _ => rfl) stepMn exMn
theorem Mn_end {p : PMn} (h0 : 0 ≤ p.x) (h1 : p.x ≤ 1000000) (h2 : 0 ≤ p.k) (h3 : p.k ≤ 1000) : invC okMn p ⟨[], 0, 0⟩ = true ∧ (endW (nxtC okMn goMn rdMn FMn muMn p) ⟨[], 0, 0⟩) = ⟨mkM p.x p.k.toNat, p.k.toNat, p.k⟩ := by
  have hh : okMn p ⟨[], 0, 0⟩ := ⟨h0, h1, h3, Int.le_refl _, h2, rfl, rfl⟩
  obtain ⟨k1, k2, k3⟩ := endW_says (nxt := nxtC okMn goMn rdMn FMn muMn p) (I := fun a => okMn p a) (μ := muMn p) (fun a b _ e => (nxtC_some e).2.2) hh
  have g := nxtC_none stepMn k1 k2
  refine ⟨invC_is hh, ?_⟩
  generalize endW (nxtC okMn goMn rdMn FMn muMn p) ⟨[], 0, 0⟩ = a at *
  obtain ⟨l, j, i⟩ := a
  have hi : ¬ i < p.k := of_decide_eq_false g
  obtain ⟨_, _, _, q3, q4, q5, q6⟩ := k1
  dsimp only at q3 q4 q5 q6
  have e1 : i = p.k := by omega
  have e2 : p.k.toNat = j := by omega
  rw [e2, q6, e1]
noncomputable def manX : Eng.Spec := execS Q9 (byReg [(rgMn, famMn)]) 3
theorem manX_ok : SpecOk Try.prog 3 manX := execS_loops Q9_ok mixed Try.func3 (by kernel_rfl) (by kernel_rfl) (one_lp (c := lpMn) (by kernel_rfl) rgMn_is lpMn_ok)
end Go.Proofs.Ytndcealgackgiaa.Sta

/- Layer 9: StatMany. -/
namespace Go.Proofs.Ytndcealgackgiaa.Sta
open Go.Eng Go.RowKit Mil
set_option linter.unusedVariables false
set_option linter.unusedSimpArgs false
def pM (v n a b c : Int) : PMn := ⟨IntKind.wrap .i64 (Int.tmod (IntKind.wrap .u64 v) 1000000), IntKind.wrap .i64 (1 + IntKind.wrap .i64 (Int.tmod (IntKind.wrap .u64 n) 20)), a, b, c⟩
def l1 (E : AMn) : List St3 := List.take E.j (List.drop 0 E.l)
def l2 (E : AMn) (y : St3) : List St3 := List.take (E.j + [y].length) (List.drop 0 (E.l ++ [y]))
def y9 (E : AMn) : St3 := (99, 0, meV (heardL 0 (l1 E)))
def eqR3 (l m : List St3) : Bool := eqRows [.int .i64, .int .i64, .int .i64] l m
def cdM (p : PMn) (E : AMn) (r : St3) (e : Bool) : List (Bool × Bool) :=
  [(decide (0 + E.j ≤ E.l.length), true), (okL3 (l1 E), true), (true && (decide (E.j = E.l.length) && decide (E.j + [y9 E].length ≤ 1000000)), true), (decide (0 + (E.j + [y9 E].length) ≤ (E.l ++ [y9 E]).length), true), (okL3 (l2 E (y9 E)), true),
    (mayR (p.ra, p.rb, p.rc), e), (true && (decide (E.j = E.l.length) && (decide (E.j + [r].length ≤ 1000000) && eqR3 ((E.l ++ [y9 E]).take E.j) E.l)), true), (decide (0 + (E.j + [r].length) ≤ (E.l ++ [r]).length), true), (okL3 (l2 E r), true)]
def fiM (p : PMn) (E : AMn) (r : St3) : Bool :=
  bif bif bif bif (heardL 0 (l1 E)).n == p.k then (heardL 0 (l2 E (y9 E))).n == IntKind.wrap .i64 (p.k + 1) else false then meV (heardL 0 (l2 E (y9 E))) == meV (heardL 0 (l1 E)) else false then meV (heardL 0 (l2 E r)) == meV (heardL 0 (l1 E)) else false then (heardL 0 (l2 E r)).n == p.k else false
noncomputable def enM (p : PMn) : AMn := endW (nxtC okMn goMn rdMn FMn muMn p) ⟨[], 0, 0⟩
theorem ma_t (v n a b c : Int) : T.path [false, false, true, true, true, true, true, true, true, true, true, true] (T.anon (manX [iv v, iv n, .agg [iv a, iv b, iv c]])) = some (((1000000 : Int) == 0, false) :: ((20 : Int) == 0, false) :: (invC okMn (pM v n a b c) ⟨[], 0, 0⟩, true) :: cdM (pM v n a b c) (enM (pM v n a b c)) (-1, b, c) true, .s (.bool (fiM (pM v n a b c) (enM (pM v n a b c)) (-1, b, c)))) := by kernel_rfl
theorem ma_f (v n a b c : Int) : T.path [false, false, true, true, true, true, true, true, false, true, true, true] (T.anon (manX [iv v, iv n, .agg [iv a, iv b, iv c]])) = some (((1000000 : Int) == 0, false) :: ((20 : Int) == 0, false) :: (invC okMn (pM v n a b c) ⟨[], 0, 0⟩, true) :: cdM (pM v n a b c) (enM (pM v n a b c)) (a, b, c) false, .s (.bool (fiM (pM v n a b c) (enM (pM v n a b c)) (a, b, c)))) := by kernel_rfl
theorem heard0 (l : List St3) : heardL 0 l = totL 0 l := by unfold heardL; split <;> rfl
theorem tot_may {t : Tot} {y : St3} (h : mayR y = true) (h0 : 0 ≤ t.s + y.2.2) (h1 : t.s + y.2.2 ≤ 9223372036854775807) (hc : t.c = false) : stepT 0 t y = ⟨t.s + y.2.2, t.n + 1, false⟩ := by
  unfold stepT
  have hm : mayC 0 y = true := by
    unfold mayC
    rw [h, Bool.true_and]
    unfold mayR at h
    simp only [Bool.and_eq_true, decide_eq_true_eq] at h
    exact decide_eq_true h.1.2
  obtain ⟨c1, c2⟩ := cut_in (t.s + y.2.2) (by omega) (by omega)
  rw [if_pos hm]
  simp only [c1, c2, hc]
  rfl
theorem tot_not {t : Tot} {y : St3} (h : mayR y = false) : stepT 0 t y = t := by
  unfold stepT mayC
  rw [h]; rfl
theorem totM (x : Int) (h0 : 0 ≤ x) (h1 : x ≤ 1000000) : ∀ m : Nat, m ≤ 1000 → totL 0 (mkM x m) = ⟨(m : Int) * x + (m : Int) / 2, m, false⟩
  | 0, _ => by
    show (⟨0, 0, false⟩ : Tot) = _
    simp
  | m + 1, hm => by
    show totL 0 (mkM x m ++ [((m : Int), 0, x + (m : Int) % 2)]) = _
    rw [totL_snoc, totM x h0 h1 m (by omega)]
    have e1 : ((m + 1 : Nat) : Int) = (m : Int) + 1 := by omega
    have b0 : 0 ≤ (m : Int) * x := Int.mul_nonneg (by omega) h0
    have b1 : (m : Int) * x ≤ 1000 * 1000000 := Int.mul_le_mul (by omega) h1 h0 (by omega)
    have e2 : ((m : Int) + 1) * x = (m : Int) * x + x := by rw [Int.add_mul, Int.one_mul]
    have hmay : mayR ((m : Int), (0 : Int), x + (m : Int) % 2) = true := by
      unfold mayR
      simp only [Bool.and_eq_true, decide_eq_true_eq]
      omega
    rw [tot_may hmay (by dsimp only; omega) (by dsimp only; omega) rfl]
    dsimp only
    rw [e1, e2]
    generalize (m : Int) * x = q at *
    have : q + (m : Int) / 2 + (x + (m : Int) % 2) = q + x + ((m : Int) + 1) / 2 := by omega
    rw [this]
theorem okM (x : Int) (h0 : 0 ≤ x) (h1 : x ≤ 1000000) : ∀ m : Nat, ∀ y ∈ mkM x m, inR y.2.2 = true
  | 0, y, h => by cases h
  | m + 1, y, h => by
    rcases List.mem_append.1 h with h | h
    · exact okM x h0 h1 m y h
    · rw [List.mem_singleton.1 h]
      exact inR_iff.2 (by dsimp only; omega)
theorem eqI_rfl (a : Int) : eqI a a = true := decide_eq_true rfl
theorem eq3_rfl (l : List St3) : eqR3 l l = true := eqRows_rfl (ks := [.int .i64, .int .i64, .int .i64]) (fun x => by
  obtain ⟨a, b, c⟩ := x
  show (eqI a a && (eqI b b && eqI c c)) = true
  exact (congrArg (· && (eqI b b && eqI c c)) (eqI_rfl a)).trans ((congrArg (· && eqI c c) (eqI_rfl b)).trans (eqI_rfl c))) l
/-- a mean more leaves the mean -/
theorem mean_more {S n : Int} (hS : 0 ≤ S) (hn : 0 < n) : Int.tdiv (S + Int.tdiv S n) (n + 1) = Int.tdiv S n := by
  have e0 : Int.tdiv S n = S / n := Int.tdiv_eq_ediv_of_nonneg hS
  have q0 : 0 ≤ S / n := Int.ediv_nonneg hS (by omega)
  rw [e0, Int.tdiv_eq_ediv_of_nonneg (by omega)]
  have h1 := Int.mul_ediv_add_emod S n
  have h2 := Int.emod_nonneg S (show n ≠ 0 by omega)
  have h3 := Int.emod_lt_of_pos S hn
  generalize S / n = q at *
  generalize S % n = r at *
  have e : S + q = r + q * (n + 1) := by rw [Int.mul_add, Int.mul_comm q n]; omega
  rw [e, Int.add_mul_ediv_right _ _ (by omega), Int.ediv_eq_zero_of_lt h2 (by omega)]
  omega
theorem many_run (v n a b c : Int) (hc : inR c = true) : (manX [iv v, iv n, .agg [iv a, iv b, iv c]]).yes := by
  unfold T.yes
  rw [← T.eval_anon (t := manX _)]
  refine .inr ?_
  have hx := modU_range v (m := 1000000) (by decide)
  have hk := modU_range n (m := 20) (by decide)
  have hp : pM v n a b c = ⟨(v % 18446744073709551616) % 1000000, 1 + (n % 18446744073709551616) % 20, a, b, c⟩ := by
    unfold pM
    rw [modU (n := v) (by decide) (by decide), modU (n := n) (by decide) (by decide), wrap64_in (by omega) (by omega)]
  have wt := ma_t v n a b c
  have wf := ma_f v n a b c
  rw [hp] at wt wf
  clear hp
  generalize (v % 18446744073709551616) % 1000000 = x at *
  generalize (n % 18446744073709551616) % 20 = k0 at *
  obtain ⟨m, hm⟩ : ∃ m : Nat, 1 + k0 = (m : Int) := ⟨(1 + k0).toNat, by omega⟩
  rw [hm] at wt wf
  have hm1 : 1 ≤ m ∧ m ≤ 20 := by omega
  obtain ⟨hi, he⟩ := Mn_end (p := ⟨x, m, a, b, c⟩) hx.1 (by show x ≤ 1000000; omega) (by show (0 : Int) ≤ m; omega) (by show (m : Int) ≤ 1000; omega)
  have he : enM ⟨x, m, a, b, c⟩ = ⟨mkM x m, m, m⟩ := by
    unfold enM
    rw [he]
    simp
  rw [he] at wt wf
  have el : l1 ⟨mkM x m, m, m⟩ = mkM x m := by
    unfold l1
    dsimp only
    rw [List.drop_zero, List.take_of_length_le (by rw [mkM_length]; omega)]
  have el2 : ∀ y, l2 ⟨mkM x m, m, m⟩ y = mkM x m ++ [y] := fun y => by
    unfold l2
    dsimp only
    rw [List.drop_zero, List.take_of_length_le (by rw [List.length_append, mkM_length]; exact Nat.le_refl _)]
  have ht := totM x hx.1 (by omega) m (by omega)
  have b0 : 0 ≤ (m : Int) * x := Int.mul_nonneg (by omega) hx.1
  have b1 : (m : Int) * x ≤ 20 * 1000000 := Int.mul_le_mul (by omega) (by omega) hx.1 (by omega)
  have S0 : 0 ≤ (m : Int) * x + (m : Int) / 2 := by omega
  have S1 : (m : Int) * x + (m : Int) / 2 ≤ 100000000 := by omega
  generalize (m : Int) * x + (m : Int) / 2 = S at *
  have hn1 : heardL 0 (mkM x m) = ⟨S, m, false⟩ := by rw [heard0, ht]
  have hme : meV ⟨S, m, false⟩ = Int.tdiv S m := by unfold meV; dsimp only; rw [if_neg (by omega)]
  have a0 : 0 ≤ Int.tdiv S m := by rw [Int.tdiv_eq_ediv_of_nonneg S0]; exact Int.ediv_nonneg S0 (by omega)
  have a1 : Int.tdiv S m ≤ S := by rw [Int.tdiv_eq_ediv_of_nonneg S0]; exact Int.ediv_le_self _ S0
  have hy : y9 ⟨mkM x m, m, m⟩ = (99, 0, Int.tdiv S m) := by
    unfold y9
    rw [el, hn1, hme]
  have hmean := mean_more (S := S) (n := m) S0 (by omega)
  generalize Int.tdiv S m = q at *
  have hn2 : heardL 0 (mkM x m ++ [(99, 0, q)]) = ⟨S + q, (m : Int) + 1, false⟩ := by
    rw [heard0, totL_snoc, ht]
    exact tot_may (by unfold mayR; simp only [Bool.and_eq_true, decide_eq_true_eq]; omega) (by dsimp only; omega) (by dsimp only; omega) rfl
  have hme2 : meV ⟨S + q, (m : Int) + 1, false⟩ = q := by unfold meV; dsimp only; rw [if_neg (by omega)]; exact hmean
  have hokl : okL3 (mkM x m) = true := by
    unfold okL3
    simp only [Bool.and_eq_true, decide_eq_true_eq, List.all_eq_true, mkM_length]
    exact ⟨by omega, okM x hx.1 (by omega) m⟩
  have hok2 : ∀ y : St3, inR y.2.2 = true → okL3 (mkM x m ++ [y]) = true := fun y hy => by
    unfold okL3
    simp only [Bool.and_eq_true, decide_eq_true_eq, List.all_eq_true, List.length_append, mkM_length, List.length_singleton]
    refine ⟨by omega, fun z hz => ?_⟩
    rcases List.mem_append.1 hz with h | h
    · exact okM x hx.1 (by omega) m z h
    · rw [List.mem_singleton.1 h]; exact hy
  have heq : eqR3 ((mkM x m ++ [(99, 0, q)]).take m) (mkM x m) = true := by
    have : (mkM x m ++ [((99 : Int), (0 : Int), q)]).take m = mkM x m := by
      rw [List.take_append_of_le_length (by rw [mkM_length]; exact Nat.le_refl _), List.take_of_length_le (by rw [mkM_length]; exact Nat.le_refl _)]
    rw [this]
    exact eq3_rfl _
  have says : ∀ (r : St3) (e : Bool), mayR (a, b, c) = e → inR r.2.2 = true → allSay (cdM ⟨x, m, a, b, c⟩ ⟨mkM x m, m, m⟩ r e) := fun r e hr hin => by
    unfold cdM
    rw [hy, el, el2, el2]
    dsimp only
    have hl : m = (mkM x m).length := (mkM_length x m).symm
    refine ⟨decide_eq_true (by rw [mkM_length]; omega), hokl, ?_, decide_eq_true (by rw [List.length_append, mkM_length]; simp), hok2 _ (inR_iff.2 (by dsimp only; omega)), hr, ?_, decide_eq_true (by rw [List.length_append, mkM_length]; simp), hok2 _ hin, trivial⟩
    · simp only [Bool.true_and, Bool.and_eq_true, decide_eq_true_eq, List.length_singleton]
      exact ⟨hl, by omega⟩
    · rw [heq]
      simp only [Bool.true_and, Bool.and_true, Bool.and_eq_true, decide_eq_true_eq, List.length_singleton]
      exact ⟨hl, by omega⟩
  have fin : ∀ r : St3, mayR r = false → fiM ⟨x, m, a, b, c⟩ ⟨mkM x m, m, m⟩ r = true := fun r hr => by
    have hn3 : heardL 0 (mkM x m ++ [r]) = ⟨S, m, false⟩ := by rw [heard0, totL_snoc, tot_not hr, ht]
    unfold fiM
    rw [hy, el, el2, el2, hn1, hn2, hn3, hme, hme2, wrap64_in (by dsimp only; omega) (by dsimp only; omega)]
    simp
  cases hr : mayR (a, b, c) with
  | true =>
    have hr2 : mayR (-1, b, c) = false := by unfold mayR; simp
    rw [fin _ hr2] at wt
    have hs := says (-1, b, c) true hr hc
    generalize cdM ⟨x, m, a, b, c⟩ ⟨mkM x m, m, m⟩ (-1, b, c) true = Q at *
    exact T.path_eval wt ⟨by decide, by decide, hi, hs⟩
  | false =>
    rw [fin _ hr] at wf
    have hs := says (a, b, c) false hr hc
    generalize cdM ⟨x, m, a, b, c⟩ ⟨mkM x m, m, m⟩ (a, b, c) false = Q at *
    exact T.path_eval wf ⟨by decide, by decide, hi, hs⟩
theorem statMany_walk (v : Int) (_ : (Lit.int .i64 v).wf = true) (n : Int) (_ : (Lit.int .i64 n).wf = true) (a : Int) (_ : (Lit.int .i64 a).wf = true) (b : Int) (_ : (Lit.int .i64 b).wf = true) (c : Int) (hc : (Lit.int .i64 c).wf = true) (w : World) :
    Calls Try.prog 3 #[.int .i64 v, .int .i64 n, .agg #[.int .i64 a, .int .i64 b, .int .i64 c]] w fun e w' => e = .returned (.bool true) ∧ Below w.heap.size w w' :=
  law_yes manX_ok (args := [iv v, iv n, .agg [iv a, iv b, iv c]]) rfl (many_run v n a b c (inR_iff.2 (wf64 hc))) w
end Go.Proofs.Ytndcealgackgiaa.Sta

