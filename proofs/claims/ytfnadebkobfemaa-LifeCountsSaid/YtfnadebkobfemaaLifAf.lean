/- Layer 21: LifeGoes: its loops. -/
import Derived.Test.YtfnadebkobfemaaLifAe
namespace Go.Proofs.Ytfnadebkobfemaa.Lif
open Go.Eng Go.RowKit
set_option linter.unusedVariables false
set_option linter.unusedSimpArgs false
noncomputable def lpG0 : Code := loopAt Try.prog 8 0
noncomputable def lpGi : Code := (loopsIn lpG0).getD 0 .skip
structure PGi where (c : Int) (k : Int) (s : Int) (i : Int) (m : Int)
structure AGi where (n : Nat) (l : List R4) (j : Int)
abbrev SGi : List (Nat × Src) := [(0, .same), (3000, .cell 0 1)]
def vsGi (p : PGi) (a : AGi) : List V := [iv p.c, iv p.k, iv p.s, .ptr 0 0, iv p.i, iv a.j]
def bsGi (p : PGi) (a : AGi) : List Blk := [.cells 108 [iv p.m, .sub 3000 4 0 a.n], .lst true 39 [.int .i64, .int .i64, .int .i64, .int .i64] a.l]
noncomputable def FGi (p : PGi) (a : AGi) : St := mkSt [2,7,8,9,10,11] (keysR SGi) 3001 135 (vsGi p a) (bsGi p a)
noncomputable def rdGi (p : PGi) (a : AGi) : T (Ex × St) := T.anon (roundN JL noLoops lpGi [2,7,8,9,10,11] SGi 3000 3001 (mkSt [2,7,8,9,10,11] (keysR SGi) 3001 135 (vsGi p a) (bsGi p a)))
def decGi : List V → List Blk → Option (PGi × AGi)
  | [.s (.int .i64 c), .s (.int .i64 k), .s (.int .i64 s), .ptr 0 0, .s (.int .i64 i), .s (.int .i64 j)], [.cells tt0 [.s (.int .i64 m), .sub 3000 4 0 n], .lst true tt1 [.int .i64, .int .i64, .int .i64, .int .i64] l] =>
    if tt0 = 108 then if tt1 = 39 then some (⟨c, k, s, i, m⟩, ⟨n, l, j⟩) else none else none
  | _, _ => none
theorem decGi_ok (l : List V) (b : List Blk) (d : PGi × AGi) (h : decGi l b = some d) : l = vsGi d.1 d.2 ∧ b = bsGi d.1 d.2 := by
  unfold decGi at h
  split at h
  · obtain ⟨e0, h⟩ := ite_some0 h
    obtain ⟨e1, h⟩ := ite_some0 h
    subst e0 e1
    cases h
    exact ⟨rfl, rfl⟩
  · cases h
noncomputable def rgGi : Nat := (firstReg lpGi).getD 0
theorem rgGi_is : firstReg lpGi = some rgGi := by kernel_rfl
theorem wayGi (p : PGi) (a : AGi) : T.path [true, true, false] (rdGi p a) = some ([(decide (a.j < p.i), true), (okN a.n a.l, true), ((entP p.i a.l).1 != 0, false)], (.normal, FGi p ⟨a.n, (entP p.i a.l).2, IntKind.wrap .i64 (a.j + 1)⟩)) := by kernel_rfl
theorem wayGix (p : PGi) (a : AGi) : T.path [false] (rdGi p a) = some ([(decide (a.j < p.i), false)], (.exit 2, FGi p a)) := by kernel_rfl
def goE (k : Int) : Nat → List R4
  | 0 => crS k
  | i + 1 => entN i i (goE k i)
def goC (k i j : Nat) : Bool := decide ((entN i j (goE k i)).length = k) && ((entP i (entN i j (goE k i))).1 == 0)
theorem goC_is : ∀ k : Fin 11, ∀ i : Fin 10, ∀ j : Fin 11, i.val < k.val → goC k.val i.val j.val = true := by decide +kernel
theorem goC_at {k i : Int} {j : Nat} (h1 : 1 ≤ k) (h2 : k ≤ 10) (h3 : 0 ≤ i) (h4 : i < k) (h5 : j < 11) : (entN i j (goE k i.toNat)).length = k.toNat ∧ ((entP i (entN i j (goE k i.toNat))).1 == 0) = true := by
  have h := goC_is ⟨k.toNat, by omega⟩ ⟨i.toNat, by omega⟩ ⟨j, h5⟩ (by show i.toNat < k.toNat; omega)
  unfold goC at h
  simp only [Bool.and_eq_true, decide_eq_true_eq, Int.toNat_of_nonneg h3, Int.toNat_of_nonneg (show 0 ≤ k by omega)] at h
  exact h
def okGi (p : PGi) (a : AGi) : Prop := 1 ≤ p.k ∧ p.k ≤ 10 ∧ 0 ≤ p.i ∧ p.i < p.k ∧ 0 ≤ a.j ∧ a.j ≤ p.i ∧ a.n = a.l.length ∧ a.l = entN p.i a.j.toNat (goE p.k p.i.toNat)
def goGi (p : PGi) (a : AGi) : Bool := decide (a.j < p.i)
def muGi (p : PGi) (a : AGi) : Nat := (p.i - a.j).toNat
theorem stepGi (p : PGi) (a : AGi) (h : okGi p a) (hg : goGi p a = true) : ∃ b, stepC okGi rdGi FGi muGi p a b := by
  obtain ⟨h1, h2, h3, h4, h5, h6, h7, h8⟩ := id h
  have hi : a.j < p.i := of_decide_eq_true hg
  have hw : IntKind.wrap .i64 (a.j + 1) = a.j + 1 := wrap64_in (by omega) (by omega)
  have hi1 : (a.j + 1).toNat = a.j.toNat + 1 := by omega
  obtain ⟨c1, c2⟩ := goC_at (j := a.j.toNat) h1 h2 h3 h4 (by omega)
  obtain ⟨d1, d2⟩ := goC_at (j := a.j.toNat + 1) h1 h2 h3 h4 (by omega)
  rw [← h8] at c1 c2
  refine ⟨_, T.path_eval (wayGi p a) ⟨hg, decide_eq_true ⟨h7, by omega⟩, ?_, trivial⟩, ⟨h1, h2, h3, h4, ?_, ?_, ?_, ?_⟩, ?_⟩
  · show ((entP p.i a.l).1 != 0) = false
    unfold bne; rw [c2]; rfl
  · show 0 ≤ IntKind.wrap .i64 (a.j + 1); rw [hw]; omega
  · show IntKind.wrap .i64 (a.j + 1) ≤ p.i; rw [hw]; omega
  · show a.n = (entP p.i a.l).2.length
    have : (entN p.i (a.j.toNat + 1) (goE p.k p.i.toNat)) = (entP p.i a.l).2 := by rw [h8]; rfl
    rw [← this, d1, h7, c1]
  · show (entP p.i a.l).2 = entN p.i (IntKind.wrap .i64 (a.j + 1)).toNat (goE p.k p.i.toNat)
    rw [hw, hi1, h8]; rfl
  · show (p.i - IntKind.wrap .i64 (a.j + 1)).toNat < (p.i - a.j).toNat
    rw [hw]; omega
theorem exGi (p : PGi) (a : AGi) (h : okGi p a) (hg : goGi p a = false) : (rdGi p a).eval = some (.exit 2, FGi p a) := T.path_eval (wayGix p a) ⟨hg, trivial⟩
noncomputable def famGi : LSpec := famC [2,7,8,9,10,11] SGi 3000 3001 135 decGi okGi goGi rdGi FGi muGi (.exit 2)
theorem lpGi_ok : LoopOk JL lpGi famGi := famC_ok (vs := vsGi) (bs := bsGi) JL_ok mixed (noLoops_ok _) decGi_ok (by simp) (fun _ _ => rfl) (fun _ _ => rfl) stepGi exGi
noncomputable def lpGo : Code := lpG0
structure PGo where (c : Int) (k : Int) (s : Int) (m : Int)
structure AGo where (n : Nat) (l : List R4) (i : Int)
abbrev SGo : List (Nat × Src) := [(0, .same), (2000, .cell 0 1)]
def vsGo (p : PGo) (a : AGo) : List V := [iv p.c, iv p.k, iv p.s, .ptr 0 0, iv a.i]
def bsGo (p : PGo) (a : AGo) : List Blk := [.cells 108 [iv p.m, .sub 2000 4 0 a.n], .lst true 39 [.int .i64, .int .i64, .int .i64, .int .i64] a.l]
noncomputable def FGo (p : PGo) (a : AGo) : St := mkSt [2,7,8,9,10] (keysR SGo) 2001 135 (vsGo p a) (bsGo p a)
noncomputable def rdGo (p : PGo) (a : AGo) : T (Ex × St) := T.anon (roundN JL (byReg [(rgGi, famGi)]) lpGo [2,7,8,9,10] SGo 2000 2001 (mkSt [2,7,8,9,10] (keysR SGo) 2001 135 (vsGo p a) (bsGo p a)))
def decGo : List V → List Blk → Option (PGo × AGo)
  | [.s (.int .i64 c), .s (.int .i64 k), .s (.int .i64 s), .ptr 0 0, .s (.int .i64 i)], [.cells tt0 [.s (.int .i64 m), .sub 2000 4 0 n], .lst true tt1 [.int .i64, .int .i64, .int .i64, .int .i64] l] =>
    if tt0 = 108 then if tt1 = 39 then some (⟨c, k, s, m⟩, ⟨n, l, i⟩) else none else none
  | _, _ => none
theorem decGo_ok (l : List V) (b : List Blk) (d : PGo × AGo) (h : decGo l b = some d) : l = vsGo d.1 d.2 ∧ b = bsGo d.1 d.2 := by
  unfold decGo at h
  split at h
  · obtain ⟨e0, h⟩ := ite_some0 h
    obtain ⟨e1, h⟩ := ite_some0 h
    subst e0 e1
    cases h
    exact ⟨rfl, rfl⟩
  · cases h
noncomputable def rgGo : Nat := (firstReg lpGo).getD 0
theorem rgGo_is : firstReg lpGo = some rgGo := by kernel_rfl
theorem goLoops : loopsIn lpGo = [lpGi] := by kernel_rfl
theorem goIn : LoopsOkS JL (byReg [(rgGi, famGi)]) lpGo := lps_in goLoops rgGi_is lpGi_ok
noncomputable def eGi (p : PGi) (a : AGi) : AGi := endW (nxtC okGi goGi rdGi FGi muGi p) a
noncomputable def pGi (p : PGo) (a : AGo) : PGi := ⟨p.c, p.k, p.s, a.i, p.m⟩
def aGi (a : AGo) : AGi := ⟨a.n, a.l, 0⟩
theorem wayGo (p : PGo) (a : AGo) : T.path [true, true] (rdGo p a) = some ([(decide (a.i < p.k), true), (invC okGi (pGi p a) (aGi a), true)], (.normal, FGo p ⟨(eGi (pGi p a) (aGi a)).n, (eGi (pGi p a) (aGi a)).l, IntKind.wrap .i64 (a.i + 1)⟩)) := by kernel_rfl
theorem wayGox (p : PGo) (a : AGo) : T.path [false] (rdGo p a) = some ([(decide (a.i < p.k), false)], (.exit 0, FGo p a)) := by kernel_rfl
def okGo (p : PGo) (a : AGo) : Prop := 1 ≤ p.k ∧ p.k ≤ 10 ∧ 0 ≤ a.i ∧ a.i ≤ p.k ∧ a.n = a.l.length ∧ a.l = goE p.k a.i.toNat
def goGo (p : PGo) (a : AGo) : Bool := decide (a.i < p.k)
def muGo (p : PGo) (a : AGo) : Nat := (p.k - a.i).toNat
theorem stepGo (p : PGo) (a : AGo) (h : okGo p a) (hg : goGo p a = true) : ∃ b, stepC okGo rdGo FGo muGo p a b := by
  obtain ⟨h1, h2, h3, h4, h5, h6⟩ := id h
  have hi : a.i < p.k := of_decide_eq_true hg
  have hw : IntKind.wrap .i64 (a.i + 1) = a.i + 1 := wrap64_in (by omega) (by omega)
  have hi1 : (a.i + 1).toNat = a.i.toNat + 1 := by omega
  have h0 : okGi (pGi p a) (aGi a) := ⟨h1, h2, h3, hi, Int.le_refl _, h3, h5, h6⟩
  obtain ⟨k1, k2⟩ := endC stepGi h0
  obtain ⟨_, _, _, _, q5, q6, q7, q8⟩ := k1
  have k2' : ¬ (eGi (pGi p a) (aGi a)).j < a.i := of_decide_eq_false k2
  have q6' : (eGi (pGi p a) (aGi a)).j ≤ a.i := q6
  have q8' : (eGi (pGi p a) (aGi a)).l = entN a.i (eGi (pGi p a) (aGi a)).j.toNat (goE p.k a.i.toNat) := q8
  rw [show (eGi (pGi p a) (aGi a)).j.toNat = a.i.toNat by omega] at q8'
  refine ⟨_, T.path_eval (wayGo p a) ⟨hg, invC_is h0, trivial⟩, ⟨h1, h2, ?_, ?_, q7, ?_⟩, ?_⟩
  · show 0 ≤ IntKind.wrap .i64 (a.i + 1); rw [hw]; omega
  · show IntKind.wrap .i64 (a.i + 1) ≤ p.k; rw [hw]; omega
  · show (eGi (pGi p a) (aGi a)).l = goE p.k (IntKind.wrap .i64 (a.i + 1)).toNat
    rw [hw, hi1, q8']
    show _ = entN ((a.i.toNat : Nat) : Int) a.i.toNat (goE p.k a.i.toNat)
    rw [Int.toNat_of_nonneg h3]
  · show (p.k - IntKind.wrap .i64 (a.i + 1)).toNat < (p.k - a.i).toNat
    rw [hw]; omega
theorem exGo (p : PGo) (a : AGo) (h : okGo p a) (hg : goGo p a = false) : (rdGo p a).eval = some (.exit 0, FGo p a) := T.path_eval (wayGox p a) ⟨hg, trivial⟩
noncomputable def famGo : LSpec := famC [2,7,8,9,10] SGo 2000 2001 135 decGo okGo goGo rdGo FGo muGo (.exit 0)
theorem lpGo_gen {c : Code} (hl : LoopsOkS JL (byReg [(rgGi, famGi)]) c) (hrun : ∀ p a, T.anon (roundN JL (byReg [(rgGi, famGi)]) c [2,7,8,9,10] SGo 2000 2001 (mkSt [2,7,8,9,10] (keysR SGo) 2001 135 (vsGo p a) (bsGo p a))) = rdGo p a) : LoopOk JL c famGo := famC_ok (vs := vsGo) (bs := bsGo) JL_ok mixed hl.ok decGo_ok (by simp) (fun _ _ => rfl) hrun stepGo exGo
theorem lpGo_ok : LoopOk JL lpGo famGo := lpGo_gen goIn (fun _ _ => rfl)
noncomputable def lpGp : Code := loopAt Try.prog 8 1
structure PGp where (k : Int) (w : Int) (q : Nat) (m : Int) (n : Nat) (l : List R4) (g : List R4)
structure AGp where (r : Int) (i : Int)
abbrev SGp : List (Nat × Src) := [(0, .same), (4000, .cell 0 1), (4001, .tmp 13)]
def vsGp (p : PGp) (a : AGp) : List V := [iv p.k, .ptr 0 0, iv p.w, .sub 4001 4 0 p.q, iv a.r, iv a.i]
def bsGp (p : PGp) (a : AGp) : List Blk := [.cells 108 [iv p.m, .sub 4000 4 0 p.n], .lst true 39 [.int .i64, .int .i64, .int .i64, .int .i64] p.l, .lst true 39 [.int .i64, .int .i64, .int .i64, .int .i64] p.g]
noncomputable def FGp (p : PGp) (a : AGp) : St := mkSt [7,9,12,13,14,15] (keysR SGp) 4002 135 (vsGp p a) (bsGp p a)
noncomputable def rdGp (p : PGp) (a : AGp) : T (Ex × St) := T.anon (roundN JL noLoops lpGp [7,9,12,13,14,15] SGp 4000 4002 (mkSt [7,9,12,13,14,15] (keysR SGp) 4002 135 (vsGp p a) (bsGp p a)))
def decGp : List V → List Blk → Option (PGp × AGp)
  | [.s (.int .i64 k), .ptr 0 0, .s (.int .i64 w), .sub 4001 4 0 q, .s (.int .i64 r), .s (.int .i64 i)], [.cells tt0 [.s (.int .i64 m), .sub 4000 4 0 n], .lst true tt1 [.int .i64, .int .i64, .int .i64, .int .i64] l, .lst true tt2 [.int .i64, .int .i64, .int .i64, .int .i64] g] =>
    if tt0 = 108 then if tt1 = 39 then if tt2 = 39 then some (⟨k, w, q, m, n, l, g⟩, ⟨r, i⟩) else none else none else none
  | _, _ => none
theorem decGp_ok (l : List V) (b : List Blk) (d : PGp × AGp) (h : decGp l b = some d) : l = vsGp d.1 d.2 ∧ b = bsGp d.1 d.2 := by
  unfold decGp at h
  split at h
  · obtain ⟨e0, h⟩ := ite_some0 h
    obtain ⟨e1, h⟩ := ite_some0 h
    obtain ⟨e2, h⟩ := ite_some0 h
    subst e0 e1 e2
    cases h
    exact ⟨rfl, rfl⟩
  · cases h
noncomputable def rgGp : Nat := (firstReg lpGp).getD 0
theorem rgGp_is : firstReg lpGp = some rgGp := by kernel_rfl
end Go.Proofs.Ytfnadebkobfemaa.Lif
