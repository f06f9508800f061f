/- Layer 21: LifeCrashes: its loop. -/
import Derived.Test.YtfnadebkobfemaaLifAb
namespace Go.Proofs.Ytfnadebkobfemaa.Lif
open Go.Eng Go.RowKit
set_option linter.unusedVariables false
set_option linter.unusedSimpArgs false
noncomputable def lpCr : Code := loopAt Try.prog 4 0
structure PCr where (k : Int) (b : Int) (w : Int) (m : Int)
structure ACr where (n : Nat) (l : List R4) (i : Int)
abbrev SCr : List (Nat × Src) := [(0, .same), (1000, .cell 0 1)]
def vsCr (p : PCr) (a : ACr) : List V := [iv p.k, iv p.b, .ptr 0 0, iv p.w, iv a.i]
def bsCr (p : PCr) (a : ACr) : List Blk := [.cells 108 [iv p.m, .sub 1000 4 0 a.n], .lst true 39 [.int .i64, .int .i64, .int .i64, .int .i64] a.l]
noncomputable def FCr (p : PCr) (a : ACr) : St := mkSt [7,8,9,10,11] (keysR SCr) 1001 113 (vsCr p a) (bsCr p a)
noncomputable def rdCr (p : PCr) (a : ACr) : T (Ex × St) := T.anon (roundN JL noLoops lpCr [7,8,9,10,11] SCr 1000 1001 (mkSt [7,8,9,10,11] (keysR SCr) 1001 113 (vsCr p a) (bsCr p a)))
def decCr : List V → List Blk → Option (PCr × ACr)
  | [.s (.int .i64 k), .s (.int .i64 b), .ptr 0 0, .s (.int .i64 w), .s (.int .i64 i)], [.cells tt0 [.s (.int .i64 m), .sub 1000 4 0 n], .lst true tt1 [.int .i64, .int .i64, .int .i64, .int .i64] l] =>
    if tt0 = 108 then if tt1 = 39 then some (⟨k, b, w, m⟩, ⟨n, l, i⟩) else none else none
  | _, _ => none
theorem decCr_ok (l : List V) (b : List Blk) (d : PCr × ACr) (h : decCr l b = some d) : l = vsCr d.1 d.2 ∧ b = bsCr d.1 d.2 := by
  unfold decCr at h
  split at h
  · obtain ⟨e0, h⟩ := ite_some0 h
    obtain ⟨e1, h⟩ := ite_some0 h
    subst e0 e1
    cases h
    exact ⟨rfl, rfl⟩
  · cases h
noncomputable def rgCr : Nat := (firstReg lpCr).getD 0
theorem rgCr_is : firstReg lpCr = some rgCr := by kernel_rfl
theorem wayCr (p : PCr) (a : ACr) : T.path [true, true, false] (rdCr p a) = some ([(decide (a.i < p.b), true), (okN a.n a.l, true), ((entP p.w a.l).1 != 0, false)], (.normal, FCr p ⟨a.n, (entP p.w a.l).2, IntKind.wrap .i64 (a.i + 1)⟩)) := by kernel_rfl
theorem wayCrx (p : PCr) (a : ACr) : T.path [false] (rdCr p a) = some ([(decide (a.i < p.b), false)], (.exit 0, FCr p a)) := by kernel_rfl
def entN (w : Int) : Nat → List R4 → List R4
  | 0, l => l
  | n + 1, l => (entP w (entN w n l)).2
def crS (k : Int) : List R4 := ripeL 0 0 (scaleL 0 [] k 0)
def crC (k w i : Nat) : Bool := decide ((entN w i (crS k)).length = k) && ((entP w (entN w i (crS k))).1 == 0)
theorem crC_is : ∀ k : Fin 13, ∀ w : Fin 13, ∀ i : Fin 10, w.val < k.val → crC k.val w.val i.val = true := by decide +kernel
def okCr (p : PCr) (a : ACr) : Prop := 1 ≤ p.k ∧ p.k ≤ 12 ∧ 0 ≤ p.w ∧ p.w < p.k ∧ 0 ≤ p.b ∧ p.b ≤ 9 ∧ 0 ≤ a.i ∧ a.i ≤ p.b ∧ a.n = a.l.length ∧ a.l = entN p.w a.i.toNat (crS p.k)
def goCr (p : PCr) (a : ACr) : Bool := decide (a.i < p.b)
def muCr (p : PCr) (a : ACr) : Nat := (p.b - a.i).toNat
theorem crC_at {k w : Int} {i : Nat} (h1 : 1 ≤ k) (h2 : k ≤ 12) (h3 : 0 ≤ w) (h4 : w < k) (h5 : i < 10) : (entN w i (crS k)).length = k.toNat ∧ ((entP w (entN w i (crS k))).1 == 0) = true := by
  have h := crC_is ⟨k.toNat, by omega⟩ ⟨w.toNat, by omega⟩ ⟨i, h5⟩ (by show w.toNat < k.toNat; omega)
  unfold crC at h
  simp only [Bool.and_eq_true, decide_eq_true_eq, Int.toNat_of_nonneg h3, Int.toNat_of_nonneg (show 0 ≤ k by omega)] at h
  exact h
theorem stepCr (p : PCr) (a : ACr) (h : okCr p a) (hg : goCr p a = true) : ∃ b, stepC okCr rdCr FCr muCr p a b := by
  obtain ⟨h1, h2, h3, h4, h5, h6, h7, h8, h9, h10⟩ := id h
  have hi : a.i < p.b := of_decide_eq_true hg
  have hw : IntKind.wrap .i64 (a.i + 1) = a.i + 1 := wrap64_in (by omega) (by omega)
  have hi1 : (a.i + 1).toNat = a.i.toNat + 1 := by omega
  obtain ⟨c1, c2⟩ := crC_at (i := a.i.toNat) h1 h2 h3 h4 (by omega)
  obtain ⟨d1, d2⟩ := crC_at (i := a.i.toNat + 1) h1 h2 h3 h4 (by omega)
  rw [← h10] at c1 c2
  refine ⟨_, T.path_eval (wayCr p a) ⟨hg, decide_eq_true ⟨h9, by omega⟩, ?_, trivial⟩, ⟨h1, h2, h3, h4, h5, h6, ?_, ?_, ?_, ?_⟩, ?_⟩
  · show ((entP p.w a.l).1 != 0) = false
    unfold bne; rw [c2]; rfl
  · show 0 ≤ IntKind.wrap .i64 (a.i + 1); rw [hw]; omega
  · show IntKind.wrap .i64 (a.i + 1) ≤ p.b; rw [hw]; omega
  · show a.n = (entP p.w a.l).2.length
    have : (entN p.w (a.i.toNat + 1) (crS p.k)) = (entP p.w a.l).2 := by rw [h10]; rfl
    rw [← this, d1, h9, c1]
  · show (entP p.w a.l).2 = entN p.w (IntKind.wrap .i64 (a.i + 1)).toNat (crS p.k)
    rw [hw, hi1, h10]; rfl
  · show (p.b - IntKind.wrap .i64 (a.i + 1)).toNat < (p.b - a.i).toNat
    rw [hw]; omega
theorem exCr (p : PCr) (a : ACr) (h : okCr p a) (hg : goCr p a = false) : (rdCr p a).eval = some (.exit 0, FCr p a) := T.path_eval (wayCrx p a) ⟨hg, trivial⟩
noncomputable def famCr : LSpec := famC [7,8,9,10,11] SCr 1000 1001 113 decCr okCr goCr rdCr FCr muCr (.exit 0)
theorem lpCr_ok : LoopOk JL lpCr famCr := famC_ok (vs := vsCr) (bs := bsCr) JL_ok mixed (noLoops_ok _) decCr_ok (by simp) (fun _ _ => rfl) (fun _ _ => rfl) stepCr exCr
end Go.Proofs.Ytfnadebkobfemaa.Lif
