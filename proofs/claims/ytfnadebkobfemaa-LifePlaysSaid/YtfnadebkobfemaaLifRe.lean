/- Layer 21: the document's own pods: out; what Enter, Leave, Crash, Scale run. -/
import Derived.Test.YtfnadebkobfemaaLifRd
namespace Go.Proofs.Ytfnadebkobfemaa.Lif
open Go.Eng Go.RowKit
set_option linter.unusedVariables false
set_option linter.unusedSimpArgs false
def hO (l0 : List R4) (m : Int) (n : Nat) (l : List R4) : Heap := [(0, rfB 18 m n), (1, podB l0), (18, podB l)]
def ouA (l : List R4) (k : Int) : List R4 := (l.drop (Int.toNat 0)).take (k.toNat - Int.toNat 0)
def ouB (l : List R4) (n : Nat) (k : Int) : List R4 := (l.drop (IntKind.wrap .i64 (k + 1)).toNat).take ((n : Int).toNat - (IntKind.wrap .i64 (k + 1)).toNat)
theorem wayOu (m k : Int) (n : Nat) (l : List R4) : T.path [true, true, true, true] (ouE [.ptr 0 0, iv k] (hR m n l)) = some ([(decide ((0 : Int) ≤ 0) && (decide (0 ≤ k) && (decide (k ≤ (n : Int)) && decide (n ≤ l.length))), true), (decide (Int.toNat 0 + (k.toNat - Int.toNat 0) ≤ l.length) && (decide (0 ≤ ([] : List R4).length) && decide (0 + (ouA l k).length ≤ 1000000)), true), (decide (0 ≤ IntKind.wrap .i64 (k + 1)) && (decide (IntKind.wrap .i64 (k + 1) ≤ (n : Int)) && (decide ((n : Int) ≤ (n : Int)) && decide (n ≤ l.length))), true),
    (decide ((IntKind.wrap .i64 (k + 1)).toNat + ((n : Int).toNat - (IntKind.wrap .i64 (k + 1)).toNat) ≤ l.length) && (decide (0 + (ouA l k).length ≤ (List.take 0 ([] : List R4) ++ ouA l k).length) && decide (0 + (ouA l k).length + (ouB l n k).length ≤ 1000000)), true)], (.tup [], hO l m (0 + (ouA l k).length + (ouB l n k).length) (List.take (0 + (ouA l k).length) (List.take 0 ([] : List R4) ++ ouA l k) ++ ouB l n k))) := by kernel_rfl
theorem eraseIdx_cut {l : List R4} {k : Nat} (h : k < l.length) : l.eraseIdx k = l.take k ++ l.drop (k + 1) := List.eraseIdx_eq_take_drop_succ l k
def outC (args : List V) (h : Heap) : T (V × Heap) := match args with
  | [.ptr 0 0, .s (.int .i64 k)] => opt (dR h) fun x => .ite none (okN x.2.1 x.2.2 && (decide (0 ≤ k) && decide (k < (x.2.1 : Int)))) (.ret (.tup [], hO x.2.2 x.1 (x.2.1 - 1) (x.2.2.eraseIdx k.toNat))) .fail
  | _ => .fail
theorem outC_ok : ObjOk Try.prog 78 outC := ouE_ok.of_eval fun args h v hv => by
  unfold outC at hv
  split at hv
  · rename_i k
    obtain ⟨⟨m, n, l⟩, hd, hv⟩ := opt_eval hv
    have := dR_ok hd
    subst this
    obtain ⟨hc, hv⟩ := ite_some hv
    simp only [Bool.and_eq_true, decide_eq_true_eq] at hc
    obtain ⟨hc1, h3, h4⟩ := hc
    obtain ⟨h1, h2⟩ := okN_is hc1
    simp only [T.eval, Option.some.injEq] at hv
    subst hv
    obtain ⟨j, rfl⟩ : ∃ j : Nat, k = j := ⟨k.toNat, by omega⟩
    have hw : IntKind.wrap .i64 ((j : Int) + 1) = j + 1 := wrap64_in (by omega) (by omega)
    have eA : ouA l (j : Int) = l.take j := by unfold ouA; simp
    have eB : ouB l n (j : Int) = l.drop (j + 1) := by
      unfold ouB
      rw [hw, show ((j : Int) + 1).toNat = j + 1 by omega, List.take_of_length_le (by rw [List.length_drop]; omega)]
    have lA : (l.take j).length = j := by rw [List.length_take]; omega
    have lB : (l.drop (j + 1)).length = n - 1 - j := by rw [List.length_drop]; omega
    refine (T.path_eval (wayOu m j n l) ⟨?_, ?_, ?_, ?_, trivial⟩).trans ?_
    · simp only [Bool.and_eq_true, decide_eq_true_eq]; omega
    · rw [eA, lA]; simp only [Bool.and_eq_true, decide_eq_true_eq]; refine ⟨by omega, Nat.le_refl _, by omega⟩
    · rw [hw]; simp only [Bool.and_eq_true, decide_eq_true_eq]; omega
    · rw [hw, eA, eB, List.take_zero, List.nil_append, lA, lB]; simp only [Bool.and_eq_true, decide_eq_true_eq]; omega
    · rw [eA, eB, List.take_zero, List.nil_append, lA, lB, List.take_of_length_le (by omega), Int.toNat_natCast, eraseIdx_cut (by omega), show 0 + j + (n - 1 - j) = n - 1 by omega]
  · cases hv
noncomputable def JRa : Cfg := ⟨Try.prog, lookG [(79, .obj atC), (78, .obj outC), (42, .obj rcC), (77, .obj goeC)], [], 0⟩
theorem JRa_ok : JRa.Ok := Cfg.ok ⟨atC_ok, outC_ok, rcC_ok, goeC_ok, trivial⟩ trivial
noncomputable def enE : Eng.Obj := execO JRa noLoops 35
theorem enE_ok : ObjOk Try.prog 35 enE := execO_plain JRa_ok mixed Try.func35 (by kernel_rfl) (by kernel_rfl)
noncomputable def leE : Eng.Obj := execO JRa noLoops 36
theorem leE_ok : ObjOk Try.prog 36 leE := execO_plain JRa_ok mixed Try.func36 (by kernel_rfl) (by kernel_rfl)
noncomputable def crE : Eng.Obj := execO JRa noLoops 37
theorem crE_ok : ObjOk Try.prog 37 crE := execO_plain JRa_ok mixed Try.func37 (by kernel_rfl) (by kernel_rfl)
end Go.Proofs.Ytfnadebkobfemaa.Lif
