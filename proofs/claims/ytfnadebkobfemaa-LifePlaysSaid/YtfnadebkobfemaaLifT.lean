/- Layer 21: what the library's Clone and Delete do, told plainly; remove. -/
import Derived.Test.YtfnadebkobfemaaLifS
namespace Go.Proofs.Ytfnadebkobfemaa.Lif
open Go.Eng Go.RowKit
set_option linter.unusedVariables false
set_option linter.unusedSimpArgs false
def podB (l : List R4) : Blk := .lst true 39 KP l
def podO (l : List R4) : V := .orow 39 KP l
theorem wayCl (l : List R4) : T.path [true, true, true] (cloneE [.orow 39 KP l]) = some ([(decide (0 < l.length), true), (decide (0 + l.length ≤ l.length) && (decide (0 ≤ ([] : List R4).length) && decide (0 + ((l.drop 0).take l.length).length ≤ 1000000)), true), (decide (0 + ((l.drop 0).take l.length).length = (([] : List R4).take 0 ++ ((l.drop 0).take l.length)).length), true)], podO ((l.drop 0).take l.length)) := by kernel_rfl
theorem wayCs (a : Addr) (c : Nat) : T.path [true, true] (cloneE [.raw (.slice (some a) 0 c)]) = some ([(true && (decide (0 ≤ ([] : List R4).length) && decide (0 + ([] : List R4).length ≤ 1000000)), true), (decide (0 + ([] : List R4).length = (([] : List R4).take 0 ++ []).length), true)], .orow 39 KP []) := by kernel_rfl
theorem wayCn : T.path [true] (cloneE [.raw (.slice none 0 0)]) = some ([(decide (0 = ([] : List R4).length), true)], .orow 39 KP []) := by kernel_rfl
theorem cloneRun (l : List R4) (h0 : 0 < l.length) (h1 : l.length ≤ 100000) : (cloneE [.orow 39 KP l]).eval = some (podO l) := by
  have e : (l.drop 0).take l.length = l := by simp
  have p := T.path_eval (wayCl l) ⟨decide_eq_true h0, ?_, ?_, trivial⟩
  · rw [p, e]
  · rw [e, decide_eq_true (show 0 + l.length ≤ l.length by omega), decide_eq_true (show 0 + l.length ≤ 1000000 by omega)]; rfl
  · rw [e]; simp
def cloneL : Eng.Spec
  | [.orow t [.int .i64, .int .i64, .int .i64, .int .i64] l] => if t = 39 then .ite none (decide (l.length ≤ 100000)) (.ret (.orow 39 KP l)) .fail else .fail
  | _ => .fail
theorem cloneL_ok : SpecOk Try.prog 76 cloneL := by
  refine ⟨cloneE_ok.body, fun args v xs w hrow hv hrv hh => ?_⟩
  unfold cloneL at hv
  split at hv
  · rename_i t l
    split at hv
    · rename_i ht
      subst ht
      obtain ⟨hl, hv⟩ := ite_some hv
      have hl' : l.length ≤ 100000 := of_decide_eq_true hl
      simp only [T.eval, Option.some.injEq] at hv
      subst hv
      obtain ⟨x, rfl, hx⟩ : ∃ x, xs = [x] ∧ holdsP 0 w (.orow 39 KP l) x := by
        match xs, hh with
        | [], hh => exact hh.elim
        | [x], hh => exact ⟨x, rfl, hh.1⟩
        | _ :: _ :: _, hh => exact hh.2.elim
      by_cases h0 : 0 < l.length
      · exact cloneE_ok.calls [.orow 39 KP l] (.orow 39 KP l) [x] w hrow (cloneRun l h0 hl') hrv ⟨hx, trivial⟩
      · have e0 : l = [] := List.eq_nil_of_length_eq_zero (by omega)
        subst e0
        obtain ⟨at_, cap, rfl, hc, hr⟩ := hx
        cases at_ with
        | none =>
          have hc0 : cap = 0 := hc.2 rfl
          subst hc0
          exact cloneE_ok.calls [.raw (.slice none 0 0)] (.orow 39 KP []) [.slice none 0 0] w rfl (T.path_eval wayCn ⟨rfl, trivial⟩) hrv ⟨rfl, trivial⟩
        | some a =>
          exact cloneE_ok.calls [.raw (.slice (some a) 0 cap)] (.orow 39 KP []) [.slice (some a) 0 cap] w rfl (T.path_eval (wayCs a cap) ⟨rfl, rfl, trivial⟩) hrv ⟨rfl, trivial⟩
    · cases hv
  · cases hv
/-! ### Delete -/
def dK (n : Nat) (i j : Int) : Nat := i.toNat - Int.toNat 0 + ((n : Int).toNat - j.toNat)
def dL (l : List R4) (n : Nat) (i j : Int) : List R4 := l.take (i.toNat - Int.toNat 0) ++ (l.drop j.toNat).take ((n : Int).toNat - j.toNat) ++ l.drop (i.toNat - Int.toNat 0 + ((l.drop j.toNat).take ((n : Int).toNat - j.toNat)).length)
def dM (l : List R4) (n : Nat) (i j : Int) : List R4 := (dL l n i j).take (dK n i j : Int).toNat ++ List.replicate ((n : Int).toNat - (dK n i j : Int).toNat) ((0, 0, 0, 0) : R4) ++ (dL l n i j).drop ((dK n i j : Int).toNat + (List.replicate ((n : Int).toNat - (dK n i j : Int).toNat) ((0, 0, 0, 0) : R4)).length)
theorem wayDe (l : List R4) (n : Nat) (i j : Int) : T.path [true, false, true, true, true, true, true] (Obj.short delE [.sub 0 4 0 n, iv i, iv j] [(0, podB l)]) = some ([(decide (0 ≤ i) && (decide (i ≤ j) && (decide (j ≤ (n : Int)) && decide ((n : Int) ≤ (l.length : Int)))), true), (i == j, false),
    (decide ((0 : Int) ≤ 0) && (decide (0 ≤ i) && decide (i ≤ (l.length : Int))), true), (decide (0 ≤ j) && (decide (j ≤ (n : Int)) && decide ((n : Int) ≤ (l.length : Int))), true), (decide (dK n i j ≤ l.length) && decide (j.toNat + ((n : Int).toNat - j.toNat) ≤ l.length), true),
    (decide ((0 : Int) ≤ (dK n i j : Int)) && (decide ((dK n i j : Int) ≤ (n : Int)) && decide ((n : Int) ≤ ((dL l n i j).length : Int))), true), (decide ((dK n i j : Int).toNat + ((n : Int).toNat - (dK n i j : Int).toNat) ≤ (dL l n i j).length), true)], (.sub 0 4 0 (dK n i j), [(0, podB ((dM l n i j).take (dK n i j)))])) := by kernel_rfl
theorem delRun (l : List R4) (i : Int) (h2 : l.length ≤ 100000) (h3 : 0 ≤ i) (h4 : i < (l.length : Int)) : (Obj.short delE [.sub 0 4 0 l.length, iv i, iv (i + 1)] [(0, podB l)]).eval = some (.sub 0 4 0 (l.length - 1), [(0, podB (l.eraseIdx i.toNat))]) := by
  obtain ⟨k, rfl⟩ : ∃ k : Nat, i = k := ⟨i.toNat, by omega⟩
  have hk : k < l.length := by omega
  have hdK : dK l.length (k : Int) (k + 1) = l.length - 1 := by unfold dK; omega
  have htl : ((l.drop (k + 1)).take (l.length - (k + 1))) = l.drop (k + 1) := List.take_of_length_le (by rw [List.length_drop]; omega)
  have hdL : dL l l.length (k : Int) (k + 1) = l.take k ++ l.drop (k + 1) ++ l.drop (l.length - 1) := by
    unfold dL
    rw [show ((k : Int) + 1).toNat = k + 1 by omega, show (k : Int).toNat - Int.toNat 0 = k by omega, show (l.length : Int).toNat = l.length by omega, htl, List.length_drop, show k + (l.length - (k + 1)) = l.length - 1 by omega]
  have hlA : (l.take k ++ l.drop (k + 1)).length = l.length - 1 := by rw [List.length_append, List.length_take, List.length_drop]; omega
  have hlen : (dL l l.length (k : Int) (k + 1)).length = l.length := by
    rw [hdL, List.length_append, hlA, List.length_drop]; omega
  have hM : (dM l l.length (k : Int) (k + 1)).take (dK l.length (k : Int) (k + 1)) = l.eraseIdx k := by
    unfold dM
    rw [hdK, hdL, show ((l.length - 1 : Nat) : Int).toNat = l.length - 1 by omega, List.append_assoc, List.take_append_of_le_length (by rw [List.length_take, List.length_append, hlA]; omega), List.take_take, Nat.min_self, List.take_append_of_le_length (by omega), List.take_of_length_le (by omega), List.eraseIdx_eq_take_drop_succ]
  refine (T.path_eval (wayDe l l.length k (k + 1)) ⟨?_, ?_, ?_, ?_, ?_, ?_, ?_, trivial⟩).trans ?_
  · rw [decide_eq_true h3, decide_eq_true (show (k : Int) ≤ k + 1 by omega), decide_eq_true (show (k : Int) + 1 ≤ (l.length : Int) by omega), decide_eq_true (Int.le_refl _)]; rfl
  · rw [beq_eq_false_iff_ne]; omega
  · rw [decide_eq_true h3, decide_eq_true (show (k : Int) ≤ (l.length : Int) by omega)]; rfl
  · rw [decide_eq_true (show (0 : Int) ≤ k + 1 by omega), decide_eq_true (show (k : Int) + 1 ≤ (l.length : Int) by omega), decide_eq_true (Int.le_refl _)]; rfl
  · rw [hdK, decide_eq_true (show l.length - 1 ≤ l.length by omega), decide_eq_true (show ((k : Int) + 1).toNat + ((l.length : Int).toNat - ((k : Int) + 1).toNat) ≤ l.length by omega)]; rfl
  · rw [hdK, hlen, decide_eq_true (show (0 : Int) ≤ ((l.length - 1 : Nat) : Int) by omega), decide_eq_true (show ((l.length - 1 : Nat) : Int) ≤ (l.length : Int) by omega), decide_eq_true (Int.le_refl _)]; rfl
  · rw [hdK, hlen]; exact decide_eq_true (by omega)
  · rw [hM, hdK]; rfl
def delL : Eng.Obj
  | [.sub 0 4 0 n, .s (.int .i64 i), .s (.int .i64 j)], [(0, .lst true t [.int .i64, .int .i64, .int .i64, .int .i64] l)] =>
    if t = 39 then .ite none (decide (n = l.length ∧ l.length ≤ 100000 ∧ 0 ≤ i ∧ i < n ∧ j = i + 1)) (.ret (.sub 0 4 0 (n - 1), [(0, podB (l.eraseIdx i.toNat))])) .fail else .fail
  | _, _ => .fail
theorem delL_ok : ObjOk Try.prog 96 delL := delE_ok.short.of_eval fun args h v hv => by
  unfold delL at hv
  split at hv
  · rename_i n i j t l
    split at hv
    · rename_i ht
      subst ht
      obtain ⟨hc, hv'⟩ := ite_some hv
      clear hv
      obtain ⟨rfl, h2, h3, h4, rfl⟩ := of_decide_eq_true hc
      simp only [T.eval, Option.some.injEq] at hv'
      subst hv'
      exact delRun l i h2 h3 h4
    · cases hv
  · cases hv
noncomputable def J1 : Cfg := ⟨Try.prog, lookG [(96, .obj delL)], [], 0⟩
theorem J1_ok : J1.Ok := Cfg.ok ⟨delL_ok, trivial⟩ trivial
noncomputable def remE : Eng.Obj := execO J1 noLoops 75
theorem remE_ok : ObjOk Try.prog 75 remE := execO_plain J1_ok mixed Try.func75 (by kernel_rfl) (by kernel_rfl)
noncomputable def J2 : Cfg := ⟨Try.prog, lookG [(76, .val cloneL)], [], 0⟩
theorem J2_ok : J2.Ok := Cfg.ok ⟨cloneL_ok, trivial⟩ trivial
noncomputable def allE : Eng.Obj := execO J2 noLoops 31
theorem allE_ok : ObjOk Try.prog 31 allE := execO_plain J2_ok mixed Try.func31 (by kernel_rfl) (by kernel_rfl)
def lifB (K : Nat) (m : Int) (n : Nat) : Blk := .cells 108 [iv m, .sub K 4 0 n]
def hL (m : Int) (n : Nat) (l : List R4) : Heap := [(0, lifB 1 m n), (1, podB l)]
end Go.Proofs.Ytfnadebkobfemaa.Lif
