/- Layer 15: Put and Most. -/
import Derived.Test.Ytmijloophkkanaa15W
namespace Go.Proofs.Ytmijloophkkanaa.Del
open Go.Eng Go.RowKit
set_option linter.unusedVariables false
set_option linter.unusedSimpArgs false
noncomputable def D6 : Cfg := ⟨Try.prog, lookG [(69, .obj dropS), (70, .obj keepS), (71, .obj withinS)], [], 0⟩
theorem D6_ok : D6.Ok := Cfg.ok ⟨dropS_ok, keepS_ok, withinS_ok, trivial⟩ trivial
def refB (a t w : Int) : Bool := bif bif bif decide (t < a) then true else decide (1099511627776 < t) then true else decide (w < 0) then true else decide (1000000 < w)
def putN (k : Nat) (l : List Stp) (t w : Int) : List Stp := l.take (dropN l w k) ++ [(t, w)]
def putH (n : Nat) (s a : Int) (l : List Stp) (k : Nat) : Heap := [(0, .cells 96 [iv s, iv a, .sub n 2 0 k]), (n, stepsB l)]
def asPII {α : Type} (args : List V) (f : Int → Int → T α) : T α :=
  match args with
  | [.ptr 0 0, .s (.int .i64 t), .s (.int .i64 w)] => f t w
  | _ => .fail
theorem asPII_some {α : Type} {args : List V} {f : Int → Int → T α} {r : α} (e : (asPII args f).eval = some r) : ∃ t w, args = [.ptr 0 0, iv t, iv w] ∧ (f t w).eval = some r := by
  unfold asPII at e
  split at e
  · exact ⟨_, _, rfl, e⟩
  · cases e
def okP (s k : Nat) (l : List Stp) (t w : Int) : Bool := decide (k = l.length) && decide (k ≤ 999999) && decide (IntKind.wrap .i64 (t - ((putN k l t w).getD 0 (0, 0)).1) ≤ 600)
def putS : Eng.Obj := fun args h => asPII args fun t w => asDly h
  (fun s a k l => .ite none (refB a t w) (.ret (iv 1, dlyH s a k l)) (.ite none (okP 0 k l t w) (.ret (iv 0, putH 82 s t (putN k l t w) (dropN l w k + 1))) .fail))
  (fun s a => .ite none (refB a t w) (.ret (iv 1, nilH s a)) (.ret (iv 0, putH 81 s t [(t, w)] 1)))
theorem put_run (s a t w : Int) (k : Nat) (l : List Stp) : T.anon (execO D6 noLoops 46 [.ptr 0 0, iv t, iv w] (dlyH s a k l)) =
    .ite none (refB a t w) (.ret (iv 1, dlyH s a k l)) (.ite none (invD ⟨s, t, w, l⟩ k) (.ite none (true && (decide (dropN l w k ≤ l.length) && decide (dropN l w k + [(t, w)].length ≤ 1000000)))
      (.ite none (decide (0 < dropN l w k + [(t, w)].length) && decide (0 < (putN k l t w).length) && decide (IntKind.wrap .i64 (t - ((putN k l t w).getD 0 (0, 0)).1) ≤ 600))
        (.ret (iv 0, putH 82 s t (putN k l t w) (dropN l w k + 1))) .fail) .fail) .fail) := by kernel_rfl
theorem put_nil (s a t w : Int) : T.anon (execO D6 noLoops 46 [.ptr 0 0, iv t, iv w] (nilH s a)) =
    .ite none (refB a t w) (.ret (iv 1, nilH s a)) (.ite none (true && decide ([(t, w)].length ≤ 1000000)) (.ite none (decide (0 < [(t, w)].length) && decide (0 < [(t, w)].length) && decide (IntKind.wrap .i64 (t - t) ≤ 600)) (.ret (iv 0, putH 81 s t [(t, w)] 1)) .fail) .fail) := by kernel_rfl
theorem dropN_le (l : List Stp) (w : Int) : ∀ k, dropN l w k ≤ k
  | 0 => Nat.le_refl _
  | k + 1 => by unfold dropN; split; exact Nat.le_succ_of_le (dropN_le l w k); exact Nat.le_refl _
theorem ite_two {α : Type} {c : Bool} {x y : T α} {r : α} (h : (T.ite none c x y).eval = some r) : (c = true ∧ x.eval = some r) ∨ (c = false ∧ y.eval = some r) := by
  cases c
  · exact .inr ⟨rfl, h⟩
  · exact .inl ⟨rfl, h⟩
theorem putS_ok : ObjOk Try.prog 46 putS := by
  refine (execO_plain D6_ok mixed Try.func46 (by kernel_rfl) (by kernel_rfl)).of_eval fun args h v hv => ?_
  obtain ⟨t, w, rfl, hv1⟩ := asPII_some (show (asPII args _).eval = some v from hv)
  clear hv
  rcases asDly_some hv1 with ⟨s, a, k, l, rfl, hv⟩ | ⟨s, a, rfl, hv⟩
  · rw [← T.eval_anon (t := execO _ _ _ _ _), put_run]
    rcases ite_two hv with ⟨hc, hv⟩ | ⟨hc, hv⟩
    · exact tev_then hc hv
    · obtain ⟨hk, hv⟩ := ite_some hv
      simp only [okP, Bool.and_eq_true, decide_eq_true_eq] at hk
      have hd := dropN_le l w k
      refine tev_else hc (tev_then ?_ (tev_then ?_ (tev_then ?_ hv)))
      · simp only [invD, Bool.and_eq_true, decide_eq_true_eq]; omega
      · simp only [Bool.true_and, Bool.and_eq_true, decide_eq_true_eq, List.length_cons, List.length_nil]; omega
      · have : 0 < (putN k l t w).length := by unfold putN; simp
        simp only [Bool.and_eq_true, decide_eq_true_eq, List.length_cons, List.length_nil]
        exact ⟨⟨by omega, this⟩, hk.2⟩
  · rw [← T.eval_anon (t := execO _ _ _ _ _), put_nil]
    rcases ite_two hv with ⟨hc, hv⟩ | ⟨hc, hv⟩
    · exact tev_then hc hv
    · have hz : IntKind.wrap .i64 (t - t) = 0 := by rw [Int.sub_self]; rfl
      rw [hz]
      exact tev_else hc (tev_then rfl (tev_then rfl hv))
def mx0 (t : Int) : Int := if 0 > t then 0 else t
noncomputable def mostN (s a t : Int) (k : Nat) (l : List Stp) : Int := if atW s a t k l < (k : Int) then (gS l (atW s a t k l)).2 else 0
noncomputable def mostS : Eng.Obj := fun args h => asPI args fun t => asDly h (fun s a k l => .ite none (invW (pW s a (mx0 t) k l) 0) (.ret (iv (mostN s a (mx0 t) k l), dlyH s a k l)) .fail) (fun s a => .ret (iv 0, nilH s a))
theorem most_run (s a t : Int) (k : Nat) (l : List Stp) : T.anon (execO D6 noLoops 47 [.ptr 0 0, iv t] (dlyH s a k l)) =
    .ite none (invW (pW s a (mx0 t) k l) 0) (.ite none (decide (atW s a (mx0 t) k l < (k : Int))) (.ret (iv (gS l (atW s a (mx0 t) k l)).2, dlyH s a k l)) (.ret (iv 0, dlyH s a k l))) .fail := by kernel_rfl
theorem most_nil (s a t : Int) : T.anon (execO D6 noLoops 47 [.ptr 0 0, iv t] (nilH s a)) = .ret (iv 0, nilH s a) := by kernel_rfl
theorem mostS_ok : ObjOk Try.prog 47 mostS := by
  refine (execO_plain D6_ok mixed Try.func47 (by kernel_rfl) (by kernel_rfl)).of_eval fun args h v hv => ?_
  obtain ⟨t, rfl, hv1⟩ := asPI_some (show (asPI args _).eval = some v from hv)
  clear hv
  rcases asDly_some hv1 with ⟨s, a, k, l, rfl, hv⟩ | ⟨s, a, rfl, hv⟩
  · rw [← T.eval_anon (t := execO _ _ _ _ _), most_run]
    obtain ⟨hk, hv⟩ := ite_some hv
    refine tev_then hk ?_
    rw [← hv]
    unfold mostN
    by_cases q : atW s a (mx0 t) k l < (k : Int)
    · rw [if_pos q]; exact tev_then (decide_eq_true q) rfl
    · rw [if_neg q]; exact tev_else (decide_eq_false q) rfl
  · rw [← T.eval_anon (t := execO _ _ _ _ _), most_nil]; exact hv
noncomputable def D7 : Cfg := ⟨Try.prog, lookG [(49, .val yesD), (45, .obj newD), (46, .obj putS), (47, .obj mostS), (48, .obj spanD)], [], 0⟩
theorem D7_ok : D7.Ok := Cfg.ok ⟨told_ok, newD_ok, putS_ok, mostS_ok, spanD_ok, trivial⟩ trivial
end Go.Proofs.Ytmijloophkkanaa.Del
