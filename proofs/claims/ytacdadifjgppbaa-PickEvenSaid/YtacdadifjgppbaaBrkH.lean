/- Layer 7: the contracts of Quit and Limit. -/
import Derived.Test.YtacdadifjgppbaaBrkF
namespace Go.Proofs.Ytacdadifjgppbaa.Brk
open Go.Eng Go.RowKit Go.Flt Lod
set_option linter.unusedVariables false
set_option linter.unusedSimpArgs false
def quitC : Eng.Obj := fun args h => asB args h fun L D x y => .ite none (okB L D x y) (.ite none (valW y == 0) (.ret (iv 7, bkH L D x y)) (.ret (iv 0, bkH L D (fW (valW x)) (fW (valW y - 1))))) .fail
def sub2 (x y : Nat) : Nat × Nat := (cSumBits .sub .f64 x y (fW 0) (fW 1)).getD (0, 0)
theorem quit_run (L D : Int) (x y : Nat) : T.anon (quitB [.ptr 0 0] (bkH L D x y)) = T.ite none (isW y) (T.ite none (valW y == 0) (.ret (iv 7, bkH L D x y)) (T.ite none (cSumBits .sub .f64 x y (fW 0) (fW 1)).isSome (.ret (iv 0, bkH L D (sub2 x y).1 (sub2 x y).2)) .fail)) .fail := by kernel_rfl
theorem quitC_ok : ObjOk Try.prog 30 quitC := quitB_ok.of_eval fun args h v hv => by
  obtain ⟨L, D, x, y, rfl, rfl, hv⟩ := asB_some (show (asB args h _).eval = some v from hv)
  obtain ⟨hk, hv⟩ := guardO hv
  obtain ⟨b, w, rfl, rfl, eb, ew, hb, hw, l1, l2, d1, d2, wx, wy⟩ := okB_some hk
  rw [← T.eval_anon (t := quitB _ _), quit_run]
  rw [eb, ew] at hv
  refine tev_then wy ?_
  rw [ew]
  by_cases c : w = 0
  · subst c; exact tev_then rfl hv
  · have cb : ((w : Int) == 0) = false := by rw [beq_eq_false_iff_ne]; omega
    rw [cb] at hv
    have e0 : cSumBits .sub .f64 (fI b) (fI w) (fW 0) (fW 1) = some (fI b, fI (w - 1)) := by
      rw [fW_one, fW_zero, cSub (by omega) (by omega) (by omega) (by omega)]; rfl
    have e1 : sub2 (fI b) (fI w) = (fI b, fI (w - 1)) := by unfold sub2; rw [e0]; rfl
    have e2 : fW ((w : Int) - 1) = fI (w - 1) := by
      rw [show (w : Int) - 1 = ((w - 1 : Nat) : Int) by omega]; exact fW_nat (by omega)
    rw [e2, fW_nat (n := b) (by omega)] at hv
    refine tev_else cb ?_
    rw [e0, e1]
    exact tev_then rfl hv
def limB (n : Int) : Bool := decide (0 ≤ n) && decide (n ≤ 1000)
def limitC : Eng.Obj := fun args h =>
  match args with
  | [a, .s (.int .i64 n)] => asB [a] h fun L D x y => .ite none (okB L D x y) (.ite none (limB n) (.ret (.tup [iv (adm n (valW x) (valW y)), iv 0], bkH n D (fW (valW x + adm n (valW x) (valW y))) (fW (valW y - adm n (valW x) (valW y))))) (.ret (.tup [iv 0, iv 1], bkH L D x y))) .fail
  | _ => .fail
theorem limit_run (L D n : Int) (x y : Nat) : T.anon (limitB [.ptr 0 0, iv n] (bkH L D x y)) = T.ite none (!bif decide (0 ≤ n) then decide (n ≤ 1000) else false) (.ret (.tup [iv 0, iv 1], bkH L D x y))
    (T.ite none (okB n D x y) (T.ite none (isW y) (T.ite none (isW x && isW y) (T.ite none (mvB (valW x) (valW y) (adm n (valW x) (valW y))) (.ret (.tup [iv (adm n (valW x) (valW y)), iv 0], bkH n D (fW (valW x)) (fW (valW y))))
      (.ret (.tup [iv (adm n (valW x) (valW y)), iv 0], bkH n D (fW (valW x + adm n (valW x) (valW y))) (fW (valW y - adm n (valW x) (valW y)))))) .fail) .fail) .fail) := by kernel_rfl
theorem limitC_ok : ObjOk Try.prog 31 limitC := limitB_ok.of_eval fun args h v hv => by
  unfold limitC at hv
  split at hv
  · rename_i a n
    obtain ⟨L, D, x, y, ha, rfl, hv⟩ := asB_some hv
    obtain rfl : a = .ptr 0 0 := by simpa using ha
    obtain ⟨hk, hv⟩ := guardO hv
    have hk0 := hk
    obtain ⟨b, w, rfl, rfl, eb, ew, hb, hw, l1, l2, d1, d2, wx, wy⟩ := okB_some hk
    rw [← T.eval_anon (t := limitB _ _)]
    refine Eq.trans (congrArg T.eval (limit_run L D n (fI b) (fI w))) ?_
    cases q : limB n
    · rw [q] at hv
      unfold limB at q
      exact tev_then (by rw [cond_and, q]; rfl) hv
    · rw [q] at hv
      have q0 := q
      unfold limB at q
      refine tev_else (by rw [cond_and, q]; rfl) ?_
      simp only [Bool.and_eq_true, decide_eq_true_eq] at q
      have ha : 0 ≤ adm n (valW (fI b)) (valW (fI w)) ∧ adm n (valW (fI b)) (valW (fI w)) ≤ valW (fI w) := by
        rw [eb, ew]; unfold adm fr; repeat' split
        all_goals omega
      refine tev_then (okB_of q.1 (by omega) d1 d2 hb hw) (tev_then wy (tev_then (by rw [wx, wy]; rfl) (tev_else ?_ hv)))
      unfold mvB
      simp only [Bool.or_eq_false_iff, decide_eq_false_iff_not]
      rw [ew] at ha
      rw [eb, ew]
      rw [eb] at ha
      omega
  · cases hv
noncomputable def B6 : Cfg := ⟨Try.prog, lookG [(32, .val yesD), (28, .obj newB), (33, .get 76 freeG), (40, .get 76 loadG), (30, .obj quitC), (29, .obj enterC), (36, .obj leaveC), (31, .obj limitC)], [], 0⟩
theorem B6_ok : B6.Ok := Cfg.ok ⟨told_ok, newB_ok, freeG_ok, loadG_ok, quitC_ok, enterC_ok, leaveC_ok, limitC_ok, trivial⟩ trivial
end Go.Proofs.Ytacdadifjgppbaa.Brk
