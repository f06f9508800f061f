/- Layer 7: the contracts of breakers. -/
import Derived.Test.YtacdadifjgppbaaBrkS
namespace Go.Proofs.Ytacdadifjgppbaa.Brk
open Go.Eng Go.RowKit Go.Flt Lod
set_option linter.unusedVariables false
set_option linter.unusedSimpArgs false
theorem told_run : (execS B4 noLoops 32 []).eval = some (.s (.bool true)) := by kernel_rfl
theorem told_ok : SpecOk Try.prog 32 yesD :=
  (execS_plain B4_ok mixed Try.func32 (by kernel_rfl) (by kernel_rfl)).of_den fun args v _ h => by
    unfold yesD at h
    split at h
    · simp only [T.eval, Option.some.injEq] at h
      subst h
      exact ⟨_, told_run, ⟨rfl, rfl⟩, rfl⟩
    · cases h
def bkH (L D : Int) (x y : Nat) : Heap := [(0, bkB L D x y)]
def asB {α : Type} (args : List V) (h : Heap) (f : Int → Int → Nat → Nat → T α) : T α :=
  match args, h with
  | [.ptr 0 0], [(0, .cells t l)] => if t = 76 then cellsB l f else .fail
  | _, _ => .fail
theorem asB_some {α : Type} {args : List V} {h : Heap} {f : Int → Int → Nat → Nat → T α} {r : α} (e : (asB args h f).eval = some r) : ∃ L D x y, args = [.ptr 0 0] ∧ h = bkH L D x y ∧ (f L D x y).eval = some r := by
  unfold asB at e
  split at e
  · split at e
    · rename_i ht
      subst ht
      obtain ⟨L, D, x, y, rfl, h⟩ := cellsB_some e
      exact ⟨L, D, x, y, rfl, rfl, h⟩
    · cases e
  · cases e
theorem guardO {α : Type} {c : Bool} {x : T α} {v : α} (h : (T.ite none c x .fail).eval = some v) : c = true ∧ x.eval = some v := by
  cases c
  · cases h
  · exact ⟨rfl, h⟩
theorem cAdd {a b c d : Nat} (h1 : a + c < 9007199254740992) (h2 : b + d < 9007199254740992) : cSumBits .add .f64 (fI a) (fI b) (fI c) (fI d) = some (fI (a + c), fI (b + d)) := by
  unfold cSumBits
  rw [add_fI (by omega), add_fI (by omega)]; rfl
theorem cSub {a b c d : Nat} (h1 : a < 9007199254740992) (h2 : b < 9007199254740992) (h3 : c ≤ a) (h4 : d ≤ b) : cSumBits .sub .f64 (fI a) (fI b) (fI c) (fI d) = some (fI (a - c), fI (b - d)) := by
  unfold cSumBits
  rw [sub_fI (by omega) h3, sub_fI (by omega) h4]; rfl
theorem fW_nat {n : Nat} (h : n ≤ 1099511627776) : fW (n : Int) = fI n := by
  unfold fW
  rw [wi_in (by omega) (by omega), Int.toNat_natCast]
theorem fW_one : fW 1 = fI 1 := fW_nat (n := 1) (by decide)
theorem fW_zero : fW 0 = fI 0 := fW_nat (n := 0) (by decide)
def enterC : Eng.Obj := fun args h => asB args h fun L D x y => .ite none (okB L D x y) (.ite none (decide (valW x < L)) (.ret (.tup [.tt, iv 0], bkH L D (fW (valW x + 1)) (fW (valW y))))
  (.ite none (decide (valW y < D)) (.ret (.tup [.ff, iv 0], bkH L D (fW (valW x)) (fW (valW y + 1)))) (.ret (.tup [.ff, iv 6], bkH L D x y)))) .fail
theorem enter_run (L D : Int) (x y : Nat) : T.anon (enterB [.ptr 0 0] (bkH L D x y)) = T.ite none (okB L D x y) (T.ite none (decide (0 < fr L (valW x))) (T.ite none (cSumBits .add .f64 x y (fW 1) (fW 0)).isSome
      (.ret (.tup [.tt, iv 0], bkH L D ((cSumBits .add .f64 x y (fW 1) (fW 0)).getD (0, 0)).1 ((cSumBits .add .f64 x y (fW 1) (fW 0)).getD (0, 0)).2)) .fail)
    (T.ite none (isW y) (T.ite none (decide (valW y < D)) (T.ite none (cSumBits .add .f64 x y (fW 0) (fW 1)).isSome
      (.ret (.tup [.ff, iv 0], bkH L D ((cSumBits .add .f64 x y (fW 0) (fW 1)).getD (0, 0)).1 ((cSumBits .add .f64 x y (fW 0) (fW 1)).getD (0, 0)).2)) .fail) (.ret (.tup [.ff, iv 6], bkH L D x y))) .fail)) .fail := by kernel_rfl
theorem okB_some {L D : Int} {x y : Nat} (h : okB L D x y = true) : ∃ b w : Nat, x = fI b ∧ y = fI w ∧ valW x = b ∧ valW y = w ∧ b ≤ 2000 ∧ w ≤ 2000 ∧ 0 ≤ L ∧ L ≤ 2000 ∧ 0 ≤ D ∧ D ≤ 2000 ∧ isW x = true ∧ isW y = true := by
  simp only [okB, inS, Bool.and_eq_true, decide_eq_true_eq] at h
  obtain ⟨⟨⟨hL, hD⟩, hx, hx2⟩, hy, hy2⟩ := h
  obtain ⟨b, hb, e1, v1⟩ := isW_some hx
  obtain ⟨w, hw, e2, v2⟩ := isW_some hy
  exact ⟨b, w, e1, e2, v1, v2, by omega, by omega, hL.1, hL.2, hD.1, hD.2, hx, hy⟩
theorem enterC_ok : ObjOk Try.prog 29 enterC := enterB_ok.of_eval fun args h v hv => by
  obtain ⟨L, D, x, y, rfl, rfl, hv⟩ := asB_some (show (asB args h _).eval = some v from hv)
  obtain ⟨hk, hv⟩ := guardO hv
  obtain ⟨b, w, rfl, rfl, eb, ew, hb, hw, l1, l2, d1, d2, wx, wy⟩ := okB_some hk
  rw [← T.eval_anon (t := enterB _ _), enter_run]
  rw [eb, ew] at hv ⊢
  refine tev_then hk ?_
  by_cases c : (b : Int) < L
  · rw [decide_eq_true c] at hv
    refine tev_then (by unfold fr; rw [if_neg (by omega)]; simp; omega) ?_
    rw [fW_one, fW_zero, cAdd (by omega) (by omega)]
    have e1 : fW ((b : Int) + 1) = fI (b + 1) := fW_nat (n := b + 1) (by omega)
    rw [e1, fW_nat (n := w) (by omega)] at hv
    exact tev_then rfl hv
  · rw [decide_eq_false c] at hv
    refine tev_else (by unfold fr; split <;> simp <;> omega) (tev_then wy ?_)
    by_cases c2 : (w : Int) < D
    · rw [decide_eq_true c2] at hv
      rw [fW_one, fW_zero, cAdd (by omega) (by omega)]
      have e1 : fW ((w : Int) + 1) = fI (w + 1) := fW_nat (n := w + 1) (by omega)
      rw [e1, fW_nat (n := b) (by omega)] at hv
      exact tev_then (decide_eq_true c2) (tev_then rfl hv)
    · rw [decide_eq_false c2] at hv
      exact tev_else (decide_eq_false c2) hv
/-- how many go in -/
def adm (L b w : Int) : Int := if w < fr L b then w else fr L b
def leaveC : Eng.Obj := fun args h => asB args h fun L D x y => .ite none (okB L D x y) (.ite none (valW x == 0) (.ret (.tup [.ff, iv 7], bkH L D x y))
  (.ret (.tup [.s (.bool (decide (0 < adm L (valW x - 1) (valW y)))), iv 0], bkH L D (fW (valW x - 1 + adm L (valW x - 1) (valW y))) (fW (valW y - adm L (valW x - 1) (valW y)))))) .fail
def sub1 (x y : Nat) : Nat × Nat := (cSumBits .sub .f64 x y (fW 1) (fW 0)).getD (0, 0)
theorem leave_run (L D : Int) (x y : Nat) : T.anon (leaveB [.ptr 0 0] (bkH L D x y)) = T.ite none (isW x) (T.ite none (valW x == 0) (.ret (.tup [.ff, iv 7], bkH L D x y)) (T.ite none (cSumBits .sub .f64 x y (fW 1) (fW 0)).isSome
    (T.ite none (okB L D (sub1 x y).1 (sub1 x y).2) (T.ite none (isW (sub1 x y).2) (T.ite none (isW (sub1 x y).1 && isW (sub1 x y).2) (T.ite none (mvB (valW (sub1 x y).1) (valW (sub1 x y).2) (adm L (valW (sub1 x y).1) (valW (sub1 x y).2)))
      (.ret (.tup [.s (.bool (decide (0 < adm L (valW (sub1 x y).1) (valW (sub1 x y).2)))), iv 0], bkH L D (fW (valW (sub1 x y).1)) (fW (valW (sub1 x y).2))))
      (.ret (.tup [.s (.bool (decide (0 < adm L (valW (sub1 x y).1) (valW (sub1 x y).2)))), iv 0], bkH L D (fW (valW (sub1 x y).1 + adm L (valW (sub1 x y).1) (valW (sub1 x y).2))) (fW (valW (sub1 x y).2 - adm L (valW (sub1 x y).1) (valW (sub1 x y).2)))))) .fail) .fail) .fail) .fail)) .fail := by kernel_rfl
theorem okB_of {L D : Int} {b w : Nat} (h1 : 0 ≤ L) (h2 : L ≤ 2000) (h3 : 0 ≤ D) (h4 : D ≤ 2000) (h5 : b ≤ 2000) (h6 : w ≤ 2000) : okB L D (fI b) (fI w) = true := by
  unfold okB inS
  rw [isW_fI (by omega), isW_fI (by omega), valW_fI (by omega), valW_fI (by omega)]
  simp; omega
theorem leaveC_ok : ObjOk Try.prog 36 leaveC := leaveB_ok.of_eval fun args h v hv => by
  obtain ⟨L, D, x, y, rfl, rfl, hv⟩ := asB_some (show (asB args h _).eval = some v from hv)
  obtain ⟨hk, hv⟩ := guardO hv
  obtain ⟨b, w, rfl, rfl, eb, ew, hb, hw, l1, l2, d1, d2, wx, wy⟩ := okB_some hk
  rw [← T.eval_anon (t := leaveB _ _), leave_run]
  rw [eb, ew] at hv
  refine tev_then wx ?_
  rw [eb]
  by_cases c : b = 0
  · subst c; exact tev_then rfl hv
  · have cb : ((b : Int) == 0) = false := by rw [beq_eq_false_iff_ne]; omega
    rw [cb] at hv
    have e0 : cSumBits .sub .f64 (fI b) (fI w) (fW 1) (fW 0) = some (fI (b - 1), fI w) := by
      rw [fW_one, fW_zero, cSub (by omega) (by omega) (by omega) (by omega)]; rfl
    have e1 : sub1 (fI b) (fI w) = (fI (b - 1), fI w) := by unfold sub1; rw [e0]; rfl
    refine tev_else cb ?_
    rw [e0, e1]
    dsimp only
    have v1 : valW (fI (b - 1)) = (b : Int) - 1 := by rw [valW_fI (by omega)]; omega
    rw [isW_fI (n := b - 1) (by omega), isW_fI (n := w) (by omega), okB_of l1 l2 d1 d2 (by omega) hw, v1, valW_fI (n := w) (by omega)]
    have ha : 0 ≤ adm L ((b : Int) - 1) w ∧ adm L ((b : Int) - 1) w ≤ w ∧ adm L ((b : Int) - 1) w ≤ 2000 := by
      unfold adm fr; repeat' split
      all_goals omega
    refine tev_then rfl (tev_then rfl (tev_then rfl (tev_then rfl (tev_else ?_ hv))))
    unfold mvB
    simp only [Bool.or_eq_false_iff, decide_eq_false_iff_not]
    omega
noncomputable def B5 : Cfg := ⟨Try.prog, lookG [(32, .val yesD), (28, .obj newB), (33, .get 76 freeG), (40, .get 76 loadG), (30, .obj quitB), (29, .obj enterC), (36, .obj leaveC), (31, .obj limitB)], [], 0⟩
theorem B5_ok : B5.Ok := Cfg.ok ⟨told_ok, newB_ok, freeG_ok, loadG_ok, quitB_ok, enterC_ok, leaveC_ok, limitB_ok, trivial⟩ trivial
end Go.Proofs.Ytacdadifjgppbaa.Brk
