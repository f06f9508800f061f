/- Layer 7: the loop of BreakerHolds. -/
import Derived.Test.YtacdadifjgppbaaBrkX
import Derived.Test.YtacdadifjgppbaaBrkF
namespace Go.Proofs.Ytacdadifjgppbaa.Brk
open Go.Eng Go.RowKit Go.Flt Lod
set_option linter.unusedVariables false
set_option linter.unusedSimpArgs false
def badH (n d c w X Y : Int) : Bool := bif bif bif IntKind.wrap .i64 (X + Y) != c then true else bif decide (n < X) then decide (w < X) else false then true else decide (d < Y) then true else bif decide (0 < Y) then decide (X < n) else false
noncomputable def tlH (p : PH) (n L : Int) (X Y : Nat) (c w i : Int) : T (Ex × St) :=
  .ite none (floatToIntVal .f64 X .i64).isSome (.ite none (floatToIntVal .f64 Y .i64).isSome (.ite none (bif badH n p.d c w (valW X) (valW Y) == false && true then okB L p.D X Y else true)
    (.ite none (bif badH n p.d c w (valW X) (valW Y) then true else fr L (valW X) != (if IntKind.wrap .i64 (n - valW X) > 0 then IntKind.wrap .i64 (n - valW X) else 0)) (.ret (.ret, FH p ⟨n, L, X, Y, c, w, i⟩)) (.ret (.normal, FH p ⟨n, L, X, Y, c, valW X, IntKind.wrap .i64 (i + 1)⟩))) .fail) .fail) .fail
def kdH (g : List (Int × Int)) (i : Int) : Int := bits .and .i64 (g2 g i).1 7
def mH (g : List (Int × Int)) (i : Int) : Int := IntKind.wrap .i64 (Int.tmod (IntKind.wrap .u64 (g2 g i).2) 21)
def inc (a : Int) : Int := IntKind.wrap .i64 (a + 1)
def dec1 (a : Int) : Int := IntKind.wrap .i64 (a - 1)
noncomputable def rtEnter (p : PH) (n L : Int) (x y : Nat) (c w i : Int) : T (Ex × St) :=
  .ite none (okB L p.D x y) (.ite none (decide (valW x < L)) (.ite none ((0 : Int) == 0) (tlH p n L (fW (valW x + 1)) (fW (valW y)) (inc c) w i) (tlH p n L (fW (valW x + 1)) (fW (valW y)) c w i))
    (.ite none (decide (valW y < p.D)) (.ite none ((0 : Int) == 0) (tlH p n L (fW (valW x)) (fW (valW y + 1)) (inc c) w i) (tlH p n L (fW (valW x)) (fW (valW y + 1)) c w i)) (.ite none ((6 : Int) == 0) (tlH p n L x y (inc c) w i) (tlH p n L x y c w i)))) .fail
noncomputable def rtLeave (p : PH) (n L : Int) (x y : Nat) (c w i : Int) : T (Ex × St) :=
  .ite none (okB L p.D x y) (.ite none (valW x == 0) (.ite none ((7 : Int) == 0) (tlH p n L x y (dec1 c) w i) (tlH p n L x y c w i))
    (.ite none ((0 : Int) == 0) (tlH p n L (fW (valW x - 1 + adm L (valW x - 1) (valW y))) (fW (valW y - adm L (valW x - 1) (valW y))) (dec1 c) w i) (tlH p n L (fW (valW x - 1 + adm L (valW x - 1) (valW y))) (fW (valW y - adm L (valW x - 1) (valW y))) c w i))) .fail
noncomputable def rtQuit (p : PH) (n L : Int) (x y : Nat) (c w i : Int) : T (Ex × St) :=
  .ite none (okB L p.D x y) (.ite none (valW y == 0) (.ite none ((7 : Int) == 0) (tlH p n L x y (dec1 c) w i) (tlH p n L x y c w i))
    (.ite none ((0 : Int) == 0) (tlH p n L (fW (valW x)) (fW (valW y - 1)) (dec1 c) w i) (tlH p n L (fW (valW x)) (fW (valW y - 1)) c w i))) .fail
noncomputable def rtLimit (p : PH) (m L : Int) (x y : Nat) (c w i : Int) : T (Ex × St) :=
  .ite none (okB L p.D x y) (.ite none (limB m) (.ite none ((0 : Int) != 0) (.ret (.ret, FH p ⟨m, m, fW (valW x + adm m (valW x) (valW y)), fW (valW y - adm m (valW x) (valW y)), c, w, i⟩)) (tlH p m m (fW (valW x + adm m (valW x) (valW y))) (fW (valW y - adm m (valW x) (valW y))) c w i))
    (.ite none ((1 : Int) != 0) (.ret (.ret, FH p ⟨m, L, x, y, c, w, i⟩)) (tlH p m L x y c w i))) .fail
noncomputable def rtZ (p : PH) (n L : Int) (x y : Nat) (c w i : Int) : T (Ex × St) :=
  .ite none (bif decide (i < (p.k : Int)) then decide (i < 150) else false) (.ite none (decide (0 ≤ i) && (decide (i < (p.k : Int)) && decide (0 + Int.toNat i < p.g.length))) (.ite none (decide (0 + Int.toNat i < p.g.length))
    (.ite none (decide (kdH p.g i < 3)) (rtEnter p n L x y c w i) (.ite none (decide (kdH p.g i < 6)) (rtLeave p n L x y c w i) (.ite none (kdH p.g i == 6) (rtQuit p n L x y c w i)
      (.ite none (decide (0 ≤ i) && (decide (i < (p.k : Int)) && decide (0 + Int.toNat i < p.g.length))) (.ite none (decide (0 + Int.toNat i < p.g.length)) (.ite none ((21 : Int) == 0) .fail (rtLimit p (mH p.g i) L x y c w i)) .fail) .fail)))) .fail) .fail)
    (.ret (.exit 0, FH p ⟨n, L, x, y, c, w, i⟩))
def okH (n d : Int) (x y : Nat) (c : Int) : Prop := isW x = true ∧ isW y = true ∧ 0 ≤ valW x ∧ valW x ≤ 20 ∧ 0 ≤ valW y ∧ valW y ≤ d ∧ (0 < valW y → n ≤ valW x) ∧ c = valW x + valW y ∧ 0 ≤ n ∧ n ≤ 20 ∧ 0 ≤ d ∧ d ≤ 20
instance (n d : Int) (x y : Nat) (c : Int) : Decidable (okH n d x y c) := inferInstanceAs (Decidable (_ ∧ _))
theorem isSome_W {x : Nat} (h : isW x = true) : (floatToIntVal .f64 x .i64).isSome = true := by
  obtain ⟨n, hn, rfl, -⟩ := isW_some h
  rw [int_fI (by omega)]; rfl
theorem vfw {t : Int} (h0 : 0 ≤ t) (h1 : t ≤ 1000) : valW (fW t) = t := by rw [valW_fW, wi_in h0 (by omega)]
theorem tl_ok {g : List (Int × Int)} {k : Nat} {n d : Int} {X Y : Nat} {c w i : Int} (h : okH n d X Y c) (hw : ¬ (n < valW X ∧ w < valW X)) (hi : 0 ≤ i ∧ i ≤ 1000) :
    (tlH ⟨g, k, d, d⟩ n n X Y c w i).eval = some (.normal, FH ⟨g, k, d, d⟩ ⟨n, n, X, Y, c, valW X, i + 1⟩) := by
  obtain ⟨h1, h2, h3, h4, h5, h6, h7, h8, h9, h10, h11, h12⟩ := h
  have bad : badH n d c w (valW X) (valW Y) = false := by
    unfold badH
    rw [wrap64_in (n := valW X + valW Y) (by omega) (by omega), h8, bne_self_eq_false, decide_eq_false (show ¬ d < valW Y by omega)]
    have e1 : (bif decide (n < valW X) then decide (w < valW X) else false) = false := by
      by_cases q : n < valW X
      · rw [decide_eq_true q, decide_eq_false (show ¬ w < valW X from fun z => hw ⟨q, z⟩)]; rfl
      · rw [decide_eq_false q]; rfl
    have e2 : (bif decide (0 < valW Y) then decide (valW X < n) else false) = false := by
      by_cases q : 0 < valW Y
      · have := h7 q
        rw [decide_eq_true q, decide_eq_false (show ¬ valW X < n by omega)]; rfl
      · rw [decide_eq_false q]; rfl
    rw [e1, e2]; rfl
  have hf : fr n (valW X) = (if IntKind.wrap .i64 (n - valW X) > 0 then IntKind.wrap .i64 (n - valW X) else 0) := by
    rw [wrap64_in (n := n - valW X) (by omega) (by omega)]
    unfold fr; split <;> split <;> omega
  unfold tlH
  rw [wrap64_in (n := i + 1) (by omega) (by omega)]
  refine tev_then (isSome_W h1) (tev_then (isSome_W h2) (tev_then ?_ (tev_else ?_ rfl)))
  · show (bif badH n d c w (valW X) (valW Y) == false && true then okB n d X Y else true) = true
    rw [bad]; exact okB_is h1 h2 (by omega) (by omega) (by omega) (by omega)
  · show (bif badH n d c w (valW X) (valW Y) then true else fr n (valW X) != (if IntKind.wrap .i64 (n - valW X) > 0 then IntKind.wrap .i64 (n - valW X) else 0)) = false
    rw [bad, ← hf]; exact bne_self_eq_false _
theorem enter_ok {g : List (Int × Int)} {k : Nat} {n d : Int} {x y : Nat} {c i : Int} (h : okH n d x y c) (hi : 0 ≤ i ∧ i ≤ 1000) :
    ∃ X Y c', okH n d X Y c' ∧ (rtEnter ⟨g, k, d, d⟩ n n x y c (valW x) i).eval = some (.normal, FH ⟨g, k, d, d⟩ ⟨n, n, X, Y, c', valW X, i + 1⟩) := by
  have h0 := h
  obtain ⟨h1, h2, h3, h4, h5, h6, h7, h8, h9, h10, h11, h12⟩ := h
  have hk : okB n d x y = true := okB_is h1 h2 (by omega) (by omega) (by omega) (by omega)
  have hc : inc c = c + 1 := wrap64_in (by omega) (by omega)
  by_cases q : valW x < n
  · have a1 := vfw (t := valW x + 1) (by omega) (by omega)
    have a2 := vfw (t := valW y) (by omega) (by omega)
    have ok : okH n d (fW (valW x + 1)) (fW (valW y)) (c + 1) := by
      unfold okH; rw [a1, a2]; exact ⟨isW_fW _, isW_fW _, by omega, by omega, by omega, by omega, by omega, by omega, h9, h10, h11, h12⟩
    refine ⟨_, _, _, ok, tev_then hk (tev_then (decide_eq_true q) (tev_then rfl ?_))⟩
    rw [hc]; exact tl_ok ok (by rw [a1]; omega) hi
  · by_cases r : valW y < d
    · have a1 := vfw (t := valW x) (by omega) (by omega)
      have a2 := vfw (t := valW y + 1) (by omega) (by omega)
      have ok : okH n d (fW (valW x)) (fW (valW y + 1)) (c + 1) := by
        unfold okH; rw [a1, a2]; exact ⟨isW_fW _, isW_fW _, by omega, by omega, by omega, by omega, by omega, by omega, h9, h10, h11, h12⟩
      refine ⟨_, _, _, ok, tev_then hk (tev_else (decide_eq_false q) (tev_then (decide_eq_true r) (tev_then rfl ?_)))⟩
      rw [hc]; exact tl_ok ok (by rw [a1]; omega) hi
    · exact ⟨_, _, _, h0, tev_then hk (tev_else (decide_eq_false q) (tev_else (decide_eq_false r) (tev_else rfl (tl_ok h0 (by omega) hi))))⟩
theorem leave_ok {g : List (Int × Int)} {k : Nat} {n d : Int} {x y : Nat} {c i : Int} (h : okH n d x y c) (hi : 0 ≤ i ∧ i ≤ 1000) :
    ∃ X Y c', okH n d X Y c' ∧ (rtLeave ⟨g, k, d, d⟩ n n x y c (valW x) i).eval = some (.normal, FH ⟨g, k, d, d⟩ ⟨n, n, X, Y, c', valW X, i + 1⟩) := by
  have h0 := h
  obtain ⟨h1, h2, h3, h4, h5, h6, h7, h8, h9, h10, h11, h12⟩ := h
  have hk : okB n d x y = true := okB_is h1 h2 (by omega) (by omega) (by omega) (by omega)
  by_cases q : valW x = 0
  · exact ⟨_, _, _, h0, tev_then hk (tev_then (by rw [q]; rfl) (tev_else rfl (tl_ok h0 (by omega) hi)))⟩
  · have hc : dec1 c = c - 1 := wrap64_in (by omega) (by omega)
    have ha : 0 ≤ adm n (valW x - 1) (valW y) ∧ adm n (valW x - 1) (valW y) ≤ valW y ∧ adm n (valW x - 1) (valW y) ≤ 1 ∧ (0 < valW y - adm n (valW x - 1) (valW y) → n ≤ valW x - 1 + adm n (valW x - 1) (valW y)) := by
      unfold adm fr; repeat' split
      all_goals omega
    generalize hq : adm n (valW x - 1) (valW y) = q' at *
    have a1 := vfw (t := valW x - 1 + q') (by omega) (by omega)
    have a2 := vfw (t := valW y - q') (by omega) (by omega)
    have ok : okH n d (fW (valW x - 1 + q')) (fW (valW y - q')) (c - 1) := by
      unfold okH; rw [a1, a2]; exact ⟨isW_fW _, isW_fW _, by omega, by omega, by omega, by omega, ha.2.2.2, by omega, h9, h10, h11, h12⟩
    refine ⟨_, _, _, ok, tev_then hk (tev_else (by rw [beq_eq_false_iff_ne]; exact q) (tev_then rfl ?_))⟩
    rw [hc, hq]; exact tl_ok ok (by rw [a1]; omega) hi
theorem quit_ok {g : List (Int × Int)} {k : Nat} {n d : Int} {x y : Nat} {c i : Int} (h : okH n d x y c) (hi : 0 ≤ i ∧ i ≤ 1000) :
    ∃ X Y c', okH n d X Y c' ∧ (rtQuit ⟨g, k, d, d⟩ n n x y c (valW x) i).eval = some (.normal, FH ⟨g, k, d, d⟩ ⟨n, n, X, Y, c', valW X, i + 1⟩) := by
  have h0 := h
  obtain ⟨h1, h2, h3, h4, h5, h6, h7, h8, h9, h10, h11, h12⟩ := h
  have hk : okB n d x y = true := okB_is h1 h2 (by omega) (by omega) (by omega) (by omega)
  by_cases q : valW y = 0
  · exact ⟨_, _, _, h0, tev_then hk (tev_then (by rw [q]; rfl) (tev_else rfl (tl_ok h0 (by omega) hi)))⟩
  · have hc : dec1 c = c - 1 := wrap64_in (by omega) (by omega)
    have a1 := vfw (t := valW x) (by omega) (by omega)
    have a2 := vfw (t := valW y - 1) (by omega) (by omega)
    have ok : okH n d (fW (valW x)) (fW (valW y - 1)) (c - 1) := by
      unfold okH; rw [a1, a2]; exact ⟨isW_fW _, isW_fW _, by omega, by omega, by omega, by omega, by omega, by omega, h9, h10, h11, h12⟩
    refine ⟨_, _, _, ok, tev_then hk (tev_else (by rw [beq_eq_false_iff_ne]; exact q) (tev_then rfl ?_))⟩
    rw [hc]; exact tl_ok ok (by rw [a1]; omega) hi
theorem limit_ok {g : List (Int × Int)} {k : Nat} {n m d : Int} {x y : Nat} {c i : Int} (h : okH n d x y c) (hm : 0 ≤ m ∧ m ≤ 20) (hi : 0 ≤ i ∧ i ≤ 1000) :
    ∃ X Y c', okH m d X Y c' ∧ (rtLimit ⟨g, k, d, d⟩ m n x y c (valW x) i).eval = some (.normal, FH ⟨g, k, d, d⟩ ⟨m, m, X, Y, c', valW X, i + 1⟩) := by
  obtain ⟨h1, h2, h3, h4, h5, h6, h7, h8, h9, h10, h11, h12⟩ := h
  have hk : okB n d x y = true := okB_is h1 h2 (by omega) (by omega) (by omega) (by omega)
  have hl : limB m = true := by unfold limB; rw [decide_eq_true hm.1, decide_eq_true (show m ≤ 1000 by omega)]; rfl
  have ha : 0 ≤ adm m (valW x) (valW y) ∧ adm m (valW x) (valW y) ≤ valW y ∧ valW x + adm m (valW x) (valW y) ≤ 20 ∧ (m < valW x + adm m (valW x) (valW y) → adm m (valW x) (valW y) = 0) ∧ (0 < valW y - adm m (valW x) (valW y) → m ≤ valW x + adm m (valW x) (valW y)) := by
    unfold adm fr; repeat' split
    all_goals omega
  generalize hq : adm m (valW x) (valW y) = q' at *
  have a1 := vfw (t := valW x + q') (by omega) (by omega)
  have a2 := vfw (t := valW y - q') (by omega) (by omega)
  have ok : okH m d (fW (valW x + q')) (fW (valW y - q')) c := by
    unfold okH; rw [a1, a2]; exact ⟨isW_fW _, isW_fW _, by omega, by omega, by omega, by omega, ha.2.2.2.2, by omega, hm.1, hm.2, h11, h12⟩
  refine ⟨_, _, _, ok, tev_then hk (tev_then hl (tev_else rfl ?_))⟩
  rw [hq]; exact tl_ok ok (by rw [a1]; omega) hi
theorem rt_run (g : List (Int × Int)) (k : Nat) (d D n L : Int) (x y : Nat) (c w i : Int) : T.anon (roundN B6 noLoops bh1 [2,7,8,9,10,11,12] SH 1000 1000 (mkSt [2,7,8,9,10,11,12] (keysR SH) 1000 148 (vsH ⟨g, k, d, D⟩ ⟨n, L, x, y, c, w, i⟩) (bsH ⟨g, k, d, D⟩ ⟨n, L, x, y, c, w, i⟩))) = rtZ ⟨g, k, d, D⟩ n L x y c w i := by kernel_rfl
end Go.Proofs.Ytacdadifjgppbaa.Brk
