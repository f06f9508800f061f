/- Layer 7: the loop of BreakerPlays. -/
import Derived.Test.YtacdadifjgppbaaBrkAb
namespace Go.Proofs.Ytacdadifjgppbaa.Brk
open Go.Eng Go.RowKit Go.Flt Lod
set_option linter.unusedVariables false
set_option linter.unusedSimpArgs false
def sameP (X Y : Nat) (b w : Int) : Bool := FloatKind.f64.format.order X (fW b) == some .eq && FloatKind.f64.format.order Y (fW w) == some .eq
noncomputable def tailP (p : PP) (L D : Int) (X Y : Nat) (M Q b w i : Int) : T (Ex × St) :=
  .ite none (bif (!(sameP X Y b w)) == false && true then okB L D X Y else true) (.ite none (bif !(sameP X Y b w) then true else fr L (valW X) != upw (M - b)) (.ret (.ret, FP p ⟨L, D, X, Y, M, Q, b, w, i⟩)) (.ret (.normal, FP p ⟨L, D, X, Y, M, Q, b, w, IntKind.wrap .i64 (i + 1)⟩))) .fail
noncomputable def cmpP (p : PP) (c : Bool) (L D : Int) (X Y : Nat) (M Q b w i : Int) : T (Ex × St) := .ite none c (.ret (.ret, FP p ⟨L, D, X, Y, M, Q, b, w, i⟩)) (tailP p L D X Y M Q b w i)
def refE (M Q b w : Int) (K : Bool → Int → Int → Int → T (Ex × St)) : T (Ex × St) := .ite none (decide (b < M)) (K true 0 (inc b) w) (.ite none (decide (w < Q)) (K false 0 b (inc w)) (K false 6 b w))
def refV (M b w : Int) (K : Bool → Int → Int → Int → T (Ex × St)) : T (Ex × St) := .ite none (b == 0) (K false 7 b w) (.ite none (bif decide (0 < w) then decide (dec1 b < M) else false) (K true 0 (inc (dec1 b)) (dec1 w)) (K false 0 (dec1 b) w))
def refQ (w : Int) (K : Int → Int → T (Ex × St)) : T (Ex × St) := .ite none (w == 0) (K 7 w) (K 0 (dec1 w))
def rK (n b w : Int) : Int := if w < upw (n - b) then w else upw (n - b)
def refL (n M b w : Int) (K : Int → Int → Int → Int → Int → T (Ex × St)) : T (Ex × St) := .ite none (bif decide (n < 0) then true else decide (1000 < n)) (K 0 1 M b w) (K (rK n b w) 0 n (IntKind.wrap .i64 (b + rK n b w)) (IntKind.wrap .i64 (w - rK n b w)))
noncomputable def pEnter (p : PP) (L D : Int) (x y : Nat) (M Q b w i : Int) : T (Ex × St) :=
  .ite none (okB L D x y) (.ite none (decide (valW x < L)) (refE M Q b w fun r c b' w' => cmpP p (bif !(true == r) then true else (0 : Int) != c) L D (fW (valW x + 1)) (fW (valW y)) M Q b' w' i)
    (.ite none (decide (valW y < D)) (refE M Q b w fun r c b' w' => cmpP p (bif !(false == r) then true else (0 : Int) != c) L D (fW (valW x)) (fW (valW y + 1)) M Q b' w' i) (refE M Q b w fun r c b' w' => cmpP p (bif !(false == r) then true else (6 : Int) != c) L D x y M Q b' w' i))) .fail
noncomputable def pLeave (p : PP) (L D : Int) (x y : Nat) (M Q b w i : Int) : T (Ex × St) :=
  .ite none (okB L D x y) (.ite none (valW x == 0) (refV M b w fun r c b' w' => cmpP p (bif !(false == r) then true else (7 : Int) != c) L D x y M Q b' w' i)
    (refV M b w fun r c b' w' => cmpP p (bif !(decide (0 < adm L (valW x - 1) (valW y)) == r) then true else (0 : Int) != c) L D (fW (valW x - 1 + adm L (valW x - 1) (valW y))) (fW (valW y - adm L (valW x - 1) (valW y))) M Q b' w' i)) .fail
noncomputable def pQuit (p : PP) (L D : Int) (x y : Nat) (M Q b w i : Int) : T (Ex × St) :=
  .ite none (okB L D x y) (.ite none (valW y == 0) (refQ w fun c w' => cmpP p ((7 : Int) != c) L D x y M Q b w' i) (refQ w fun c w' => cmpP p ((0 : Int) != c) L D (fW (valW x)) (fW (valW y - 1)) M Q b w' i)) .fail
noncomputable def idxP (p : PP) (i : Int) (t : T (Ex × St)) : T (Ex × St) := .ite none (decide (0 ≤ i) && (decide (i < (p.k : Int)) && decide (0 + Int.toNat i < p.g.length))) (.ite none (decide (0 + Int.toNat i < p.g.length)) t .fail) .fail
noncomputable def pLimit (p : PP) (n L D : Int) (x y : Nat) (M Q b w i : Int) : T (Ex × St) :=
  idxP p i (.ite none (okB L D x y) (.ite none (limB n) (idxP p i (refL n M b w fun m c M' b' w' => cmpP p (bif adm n (valW x) (valW y) != m then true else (0 : Int) != c) n D (fW (valW x + adm n (valW x) (valW y))) (fW (valW y - adm n (valW x) (valW y))) M' Q b' w' i))
    (idxP p i (refL n M b w fun m c M' b' w' => cmpP p (bif (0 : Int) != m then true else (1 : Int) != c) L D x y M' Q b' w' i))) .fail)
noncomputable def rtP (p : PP) (L D : Int) (x y : Nat) (M Q b w i : Int) : T (Ex × St) :=
  .ite none (decide (i < (p.k : Int))) (idxP p i (.ite none (decide (kdH p.g i < 3)) (pEnter p L D x y M Q b w i) (.ite none (decide (kdH p.g i < 6)) (pLeave p L D x y M Q b w i) (.ite none (kdH p.g i == 6) (pQuit p L D x y M Q b w i) (pLimit p (g2 p.g i).2 L D x y M Q b w i)))))
    (.ret (.exit 0, FP p ⟨L, D, x, y, M, Q, b, w, i⟩))
theorem rtP_run (g : List (Int × Int)) (k : Nat) (L D : Int) (x y : Nat) (M Q b w i : Int) : T.anon (roundN B7 noLoops bp1 [2,7,8,9] SP 1000 1000 (mkSt [2,7,8,9] (keysR SP) 1000 152 (vsP ⟨g, k⟩ ⟨L, D, x, y, M, Q, b, w, i⟩) (bsP ⟨g, k⟩ ⟨L, D, x, y, M, Q, b, w, i⟩))) = rtP ⟨g, k⟩ L D x y M Q b w i := by kernel_rfl
def okP (L D : Int) (x y : Nat) (b w : Int) : Prop := isW x = true ∧ isW y = true ∧ b = valW x ∧ w = valW y ∧ 0 ≤ L ∧ L ≤ 1000 ∧ 0 ≤ D ∧ D ≤ 1000 ∧ 0 ≤ b ∧ b ≤ 1000 ∧ 0 ≤ w ∧ w ≤ 1000 ∧ (0 < w → L ≤ b)
instance (L D : Int) (x y : Nat) (b w : Int) : Decidable (okP L D x y b w) := inferInstanceAs (Decidable (_ ∧ _))
theorem ord_ok {X : Nat} (h : isW X = true) : (FloatKind.f64.format.order X (fW (valW X)) == some .eq) = true := by
  obtain ⟨n, hn, rfl, v⟩ := isW_some h
  rw [v, fW_nat hn, order_fI (by omega) (by omega), cmp_eq]
  simp
theorem cmpP_ok {p : PP} {c : Bool} {L D : Int} {X Y : Nat} {b w i : Int} (hc : c = false) (h : okP L D X Y b w) (hi : 0 ≤ i ∧ i ≤ 1000) : (cmpP p c L D X Y L D b w i).eval = some (.normal, FP p ⟨L, D, X, Y, L, D, b, w, i + 1⟩) := by
  obtain ⟨h1, h2, rfl, rfl, h5, h6, h7, h8, h9, h10, h11, h12, h13⟩ := h
  have hs : sameP X Y (valW X) (valW Y) = true := by unfold sameP; rw [ord_ok h1, ord_ok h2]; rfl
  have hf : fr L (valW X) = upw (L - valW X) := by
    unfold upw fr
    rw [wrap64_in (n := L - valW X) (by omega) (by omega)]
  unfold cmpP tailP
  rw [wrap64_in (n := i + 1) (by omega) (by omega), hs, hf]
  exact tev_else hc (tev_then (okB_is h1 h2 (by omega) (by omega) (by omega) (by omega)) (tev_else (bne_self_eq_false _) rfl))
end Go.Proofs.Ytacdadifjgppbaa.Brk
