/- Layer 8: the loop of PodParts. -/
import Derived.Test.YtacdadifjgppbaaPodPb
import Derived.Test.YtacdadifjgppbaaEngM
namespace Go.Proofs.Ytacdadifjgppbaa.Pod
open Go.Eng Go.RowKit Go.Flt Lod Brk
set_option linter.unusedVariables false
set_option linter.unusedSimpArgs false
noncomputable def rdQ (p : PQ) (a : AQ) : T (Ex × St) := rtQ p.X p.Y p.Z p.id p.m p.L p.D p.id' p.m' p.L' p.D' a.x a.y a.t a.u a.s a.x' a.y' a.t' a.u' a.s' a.i
theorem runQ (p : PQ) (a : AQ) : T.anon (roundN D5 noLoops pq1 [7,8,9,10,11,12] SQ 1000 1000 (mkSt [7,8,9,10,11,12] (keysR SQ) 1000 114 (vsQ p a) (bsQ p a))) = rdQ p a := by kernel_rfl
def okQ (p : PQ) (a : AQ) : Prop := (p.m = 0 ∧ p.L = 3 ∧ p.D = 9 ∧ p.m' = 0 ∧ p.L' = 3 ∧ p.D' = 9 ∧ 0 ≤ p.Z ∧ p.Z ≤ 4) ∧ (a.t = 0 ∧ a.u = 0 ∧ a.s = 0 ∧ a.t' = 0 ∧ a.u' = 0 ∧ a.s' = 0) ∧ (0 ≤ a.i ∧ a.i ≤ p.Z + 1) ∧ (isW a.x = true ∧ isW a.y = true ∧ valW a.x = bIn 3 a.i ∧ valW a.y = wIn 3 a.i) ∧ (isW a.x' = true ∧ isW a.y' = true ∧ valW a.x' = bIn 3 a.i ∧ valW a.y' = wIn 3 a.i)
def goQ (p : PQ) (a : AQ) : Bool := decide (a.i ≤ p.Z)
theorem stepQ (p : PQ) (a : AQ) (h : okQ p a) (hg : goQ p a = true) : ∃ b, stepC okQ rdQ FQ (fun p a => (p.Z + 1 - a.i).toNat) p a b := by
  obtain ⟨X, Y, Z, id, m, L, D, id', m', L', D'⟩ := p
  obtain ⟨x, y, t, u, s, x', y', t', u', s', i⟩ := a
  obtain ⟨⟨h1, h2, h3, h4, h5, h6, h7, h8⟩, ⟨g1, g2, g3, g4, g5, g6⟩, ⟨i1, i2⟩, ⟨x1, x2, x3, x4⟩, ⟨y1, y2, y3, y4⟩⟩ := h
  dsimp only at *
  subst h1 h2 h3 h4 h5 h6 g1 g2 g3 g4 g5 g6
  have hi : i ≤ Z := of_decide_eq_true hg
  have hw : IntKind.wrap .i64 (i + 1) = i + 1 := wrap64_in (by omega) (by omega)
  have kb : bad 0 0 = false := bad_is (by decide)
  have hs : ∀ n : Int, (0 : Int) + n * (0 - 0) = 0 := fun n => by simp
  by_cases q : i < 3
  · have c1 : bIn 3 i = i := if_pos q
    have c2 : wIn 3 i = 0 := if_pos q
    rw [c1] at x3 y3
    rw [c2] at x4 y4
    have kR : okR 0 0 0 0 3 9 x y = true := okR_of x1 x2 (by decide) (by decide) (by omega) (by omega) (by decide)
    have kB : okB 3 9 x y = true := okB_is x1 x2 (by decide) (by decide) (by omega) (by omega)
    have kR' : okR 0 0 0 0 3 9 x' y' = true := okR_of y1 y2 (by decide) (by decide) (by omega) (by omega) (by decide)
    have kB' : okB 3 9 x' y' = true := okB_is y1 y2 (by decide) (by decide) (by omega) (by omega)
    refine ⟨⟨fW (valW x + 1), fW (valW y), 0, 0, 0 + (valW x + valW y) * (0 - 0), fW (valW x' + 1), fW (valW y'), 0, 0, 0 + (valW x' + valW y') * (0 - 0), IntKind.wrap .i64 (i + 1)⟩,
      tev_then (decide_eq_true hi) (tev_then kR (tev_else kb (tev_then kB (tev_then (decide_eq_true (show valW x < 3 by omega)) (tev_then kR' (tev_else kb (tev_then kB' (tev_then (decide_eq_true (show valW x' < 3 by omega)) rfl)))))))),
      ⟨⟨rfl, rfl, rfl, rfl, rfl, rfl, h7, h8⟩, ⟨rfl, rfl, hs _, rfl, rfl, hs _⟩, ?_, ⟨isW_fW _, isW_fW _, ?_, ?_⟩, ⟨isW_fW _, isW_fW _, ?_, ?_⟩⟩, ?_⟩
    all_goals dsimp only
    all_goals rw [hw]
    · omega
    · rw [vfw (by omega) (by omega), x3]; unfold bIn; split <;> omega
    · rw [vfw (by omega) (by omega), x4]; unfold wIn; split <;> omega
    · rw [vfw (by omega) (by omega), y3]; unfold bIn; split <;> omega
    · rw [vfw (by omega) (by omega), y4]; unfold wIn; split <;> omega
    · omega
  · have c1 : bIn 3 i = 3 := if_neg q
    have c2 : wIn 3 i = i - 3 := if_neg q
    rw [c1] at x3 y3
    rw [c2] at x4 y4
    have kR : okR 0 0 0 0 3 9 x y = true := okR_of x1 x2 (by decide) (by decide) (by omega) (by omega) (by decide)
    have kB : okB 3 9 x y = true := okB_is x1 x2 (by decide) (by decide) (by omega) (by omega)
    have kR' : okR 0 0 0 0 3 9 x' y' = true := okR_of y1 y2 (by decide) (by decide) (by omega) (by omega) (by decide)
    have kB' : okB 3 9 x' y' = true := okB_is y1 y2 (by decide) (by decide) (by omega) (by omega)
    refine ⟨⟨fW (valW x), fW (valW y + 1), 0, 0, 0 + (valW x + valW y) * (0 - 0), fW (valW x'), fW (valW y' + 1), 0, 0, 0 + (valW x' + valW y') * (0 - 0), IntKind.wrap .i64 (i + 1)⟩,
      tev_then (decide_eq_true hi) (tev_then kR (tev_else kb (tev_then kB (tev_else (decide_eq_false (show ¬ valW x < 3 by omega)) (tev_then (decide_eq_true (show valW y < 9 by omega)) (tev_then kR' (tev_else kb (tev_then kB' (tev_else (decide_eq_false (show ¬ valW x' < 3 by omega)) (tev_then (decide_eq_true (show valW y' < 9 by omega)) rfl)))))))))),
      ⟨⟨rfl, rfl, rfl, rfl, rfl, rfl, h7, h8⟩, ⟨rfl, rfl, hs _, rfl, rfl, hs _⟩, ?_, ⟨isW_fW _, isW_fW _, ?_, ?_⟩, ⟨isW_fW _, isW_fW _, ?_, ?_⟩⟩, ?_⟩
    all_goals dsimp only
    all_goals rw [hw]
    · omega
    · rw [vfw (by omega) (by omega), x3]; unfold bIn; split <;> omega
    · rw [vfw (by omega) (by omega), x4]; unfold wIn; split <;> omega
    · rw [vfw (by omega) (by omega), y3]; unfold bIn; split <;> omega
    · rw [vfw (by omega) (by omega), y4]; unfold wIn; split <;> omega
    · omega
theorem exQ (p : PQ) (a : AQ) (h : okQ p a) (hg : goQ p a = false) : (rdQ p a).eval = some (.exit 0, FQ p a) := tev_else hg rfl
noncomputable def famQ : LSpec := famC [7,8,9,10,11,12] SQ 1000 1000 114 decQ okQ goQ rdQ FQ (fun p a => (p.Z + 1 - a.i).toNat) (.exit 0)
theorem lpQ_ok : LoopOk D5 pq1 famQ := famC_ok (vs := vsQ) (bs := bsQ) D5_ok mixed (noLoops_ok _) decQ_ok (by simp) (fun _ _ => rfl) runQ stepQ exQ
noncomputable def qlist : List (Nat × LSpec) := [(6, famQ)]
theorem qfind : findL qlist 6 = some famQ := rfl
theorem qreg : firstReg pq1 = some 6 := by kernel_rfl
theorem qlps_ok : ∀ a ∈ loopsIn (codeOf Try.prog 15), ∀ sp, byReg qlist a = some sp → LoopOk D5 a sp := by
  have e : loopsIn (codeOf Try.prog 15) = [pq1] := by kernel_rfl
  rw [e]
  intro a ha
  rcases List.mem_cons.1 ha with h | ha
  · rw [h]; exact byReg_mem qreg qfind lpQ_ok
  · cases ha
end Go.Proofs.Ytacdadifjgppbaa.Pod
