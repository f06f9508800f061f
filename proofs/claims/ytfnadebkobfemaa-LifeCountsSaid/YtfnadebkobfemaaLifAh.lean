/- Layer 21: LifeGoes. -/
import Derived.Test.YtfnadebkobfemaaLifAg
namespace Go.Proofs.Ytfnadebkobfemaa.Lif
open Go.Eng Go.RowKit
set_option linter.unusedVariables false
set_option linter.unusedSimpArgs false
def kG (a : Int) : Int := IntKind.wrap .i64 (1 + IntKind.wrap .i64 (Int.tmod (IntKind.wrap .u64 a) 10))
def sG (b : Int) : Int := IntKind.wrap .i64 (Int.tmod (IntKind.wrap .u64 b) 6)
def mG (a : Int) : Int := scaleM 0 [] (kG a)
noncomputable def pGo (a b c : Int) : PGo := ⟨c, kG a, sG b, mG a⟩
def aGo (a : Int) : AGo := ⟨(sS (kG a)).length, crS (kG a), 0⟩
noncomputable def EGo (a b c : Int) : AGo := endW (nxtC okGo goGo rdGo FGo muGo (pGo a b c)) (aGo a)
def nw (k s : Int) : Int := IntKind.wrap .i64 (k + s)
def wG (k s c : Int) : Int := IntKind.wrap .i64 (Int.tmod (IntKind.wrap .u64 c) (IntKind.wrap .u64 (IntKind.wrap .i64 (nw k s + 1))))
def g2L (m : Int) (l : List R4) (k s : Int) : List R4 := scaleL m l (nw k s) 1
def g2M (m : Int) (l : List R4) (k s : Int) : Int := scaleM m l (nw k s)
def g3L (m : Int) (l : List R4) (k s w : Int) : List R4 := scaleL (g2M m l k s) (g2L m l k s) w 2
def g3M (m : Int) (l : List R4) (k s w : Int) : Int := scaleM (g2M m l k s) (g2L m l k s) w
def pGp (m : Int) (l : List R4) (k s w : Int) : PGp := ⟨k, w, (g3L m l k s w).length, g3M m l k s w, (g3L m l k s w).length, g3L m l k s w, g3L m l k s w⟩
noncomputable def eGp (m : Int) (l : List R4) (k s w : Int) : AGp := endW (nxtC okGp goGp rdGp FGp muGp (pGp m l k s w)) ⟨0, 0⟩
noncomputable def restG (m : Int) (n : Nat) (l : List R4) (k s w : Int) : List (Bool × Bool) := [(okSc m n l, true), (outS (nw k s) 1, false), ((0 : Int) != 0, false), (IntKind.wrap .u64 (IntKind.wrap .i64 (nw k s + 1)) == 0, false), (okSc (g2M m l k s) (g2L m l k s).length (g2L m l k s), true), (outS w 2, false), ((0 : Int) != 0, false), (okN (g3L m l k s w).length (g3L m l k s w), true), (invC okGp (pGp m l k s w) ⟨0, 0⟩, true),
  ((eGp m l k s w).r == (if k < w then k else w), true), (okN (g3L m l k s w).length (g3L m l k s w), true)]
theorem wayGoA (a b c : Int) : T.path [false, false, true, false, false, true, true, true, false, false, false, true, false, false, true, true, true, true] (T.anon (execS JL (byReg [(rgGo, famGo), (rgGp, famGp)]) 8 [iv a, iv b, iv c])) = some ([((10 : Int) == 0, false), ((6 : Int) == 0, false), (okSc 0 0 [], true), (outS (kG a) 0, false), ((0 : Int) != 0, false), (okN (sS (kG a)).length (sS (kG a)) && okTb (sS (kG a)), true), (invC okGo (pGo a b c) (aGo a), true)] ++ restG (mG a) (EGo a b c).n (EGo a b c).l (kG a) (sG b) (wG (kG a) (sG b) c), .s (.bool (bif (eGp (mG a) (EGo a b c).l (kG a) (sG b) (wG (kG a) (sG b) c)).r == (if kG a < wG (kG a) (sG b) c then kG a else wG (kG a) (sG b) c) then (cnt (g3L (mG a) (EGo a b c).l (kG a) (sG b) (wG (kG a) (sG b) c)) : Int) == wG (kG a) (sG b) c else false))) := by kernel_rfl
def finG (k s w : Nat) : Bool := okSc (scaleM 0 [] k) (goE k k).length (goE k k) && (!outS (nw k s) 1 && (!(IntKind.wrap .u64 (IntKind.wrap .i64 (nw k s + 1)) == 0) && (okSc (g2M (scaleM 0 [] k) (goE k k) k s) (g2L (scaleM 0 [] k) (goE k k) k s).length (g2L (scaleM 0 [] k) (goE k k) k s) && (!outS w 2 && (okN (g3L (scaleM 0 [] k) (goE k k) k s w).length (g3L (scaleM 0 [] k) (goE k k) k s w) && ((g3L (scaleM 0 [] k) (goE k k) k s w).all (gpOk k w) && (decide ((g3L (scaleM 0 [] k) (goE k k) k s w).length ≤ 1000) && (((rdy (g3L (scaleM 0 [] k) (goE k k) k s w)).length : Int) == (if (k : Int) < w then (k : Int) else w) && ((cnt (g3L (scaleM 0 [] k) (goE k k) k s w) : Int) == w)))))))))
theorem finG_is : ∀ k : Fin 11, ∀ s : Fin 6, ∀ w : Fin 16, w.val ≤ k.val + s.val → finG k.val s.val w.val = true := by decide +kernel
theorem lifeGoes_walk (a : Int) (_ : (Lit.int .i64 a).wf = true) (b : Int) (_ : (Lit.int .i64 b).wf = true) (c : Int) (_ : (Lit.int .i64 c).wf = true) (w : World) :
    Calls Try.prog 8 #[.int .i64 a, .int .i64 b, .int .i64 c] w fun e w' => e = .returned (.bool true) ∧ Below w.heap.size w w' := by
  refine law_yes (args := [iv a, iv b, iv c]) (execS_loops (Λ := byReg [(rgGo, famGo), (rgGp, famGp)]) JL_ok mixed Try.func8 (by kernel_rfl) (by kernel_rfl) (two_lp (c := lpGo) (c' := lpGp) (by kernel_rfl) rgGo_is rgGp_is (by kernel_rfl) lpGo_ok lpGp_ok)) rfl (yes_anon (.inr ?_)) w
  have hk0 : IntKind.wrap .i64 (Int.tmod (IntKind.wrap .u64 a) 10) = a % 18446744073709551616 % 10 := modU (by omega) (by omega)
  have hk1 := modU_range a (show (0 : Int) < 10 by omega)
  have hk : 1 ≤ kG a ∧ kG a ≤ 10 := by
    unfold kG
    rw [hk0, wrap64_in (by omega) (by omega)]; omega
  have hs : 0 ≤ sG b ∧ sG b < 6 := by unfold sG; rw [modU (by omega) (by omega)]; exact modU_range b (by omega)
  have hn : nw (kG a) (sG b) = kG a + sG b := wrap64_in (by omega) (by omega)
  have hu : IntKind.wrap .u64 (IntKind.wrap .i64 (nw (kG a) (sG b) + 1)) = kG a + sG b + 1 := by
    rw [hn, wrap64_in (by omega) (by omega), wrapu64]; omega
  have hw : 0 ≤ wG (kG a) (sG b) c ∧ wG (kG a) (sG b) c < kG a + sG b + 1 := by
    unfold wG; rw [hu, modU (by omega) (by omega)]; exact modU_range c (by omega)
  obtain ⟨k, ek⟩ : ∃ k : Nat, kG a = k := ⟨(kG a).toNat, by omega⟩
  obtain ⟨s, es⟩ : ∃ v : Nat, sG b = v := ⟨(sG b).toNat, by omega⟩
  obtain ⟨x, ex⟩ : ∃ x : Nat, wG (kG a) (sG b) c = x := ⟨(wG (kG a) (sG b) c).toNat, by omega⟩
  have g := crG_is ⟨k, by omega⟩ (by show 0 < k; omega)
  unfold crG at g
  simp only [Bool.and_eq_true, Bool.not_eq_true', decide_eq_true_eq] at g
  rw [← ek] at g
  obtain ⟨⟨⟨⟨g1, g2⟩, g3⟩, g4⟩, g5⟩ := g
  have h0 : okGo (pGo a b c) (aGo a) := ⟨hk.1, hk.2, Int.le_refl _, by show (0 : Int) ≤ kG a; omega, g3, rfl⟩
  obtain ⟨k1, k2⟩ := endC stepGo h0
  obtain ⟨_, _, q3, q4, q5, q6⟩ := k1
  have q3' : 0 ≤ (EGo a b c).i := q3
  have q4' : (EGo a b c).i ≤ kG a := q4
  have k2' : ¬ (EGo a b c).i < kG a := of_decide_eq_false k2
  have q6' : (EGo a b c).l = goE (kG a) (EGo a b c).i.toNat := q6
  rw [show (EGo a b c).i.toNat = k by omega, ek] at q6'
  have q5' : (EGo a b c).n = (EGo a b c).l.length := q5
  have em : mG a = scaleM 0 [] (k : Int) := by unfold mG; rw [ek]
  have f := finG_is ⟨k, by omega⟩ ⟨s, by omega⟩ ⟨x, by omega⟩ (by show x ≤ k + s; omega)
  unfold finG at f
  simp only [Bool.and_eq_true, Bool.not_eq_true', decide_eq_true_eq, beq_iff_eq] at f
  obtain ⟨f1, f2, f3, f4, f5, f6, f7, f8, f9, f10⟩ := f
  have o2 : okGp (pGp (scaleM 0 [] k) (goE k k) k s x) ⟨0, 0⟩ := ⟨rfl, f8, fun y hy => List.all_eq_true.1 f7 y hy, Int.le_refl _, by show (0 : Int) ≤ ((g3L _ _ _ _ _).length : Int); omega, rfl⟩
  obtain ⟨m1, m2⟩ := endC stepGp o2
  obtain ⟨_, _, _, r4, r5, r6⟩ := m1
  have m2' : ¬ (eGp (scaleM 0 [] k) (goE k k) k s x).i < ((g3L (scaleM 0 [] k) (goE k k) k s x).length : Int) := of_decide_eq_false m2
  have r6' : (eGp (scaleM 0 [] k) (goE k k) k s x).r = (rdy ((g3L (scaleM 0 [] k) (goE k k) k s x).take (eGp (scaleM 0 [] k) (goE k k) k s x).i.toNat)).length := r6
  rw [List.take_of_length_le (by omega)] at r6'
  refine (T.path_eval (wayGoA a b c) (allSay_append ⟨rfl, rfl, rfl, g4, rfl, by rw [g1, g2]; rfl, invC_is h0, trivial⟩ ?_)).trans ?_
  · rw [ex, q5', q6', em, ek, es]
    exact ⟨f1, f2, rfl, beq_eq_false_iff_ne.2 (by simpa using f3), f4, f5, rfl, f6, invC_is o2, by rw [r6', f9]; simp, f6, trivial⟩
  · rw [ex, q6', em, ek, es, f10, r6', f9]; simp
end Go.Proofs.Ytfnadebkobfemaa.Lif
