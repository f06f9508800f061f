/- Layer 21: LifeCrashes. -/
import Derived.Test.YtfnadebkobfemaaLifAd
namespace Go.Proofs.Ytfnadebkobfemaa.Lif
open Go.Eng Go.RowKit
set_option linter.unusedVariables false
set_option linter.unusedSimpArgs false
def kK (a : Int) : Int := IntKind.wrap .i64 (1 + IntKind.wrap .i64 (Int.tmod (IntKind.wrap .u64 a) 12))
def bB (c : Int) : Int := IntKind.wrap .i64 (Int.tmod (IntKind.wrap .u64 c) 10)
def wW (a b : Int) : Int := IntKind.wrap .i64 (Int.tmod (IntKind.wrap .u64 b) (IntKind.wrap .u64 (kK a)))
def mM (a : Int) : Int := scaleM 0 [] (kK a)
def sS (k : Int) : List R4 := scaleL 0 [] k 0
def pP (a b c : Int) : PCr := ⟨kK a, bB c, wW a b, mM a⟩
def aA0 (a : Int) : ACr := ⟨(sS (kK a)).length, crS (kK a), 0⟩
noncomputable def EE (a b c : Int) : ACr := endW (nxtC okCr goCr rdCr FCr muCr (pP a b c)) (aA0 a)
def cswayCrA (k b w m : Int) (n : Nat) (l : List R4) : List (Bool × Bool) := [(okN n l, true), (okN (List.length (Prod.snd (craP (w) l))) (Prod.snd (craP (w) l)), true), (okN (List.length (Prod.snd (craP (w) l))) (Prod.snd (entP (w) (Prod.snd (craP (w) l)))), true), (okN (List.length (Prod.snd (leaP (w) (Prod.snd (entP (w) (Prod.snd (craP (w) l))))))) (Prod.snd (leaP (w) (Prod.snd (entP (w) (Prod.snd (craP (w) l)))))), true), ((↑(cnt (Prod.snd (leaP (w) (Prod.snd (entP (w) (Prod.snd (craP (w) l))))))) : Int) != IntKind.wrap .i64 (k - 1), false), (okSc (m) (List.length (Prod.snd (leaP (w) (Prod.snd (entP (w) (Prod.snd (craP (w) l))))))) (Prod.snd (leaP (w) (Prod.snd (entP (w) (Prod.snd (craP (w) l)))))), true), (outS (k) 5, false), (bif (↑(cnt (Prod.snd (leaP (w) (Prod.snd (entP (w) (Prod.snd (craP (w) l))))))) : Int) != IntKind.wrap .i64 (k - 1) then true else 0 != 0, false), (okN (List.length (scaleL (m) (Prod.snd (leaP (w) (Prod.snd (entP (w) (Prod.snd (craP (w) l)))))) (k) 5)) (scaleL (m) (Prod.snd (leaP (w) (Prod.snd (entP (w) (Prod.snd (craP (w) l)))))) (k) 5), true), (bif (bif bif bif bif Prod.snd (Prod.fst (craP (w) l)) == 0 then Prod.fst (Prod.fst (Prod.fst (craP (w) l))) == w && (Prod.fst (Prod.snd (Prod.fst (Prod.fst (craP (w) l)))) == 2 && (Prod.fst (Prod.snd (Prod.snd (Prod.fst (Prod.fst (craP (w) l))))) == b && (Prod.snd (Prod.snd (Prod.snd (Prod.fst (Prod.fst (craP (w) l))))) == 0 && true))) else false then Prod.fst (entP (w) (Prod.snd (craP (w) l))) == 7 else false then Prod.fst (leaP (w) (Prod.snd (entP (w) (Prod.snd (craP (w) l))))) == 7 else false then (↑(List.length (scaleL (m) (Prod.snd (leaP (w) (Prod.snd (entP (w) (Prod.snd (craP (w) l)))))) (k) 5)) : Int) == k else false) == true && true then decide (0 ≤ IntKind.wrap .i64 (k - 1)) && (decide (IntKind.wrap .i64 (k - 1) < (↑(List.length (scaleL (m) (Prod.snd (leaP (w) (Prod.snd (entP (w) (Prod.snd (craP (w) l)))))) (k) 5)) : Int)) && decide (0 + Int.toNat (IntKind.wrap .i64 (k - 1)) < List.length (scaleL (m) (Prod.snd (leaP (w) (Prod.snd (entP (w) (Prod.snd (craP (w) l)))))) (k) 5))) else true, true), (bif (bif bif bif bif Prod.snd (Prod.fst (craP (w) l)) == 0 then Prod.fst (Prod.fst (Prod.fst (craP (w) l))) == w && (Prod.fst (Prod.snd (Prod.fst (Prod.fst (craP (w) l)))) == 2 && (Prod.fst (Prod.snd (Prod.snd (Prod.fst (Prod.fst (craP (w) l))))) == b && (Prod.snd (Prod.snd (Prod.snd (Prod.fst (Prod.fst (craP (w) l))))) == 0 && true))) else false then Prod.fst (entP (w) (Prod.snd (craP (w) l))) == 7 else false then Prod.fst (leaP (w) (Prod.snd (entP (w) (Prod.snd (craP (w) l))))) == 7 else false then (↑(List.length (scaleL (m) (Prod.snd (leaP (w) (Prod.snd (entP (w) (Prod.snd (craP (w) l)))))) (k) 5)) : Int) == k else false) == true && true then decide (0 + Int.toNat (IntKind.wrap .i64 (k - 1)) < List.length (scaleL (m) (Prod.snd (leaP (w) (Prod.snd (entP (w) (Prod.snd (craP (w) l)))))) (k) 5)) else true, true)]
def vwayCrA (k b w m : Int) (n : Nat) (l : List R4) : Bool := (bif bif bif bif bif Prod.snd (Prod.fst (craP (w) l)) == 0 then Prod.fst (Prod.fst (Prod.fst (craP (w) l))) == w && (Prod.fst (Prod.snd (Prod.fst (Prod.fst (craP (w) l)))) == 2 && (Prod.fst (Prod.snd (Prod.snd (Prod.fst (Prod.fst (craP (w) l))))) == b && (Prod.snd (Prod.snd (Prod.snd (Prod.fst (Prod.fst (craP (w) l))))) == 0 && true))) else false then Prod.fst (entP (w) (Prod.snd (craP (w) l))) == 7 else false then Prod.fst (leaP (w) (Prod.snd (entP (w) (Prod.snd (craP (w) l))))) == 7 else false then (↑(List.length (scaleL (m) (Prod.snd (leaP (w) (Prod.snd (entP (w) (Prod.snd (craP (w) l)))))) (k) 5)) : Int) == k else false then Prod.fst (List.getD (scaleL (m) (Prod.snd (leaP (w) (Prod.snd (entP (w) (Prod.snd (craP (w) l)))))) (k) 5) (0 + Int.toNat (IntKind.wrap .i64 (k - 1))) ((0, 0, 0, 0))) == k && (Prod.fst (Prod.snd (List.getD (scaleL (m) (Prod.snd (leaP (w) (Prod.snd (entP (w) (Prod.snd (craP (w) l)))))) (k) 5) (0 + Int.toNat (IntKind.wrap .i64 (k - 1))) ((0, 0, 0, 0)))) == 1 && (Prod.fst (Prod.snd (Prod.snd (List.getD (scaleL (m) (Prod.snd (leaP (w) (Prod.snd (entP (w) (Prod.snd (craP (w) l)))))) (k) 5) (0 + Int.toNat (IntKind.wrap .i64 (k - 1))) ((0, 0, 0, 0))))) == 0 && (Prod.snd (Prod.snd (Prod.snd (List.getD (scaleL (m) (Prod.snd (leaP (w) (Prod.snd (entP (w) (Prod.snd (craP (w) l)))))) (k) 5) (0 + Int.toNat (IntKind.wrap .i64 (k - 1))) ((0, 0, 0, 0))))) == 5 && true))) else false)
theorem wayCrA (a b c : Int) : T.path [false, false, true, false, false, true, false, true, true, true, true, true, false, true, false, false, true, true, true] (T.anon (execS JL (byReg [(rgCr, famCr)]) 4 [iv a, iv b, iv c])) = some ([(12 == 0, false), (10 == 0, false), (okSc 0 0 [], true), (outS (kK a) 0, false), (0 != 0, false), (okN (List.length (sS (kK a))) (sS (kK a)) && okTb (sS (kK a)), true), (IntKind.wrap .u64 (kK a) == 0, false), (invC okCr (pP a b c) (aA0 a), true)] ++ cswayCrA (kK a) (bB c) (wW a b) (mM a) (EE a b c).n (EE a b c).l, .s (.bool (vwayCrA (kK a) (bB c) (wW a b) (mM a) (EE a b c).n (EE a b c).l))) := by kernel_rfl

def crF (k w b : Nat) : Bool := ((cswayCrA k b w (scaleM 0 [] k) (entN w b (crS k)).length (entN w b (crS k))).all fun p => p.1 == p.2) && vwayCrA k b w (scaleM 0 [] k) (entN w b (crS k)).length (entN w b (crS k))
theorem crF_is : ∀ k : Fin 13, ∀ w : Fin 13, ∀ b : Fin 10, w.val < k.val → crF k.val w.val b.val = true := by decide +kernel
def crG (k : Nat) : Bool := okN (sS k).length (sS k) && okTb (sS k) && decide ((sS k).length = (crS k).length) && !outS k 0 && !(IntKind.wrap .u64 k == 0)
theorem crG_is : ∀ k : Fin 13, 0 < k.val → crG k.val = true := by decide +kernel
theorem lifeCrashes_walk (a : Int) (_ : (Lit.int .i64 a).wf = true) (b : Int) (_ : (Lit.int .i64 b).wf = true) (c : Int) (_ : (Lit.int .i64 c).wf = true) (w : World) :
    Calls Try.prog 4 #[.int .i64 a, .int .i64 b, .int .i64 c] w fun e w' => e = .returned (.bool true) ∧ Below w.heap.size w w' := by
  refine law_yes (args := [iv a, iv b, iv c]) (execS_loops (Λ := byReg [(rgCr, famCr)]) JL_ok mixed Try.func4 (by kernel_rfl) (by kernel_rfl) (one_lp (c := lpCr) (by kernel_rfl) rgCr_is lpCr_ok)) rfl (yes_anon (.inr ?_)) w
  have hk0 : IntKind.wrap .i64 (Int.tmod (IntKind.wrap .u64 a) 12) = a % 18446744073709551616 % 12 := modU (by omega) (by omega)
  have hk1 := modU_range a (show (0 : Int) < 12 by omega)
  have hk : 1 ≤ kK a ∧ kK a ≤ 12 := by
    unfold kK
    rw [hk0, wrap64_in (by omega) (by omega)]; omega
  have hb : 0 ≤ bB c ∧ bB c < 10 := by unfold bB; rw [modU (by omega) (by omega)]; exact modU_range c (by omega)
  have hu : IntKind.wrap .u64 (kK a) = kK a := by rw [wrapu64]; omega
  have hw : 0 ≤ wW a b ∧ wW a b < kK a := by
    unfold wW; rw [hu, modU (by omega) (by omega)]; exact modU_range b (by omega)
  obtain ⟨k, ek⟩ : ∃ k : Nat, kK a = k := ⟨(kK a).toNat, by omega⟩
  obtain ⟨v, ev⟩ : ∃ v : Nat, wW a b = v := ⟨(wW a b).toNat, by omega⟩
  obtain ⟨x, ex⟩ : ∃ x : Nat, bB c = x := ⟨(bB c).toNat, by omega⟩
  have g := crG_is ⟨k, by omega⟩ (by show 0 < k; omega)
  unfold crG at g
  simp only [Bool.and_eq_true, Bool.not_eq_true', decide_eq_true_eq] at g
  rw [← ek] at g
  obtain ⟨⟨⟨⟨g1, g2⟩, g3⟩, g4⟩, g5⟩ := g
  have h0 : okCr (pP a b c) (aA0 a) := ⟨hk.1, hk.2, hw.1, hw.2, hb.1, by show bB c ≤ 9; omega, Int.le_refl _, hb.1, g3, rfl⟩
  obtain ⟨k1, k2⟩ := endC stepCr h0
  obtain ⟨_, _, _, _, _, _, q7, q8, q9, q10⟩ := k1
  have q7' : 0 ≤ (EE a b c).i := q7
  have q8' : (EE a b c).i ≤ bB c := q8
  have k2' : ¬ (EE a b c).i < bB c := of_decide_eq_false k2
  have q10' : (EE a b c).l = entN (wW a b) (EE a b c).i.toNat (crS (kK a)) := q10
  have hi : (EE a b c).i.toNat = x := by omega
  rw [hi] at q10'
  have q9' : (EE a b c).n = (EE a b c).l.length := q9
  have f := crF_is ⟨k, by omega⟩ ⟨v, by omega⟩ ⟨x, by omega⟩ (by show v < k; omega)
  unfold crF at f
  simp only [Bool.and_eq_true] at f
  have em : mM a = scaleM 0 [] (k : Int) := by unfold mM; rw [ek]
  refine (T.path_eval (wayCrA a b c) (allSay_append ⟨rfl, rfl, rfl, g4, rfl, by rw [g1, g2]; rfl, g5, invC_is h0, trivial⟩ (allSay_of ?_))).trans ?_
  · rw [q9', q10', em, ek, ev, ex]; exact f.1
  · rw [q9', q10', em, ek, ev, ex, f.2]
end Go.Proofs.Ytfnadebkobfemaa.Lif
