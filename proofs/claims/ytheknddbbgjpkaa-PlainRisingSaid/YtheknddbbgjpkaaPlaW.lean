/- Layer 6: PlainRising. -/
import Derived.Test.YtheknddbbgjpkaaPlaU
import Derived.Test.YtheknddbbgjpkaaLaw3
namespace Go.Proofs.Ytheknddbbgjpkaa.Pla
open Go.Eng Go.RowKit Mil Rin
set_option linter.unusedVariables false
set_option linter.unusedSimpArgs false
def pRa (o : List Int) (w : Int) : PRa := ⟨o.length, o, w⟩
def aRa : ARa := ⟨0, [], 0, 0⟩
noncomputable def eRa (o : List Int) (w : Int) : ARa := endW (nxtC okRa goRa rdRa FRa muRa (pRa o w)) aRa
noncomputable def pRb (o : List Int) (w : Int) : PRb := ⟨w, (eRa o w).m, (eRa o w).l, (eRa o w).t⟩
def aRb : ARb := ⟨0, 0, 0⟩
noncomputable def eRb (o : List Int) (w : Int) : ARb := endW (nxtC okRb goRb rdRb FRb muRb (pRb o w)) aRb
noncomputable def lR (o : List Int) (w : Int) : List TV := List.take (eRa o w).m (List.drop 0 (eRa o w).l)
def aB (a b : Bool) : Bool := bif a then b else false
noncomputable def vR (o : List Int) (w : Int) : Bool := aB (aB (aB (Mil.cutV (sv (plV w 1 (eRa o w).t (lR o w))) == (eRb o w).s) (((plV w 1 (eRa o w).t (lR o w)).length : Int) == (eRb o w).n)) ((0 : Int) == 0)) ((0 : Int) == 0)
theorem wayRis (o : List Int) (b w : Int) (hw : wI (1 + wI (Int.tmod (wU b) 30)) = w) : T.path [false, true, true, true, false, true, true, true] (T.anon (risR o b)) =
    some ([((30 : Int) == 0, false), (invC okRa (pRa o w) aRa, true), (invC okRb (pRb o w) aRb, true), (decide (0 + (eRa o w).m ≤ (eRa o w).l.length), true), (badS w 1 (eRa o w).t, false), (pB (okL (lR o w) (eRa o w).t), true), (decide (0 + (eRa o w).m ≤ (eRa o w).l.length), true), (badS w 1 (-1), true)], .s (.bool (vR o w))) := by subst hw; kernel_rfl
theorem ris_run (o : List Int) (b : Int) : (risR o b).eval = some (.s (.bool true)) := by
  rw [← T.eval_anon (t := risR o b)]
  have hA : 0 ≤ wI (Int.tmod (wU b) 30) ∧ wI (Int.tmod (wU b) 30) < 30 := modI b (by omega) (by omega)
  have e1 : wI (1 + wI (Int.tmod (wU b) 30)) = 1 + wI (Int.tmod (wU b) 30) := wrap64_in (by omega) (by omega)
  have way := wayRis o b _ e1
  have hw : 1 ≤ 1 + wI (Int.tmod (wU b) 30) ∧ 1 + wI (Int.tmod (wU b) 30) ≤ 30 := by omega
  revert way hw
  generalize 1 + wI (Int.tmod (wU b) 30) = w
  intro way hw
  have a0 : okRa (pRa o w) aRa := ⟨rfl, hw.1, hw.2, rfl, rfl, by show (0 : Int) ≤ 40; omega, by show (0 : Int) ≤ 9 * 0; omega, ⟨Int.le_refl _, by show (0 : Int) ≤ 360; omega, Nat.zero_le _, (fun x hx => by cases hx), .inl rfl⟩⟩
  obtain ⟨k1, _⟩ := endC stepRa a0
  have k1 : okRa (pRa o w) (eRa o w) := k1
  have hE := k1.e
  have hm := k1.m
  have b0 : okRb (pRb o w) aRb := ⟨hw.1, hw.2, hm, hE, Int.le_refl _, by show (0 : Int) ≤ ((eRa o w).m : Int); omega, rfl, rfl⟩
  obtain ⟨k2, k3⟩ := endC stepRb b0
  have k2 : okRb (pRb o w) (eRb o w) := k2
  have k3 : goRb (pRb o w) (eRb o w) = false := k3
  have hl : lR o w = (eRa o w).l := by unfold lR; rw [List.drop_zero, hm, List.take_length]
  have q1 : (eRb o w).i ≤ ((eRa o w).m : Int) := k2.i1
  have q2 : ¬ (eRb o w).i < ((eRa o w).m : Int) := of_decide_eq_false k3
  have q3 : (eRb o w).i.toNat = (eRa o w).l.length := by omega
  have s1 : (eRb o w).s = sv (((eRa o w).l.take (eRb o w).i.toNat).filter (gtW w (eRa o w).t)) := k2.s
  have s2 : (eRb o w).n = ((((eRa o w).l.take (eRb o w).i.toNat).filter (gtW w (eRa o w).t)).length : Int) := k2.n
  obtain ⟨f1, f2, _⟩ := fil_bd hE (gtW w (eRa o w).t) (eRa o w).l.length
  rw [q3, List.take_length] at s1 s2
  rw [List.take_length] at f1 f2
  have t0 := hE.t0
  have t1 := hE.t1
  have ln := hE.ln
  have bn : badN w 1 = false := badN_false.2 ⟨by omega, hw.1, by omega⟩
  have c1 : badS w 1 (eRa o w).t = false := by unfold badS; rw [bn]; exact decide_eq_false (by omega)
  have c2 : badS w 1 (-1) = true := by unfold badS; rw [bn]; rfl
  have c3 : okL (lR o w) (eRa o w).t := by
    rw [hl]
    exact ⟨by omega, by omega, fun x hx => by have := hE.el x hx; omega⟩
  have d1 : decide (0 + (eRa o w).m ≤ (eRa o w).l.length) = true := decide_eq_true (by omega)
  refine (T.path_eval way ⟨by kernel_rfl, invC_is a0, invC_is b0, d1, c1, pB_is c3, d1, c2, trivial⟩).trans ?_
  have hv : vR o w = true := by
    unfold vR
    rw [hl, pl_is hE hw.1 hw.2, s1, s2, cut_small f1 (by omega), beqI, beqI]; rfl
  rw [hv]
theorem ris_walk (o : List Int) (_ : o.length ≤ maxLen) (_ : ∀ x ∈ o, (Lit.int .i64 x).wf = true) (x : Value) (b : Int) (_ : (Lit.int .i64 b).wf = true) (w : World) (hx : holdsP 0 w (.orow 3 [.int .i64] o) x) :
    Calls Try.prog 17 #[x, .int .i64 b] w fun e w' => e = .returned (.bool true) ∧ Below w.heap.size w w' :=
  Law.law_rows (args := [.orow 3 [.int .i64] o, Eng.iv b]) (xs := [x, .int .i64 b]) (execS_loops (Λ := byReg [(rgRa, famRa), (rgRb, famRb)]) P5_ok mixed Try.func17 (by kernel_rfl) (by kernel_rfl) (two_lp (c := lpRa) (c' := lpRb) (by kernel_rfl) rgRa_is rgRb_is (by kernel_rfl) lpRa_ok lpRb_ok)) rfl (.inr (ris_run o b)) w ⟨hx, rfl, trivial⟩
end Go.Proofs.Ytheknddbbgjpkaa.Pla
