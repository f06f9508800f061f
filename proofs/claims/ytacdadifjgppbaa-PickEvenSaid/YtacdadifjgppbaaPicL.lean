/- Layer 19: PickEven, the law. -/
import Derived.Test.YtacdadifjgppbaaPicK
namespace Go.Proofs.Ytacdadifjgppbaa.Pic
open Go.Eng Go.RowKit Go.Flt Lod Brk
set_option linter.unusedVariables false
set_option linter.unusedSimpArgs false
def pE (a : Int) : Int := IntKind.wrap .i64 (1 + IntKind.wrap .i64 (Int.tmod (IntKind.wrap .u64 a) 20))
def mE (a : Int) : Int := IntKind.wrap .i64 (Int.tmod (IntKind.wrap .u64 a) 11)
def kE (a : Int) : Int := IntKind.wrap .i64 (Int.tmod (IntKind.wrap .u64 a) 251)
def oE (a b c : Int) : PO := ⟨pE a, mE b, kE c⟩
def iE (p : Int) : AO := ⟨List.replicate p.toNat 0, p.toNat, 0, 0⟩
noncomputable def eE (p : PO) : AO := endW (nxtC okO goO rdO FO muO p) (iE p.p)
noncomputable def tE (p : PO) : PT := ⟨p.p, p.m, p.k, (eE p).W, (eE p).n, (eE p).e⟩
theorem even_way (a b c : Int) : T.path [false, false, false, true, true, true] (execS C3 (byReg elist) 17 [iv a, iv b, iv c]) = some ([((20 : Int) == 0, false), ((11 : Int) == 0, false), ((251 : Int) == 0, false), (decide (0 ≤ pE a) && (decide (pE a ≤ pE a) && decide (pE a ≤ 1000000)), true), (invC okO (oE a b c) (iE (pE a)), true), (invC okTt (tE (oE a b c)) ⟨0⟩, true)],
  .s (.bool ((eE (oE a b c)).e == if kE c > IntKind.wrap .i64 (pE a * mE b) then IntKind.wrap .i64 (pE a * mE b) else kE c))) := by kernel_rfl
theorem pickEven_walk (a : Int) (_ : (Lit.int .i64 a).wf = true) (b : Int) (_ : (Lit.int .i64 b).wf = true) (c : Int) (_ : (Lit.int .i64 c).wf = true) (w : World) :
    Calls Try.prog 17 #[.int .i64 a, .int .i64 b, .int .i64 c] w fun e w' => e = .returned (.bool true) ∧ Below w.heap.size w w' := by
  refine law_yes (args := [iv a, iv b, iv c]) (execS_loops (Λ := byReg elist) C3_ok mixed Try.func17 (by kernel_rfl) (by kernel_rfl) elps_ok) rfl ?_ w
  have h1 : 1 ≤ pE a ∧ pE a ≤ 20 := by
    have h := umod a (m := 20) (by decide)
    unfold pE
    rw [wrap64_in (n := Int.tmod _ _) (by omega) (by omega), wrap64_in (by omega) (by omega)]; omega
  have h2 : 0 ≤ mE b ∧ mE b ≤ 10 := by
    have h := umod b (m := 11) (by decide)
    unfold mE
    rw [wrap64_in (by omega) (by omega)]; omega
  have h3 : 0 ≤ kE c ∧ kE c ≤ 250 := by
    have h := umod c (m := 251) (by decide)
    unfold kE
    rw [wrap64_in (by omega) (by omega)]; omega
  have hb : okB19 (pE a) (mE b) := ⟨h1.1, h1.2, h2.1, h2.2⟩
  have hpm := pm_in hb
  have hw := even_way a b c
  have o1 : okO (oE a b c) (iE (pE a)) := by
    refine ⟨hb, h3.1, h3.2, ?_, rfl, Int.le_refl 0, hpm.1, h3.1, ?_, fun j j0 j1 => ?_⟩
    · show (pE a).toNat = (List.replicate (pE a).toNat (0 : Int)).length; rw [List.length_replicate]
    · show pE a = ((List.replicate (pE a).toNat (0 : Int)).length : Int); rw [List.length_replicate]; omega
    · have j2 : j < pE a := j1
      show gI (List.replicate (pE a).toNat (0 : Int)) j = 0 / pE a + (if j < 0 % pE a then 1 else 0)
      rw [gI_get (n := j.toNat) (by rw [List.length_replicate]; omega) (by omega), List.getElem_replicate, Int.zero_ediv, Int.zero_emod, if_neg (by omega)]; rfl
  have he : okO (oE a b c) (eE (oE a b c)) ∧ goO (oE a b c) (eE (oE a b c)) = false := endC stepO o1
  obtain ⟨⟨-, -, -, e4, e5, e6, e7, e8, e9⟩, e10⟩ := he
  have o2 : okTt (tE (oE a b c)) ⟨0⟩ := ⟨hb, e4, e6, e7, e9, Int.le_refl 0, by show (0 : Int) ≤ pE a; omega⟩
  have i1 := invC_is o1
  have i2 := invC_is o2
  have e7' : (eE (oE a b c)).e ≤ pE a * mE b := e7
  have e8' : (eE (oE a b c)).e ≤ kE c := e8
  have e11 : ¬ ((eE (oE a b c)).i < kE c ∧ (eE (oE a b c)).e < pE a * mE b) := by
    intro h
    have : goO (oE a b c) (eE (oE a b c)) = true := by
      unfold goO
      rw [Bool.and_eq_true]
      exact ⟨decide_eq_true h.1, decide_eq_true h.2⟩
    rw [this] at e10; cases e10
  have w1 : IntKind.wrap .i64 (pE a * mE b) = pE a * mE b := wrap64_in (by omega) (by omega)
  rw [w1] at hw
  have hv : ((eE (oE a b c)).e == if kE c > pE a * mE b then pE a * mE b else kE c) = true := by
    rw [beq_iff_eq]
    rw [e5] at e11
    split <;> omega
  rw [hv] at hw
  refine .inr (T.path_eval hw ⟨rfl, rfl, rfl, ?_, i1, i2, trivial⟩)
  rw [decide_eq_true (show 0 ≤ pE a by omega), decide_eq_true (Int.le_refl (pE a)), decide_eq_true (show pE a ≤ 1000000 by omega)]; rfl
end Go.Proofs.Ytacdadifjgppbaa.Pic
