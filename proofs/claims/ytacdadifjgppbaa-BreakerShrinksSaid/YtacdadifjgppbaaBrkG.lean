/- Layer 7: BreakerFull. -/
import Derived.Test.YtacdadifjgppbaaBrkF
import Derived.Test.YtacdadifjgppbaaLaw3
namespace Go.Proofs.Ytacdadifjgppbaa.Brk
open Go.Eng Go.RowKit Go.Flt Lod
set_option linter.unusedVariables false
set_option linter.unusedSimpArgs false
def nF (a : Int) : Int := IntKind.wrap .i64 (1 + IntKind.wrap .i64 (Int.tmod (IntKind.wrap .u64 a) 20))
def dF (b : Int) : Int := IntKind.wrap .i64 (Int.tmod (IntKind.wrap .u64 b) 21)
def eqZ (zx zy : Nat) (n d : Int) : Bool := FloatKind.f64.format.order zx (floatOfInt .f64 n) == some .eq && FloatKind.f64.format.order zy (floatOfInt .f64 d) == some .eq
noncomputable def eF (n d : Int) : AF := endW (nxtF ⟨n, d, n, d⟩) ⟨0, 0, 0⟩
noncomputable def gF (n d : Int) : PG := ⟨n, d, n, d, 6, (eF n d).x, (eF n d).y⟩
noncomputable def rF (n d : Int) : AF := endW (nxtG (gF n d)) ⟨(eF n d).x, (eF n d).y, 0⟩
noncomputable def pathF (n d : Int) : Option (List (Bool × Bool) × V) := some
  ([((20 : Int) == 0, false), ((21 : Int) == 0, false), (bif !bif decide (0 ≤ n) then decide (n ≤ 1000) else false then true else !bif decide (0 ≤ d) then decide (d ≤ 1000) else false, false), (invF ⟨n, d, n, d⟩ ⟨0, 0, 0⟩, true),
    (okB n d (eF n d).x (eF n d).y, true), (decide (valW (eF n d).x < n), false), (decide (valW (eF n d).y < d), false), (invG (gF n d) ⟨(eF n d).x, (eF n d).y, 0⟩, true), (okB n d (rF n d).x (rF n d).y, true), (valW (rF n d).x == 0, true),
    (bif (bif bif (gF n d).e == 6 then eqZ (gF n d).zx (gF n d).zy n d else false then (7 : Int) == 7 else false) == true && true then okB n d (rF n d).x (rF n d).y else true, true)],
   .s (.bool (bif bif bif (gF n d).e == 6 then eqZ (gF n d).zx (gF n d).zy n d else false then (7 : Int) == 7 else false then fr n (valW (rF n d).x) == n else false)))
theorem full_run (a b : Int) : T.path [false, false, false, true, true, false, false, true, true, true, true] (execS B5 (byReg flist) 9 [iv a, iv b]) = pathF (nF a) (dF b) := by kernel_rfl
theorem breakerFull_walk (a : Int) (_ : (Lit.int .i64 a).wf = true) (b : Int) (_ : (Lit.int .i64 b).wf = true) (w : World) :
    Calls Try.prog 9 #[.int .i64 a, .int .i64 b] w fun e w' => e = .returned (.bool true) ∧ Below w.heap.size w w' := by
  refine law_yes (args := [iv a, iv b]) (execS_loops (Λ := byReg flist) B5_ok mixed Try.func9 (by kernel_rfl) (by kernel_rfl) flps_ok) rfl ?_ w
  have e := full_run a b
  have h1 : 1 ≤ nF a ∧ nF a ≤ 20 := by
    have := modU_range a (m := 20) (by decide)
    unfold nF
    rw [modU (n := a) (by decide) (by decide), wrap64_in (by omega) (by omega)]; omega
  have h2 : 0 ≤ dF b ∧ dF b ≤ 20 := by
    have := modU_range b (m := 21) (by decide)
    unfold dF
    rw [modU (n := b) (by decide) (by decide)]; omega
  generalize nF a = n at *
  generalize dF b = d at *
  have hi : invF ⟨n, d, n, d⟩ ⟨0, 0, 0⟩ = true := by
    have z : valW 0 = 0 := by have := valW_fI (n := 0) (by decide); exact this
    have z2 : isW 0 = true := isW_fI (n := 0) (by decide)
    simp only [invF, Bool.and_eq_true, decide_eq_true_eq, z, z2]
    refine ⟨⟨⟨⟨⟨⟨⟨⟨⟨⟨⟨trivial, trivial⟩, h1.1⟩, h1.2⟩, h2.1⟩, h2.2⟩, by omega⟩, by omega⟩, trivial⟩, trivial⟩, ?_⟩, ?_⟩
    · unfold bIn; split <;> omega
    · unfold wIn; split <;> omega
  unfold pathF at e
  have hE : (eF n d).i = n + d ∧ isW (eF n d).x = true ∧ isW (eF n d).y = true ∧ valW (eF n d).x = n ∧ valW (eF n d).y = d := by
    obtain ⟨q1, q2, -⟩ := endW_says (stF ⟨n, d, n, d⟩) hi
    unfold eF
    generalize endW (nxtF ⟨n, d, n, d⟩) ⟨0, 0, 0⟩ = E at *
    obtain ⟨x, y, i⟩ := E
    unfold invF at q1
    unfold nxtF at q2
    dsimp only at q1 q2 ⊢
    simp only [Bool.and_eq_true, decide_eq_true_eq] at q1
    obtain ⟨⟨⟨⟨⟨⟨-, g7⟩, g8⟩, g9⟩, g10⟩, g11⟩, g12⟩ := q1
    have : i = n + d := by
      split at q2
      · cases q2
      · omega
    subst this
    unfold bIn at g11
    unfold wIn at g12
    rw [if_neg (by omega)] at g11 g12
    exact ⟨rfl, g9, g10, g11, by omega⟩
  obtain ⟨-, wx, wy, vx, vy⟩ := hE
  have hg : invG (gF n d) ⟨(eF n d).x, (eF n d).y, 0⟩ = true := by
    unfold gF
    simp only [invG, Bool.and_eq_true, decide_eq_true_eq, wx, wy, vx, vy]
    refine ⟨⟨⟨⟨⟨⟨⟨⟨⟨⟨⟨trivial, trivial⟩, h1.1⟩, h1.2⟩, h2.1⟩, h2.2⟩, by omega⟩, by omega⟩, trivial⟩, trivial⟩, ?_⟩, ?_⟩
    · unfold bOut; split <;> omega
    · unfold wOut; split <;> omega
  have hR : isW (rF n d).x = true ∧ isW (rF n d).y = true ∧ valW (rF n d).x = 0 ∧ valW (rF n d).y = 0 := by
    obtain ⟨q1, q2, -⟩ := endW_says (stG (gF n d)) hg
    unfold rF
    generalize endW (nxtG (gF n d)) ⟨(eF n d).x, (eF n d).y, 0⟩ = R at *
    obtain ⟨x, y, i⟩ := R
    unfold invG at q1
    unfold nxtG at q2
    unfold gF at q1 q2
    dsimp only at q1 q2 ⊢
    simp only [Bool.and_eq_true, decide_eq_true_eq] at q1
    obtain ⟨⟨⟨⟨⟨⟨-, g7⟩, g8⟩, g9⟩, g10⟩, g11⟩, g12⟩ := q1
    have : i = n + d := by
      split at q2
      · cases q2
      · omega
    subst this
    unfold bOut at g11
    unfold wOut at g12
    rw [if_pos (by omega)] at g11
    rw [if_neg (by omega)] at g12
    exact ⟨g9, g10, by omega, g12⟩
  obtain ⟨rx, ry, ux, uy⟩ := hR
  have hz : eqZ (gF n d).zx (gF n d).zy n d = true := by
    show eqZ (eF n d).x (eF n d).y n d = true
    obtain ⟨p, hp, e1, v1⟩ := isW_some wx
    obtain ⟨q, hq, e2, v2⟩ := isW_some wy
    rw [v1] at vx
    rw [v2] at vy
    unfold eqZ
    rw [e1, e2, ← vx, ← vy, floatOf (n := (p : Int)) (by omega) (by omega), floatOf (n := (q : Int)) (by omega) (by omega), Int.toNat_natCast, Int.toNat_natCast, order_fI (by omega) (by omega), order_fI (by omega) (by omega), cmp_eq, cmp_eq]
    simp
  have ge : (gF n d).e = 6 := rfl
  have kE := okB_is (L := n) (D := d) wx wy (by omega) (by omega) (by omega) (by omega)
  have kR := okB_is (L := n) (D := d) rx ry (by omega) (by omega) (by omega) (by omega)
  have hf : fr n 0 = n := by unfold fr; split <;> omega
  rw [hz, ge, kE, kR, hg, hi, ux, vx, vy, hf] at e
  have hv := T.path_eval e ⟨rfl, rfl, by rw [decide_eq_true (show 0 ≤ n by omega), decide_eq_true (show n ≤ 1000 by omega), decide_eq_true h2.1, decide_eq_true (show d ≤ 1000 by omega)]; rfl, rfl, rfl, by simp, by simp, rfl, rfl, rfl, rfl, trivial⟩
  refine .inr ?_
  rw [hv]
  simp
end Go.Proofs.Ytacdadifjgppbaa.Brk
