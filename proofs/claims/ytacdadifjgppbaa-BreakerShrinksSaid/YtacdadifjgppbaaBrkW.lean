/- Layer 7: BreakerShrinks. -/
import Derived.Test.YtacdadifjgppbaaBrkV
import Derived.Test.YtacdadifjgppbaaBrkG
namespace Go.Proofs.Ytacdadifjgppbaa.Brk
open Go.Eng Go.RowKit Go.Flt Lod
set_option linter.unusedVariables false
set_option linter.unusedSimpArgs false
def up0 (a : Int) : Int := if 0 > IntKind.wrap .i64 a then 0 else IntKind.wrap .i64 a
def up10 (a : Int) : Int := if 10 < up0 a then 10 else up0 a
def eqT (x : Nat) (t : Int) : Bool := FloatKind.f64.format.order x (floatOfInt .f64 (IntKind.wrap .i64 t)) == some .eq
noncomputable def eS (n m : Int) : AR := endW (nxtR ⟨n, m, n, 10⟩) ⟨0, 0, 0⟩
noncomputable def kS (n m : Int) (E : AR) : Int := adm m (valW E.x) (valW E.y)
noncomputable def zS (E : AR) (K : Int) : AU := ⟨fW (valW E.x + K), fW (valW E.y - K), 0, 0⟩
noncomputable def uS (n m : Int) (E : AR) (K : Int) : AU := endW (nxtU ⟨n, m, K, m, 10⟩) (zS E K)
noncomputable def pathS (n m : Int) (E : AR) (K : Int) (U : AU) : Option (List (Bool × Bool) × V) := some
  ([((20 : Int) == 0, false), ((20 : Int) == 0, false), (bif !bif decide (0 ≤ n) then decide (n ≤ 1000) else false then true else !bif decide ((0 : Int) ≤ 10) then decide ((10 : Int) ≤ 1000) else false, false), (invR ⟨n, m, n, 10⟩ ⟨0, 0, 0⟩, true),
    (okB n 10 E.x E.y, true), (limB m, true),
    (bif bif (0 : Int) != 0 then true else K != up10 (m - n) then true else !(eqT (fW (valW E.x + K)) (n + K) && eqT (fW (valW E.y - K)) (10 - K)), false),
    (invU ⟨n, m, K, m, 10⟩ (zS E K), true), (okB m 10 U.x U.y, true), (valW U.x == 0, false)],
   .s (.bool (bif bif (0 : Int) == 0 then decide (0 < adm m (valW U.x - 1) (valW U.y)) == decide (K < 10) else false then U.g == up0 (n - m) else false)))
theorem shr_run (a c : Int) : T.path [false, false, false, true, true, true, false, true, true, false] (execS B6 (byReg rlist) 10 [iv a, iv c]) =
    pathS (nF a) (nF c) (eS (nF a) (nF c)) (kS (nF a) (nF c) (eS (nF a) (nF c))) (uS (nF a) (nF c) (eS (nF a) (nF c)) (kS (nF a) (nF c) (eS (nF a) (nF c)))) := by kernel_rfl
theorem eqT_fW {t : Int} (h0 : 0 ≤ t) (h1 : t ≤ 1000) : eqT (fW t) t = true := by
  obtain ⟨p, rfl⟩ := Int.eq_ofNat_of_zero_le h0
  unfold eqT
  rw [wrap64_in (by omega) (by omega), fW_nat (by omega), floatOf (by omega) (by omega), Int.toNat_natCast, order_fI (by omega) (by omega), cmp_eq]
  simp
theorem up0_in {a : Int} (h0 : -1000 ≤ a) (h1 : a ≤ 1000) : up0 a = if 0 > a then 0 else a := by unfold up0; rw [wrap64_in (by omega) (by omega)]
theorem adm_kk (n m : Int) : adm m n 10 = kk n m := by
  unfold adm fr kk
  repeat' split
  all_goals omega
theorem up10_kk {n m : Int} (h0 : -1000 ≤ m - n) (h1 : m - n ≤ 1000) : up10 (m - n) = kk n m := by
  unfold up10 kk
  rw [up0_in h0 h1]
  repeat' split
  all_goals omega
theorem gm_up0 {n m : Int} (h0 : -1000 ≤ n - m) (h1 : n - m ≤ 1000) : up0 (n - m) = gm n m := by
  unfold gm
  rw [up0_in h0 h1]
  repeat' split
  all_goals omega
theorem kk_in {n m : Int} : 0 ≤ kk n m ∧ kk n m ≤ 10 := by
  unfold kk
  repeat' split
  all_goals omega
theorem gm_in {n m : Int} : 0 ≤ gm n m := by unfold gm; split <;> omega
theorem admS {n m : Int} (h1 : 1 ≤ n) (h2 : 1 ≤ m) : (0 < adm m (n + kk n m - gm n m - 1) (10 - kk n m)) ↔ kk n m < 10 := by
  unfold adm fr kk gm
  repeat' split
  all_goals omega
theorem breakerShrinks_walk (a : Int) (_ : (Lit.int .i64 a).wf = true) (b : Int) (_ : (Lit.int .i64 b).wf = true) (w : World) :
    Calls Try.prog 10 #[.int .i64 a, .int .i64 b] w fun e w' => e = .returned (.bool true) ∧ Below w.heap.size w w' := by
  refine law_yes (args := [iv a, iv b]) (execS_loops (Λ := byReg rlist) B6_ok mixed Try.func10 (by kernel_rfl) (by kernel_rfl) rlps_ok) rfl ?_ w
  have e := shr_run a b
  have hn : ∀ t, 1 ≤ nF t ∧ nF t ≤ 20 := fun t => by
    have := modU_range t (m := 20) (by decide)
    unfold nF
    rw [modU (n := t) (by decide) (by decide), wrap64_in (by omega) (by omega)]; omega
  have h1 := hn a
  have h2 := hn b
  generalize nF a = n at *
  generalize nF b = m at *
  clear hn
  have hi : invR ⟨n, m, n, 10⟩ ⟨0, 0, 0⟩ = true := by
    have z : valW 0 = 0 := by have := valW_fI (n := 0) (by decide); exact this
    have z2 : isW 0 = true := isW_fI (n := 0) (by decide)
    simp only [invR, Bool.and_eq_true, decide_eq_true_eq, z, z2]
    refine ⟨⟨⟨⟨⟨⟨⟨⟨⟨trivial, trivial⟩, h1.1⟩, h1.2⟩, by omega⟩, by omega⟩, trivial⟩, trivial⟩, ?_⟩, ?_⟩
    · unfold bIn; split <;> omega
    · unfold wIn; split <;> omega
  have hE : isW (eS n m).x = true ∧ isW (eS n m).y = true ∧ valW (eS n m).x = n ∧ valW (eS n m).y = 10 := by
    obtain ⟨q1, q2, -⟩ := endW_says (stR ⟨n, m, n, 10⟩) hi
    unfold eS
    generalize endW (nxtR ⟨n, m, n, 10⟩) ⟨0, 0, 0⟩ = E at *
    obtain ⟨x, y, i⟩ := E
    unfold invR at q1
    unfold nxtR at q2
    dsimp only at q1 q2 ⊢
    simp only [Bool.and_eq_true, decide_eq_true_eq] at q1
    obtain ⟨⟨⟨⟨⟨⟨-, g7⟩, g8⟩, g9⟩, g10⟩, g11⟩, g12⟩ := q1
    have : i = n + 10 := by
      split at q2
      · cases q2
      · omega
    subst this
    unfold bIn at g11
    unfold wIn at g12
    rw [if_neg (by omega)] at g11 g12
    exact ⟨g9, g10, g11, by omega⟩
  generalize eS n m = E at *
  obtain ⟨wx, wy, vx, vy⟩ := hE
  have hk : kS n m E = kk n m := by unfold kS; rw [vx, vy, adm_kk]
  rw [hk] at e
  have k0 := kk_in (n := n) (m := m)
  have g0 := gm_in (n := n) (m := m)
  have zx : (zS E (kk n m)).x = fW (n + kk n m) := by unfold zS; rw [vx]
  have zy : (zS E (kk n m)).y = fW (10 - kk n m) := by unfold zS; rw [vy]
  have hz : invU ⟨n, m, kk n m, m, 10⟩ (zS E (kk n m)) = true := by
    have zi : (zS E (kk n m)).i = 0 := rfl
    have zg : (zS E (kk n m)).g = 0 := rfl
    simp only [invU, Bool.and_eq_true, decide_eq_true_eq, zx, zy, zi, zg, isW_fW, valW_fW]
    rw [wi_in (n := n + kk n m) (by omega) (by omega), wi_in (n := 10 - kk n m) (by omega) (by omega)]
    exact ⟨⟨⟨⟨⟨⟨⟨⟨⟨⟨⟨⟨⟨trivial, trivial⟩, h1.1⟩, h1.2⟩, h2.1⟩, h2.2⟩, trivial⟩, by omega⟩, g0⟩, trivial⟩, trivial⟩, trivial⟩, by omega⟩, rfl⟩
  have hU : isW (uS n m E (kk n m)).x = true ∧ isW (uS n m E (kk n m)).y = true ∧ valW (uS n m E (kk n m)).x = n + kk n m - gm n m ∧ valW (uS n m E (kk n m)).y = 10 - kk n m ∧ (uS n m E (kk n m)).g = gm n m := by
    obtain ⟨q1, q2, -⟩ := endW_says (stU ⟨n, m, kk n m, m, 10⟩) hz
    unfold uS
    generalize endW (nxtU ⟨n, m, kk n m, m, 10⟩) (zS E (kk n m)) = U at *
    obtain ⟨x, y, g, i⟩ := U
    unfold invU at q1
    unfold nxtU at q2
    dsimp only at q1 q2 ⊢
    simp only [Bool.and_eq_true, decide_eq_true_eq] at q1
    obtain ⟨⟨⟨⟨⟨⟨⟨-, g8⟩, g9⟩, g10⟩, g11⟩, g12⟩, g13⟩, g14⟩ := q1
    have : i = gm n m := by
      split at q2
      · cases q2
      · unfold gm at g9 ⊢
        split <;> split at g9 <;> omega
    subst this
    exact ⟨g11, g12, g13, g14, g10⟩
  generalize uS n m E (kk n m) = U at *
  obtain ⟨ux, uy, vux, vuy, ug⟩ := hU
  have hgm : gm n m ≤ n - 1 := by unfold gm; split <;> omega
  have kE := okB_is (L := n) (D := 10) wx wy (by omega) (by omega) (by omega) (by omega)
  have kU := okB_is (L := m) (D := 10) ux uy (by omega) (by omega) (by omega) (by omega)
  have kl : limB m = true := by unfold limB; rw [decide_eq_true (show 0 ≤ m by omega), decide_eq_true (show m ≤ 1000 by omega)]; rfl
  unfold pathS at e
  rw [up10_kk (by omega) (by omega), gm_up0 (by omega) (by omega), vx, vy, eqT_fW (by omega) (by omega), eqT_fW (by omega) (by omega), hi, hz, kE, kU, kl, ug, vux, vuy] at e
  have hp : ((n + kk n m - gm n m : Int) == 0) = false := by rw [beq_eq_false_iff_ne]; omega
  have hd : decide (0 < adm m (n + kk n m - gm n m - 1) (10 - kk n m)) = decide (kk n m < 10) := decide_eq_decide.2 (admS h1.1 h2.1)
  have hv := T.path_eval e ⟨rfl, rfl, by rw [decide_eq_true (show 0 ≤ n by omega), decide_eq_true (show n ≤ 1000 by omega)]; rfl, rfl, rfl, rfl, by simp, rfl, rfl, hp, trivial⟩
  refine .inr ?_
  rw [hv, hd]
  simp
end Go.Proofs.Ytacdadifjgppbaa.Brk
