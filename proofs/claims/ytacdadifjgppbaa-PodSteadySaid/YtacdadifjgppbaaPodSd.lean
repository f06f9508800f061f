/- Layer 8: PodSteady. -/
import Derived.Test.YtacdadifjgppbaaPodSc
import Derived.Test.YtacdadifjgppbaaLaw3
namespace Go.Proofs.Ytacdadifjgppbaa.Pod
open Go.Eng Go.RowKit Go.Flt Lod Brk
set_option linter.unusedVariables false
set_option linter.unusedSimpArgs false
noncomputable def fam1 : LSpec := famC [2,7,8,9] SS 1000 1000 78 dec1 ok1 go1 rd1 F1 (fun p a => (p.k - a.i).toNat) (.exit 0)
noncomputable def fam2 : LSpec := famC [2,7,8,12,13] SS 1000 1000 78 dec2 ok2 go2 rd2 F2 (fun p a => (30 - a.i).toNat) (.exit 2)
noncomputable def slist : List (Nat × LSpec) := [(6, fam1), (13, fam2)]
theorem sfind1 : findL slist 6 = some fam1 := rfl
theorem sfind2 : findL slist 13 = some fam2 := rfl
theorem sreg1 : firstReg ps1 = some 6 := by kernel_rfl
theorem sreg2 : firstReg ps2 = some 13 := by kernel_rfl
theorem slps_ok : ∀ a ∈ loopsIn (codeOf Try.prog 13), ∀ sp, byReg slist a = some sp → LoopOk D5 a sp := by
  have e : loopsIn (codeOf Try.prog 13) = [ps1, ps2] := by kernel_rfl
  rw [e]
  intro a ha
  rcases List.mem_cons.1 ha with h | ha
  · rw [h]; exact byReg_mem sreg1 sfind1 lp1_ok
  rcases List.mem_cons.1 ha with h | ha
  · rw [h]; exact byReg_mem sreg2 sfind2 lp2_ok
  · cases ha
def kS (a : Int) : Int := IntKind.wrap .i64 (Int.tmod (IntKind.wrap .u64 a) 21)
def lS (b : Int) : Int := IntKind.wrap .i64 (1 + IntKind.wrap .i64 (Int.tmod (IntKind.wrap .u64 b) 20))
def pS (a b : Int) (l : List Int) : PS := ⟨l, l.length, kS a, 0, 0, lS b, 20⟩
noncomputable def eS1 (p : PS) : AS := endW (nxtC ok1 go1 rd1 F1 (fun p a => (p.k - a.i).toNat) p) ⟨0, 0, 0, 0, 0, 0⟩
theorem steady_way (a b : Int) (l : List Int) : T.path [false, false, false, false, true, true] (execS D5 (byReg slist) 13 [iv a, iv b, .orow 3 [.int .i64] l]) = some
  ([((21 : Int) == 0, false), ((20 : Int) == 0, false), (bif !bif decide (0 ≤ lS b) then decide (lS b ≤ 1000) else false then true else !bif decide ((0 : Int) ≤ 20) then decide ((20 : Int) ≤ 1000) else false, false),
    (bif bif decide ((0 : Int) < 0) then true else decide ((0 : Int) < 0) then true else decide ((1099511627776 : Int) < 0), false), (invC ok1 (pS a b l) ⟨0, 0, 0, 0, 0, 0⟩, true),
    (invC ok2 (pS a b l) ⟨(eS1 (pS a b l)).x, (eS1 (pS a b l)).y, (eS1 (pS a b l)).t, (eS1 (pS a b l)).u, (eS1 (pS a b l)).s, 0, 0⟩, true)], .tt) := by kernel_rfl
theorem podSteady_walk (a : Int) (_ : (Lit.int .i64 a).wf = true) (b : Int) (_ : (Lit.int .i64 b).wf = true) (l : List Int) (_ : l.length ≤ maxLen) (_ : ∀ x ∈ l, (Lit.int .i64 x).wf = true) (x : Value) (w : World) (hx : holdsP 0 w (.orow 3 [.int .i64] l) x) :
    Calls Try.prog 13 #[.int .i64 a, .int .i64 b, x] w fun e w' => e = .returned (.bool true) ∧ Below w.heap.size w w' := by
  refine Law.law_rows (args := [iv a, iv b, .orow 3 [.int .i64] l]) (xs := [.int .i64 a, .int .i64 b, x]) (execS_loops (Λ := byReg slist) D5_ok mixed Try.func13 (by kernel_rfl) (by kernel_rfl) slps_ok) rfl (.inl ?_) w ⟨rfl, rfl, hx, trivial⟩
  have h1 : 0 ≤ kS a ∧ kS a ≤ 20 := by
    have h := umod a (m := 21) (by decide)
    unfold kS
    rw [wrap64_in (by omega) (by omega)]; omega
  have h2 : 1 ≤ lS b ∧ lS b ≤ 20 := by
    have h := umod b (m := 20) (by decide)
    unfold lS
    rw [wrap64_in (n := Int.tmod _ _) (by omega) (by omega), wrap64_in (by omega) (by omega)]; omega
  have hp : okS (pS a b l) := ⟨rfl, rfl, rfl, h2.1, h2.2, h1.1, h1.2, rfl⟩
  have o1 : ok1 (pS a b l) ⟨0, 0, 0, 0, 0, 0⟩ := ⟨hp, rfl, rfl, rfl, Int.le_refl 0, h1.1, isz, isz, by
    show valW 0 = bIn (lS b) 0
    rw [z0]; unfold bIn; rw [if_pos (by omega)], by
    show valW 0 = wIn (lS b) 0
    rw [z0]; unfold wIn; rw [if_pos (by omega)]⟩
  have hw := steady_way a b l
  have he : ok1 (pS a b l) (eS1 (pS a b l)) ∧ go1 (pS a b l) (eS1 (pS a b l)) = false := endC step1 o1
  generalize eS1 (pS a b l) = E at *
  obtain ⟨⟨-, e1, e2, e3, e4, e5, e6, e7, e8, e9⟩, e10⟩ := he
  have e11 : ¬ _ := of_decide_eq_false e10
  have o2 : ok2 (pS a b l) ⟨E.x, E.y, E.t, E.u, E.s, 0, 0⟩ := by
    refine ⟨hp, e1, e2, e3, Int.le_refl 0, by show (0 : Int) ≤ 50 * 0; decide, Int.le_refl 0, by show (0 : Int) ≤ 30; decide, e6, e7, ?_, ?_, ?_⟩
    · show valW E.x + valW E.y = kS a
      rw [e8, e9]
      have e12 : (pS a b l).k = kS a := rfl
      rw [e12] at e5 e11
      unfold bIn wIn; split <;> omega
    · show 0 ≤ valW E.x
      rw [e8]
      have e12 : (pS a b l).L = lS b := rfl
      rw [e12]
      unfold bIn; split <;> omega
    · show 0 ≤ valW E.y
      rw [e9]
      unfold wIn; split <;> omega
  refine T.path_eval hw ⟨rfl, rfl, ?_, rfl, invC_is o1, invC_is o2, trivial⟩
  rw [decide_eq_true (show 0 ≤ lS b by omega), decide_eq_true (show lS b ≤ 1000 by omega)]; rfl
end Go.Proofs.Ytacdadifjgppbaa.Pod
