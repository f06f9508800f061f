import Derived.Test.YtebibmioiigplaaGG
import Derived.Test.YtebibmioiigplaaGP
/- Layer 25: what is told of a few: closed runs. -/
namespace Go.Proofs.Ytebibmioiigplaa.Tow
open Go.Eng Go.RowKit
set_option linter.unusedVariables false
set_option linter.unusedSimpArgs false
set_option maxRecDepth 100000
theorem mixed : Try.prog.follows .mixedOrders = true := Checked.mixed Try.checked
noncomputable def T0 : Cfg := ⟨Try.prog, lookG [], [], 0⟩
theorem T0_ok : T0.Ok := Cfg.ok trivial trivial
noncomputable def aloE : Eng.Obj := execO T0 noLoops 139
theorem aloE_ok : ObjOk Try.prog 139 aloE := execO_plain T0_ok mixed Try.func139 (by kernel_rfl) (by kernel_rfl)
noncomputable def nxtE : Eng.Obj := execO T0 noLoops 116
theorem nxtE_ok : ObjOk Try.prog 116 nxtE := execO_plain T0_ok mixed Try.func116 (by kernel_rfl) (by kernel_rfl)
noncomputable def balE : Eng.Obj := execO T0 (rounds T0 9 1) 71
theorem balE_ok : ObjOk Try.prog 71 balE := execO_rounds T0_ok mixed 9 1 Try.func71 (by kernel_rfl) (by kernel_rfl)
noncomputable def T1 : Cfg := ⟨Try.prog, lookG [(139, .obj aloE)], [], 0⟩
theorem T1_ok : T1.Ok := Cfg.ok ⟨aloE_ok, trivial⟩ trivial
noncomputable def couE : Eng.Obj := execO T1 (rounds T1 5 1) 113
theorem couE_ok : ObjOk Try.prog 113 couE := execO_rounds T1_ok mixed 5 1 Try.func113 (by kernel_rfl) (by kernel_rfl)
noncomputable def T2 : Cfg := ⟨Try.prog, lookG [(113, .obj (Eng.Obj.plain couE)), (96, .val Conf.mayS), (109, .val Conf.mostS)], [], 0⟩
theorem T2_ok : T2.Ok := Cfg.ok ⟨couE_ok.plain, Conf.may_ok, Conf.most_ok, trivial⟩ trivial
noncomputable def podE : Eng.Obj := execO T2 noLoops 72
theorem podE_ok : ObjOk Try.prog 72 podE := execO_plain T2_ok mixed Try.func72 (by kernel_rfl) (by kernel_rfl)
noncomputable def T3 : Cfg := ⟨Try.prog, lookG [(72, .obj (Eng.Obj.plain podE)), (71, .obj (Eng.Obj.plain balE)), (96, .val Conf.mayS), (109, .val Conf.mostS)], [], 0⟩
theorem T3_ok : T3.Ok := Cfg.ok ⟨podE_ok.plain, balE_ok.plain, Conf.may_ok, Conf.most_ok, trivial⟩ trivial
noncomputable def pasE : Eng.Obj := execO T3 noLoops 115
theorem pasE_ok : ObjOk Try.prog 115 pasE := execO_plain T3_ok mixed Try.func115 (by kernel_rfl) (by kernel_rfl)
noncomputable def T4 : Cfg := ⟨Try.prog, lookG [(115, .obj (Eng.Obj.plain pasE)), (116, .obj nxtE), (96, .val Conf.mayS), (109, .val Conf.mostS)], [], 0⟩
theorem T4_ok : T4.Ok := Cfg.ok ⟨pasE_ok.plain, nxtE_ok, Conf.may_ok, Conf.most_ok, trivial⟩ trivial
noncomputable def steE : Eng.Obj := execO T4 (rounds T4 9 1) 74
theorem steE_ok : ObjOk Try.prog 74 steE := execO_rounds T4_ok mixed 9 1 Try.func74 (by kernel_rfl) (by kernel_rfl)
noncomputable def T5 : Cfg := ⟨Try.prog, lookG [(74, .obj (Eng.Obj.plain steE)), (96, .val Conf.mayS)], [], 0⟩
theorem T5_ok : T5.Ok := Cfg.ok ⟨steE_ok.plain, Conf.may_ok, trivial⟩ trivial
noncomputable def traE : Eng.Obj := execO T5 (rounds T5 5 1) 114
theorem traE_ok : ObjOk Try.prog 114 traE := execO_rounds T5_ok mixed 5 1 Try.func114 (by kernel_rfl) (by kernel_rfl)
noncomputable def T6 : Cfg := ⟨Try.prog, lookG [(74, .obj (Eng.Obj.plain steE)), (114, .obj (Eng.Obj.plain traE)), (72, .obj (Eng.Obj.plain podE)), (71, .obj (Eng.Obj.plain balE)), (50, .val Conf.dfltS)], [], 0⟩
theorem T6_ok : T6.Ok := Cfg.ok ⟨steE_ok.plain, traE_ok.plain, podE_ok.plain, balE_ok.plain, Conf.refdflt_ok, trivial⟩ trivial
noncomputable def tol25 : Eng.Spec := execS T6 noLoops 73
theorem tol25_ok : SpecOk Try.prog 73 tol25 := execS_plain T6_ok mixed Try.func73 (by kernel_rfl) (by kernel_rfl)
end Go.Proofs.Ytebibmioiigplaa.Tow

/- Layer 25: what is told of a few. -/
namespace Go.Proofs.Ytebibmioiigplaa.Tow
open Go.Eng Go.RowKit Rin
set_option linter.unusedVariables false
set_option linter.unusedSimpArgs false
set_option maxRecDepth 100000
theorem tol25_run : (tol25 []).eval = some (.s (.bool true)) := by kernel_rfl
theorem told25_ok : SpecOk Try.prog 73 yesR :=
  tol25_ok.of_den fun args v _ h => by
    unfold yesR at h
    split at h
    · simp only [T.eval, Option.some.injEq] at h
      subst h
      exact ⟨_, tol25_run, ⟨rfl, rfl⟩, rfl⟩
    · cases h
end Go.Proofs.Ytebibmioiigplaa.Tow

/- Layer 25: the tower's functions, run by the machine on open views. -/
namespace Go.Proofs.Ytebibmioiigplaa.Tow
open Go.Eng Go.RowKit Rin
set_option linter.unusedVariables false
set_option linter.unusedSimpArgs false
set_option maxRecDepth 100000
noncomputable def U2 : Cfg := ⟨Try.prog, lookG [(113, .obj couE), (96, .val Conf.mayS), (109, .val Conf.mostS)], [], 0⟩
theorem U2_ok : U2.Ok := Cfg.ok ⟨couE_ok, Conf.may_ok, Conf.most_ok, trivial⟩ trivial
noncomputable def podF : Eng.Obj := execO U2 noLoops 72
theorem podF_ok : ObjOk Try.prog 72 podF := execO_plain U2_ok mixed Try.func72 (by kernel_rfl) (by kernel_rfl)
noncomputable def U3 : Cfg := ⟨Try.prog, lookG [(72, .obj podF), (71, .obj balE), (96, .val Conf.mayS), (109, .val Conf.mostS)], [], 0⟩
theorem U3_ok : U3.Ok := Cfg.ok ⟨podF_ok, balE_ok, Conf.may_ok, Conf.most_ok, trivial⟩ trivial
noncomputable def pasF : Eng.Obj := execO U3 noLoops 115
theorem pasF_ok : ObjOk Try.prog 115 pasF := execO_plain U3_ok mixed Try.func115 (by kernel_rfl) (by kernel_rfl)
noncomputable def U4 : Cfg := ⟨Try.prog, lookG [(115, .obj pasF), (116, .obj nxtE), (96, .val Conf.mayS), (109, .val Conf.mostS)], [], 0⟩
theorem U4_ok : U4.Ok := Cfg.ok ⟨pasF_ok, nxtE_ok, Conf.may_ok, Conf.most_ok, trivial⟩ trivial
noncomputable def steF : Eng.Obj := execO U4 (rounds U4 9 1) 74
theorem steF_ok : ObjOk Try.prog 74 steF := execO_rounds U4_ok mixed 9 1 Try.func74 (by kernel_rfl) (by kernel_rfl)
noncomputable def U6 : Cfg := ⟨Try.prog, lookG [(74, .obj steF), (72, .obj podF), (71, .obj balE), (50, .val Conf.dfltS), (73, .val yesR)], [], 0⟩
theorem U6_ok : U6.Ok := Cfg.ok ⟨steF_ok, podF_ok, balE_ok, Conf.refdflt_ok, told25_ok, trivial⟩ trivial
noncomputable def bouR (a b lo hi e w : Int) : T V := execS U6 noLoops 17 [.s (.int .i64 a), .s (.int .i64 b), .s (.int .i64 lo), .s (.int .i64 hi), .s (.int .i64 e), .s (.int .i64 w)]
end Go.Proofs.Ytebibmioiigplaa.Tow

/- Layer 25: TowerBounds. -/
namespace Go.Proofs.Ytebibmioiigplaa.Tow
open Go.Eng Go.RowKit Rin Mil Conf
set_option linter.unusedVariables false
set_option linter.unusedSimpArgs false
set_option maxRecDepth 100000
abbrev wJ (n : Int) : Int := IntKind.wrap .i64 n
def M (x m : Int) : Int := IntKind.wrap .i64 (Int.tmod (IntKind.wrap .u64 x) m)
def cB (l h : Int) : Conf.Cf := { Conf.dflt with min := l, max := h, initial := 50 }
theorem M_range (x : Int) {m : Int} (h0 : 0 < m) (h1 : m ≤ 1000000) : 0 ≤ M x m ∧ M x m < m := by
  unfold M
  have hu : 0 ≤ IntKind.wrap .u64 x := by rw [IntKind.wrap_u64]; omega
  have h2 := Int.tmod_nonneg m hu
  have h3 := Int.tmod_lt_of_pos (IntKind.wrap .u64 x) h0
  rw [wrap64_in (by omega) (by omega)]
  exact ⟨h2, h3⟩
theorem cB_may {l h : Int} (l0 : 0 ≤ l) (l1 : l < 50) (h0 : 50 ≤ h) (h1 : h ≤ 100) : Conf.mayB (cB l h) = true := by
  have k : ∀ {a b c : Int}, decide (a ≤ b ∧ b ≤ c) = true → a ≤ b ∧ b ≤ c := fun h => of_decide_eq_true h
  have e : Conf.mostC (cB l h) = h := by
    unfold Conf.mostC
    show (if h = 0 then 100 else h) = h
    rw [if_neg (by omega)]
  exact (Conf.may_iff _).2 ⟨k (b := 10000) rfl, k (b := 700) rfl, k (b := 60) rfl, k (b := 6) (c := 60) rfl, k (b := 1) (c := 6) rfl, k (b := 2000) rfl, k (b := 10000) rfl, k (b := 2000) rfl, ⟨l0, by show l ≤ 100; omega⟩, .inr ⟨by show l ≤ h; omega, by show 1 ≤ h; omega, h1⟩, ⟨by show (0 : Int) ≤ 50; decide, by rw [e]; exact h0⟩, k (b := 30) rfl, k (b := 0) rfl, .inr (k (b := 20000) rfl), k (b := 10) rfl, k (b := 100) rfl, k (b := 60) rfl, k (b := 3) rfl, k (b := 0) rfl, k (b := 0) rfl⟩
theorem cB_most {l h : Int} (h0 : 50 ≤ h) : Conf.mostC (cB l h) = h := by
  unfold Conf.mostC
  show (if h = 0 then 100 else h) = h
  rw [if_neg (by omega)]
theorem bou_1 (a b lo hi e w : Int) : T.path [false, false, false, false, false, false, false, false, false, false, true, false, false, false, false, false, false, false, false, false, false, false, false, true, false, false, false, false, false, false, false, false, false, true, true] (T.anon (bouR a b lo hi e w)) = some ([(false, false), (false, false), (false, false), (false, false), (false, false), (false, false), (!mayB (cB (M lo 50) (wJ (50 + M hi 51))), false), (!mayB (cB (M lo 50) (wJ (50 + M hi 51))), false), (false, false), (bif bif (0 : Int) != (0 : Int) then true else decide (mostC (cB (M lo 50) (wJ (50 + M hi 51))) < (0 : Int)) then true else decide ((100 : Int) < (0 : Int)), false), (true, true), (false, false), (false, false), (false, false), (false, false), (decide ((M w 6) < (0 : Int)), false), (false, false), (false, false), (false, false), (bif !mayB (cB (M lo 50) (wJ (50 + M hi 51))) then true else !bif (0 : Int) == (0 : Int) then (0 : Int) == (0 : Int) else false, false), (!mayB (cB (M lo 50) (wJ (50 + M hi 51))), false), (false, false), (bif bif (0 : Int) != (0 : Int) then true else decide (mostC (cB (M lo 50) (wJ (50 + M hi 51))) < (0 : Int)) then true else decide ((100 : Int) < (0 : Int)), false), (true, true), (false, false), (false, false), (false, false), (false, false), (decide ((M e 6) < (0 : Int)), false), (false, false), (false, false), (false, false), (bif bif bif !mayB (cB (M lo 50) (wJ (50 + M hi 51))) then true else !bif (0 : Int) == (0 : Int) then (0 : Int) == (0 : Int) else false then true else !bif (0 : Int) == (0 : Int) then (0 : Int) == (0 : Int) else false then true else !bif decide ((4 : Int) < (5 : Int)) then wJ ((5 : Int) - (4 : Int)) == (1 : Int) else false, false), (bif decide ((M b 111) < (M lo 50)) then true else decide (mostC (cB (M lo 50) (wJ (50 + M hi 51))) < (M b 111)), true), (bif decide ((M b 111) < (M lo 50)) then true else decide (wJ ((50 : Int) + (M hi 51)) < (M b 111)), true)], .s (.bool true)) := by kernel_rfl
theorem bou_2 (a b lo hi e w : Int) : T.path [false, false, false, false, false, false, false, false, false, false, true, false, false, false, false, false, false, false, false, false, false, false, false, true, false, false, false, false, false, false, false, false, false, false, false, true, false, true] (T.anon (bouR a b lo hi e w)) = some ([(false, false), (false, false), (false, false), (false, false), (false, false), (false, false), (!mayB (cB (M lo 50) (wJ (50 + M hi 51))), false), (!mayB (cB (M lo 50) (wJ (50 + M hi 51))), false), (false, false), (bif bif (0 : Int) != (0 : Int) then true else decide (mostC (cB (M lo 50) (wJ (50 + M hi 51))) < (0 : Int)) then true else decide ((100 : Int) < (0 : Int)), false), (true, true), (false, false), (false, false), (false, false), (false, false), (decide ((M w 6) < (0 : Int)), false), (false, false), (false, false), (false, false), (bif !mayB (cB (M lo 50) (wJ (50 + M hi 51))) then true else !bif (0 : Int) == (0 : Int) then (0 : Int) == (0 : Int) else false, false), (!mayB (cB (M lo 50) (wJ (50 + M hi 51))), false), (false, false), (bif bif (0 : Int) != (0 : Int) then true else decide (mostC (cB (M lo 50) (wJ (50 + M hi 51))) < (0 : Int)) then true else decide ((100 : Int) < (0 : Int)), false), (true, true), (false, false), (false, false), (false, false), (false, false), (decide ((M e 6) < (0 : Int)), false), (false, false), (false, false), (false, false), (bif bif bif !mayB (cB (M lo 50) (wJ (50 + M hi 51))) then true else !bif (0 : Int) == (0 : Int) then (0 : Int) == (0 : Int) else false then true else !bif (0 : Int) == (0 : Int) then (0 : Int) == (0 : Int) else false then true else !bif decide ((4 : Int) < (5 : Int)) then wJ ((5 : Int) - (4 : Int)) == (1 : Int) else false, false), (bif decide ((M b 111) < (M lo 50)) then true else decide (mostC (cB (M lo 50) (wJ (50 + M hi 51))) < (M b 111)), false), (false, false), (decide ((M e 6) < (M w 6)), true), (bif decide ((M b 111) < (M lo 50)) then true else decide (wJ ((50 : Int) + (M hi 51)) < (M b 111)), false), (decide ((M e 6) < (M w 6)), true)], .s (.bool true)) := by kernel_rfl
theorem bou_3 (a b lo hi e w : Int) : T.path [false, false, false, false, false, false, false, false, false, false, true, false, false, false, false, false, false, false, false, false, false, false, false, true, false, false, false, false, false, false, false, false, false, false, false, false, false, false, false, false, false, false, false, false, true, false, false, false, false, false, false, false, false, false, false, false, false, true, false, false, false, false, false, false, false, false, false, false, false, false, false, false, true] (T.anon (bouR a b lo hi e w)) = some ([(false, false), (false, false), (false, false), (false, false), (false, false), (false, false), (!mayB (cB (M lo 50) (wJ (50 + M hi 51))), false), (!mayB (cB (M lo 50) (wJ (50 + M hi 51))), false), (false, false), (bif bif (0 : Int) != (0 : Int) then true else decide (mostC (cB (M lo 50) (wJ (50 + M hi 51))) < (0 : Int)) then true else decide ((100 : Int) < (0 : Int)), false), (true, true), (false, false), (false, false), (false, false), (false, false), (decide ((M w 6) < (0 : Int)), false), (false, false), (false, false), (false, false), (bif !mayB (cB (M lo 50) (wJ (50 + M hi 51))) then true else !bif (0 : Int) == (0 : Int) then (0 : Int) == (0 : Int) else false, false), (!mayB (cB (M lo 50) (wJ (50 + M hi 51))), false), (false, false), (bif bif (0 : Int) != (0 : Int) then true else decide (mostC (cB (M lo 50) (wJ (50 + M hi 51))) < (0 : Int)) then true else decide ((100 : Int) < (0 : Int)), false), (true, true), (false, false), (false, false), (false, false), (false, false), (decide ((M e 6) < (0 : Int)), false), (false, false), (false, false), (false, false), (bif bif bif !mayB (cB (M lo 50) (wJ (50 + M hi 51))) then true else !bif (0 : Int) == (0 : Int) then (0 : Int) == (0 : Int) else false then true else !bif (0 : Int) == (0 : Int) then (0 : Int) == (0 : Int) else false then true else !bif decide ((4 : Int) < (5 : Int)) then wJ ((5 : Int) - (4 : Int)) == (1 : Int) else false, false), (bif decide ((M b 111) < (M lo 50)) then true else decide (mostC (cB (M lo 50) (wJ (50 + M hi 51))) < (M b 111)), false), (false, false), (decide ((M e 6) < (M w 6)), false), (false, false), (false, false), (bif decide ((M b 111) < (M lo 50)) then true else decide (wJ ((50 : Int) + (M hi 51)) < (M b 111)), false), (decide ((M e 6) < (M w 6)), false), (!mayB (cB (M lo 50) (wJ (50 + M hi 51))), false), (!mayB (cB (M lo 50) (wJ (50 + M hi 51))), false), (false, false), (bif bif (0 : Int) != (0 : Int) then true else decide (mostC (cB (M lo 50) (wJ (50 + M hi 51))) < (0 : Int)) then true else decide ((100 : Int) < (0 : Int)), false), (true, true), (false, false), (false, false), (false, false), (false, false), (decide ((M w 6) < (0 : Int)), false), (false, false), (false, false), (false, false), (bif !mayB (cB (M lo 50) (wJ (50 + M hi 51))) then true else !bif (0 : Int) == (0 : Int) then (0 : Int) == (0 : Int) else false, false), (!mayB (cB (M lo 50) (wJ (50 + M hi 51))), false), (false, false), (bif bif (0 : Int) != (0 : Int) then true else decide (mostC (cB (M lo 50) (wJ (50 + M hi 51))) < (0 : Int)) then true else decide ((100 : Int) < (0 : Int)), false), (true, true), (false, false), (false, false), (false, false), (false, false), (decide ((M e 6) < (0 : Int)), false), (false, false), (false, false), (false, false), (bif bif bif !mayB (cB (M lo 50) (wJ (50 + M hi 51))) then true else !bif (0 : Int) == (0 : Int) then (0 : Int) == (0 : Int) else false then true else !bif (0 : Int) == (0 : Int) then (0 : Int) == (0 : Int) else false then true else !bif decide ((4 : Int) < (5 : Int)) then wJ ((5 : Int) - (4 : Int)) == (1 : Int) else false, false), (bif decide ((M b 111) < (M lo 50)) then true else decide (mostC (cB (M lo 50) (wJ (50 + M hi 51))) < (M b 111)), false), (false, false), (decide ((M e 6) < (M w 6)), false), (false, false), (false, false), (decide ((M b 111) < (M a 111)), true)], V.s (S.bool (bif bif (0 : Int) == (0 : Int) then ((8 : Int) == (8 : Int)) == decide ((M b 111) < (M a 111)) else false then ((8 : Int) == (0 : Int)) == decide ((M a 111) ≤ (M b 111)) else false))) := by kernel_rfl
theorem bou_4 (a b lo hi e w : Int) : T.path [false, false, false, false, false, false, false, false, false, false, true, false, false, false, false, false, false, false, false, false, false, false, false, true, false, false, false, false, false, false, false, false, false, false, false, false, false, false, false, false, false, false, false, false, true, false, false, false, false, false, false, false, false, false, false, false, false, true, false, false, false, false, false, false, false, false, false, false, false, false, false, false, false] (T.anon (bouR a b lo hi e w)) = some ([(false, false), (false, false), (false, false), (false, false), (false, false), (false, false), (!mayB (cB (M lo 50) (wJ (50 + M hi 51))), false), (!mayB (cB (M lo 50) (wJ (50 + M hi 51))), false), (false, false), (bif bif (0 : Int) != (0 : Int) then true else decide (mostC (cB (M lo 50) (wJ (50 + M hi 51))) < (0 : Int)) then true else decide ((100 : Int) < (0 : Int)), false), (true, true), (false, false), (false, false), (false, false), (false, false), (decide ((M w 6) < (0 : Int)), false), (false, false), (false, false), (false, false), (bif !mayB (cB (M lo 50) (wJ (50 + M hi 51))) then true else !bif (0 : Int) == (0 : Int) then (0 : Int) == (0 : Int) else false, false), (!mayB (cB (M lo 50) (wJ (50 + M hi 51))), false), (false, false), (bif bif (0 : Int) != (0 : Int) then true else decide (mostC (cB (M lo 50) (wJ (50 + M hi 51))) < (0 : Int)) then true else decide ((100 : Int) < (0 : Int)), false), (true, true), (false, false), (false, false), (false, false), (false, false), (decide ((M e 6) < (0 : Int)), false), (false, false), (false, false), (false, false), (bif bif bif !mayB (cB (M lo 50) (wJ (50 + M hi 51))) then true else !bif (0 : Int) == (0 : Int) then (0 : Int) == (0 : Int) else false then true else !bif (0 : Int) == (0 : Int) then (0 : Int) == (0 : Int) else false then true else !bif decide ((4 : Int) < (5 : Int)) then wJ ((5 : Int) - (4 : Int)) == (1 : Int) else false, false), (bif decide ((M b 111) < (M lo 50)) then true else decide (mostC (cB (M lo 50) (wJ (50 + M hi 51))) < (M b 111)), false), (false, false), (decide ((M e 6) < (M w 6)), false), (false, false), (false, false), (bif decide ((M b 111) < (M lo 50)) then true else decide (wJ ((50 : Int) + (M hi 51)) < (M b 111)), false), (decide ((M e 6) < (M w 6)), false), (!mayB (cB (M lo 50) (wJ (50 + M hi 51))), false), (!mayB (cB (M lo 50) (wJ (50 + M hi 51))), false), (false, false), (bif bif (0 : Int) != (0 : Int) then true else decide (mostC (cB (M lo 50) (wJ (50 + M hi 51))) < (0 : Int)) then true else decide ((100 : Int) < (0 : Int)), false), (true, true), (false, false), (false, false), (false, false), (false, false), (decide ((M w 6) < (0 : Int)), false), (false, false), (false, false), (false, false), (bif !mayB (cB (M lo 50) (wJ (50 + M hi 51))) then true else !bif (0 : Int) == (0 : Int) then (0 : Int) == (0 : Int) else false, false), (!mayB (cB (M lo 50) (wJ (50 + M hi 51))), false), (false, false), (bif bif (0 : Int) != (0 : Int) then true else decide (mostC (cB (M lo 50) (wJ (50 + M hi 51))) < (0 : Int)) then true else decide ((100 : Int) < (0 : Int)), false), (true, true), (false, false), (false, false), (false, false), (false, false), (decide ((M e 6) < (0 : Int)), false), (false, false), (false, false), (false, false), (bif bif bif !mayB (cB (M lo 50) (wJ (50 + M hi 51))) then true else !bif (0 : Int) == (0 : Int) then (0 : Int) == (0 : Int) else false then true else !bif (0 : Int) == (0 : Int) then (0 : Int) == (0 : Int) else false then true else !bif decide ((4 : Int) < (5 : Int)) then wJ ((5 : Int) - (4 : Int)) == (1 : Int) else false, false), (bif decide ((M b 111) < (M lo 50)) then true else decide (mostC (cB (M lo 50) (wJ (50 + M hi 51))) < (M b 111)), false), (false, false), (decide ((M e 6) < (M w 6)), false), (false, false), (false, false), (decide ((M b 111) < (M a 111)), false)], V.s (S.bool (bif bif (0 : Int) == (0 : Int) then ((0 : Int) == (8 : Int)) == decide ((M b 111) < (M a 111)) else false then ((0 : Int) == (0 : Int)) == decide ((M a 111) ≤ (M b 111)) else false))) := by kernel_rfl
theorem bou_run (a b lo hi e w : Int) : (bouR a b lo hi e w).yes := by
  unfold T.yes
  rw [← T.eval_anon (t := bouR a b lo hi e w)]
  have ha := M_range a (m := 111) (by decide) (by decide)
  have hb := M_range b (m := 111) (by decide) (by decide)
  have hl := M_range lo (m := 50) (by decide) (by decide)
  have hh := M_range hi (m := 51) (by decide) (by decide)
  have he := M_range e (m := 6) (by decide) (by decide)
  have hw := M_range w (m := 6) (by decide) (by decide)
  have ew : wJ (50 + M hi 51) = 50 + M hi 51 := wrap64_in (by omega) (by omega)
  have w1 := bou_1 a b lo hi e w
  have w2 := bou_2 a b lo hi e w
  have w3 := bou_3 a b lo hi e w
  have w4 := bou_4 a b lo hi e w
  rw [ew] at w1 w2 w3 w4
  have hm := cB_may hl.1 hl.2 (show 50 ≤ 50 + M hi 51 by omega) (by omega)
  have hM : Conf.mostC (cB (M lo 50) (50 + M hi 51)) = 50 + M hi 51 := cB_most (by omega)
  rw [hm, hM] at w1 w2 w3 w4
  clear hm hM ew
  revert w1 w2 w3 w4 ha hb hl hh he hw
  generalize M a 111 = a
  generalize M b 111 = b
  generalize M lo 50 = lo
  generalize M hi 51 = hi
  generalize M e 6 = e
  generalize M w 6 = w
  intro ha hb hl hh he hw w1 w2 w3 w4
  have c1 : decide (50 + hi < 0) = false := decide_eq_false (by omega)
  have c2 : decide (w < 0) = false := decide_eq_false (by omega)
  have c3 : decide (e < 0) = false := decide_eq_false (by omega)
  rw [c1, c2, c3] at w1 w2 w3 w4
  by_cases q : b < lo ∨ 50 + hi < b
  · have q1 : (bif decide (b < lo) then true else decide (50 + hi < b)) = true := by
      rcases q with q | q
      · rw [decide_eq_true q]; rfl
      · rw [decide_eq_true q]; cases decide (b < lo) <;> rfl
    rw [q1] at w1
    exact .inr (T.path_eval w1 (allSay_of (by rfl)))
  · have q1 : decide (b < lo) = false := decide_eq_false (by omega)
    have q2 : decide (50 + hi < b) = false := decide_eq_false (by omega)
    rw [q1, q2] at w2 w3 w4
    by_cases q3 : e < w
    · rw [decide_eq_true q3] at w2
      exact .inr (T.path_eval w2 (allSay_of (by rfl)))
    · rw [decide_eq_false q3] at w3 w4
      right
      by_cases q4 : b < a
      · rw [decide_eq_true q4, decide_eq_false (show ¬ a ≤ b by omega)] at w3
        exact T.path_eval w3 (allSay_of (by rfl))
      · rw [decide_eq_false q4, decide_eq_true (show a ≤ b by omega)] at w4
        exact T.path_eval w4 (allSay_of (by rfl))
theorem bou_walk (a : Int) (_ : (Lit.int .i64 a).wf = true) (b : Int) (_ : (Lit.int .i64 b).wf = true) (lo : Int) (_ : (Lit.int .i64 lo).wf = true) (hi : Int) (_ : (Lit.int .i64 hi).wf = true) (e : Int) (_ : (Lit.int .i64 e).wf = true) (w : Int) (_ : (Lit.int .i64 w).wf = true) (W : World) :
    Calls Try.prog 17 #[.int .i64 a, .int .i64 b, .int .i64 lo, .int .i64 hi, .int .i64 e, .int .i64 w] W fun e w' => e = .returned (.bool true) ∧ Below W.heap.size W w' :=
  Law.law_rows (args := [.s (.int .i64 a), .s (.int .i64 b), .s (.int .i64 lo), .s (.int .i64 hi), .s (.int .i64 e), .s (.int .i64 w)]) (xs := [.int .i64 a, .int .i64 b, .int .i64 lo, .int .i64 hi, .int .i64 e, .int .i64 w]) (execS_plain U6_ok mixed Try.func17 (by kernel_rfl) (by kernel_rfl)) rfl (bou_run a b lo hi e w) W ⟨rfl, rfl, rfl, rfl, rfl, rfl, trivial⟩
end Go.Proofs.Ytebibmioiigplaa.Tow

/- Layer 25: TowerCounts: Balance as a number, the loop over the ends. -/
namespace Go.Proofs.Ytebibmioiigplaa.Tow
open Go.Eng Go.RowKit Rin
set_option linter.unusedVariables false
set_option linter.unusedSimpArgs false
set_option maxRecDepth 100000
noncomputable def U7 : Cfg := ⟨Try.prog, lookG [(74, .obj steF), (72, .obj podF), (71, .obj balE), (50, .val Conf.dfltS), (73, .val yesR)], [], 5⟩
theorem U7_ok : U7.Ok := Cfg.ok ⟨steF_ok, podF_ok, balE_ok, Conf.refdflt_ok, told25_ok, trivial⟩ trivial
noncomputable def lpCt : Code := loopAt Try.prog 15 0
structure PCt where (k : Nat) (l : List Int) (how : Int) (w : Int) (b : Int) (pid : Int) (pst : Int) (pb : Int) (psi : Int) (vt : Int) (vw : Int) (vp : Bool) (vx : Bool) (e0 : Int) (e1 : Int) (e2 : Int) (vo : Bool)
structure ACt where (i : Int) (e3 : Int) (e4 : Int) (e5 : Int) (e6 : Int)
abbrev SCt : List (Nat × Src) := [(0, .same), (1, .same), (9, .same)]
def vsCt (p : PCt) (a : ACt) : List V := [.sub 0 1 0 p.k, iv p.how, .ptr 9 0, iv a.i]
def bsCt (p : PCt) (a : ACt) : List Blk := [.lst false 3 [.int .i64] p.l, .cells 95 [iv p.pid, iv p.pst, iv p.pb, iv p.psi], .cells 99 [iv p.vt, iv p.vw, bv p.vp, bv p.vx, .sl 1 0 1 1, iv p.w, iv p.b, iv p.e0, iv p.e1, iv p.e2, iv a.e3, iv a.e4, iv a.e5, iv a.e6, bv p.vo]]
noncomputable def FCt (p : PCt) (a : ACt) : St := mkSt [2,3,11,12] (keysR SCt) 2020 110 (vsCt p a) (bsCt p a)
noncomputable def rdCt (p : PCt) (a : ACt) : T (Ex × St) := T.anon (roundN U7 noLoops lpCt [2,3,11,12] SCt 2000 2020 (mkSt [2,3,11,12] (keysR SCt) 2020 110 (vsCt p a) (bsCt p a)))
def decCt_v0 : V → Option ((Nat))
  | .sub 0 1 0 k => some (k)
  | _ => none
theorem decCt_v0_ok (b : V) (x0 : (Nat)) (h : decCt_v0 b = some x0) : b = .sub 0 1 0 (x0) := by
  unfold decCt_v0 at h
  split at h
  · cases h
    rfl
  · cases h
def decCt_v1 : V → Option ((Int))
  | .s (.int .i64 how) => some (how)
  | _ => none
theorem decCt_v1_ok (b : V) (x1 : (Int)) (h : decCt_v1 b = some x1) : b = iv (x1) := by
  unfold decCt_v1 at h
  split at h
  · cases h
    rfl
  · cases h
def decCt_v2 : V → Option (Unit)
  | .ptr 9 0 => some ()
  | _ => none
theorem decCt_v2_ok (b : V) (x2 : Unit) (h : decCt_v2 b = some x2) : b = .ptr 9 0 := by
  unfold decCt_v2 at h
  split at h
  · cases h
    rfl
  · cases h
def decCt_v3 : V → Option ((Int))
  | .s (.int .i64 i) => some (i)
  | _ => none
theorem decCt_v3_ok (b : V) (x3 : (Int)) (h : decCt_v3 b = some x3) : b = iv (x3) := by
  unfold decCt_v3 at h
  split at h
  · cases h
    rfl
  · cases h
def decCt_b0 : Blk → Option ((List Int))
  | .lst false tt0 [.int .i64] l => if tt0 = 3 then some (l) else none
  | _ => none
theorem decCt_b0_ok (b : Blk) (y0 : (List Int)) (h : decCt_b0 b = some y0) : b = .lst false 3 [.int .i64] (y0) := by
  unfold decCt_b0 at h
  split at h
  · obtain ⟨e0, h⟩ := ite_some0 h
    subst e0
    cases h
    rfl
  · cases h
def decCt_b1 : Blk → Option ((Int) × (Int) × (Int) × (Int))
  | .cells tt0 [.s (.int .i64 pid), .s (.int .i64 pst), .s (.int .i64 pb), .s (.int .i64 psi)] => if tt0 = 95 then some (pid, pst, pb, psi) else none
  | _ => none
theorem decCt_b1_ok (b : Blk) (y1 : (Int) × (Int) × (Int) × (Int)) (h : decCt_b1 b = some y1) : b = .cells 95 [iv (y1.1), iv (y1.2.1), iv (y1.2.2.1), iv (y1.2.2.2)] := by
  unfold decCt_b1 at h
  split at h
  · obtain ⟨e0, h⟩ := ite_some0 h
    subst e0
    cases h
    rfl
  · cases h
def decCt_b2 : Blk → Option ((Int) × (Int) × (Bool) × (Bool) × (Int) × (Int) × (Int) × (Int) × (Int) × (Int) × (Int) × (Int) × (Int) × (Bool))
  | .cells tt0 [.s (.int .i64 vt), .s (.int .i64 vw), .s (.bool vp), .s (.bool vx), .sl 1 0 1 1, .s (.int .i64 w), .s (.int .i64 b), .s (.int .i64 e0), .s (.int .i64 e1), .s (.int .i64 e2), .s (.int .i64 e3), .s (.int .i64 e4), .s (.int .i64 e5), .s (.int .i64 e6), .s (.bool vo)] => if tt0 = 99 then some (vt, vw, vp, vx, w, b, e0, e1, e2, e3, e4, e5, e6, vo) else none
  | _ => none
theorem decCt_b2_ok (b : Blk) (y2 : (Int) × (Int) × (Bool) × (Bool) × (Int) × (Int) × (Int) × (Int) × (Int) × (Int) × (Int) × (Int) × (Int) × (Bool)) (h : decCt_b2 b = some y2) : b = .cells 99 [iv (y2.1), iv (y2.2.1), bv (y2.2.2.1), bv (y2.2.2.2.1), .sl 1 0 1 1, iv (y2.2.2.2.2.1), iv (y2.2.2.2.2.2.1), iv (y2.2.2.2.2.2.2.1), iv (y2.2.2.2.2.2.2.2.1), iv (y2.2.2.2.2.2.2.2.2.1), iv (y2.2.2.2.2.2.2.2.2.2.1), iv (y2.2.2.2.2.2.2.2.2.2.2.1), iv (y2.2.2.2.2.2.2.2.2.2.2.2.1), iv (y2.2.2.2.2.2.2.2.2.2.2.2.2.1), bv (y2.2.2.2.2.2.2.2.2.2.2.2.2.2)] := by
  unfold decCt_b2 at h
  split at h
  · obtain ⟨e0, h⟩ := ite_some0 h
    subst e0
    cases h
    rfl
  · cases h
def decCt : List V → List Blk → Option (PCt × ACt)
  | [v0, v1, v2, v3], [b0, b1, b2] => (decCt_v0 v0).bind fun x0 => (decCt_v1 v1).bind fun x1 => (decCt_v2 v2).bind fun x2 => (decCt_v3 v3).bind fun x3 => (decCt_b0 b0).bind fun y0 => (decCt_b1 b1).bind fun y1 => (decCt_b2 b2).bind fun y2 => some (⟨(x0), (y0), (x1), (y2.2.2.2.2.1), (y2.2.2.2.2.2.1), (y1.1), (y1.2.1), (y1.2.2.1), (y1.2.2.2), (y2.1), (y2.2.1), (y2.2.2.1), (y2.2.2.2.1), (y2.2.2.2.2.2.2.1), (y2.2.2.2.2.2.2.2.1), (y2.2.2.2.2.2.2.2.2.1), (y2.2.2.2.2.2.2.2.2.2.2.2.2.2)⟩, ⟨(x3), (y2.2.2.2.2.2.2.2.2.2.1), (y2.2.2.2.2.2.2.2.2.2.2.1), (y2.2.2.2.2.2.2.2.2.2.2.2.1), (y2.2.2.2.2.2.2.2.2.2.2.2.2.1)⟩)
  | _, _ => none
theorem decCt_ok (l : List V) (b : List Blk) (d : PCt × ACt) (h : decCt l b = some d) : l = vsCt d.1 d.2 ∧ b = bsCt d.1 d.2 := by
  unfold decCt at h
  split at h
  · obtain ⟨x0, hx0, h⟩ := Option.bind_eq_some_iff.1 h
    obtain ⟨x1, hx1, h⟩ := Option.bind_eq_some_iff.1 h
    obtain ⟨x2, hx2, h⟩ := Option.bind_eq_some_iff.1 h
    obtain ⟨x3, hx3, h⟩ := Option.bind_eq_some_iff.1 h
    obtain ⟨y0, hy0, h⟩ := Option.bind_eq_some_iff.1 h
    obtain ⟨y1, hy1, h⟩ := Option.bind_eq_some_iff.1 h
    obtain ⟨y2, hy2, h⟩ := Option.bind_eq_some_iff.1 h
    have ex0 := decCt_v0_ok _ _ hx0
    have ex1 := decCt_v1_ok _ _ hx1
    have ex2 := decCt_v2_ok _ _ hx2
    have ex3 := decCt_v3_ok _ _ hx3
    have ey0 := decCt_b0_ok _ _ hy0
    have ey1 := decCt_b1_ok _ _ hy1
    have ey2 := decCt_b2_ok _ _ hy2
    cases h
    subst ex0 ex1 ex2 ex3 ey0 ey1 ey2
    exact ⟨rfl, rfl⟩
  · cases h
noncomputable def rgCt : Nat := (firstReg lpCt).getD 0
theorem rgCt_is : firstReg lpCt = some rgCt := by kernel_rfl
def ctV (l : List Int) (i : Int) : Int := M (l.getD (0 + i.toNat) 0) 10
theorem wayCt0 (p : PCt) (a : ACt) : T.path [true, true, true, false, false, false, false, true] (rdCt p a) = some ([(bif decide (a.i < 4) then decide (a.i < (p.k : Int)) else false, true), (idR p.l p.k a.i, true), (ldR p.l a.i, true), (false, false), (decide (IntKind.wrap .i64 (3 + a.i) = 0), false), (decide (IntKind.wrap .i64 (3 + a.i) = 1), false), (decide (IntKind.wrap .i64 (3 + a.i) = 2), false), (decide (IntKind.wrap .i64 (3 + a.i) = 3), true)], (.normal, FCt p ⟨IntKind.wrap .i64 (a.i + 1), ctV p.l a.i, a.e4, a.e5, a.e6⟩)) := by kernel_rfl
theorem wayCt1 (p : PCt) (a : ACt) : T.path [true, true, true, false, false, false, false, false, true] (rdCt p a) = some ([(bif decide (a.i < 4) then decide (a.i < (p.k : Int)) else false, true), (idR p.l p.k a.i, true), (ldR p.l a.i, true), (false, false), (decide (IntKind.wrap .i64 (3 + a.i) = 0), false), (decide (IntKind.wrap .i64 (3 + a.i) = 1), false), (decide (IntKind.wrap .i64 (3 + a.i) = 2), false), (decide (IntKind.wrap .i64 (3 + a.i) = 3), false), (decide (IntKind.wrap .i64 (3 + a.i) = 4), true)], (.normal, FCt p ⟨IntKind.wrap .i64 (a.i + 1), a.e3, ctV p.l a.i, a.e5, a.e6⟩)) := by kernel_rfl
theorem wayCt2 (p : PCt) (a : ACt) : T.path [true, true, true, false, false, false, false, false, false, true] (rdCt p a) = some ([(bif decide (a.i < 4) then decide (a.i < (p.k : Int)) else false, true), (idR p.l p.k a.i, true), (ldR p.l a.i, true), (false, false), (decide (IntKind.wrap .i64 (3 + a.i) = 0), false), (decide (IntKind.wrap .i64 (3 + a.i) = 1), false), (decide (IntKind.wrap .i64 (3 + a.i) = 2), false), (decide (IntKind.wrap .i64 (3 + a.i) = 3), false), (decide (IntKind.wrap .i64 (3 + a.i) = 4), false), (decide (IntKind.wrap .i64 (3 + a.i) = 5), true)], (.normal, FCt p ⟨IntKind.wrap .i64 (a.i + 1), a.e3, a.e4, ctV p.l a.i, a.e6⟩)) := by kernel_rfl
theorem wayCt3 (p : PCt) (a : ACt) : T.path [true, true, true, false, false, false, false, false, false, false, true] (rdCt p a) = some ([(bif decide (a.i < 4) then decide (a.i < (p.k : Int)) else false, true), (idR p.l p.k a.i, true), (ldR p.l a.i, true), (false, false), (decide (IntKind.wrap .i64 (3 + a.i) = 0), false), (decide (IntKind.wrap .i64 (3 + a.i) = 1), false), (decide (IntKind.wrap .i64 (3 + a.i) = 2), false), (decide (IntKind.wrap .i64 (3 + a.i) = 3), false), (decide (IntKind.wrap .i64 (3 + a.i) = 4), false), (decide (IntKind.wrap .i64 (3 + a.i) = 5), false), (decide (IntKind.wrap .i64 (3 + a.i) = 6), true)], (.normal, FCt p ⟨IntKind.wrap .i64 (a.i + 1), a.e3, a.e4, a.e5, ctV p.l a.i⟩)) := by kernel_rfl
theorem wayCtx (p : PCt) (a : ACt) : T.path [false] (rdCt p a) = some ([(bif decide (a.i < 4) then decide (a.i < (p.k : Int)) else false, false)], (.exit 0, FCt p a)) := by kernel_rfl
structure okCt (p : PCt) (a : ACt) : Prop where
  k : p.k = p.l.length
  i0 : 0 ≤ a.i
  i1 : a.i ≤ 4
  e3 : 0 ≤ a.e3 ∧ a.e3 < 10
  e4 : 0 ≤ a.e4 ∧ a.e4 < 10
  e5 : 0 ≤ a.e5 ∧ a.e5 < 10
  e6 : 0 ≤ a.e6 ∧ a.e6 < 10
def goCt (p : PCt) (a : ACt) : Bool := bif decide (a.i < 4) then decide (a.i < (p.k : Int)) else false
def muCt (p : PCt) (a : ACt) : Nat := (4 - a.i).toNat
theorem stepCt (p : PCt) (a : ACt) (h : okCt p a) (hg : goCt p a = true) : ∃ b, stepC okCt rdCt FCt muCt p a b := by
  obtain ⟨hk, i0, i1, h3, h4, h5, h6⟩ := h
  have g1 : a.i < 4 := by
    by_cases q : a.i < 4
    · exact q
    · have hg : (bif decide (a.i < 4) then decide (a.i < (p.k : Int)) else false) = true := hg
      rw [decide_eq_false q] at hg; cases hg
  have g2 : a.i < (p.k : Int) := by
    have hg : (bif decide (a.i < 4) then decide (a.i < (p.k : Int)) else false) = true := hg
    rw [decide_eq_true g1] at hg; exact of_decide_eq_true hg
  have e1 : IntKind.wrap .i64 (a.i + 1) = a.i + 1 := wrap64_in (by omega) (by omega)
  have e2 : IntKind.wrap .i64 (3 + a.i) = 3 + a.i := wrap64_in (by omega) (by omega)
  obtain ⟨y1, y2⟩ := idR_is (g := p.l) (k := p.k) (i := a.i) hk i0 g2
  have hv : 0 ≤ ctV p.l a.i ∧ ctV p.l a.i < 10 := M_range _ (by decide) (by decide)
  have mu : ∀ x3 x4 x5 x6 : Int, muCt p ⟨a.i + 1, x3, x4, x5, x6⟩ < muCt p a := fun _ _ _ _ => by show (4 - (a.i + 1)).toNat < (4 - a.i).toNat; omega
  have j0 : 0 ≤ a.i + 1 := by omega
  have j1 : a.i + 1 ≤ 4 := by omega
  have hd : ∀ n : Int, 3 + a.i = n → decide (3 + a.i = n) = true := fun n h => decide_eq_true h
  have hn : ∀ n : Int, 3 + a.i ≠ n → decide (3 + a.i = n) = false := fun n h => decide_eq_false h
  have hg' : (bif decide (a.i < 4) then decide (a.i < (p.k : Int)) else false) = true := hg
  by_cases q0 : a.i = 0
  · have way := wayCt0 p a
    rw [hg', e1, e2, y1, y2, hn 0 (by omega), hn 1 (by omega), hn 2 (by omega), hd 3 (by omega)] at way
    exact ⟨_, T.path_eval way (allSay_of (by rfl)), ⟨hk, j0, j1, hv, h4, h5, h6⟩, mu _ _ _ _⟩
  by_cases q1 : a.i = 1
  · have way := wayCt1 p a
    rw [hg', e1, e2, y1, y2, hn 0 (by omega), hn 1 (by omega), hn 2 (by omega), hn 3 (by omega), hd 4 (by omega)] at way
    exact ⟨_, T.path_eval way (allSay_of (by rfl)), ⟨hk, j0, j1, h3, hv, h5, h6⟩, mu _ _ _ _⟩
  by_cases q2 : a.i = 2
  · have way := wayCt2 p a
    rw [hg', e1, e2, y1, y2, hn 0 (by omega), hn 1 (by omega), hn 2 (by omega), hn 3 (by omega), hn 4 (by omega), hd 5 (by omega)] at way
    exact ⟨_, T.path_eval way (allSay_of (by rfl)), ⟨hk, j0, j1, h3, h4, hv, h6⟩, mu _ _ _ _⟩
  by_cases q3 : a.i = 3
  · have way := wayCt3 p a
    rw [hg', e1, e2, y1, y2, hn 0 (by omega), hn 1 (by omega), hn 2 (by omega), hn 3 (by omega), hn 4 (by omega), hn 5 (by omega), hd 6 (by omega)] at way
    exact ⟨_, T.path_eval way (allSay_of (by rfl)), ⟨hk, j0, j1, h3, h4, h5, hv⟩, mu _ _ _ _⟩
  omega
theorem exCt (p : PCt) (a : ACt) (h : okCt p a) (hg : goCt p a = false) : (rdCt p a).eval = some (.exit 0, FCt p a) := T.path_eval (wayCtx p a) ⟨hg, trivial⟩
noncomputable def famCt : LSpec := famC [2,3,11,12] SCt 2000 2020 110 decCt okCt goCt rdCt FCt muCt (.exit 0)
theorem lpCt_ok : LoopOk U7 lpCt famCt := famC_ok (vs := vsCt) (bs := bsCt) U7_ok mixed (noLoops_ok _) decCt_ok (by simp) (fun _ _ => rfl) (fun _ _ => rfl) stepCt exCt
noncomputable def cntL (w b : Int) (l : List Int) (how : Int) : T V := execS U7 (byReg [(rgCt, famCt)]) 15 [.s (.int .i64 w), .s (.int .i64 b), .orow 3 [.int .i64] l, .s (.int .i64 how)]
def pCt (l : List Int) (how w b : Int) : PCt := ⟨l.length, l, how, w, b, 4, 2, b, 0, 3, 0, false, false, 0, w, b, false⟩
noncomputable def eCt (l : List Int) (how w b : Int) : ACt := endW (nxtC okCt goCt rdCt FCt muCt (pCt l how w b)) ⟨0, 0, 0, 0, 0⟩
end Go.Proofs.Ytebibmioiigplaa.Tow

/- Layer 25: TowerCounts. -/
namespace Go.Proofs.Ytebibmioiigplaa.Tow
open Go.Eng Go.RowKit Rin Mil
set_option linter.unusedVariables false
set_option linter.unusedSimpArgs false
set_option maxRecDepth 100000
theorem cnt_0 (w b : Int) (l : List Int) (how : Int) : T.path [false, false, true, false, false, false, false, false, false, false, false, false, false, false, false, true, false, true, false, false, false, true, false, false, false, false, false, false, false, true, true, false, false, false, false, true, false, true, false, true, false, false, false, false, false, false, false, false, false, false, false, false, true, false, true, false, true, false, false, false, false, false, false, false, false, false, false, false, false, false, false, false] (T.anon (cntL w b l how)) = some ([(false, false), (false, false), (invC okCt (pCt l how (M w 51) (M b 51)) ⟨0, 0, 0, 0, 0⟩, true), (false, false), (decide (M w 51 < (0 : Int)), false), (decide (M b 51 < (0 : Int)), false), (decide ((eCt l how (M w 51) (M b 51)).e3 < (0 : Int)), false), (decide ((eCt l how (M w 51) (M b 51)).e4 < (0 : Int)), false), (decide ((eCt l how (M w 51) (M b 51)).e5 < (0 : Int)), false), (decide ((eCt l how (M w 51) (M b 51)).e6 < (0 : Int)), false), (bif bif (0 : Int) != (0 : Int) then true else M w 51 != M w 51 then true else M b 51 != M b 51, false), (false, false), (false, false), (bif bif bif decide ((0 : Int) < (0 : Int)) then true else decide ((3 : Int) < (0 : Int)) then true else decide (M b 51 < (0 : Int)) then true else decide ((1099511627776 : Int) < M b 51), false), (false, false), (true, true), (decide (IntKind.wrap .i64 (M b 51 - (0 : Int)) < M b 51), false), (true, true), (bif bif IntKind.wrap .i64 ((0 : Int) + M b 51) != M b 51 then true else decide (Conf.mostC Conf.dflt < IntKind.wrap .i64 ((0 : Int) + (1 : Int))) then true else decide ((100 : Int) < IntKind.wrap .i64 ((0 : Int) + (1 : Int))), false), (false, false), (false, false), (decide (Int.tmod (IntKind.wrap .u64 (how)) (5 : Int) = (↑(0 : Nat) : Int)), true), (false, false), (decide (M w 51 < (0 : Int)), false), (decide (M b 51 < (0 : Int)), false), (decide ((eCt l how (M w 51) (M b 51)).e3 < (0 : Int)), false), (decide ((eCt l how (M w 51) (M b 51)).e4 < (0 : Int)), false), (decide ((eCt l how (M w 51) (M b 51)).e5 < (0 : Int)), false), (decide ((eCt l how (M w 51) (M b 51)).e6 < (0 : Int)), false), (bif bif (0 : Int) != (0 : Int) then true else M w 51 != IntKind.wrap .i64 (M w 51 + (1 : Int)) then true else M b 51 != M b 51, true), (true, true), (false, false), (false, false), (bif bif bif decide ((0 : Int) < (0 : Int)) then true else decide ((3 : Int) < (0 : Int)) then true else decide (M b 51 < (0 : Int)) then true else decide ((1099511627776 : Int) < M b 51), false), (false, false), (true, true), (decide (IntKind.wrap .i64 (M b 51 - (0 : Int)) < M b 51), false), (true, true), (bif bif IntKind.wrap .i64 ((0 : Int) + M b 51) != M b 51 then true else decide (Conf.mostC Conf.dflt < IntKind.wrap .i64 ((0 : Int) + (1 : Int))) then true else decide ((100 : Int) < IntKind.wrap .i64 ((0 : Int) + (1 : Int))), false), (true, true), (false, false), (decide (M w 51 < (0 : Int)), false), (decide (M b 51 < (0 : Int)), false), (decide ((eCt l how (M w 51) (M b 51)).e3 < (0 : Int)), false), (decide ((eCt l how (M w 51) (M b 51)).e4 < (0 : Int)), false), (decide ((eCt l how (M w 51) (M b 51)).e5 < (0 : Int)), false), (decide ((eCt l how (M w 51) (M b 51)).e6 < (0 : Int)), false), (bif bif (0 : Int) != (0 : Int) then true else M w 51 != M w 51 then true else M b 51 != M b 51, false), (false, false), (false, false), (bif bif bif decide ((0 : Int) < (0 : Int)) then true else decide ((4 : Int) < (0 : Int)) then true else decide (M b 51 < (0 : Int)) then true else decide ((1099511627776 : Int) < M b 51), false), (false, false), (true, true), (decide (IntKind.wrap .i64 (M b 51 - (0 : Int)) < M b 51), false), (true, true), (bif bif IntKind.wrap .i64 ((0 : Int) + M b 51) != M b 51 then true else decide (Conf.mostC Conf.dflt < IntKind.wrap .i64 ((0 : Int) + (1 : Int))) then true else decide ((100 : Int) < IntKind.wrap .i64 ((0 : Int) + (1 : Int))), false), (true, true), (false, false), (decide (M w 51 < (0 : Int)), false), (decide (M b 51 < (0 : Int)), false), (decide ((eCt l how (M w 51) (M b 51)).e3 < (0 : Int)), false), (decide ((eCt l how (M w 51) (M b 51)).e4 < (0 : Int)), false), (decide ((eCt l how (M w 51) (M b 51)).e5 < (0 : Int)), false), (decide ((eCt l how (M w 51) (M b 51)).e6 < (0 : Int)), false), (bif bif (0 : Int) != (0 : Int) then true else M w 51 != M w 51 then true else M b 51 != M b 51, false), (false, false), (false, false), (decide ((eCt l how (M w 51) (M b 51)).e3 < (eCt l how (M w 51) (M b 51)).e3), false), (decide ((eCt l how (M w 51) (M b 51)).e4 < (eCt l how (M w 51) (M b 51)).e4), false), (decide ((eCt l how (M w 51) (M b 51)).e5 < (eCt l how (M w 51) (M b 51)).e5), false), (decide ((eCt l how (M w 51) (M b 51)).e6 < (eCt l how (M w 51) (M b 51)).e6), false), (false, false)], .s (.bool true)) := by kernel_rfl
theorem cnt_1 (w b : Int) (l : List Int) (how : Int) : T.path [false, false, true, false, false, false, false, false, false, false, false, false, false, false, false, true, false, true, false, false, false, false, true, false, false, false, false, false, false, false, true, true, false, false, false, false, true, false, true, false, true, false, false, false, false, false, false, false, false, false, false, false, false, true, false, true, false, true, false, false, false, false, false, false, false, false, false, false, false, false, false, false, false] (T.anon (cntL w b l how)) = some ([(false, false), (false, false), (invC okCt (pCt l how (M w 51) (M b 51)) ⟨0, 0, 0, 0, 0⟩, true), (false, false), (decide (M w 51 < (0 : Int)), false), (decide (M b 51 < (0 : Int)), false), (decide ((eCt l how (M w 51) (M b 51)).e3 < (0 : Int)), false), (decide ((eCt l how (M w 51) (M b 51)).e4 < (0 : Int)), false), (decide ((eCt l how (M w 51) (M b 51)).e5 < (0 : Int)), false), (decide ((eCt l how (M w 51) (M b 51)).e6 < (0 : Int)), false), (bif bif (0 : Int) != (0 : Int) then true else M w 51 != M w 51 then true else M b 51 != M b 51, false), (false, false), (false, false), (bif bif bif decide ((0 : Int) < (0 : Int)) then true else decide ((3 : Int) < (0 : Int)) then true else decide (M b 51 < (0 : Int)) then true else decide ((1099511627776 : Int) < M b 51), false), (false, false), (true, true), (decide (IntKind.wrap .i64 (M b 51 - (0 : Int)) < M b 51), false), (true, true), (bif bif IntKind.wrap .i64 ((0 : Int) + M b 51) != M b 51 then true else decide (Conf.mostC Conf.dflt < IntKind.wrap .i64 ((0 : Int) + (1 : Int))) then true else decide ((100 : Int) < IntKind.wrap .i64 ((0 : Int) + (1 : Int))), false), (false, false), (false, false), (decide (Int.tmod (IntKind.wrap .u64 (how)) (5 : Int) = (↑(0 : Nat) : Int)), false), (decide (Int.tmod (IntKind.wrap .u64 (how)) (5 : Int) = (↑((0 : Nat) + (1 : Nat)) : Int)), true), (false, false), (decide (M w 51 < (0 : Int)), false), (decide (M b 51 < (0 : Int)), false), (decide ((eCt l how (M w 51) (M b 51)).e3 < (0 : Int)), false), (decide ((eCt l how (M w 51) (M b 51)).e4 < (0 : Int)), false), (decide ((eCt l how (M w 51) (M b 51)).e5 < (0 : Int)), false), (decide ((eCt l how (M w 51) (M b 51)).e6 < (0 : Int)), false), (bif bif (0 : Int) != (0 : Int) then true else M w 51 != M w 51 then true else M b 51 != IntKind.wrap .i64 (M b 51 + (1 : Int)), true), (true, true), (false, false), (false, false), (bif bif bif decide ((0 : Int) < (0 : Int)) then true else decide ((3 : Int) < (0 : Int)) then true else decide (M b 51 < (0 : Int)) then true else decide ((1099511627776 : Int) < M b 51), false), (false, false), (true, true), (decide (IntKind.wrap .i64 (M b 51 - (0 : Int)) < M b 51), false), (true, true), (bif bif IntKind.wrap .i64 ((0 : Int) + M b 51) != M b 51 then true else decide (Conf.mostC Conf.dflt < IntKind.wrap .i64 ((0 : Int) + (1 : Int))) then true else decide ((100 : Int) < IntKind.wrap .i64 ((0 : Int) + (1 : Int))), false), (true, true), (false, false), (decide (M w 51 < (0 : Int)), false), (decide (M b 51 < (0 : Int)), false), (decide ((eCt l how (M w 51) (M b 51)).e3 < (0 : Int)), false), (decide ((eCt l how (M w 51) (M b 51)).e4 < (0 : Int)), false), (decide ((eCt l how (M w 51) (M b 51)).e5 < (0 : Int)), false), (decide ((eCt l how (M w 51) (M b 51)).e6 < (0 : Int)), false), (bif bif (0 : Int) != (0 : Int) then true else M w 51 != M w 51 then true else M b 51 != M b 51, false), (false, false), (false, false), (bif bif bif decide ((0 : Int) < (0 : Int)) then true else decide ((4 : Int) < (0 : Int)) then true else decide (M b 51 < (0 : Int)) then true else decide ((1099511627776 : Int) < M b 51), false), (false, false), (true, true), (decide (IntKind.wrap .i64 (M b 51 - (0 : Int)) < M b 51), false), (true, true), (bif bif IntKind.wrap .i64 ((0 : Int) + M b 51) != M b 51 then true else decide (Conf.mostC Conf.dflt < IntKind.wrap .i64 ((0 : Int) + (1 : Int))) then true else decide ((100 : Int) < IntKind.wrap .i64 ((0 : Int) + (1 : Int))), false), (true, true), (false, false), (decide (M w 51 < (0 : Int)), false), (decide (M b 51 < (0 : Int)), false), (decide ((eCt l how (M w 51) (M b 51)).e3 < (0 : Int)), false), (decide ((eCt l how (M w 51) (M b 51)).e4 < (0 : Int)), false), (decide ((eCt l how (M w 51) (M b 51)).e5 < (0 : Int)), false), (decide ((eCt l how (M w 51) (M b 51)).e6 < (0 : Int)), false), (bif bif (0 : Int) != (0 : Int) then true else M w 51 != M w 51 then true else M b 51 != M b 51, false), (false, false), (false, false), (decide ((eCt l how (M w 51) (M b 51)).e3 < (eCt l how (M w 51) (M b 51)).e3), false), (decide ((eCt l how (M w 51) (M b 51)).e4 < (eCt l how (M w 51) (M b 51)).e4), false), (decide ((eCt l how (M w 51) (M b 51)).e5 < (eCt l how (M w 51) (M b 51)).e5), false), (decide ((eCt l how (M w 51) (M b 51)).e6 < (eCt l how (M w 51) (M b 51)).e6), false), (false, false)], .s (.bool true)) := by kernel_rfl
theorem cnt_2 (w b : Int) (l : List Int) (how : Int) : T.path [false, false, true, false, false, false, false, false, false, false, false, false, false, false, false, true, false, true, false, false, false, false, false, true, false, false, false, false, false, false, false, true, true, false, false, false, false, true, false, true, false, true, false, false, false, false, false, false, false, false, false, false, false, false, true, false, true, false, true, false, false, false, false, false, false, false, false, false, false, false, false, false, false, false] (T.anon (cntL w b l how)) = some ([(false, false), (false, false), (invC okCt (pCt l how (M w 51) (M b 51)) ⟨0, 0, 0, 0, 0⟩, true), (false, false), (decide (M w 51 < (0 : Int)), false), (decide (M b 51 < (0 : Int)), false), (decide ((eCt l how (M w 51) (M b 51)).e3 < (0 : Int)), false), (decide ((eCt l how (M w 51) (M b 51)).e4 < (0 : Int)), false), (decide ((eCt l how (M w 51) (M b 51)).e5 < (0 : Int)), false), (decide ((eCt l how (M w 51) (M b 51)).e6 < (0 : Int)), false), (bif bif (0 : Int) != (0 : Int) then true else M w 51 != M w 51 then true else M b 51 != M b 51, false), (false, false), (false, false), (bif bif bif decide ((0 : Int) < (0 : Int)) then true else decide ((3 : Int) < (0 : Int)) then true else decide (M b 51 < (0 : Int)) then true else decide ((1099511627776 : Int) < M b 51), false), (false, false), (true, true), (decide (IntKind.wrap .i64 (M b 51 - (0 : Int)) < M b 51), false), (true, true), (bif bif IntKind.wrap .i64 ((0 : Int) + M b 51) != M b 51 then true else decide (Conf.mostC Conf.dflt < IntKind.wrap .i64 ((0 : Int) + (1 : Int))) then true else decide ((100 : Int) < IntKind.wrap .i64 ((0 : Int) + (1 : Int))), false), (false, false), (false, false), (decide (Int.tmod (IntKind.wrap .u64 (how)) (5 : Int) = (↑(0 : Nat) : Int)), false), (decide (Int.tmod (IntKind.wrap .u64 (how)) (5 : Int) = (↑((0 : Nat) + (1 : Nat)) : Int)), false), (decide (Int.tmod (IntKind.wrap .u64 (how)) (5 : Int) = (↑((0 : Nat) + (1 : Nat) + (1 : Nat)) : Int)), true), (false, false), (decide (M w 51 < (0 : Int)), false), (decide (M b 51 < (0 : Int)), false), (decide ((eCt l how (M w 51) (M b 51)).e3 < (0 : Int)), false), (decide ((eCt l how (M w 51) (M b 51)).e4 < (0 : Int)), false), (decide ((eCt l how (M w 51) (M b 51)).e5 < (0 : Int)), false), (decide ((eCt l how (M w 51) (M b 51)).e6 < (0 : Int)), false), (true, true), (true, true), (false, false), (false, false), (bif bif bif decide ((0 : Int) < (0 : Int)) then true else decide ((3 : Int) < (0 : Int)) then true else decide (M b 51 < (0 : Int)) then true else decide ((1099511627776 : Int) < M b 51), false), (false, false), (true, true), (decide (IntKind.wrap .i64 (M b 51 - (0 : Int)) < M b 51), false), (true, true), (bif bif IntKind.wrap .i64 ((0 : Int) + M b 51) != M b 51 then true else decide (Conf.mostC Conf.dflt < IntKind.wrap .i64 ((0 : Int) + (1 : Int))) then true else decide ((100 : Int) < IntKind.wrap .i64 ((0 : Int) + (1 : Int))), false), (true, true), (false, false), (decide (M w 51 < (0 : Int)), false), (decide (M b 51 < (0 : Int)), false), (decide ((eCt l how (M w 51) (M b 51)).e3 < (0 : Int)), false), (decide ((eCt l how (M w 51) (M b 51)).e4 < (0 : Int)), false), (decide ((eCt l how (M w 51) (M b 51)).e5 < (0 : Int)), false), (decide ((eCt l how (M w 51) (M b 51)).e6 < (0 : Int)), false), (bif bif (0 : Int) != (0 : Int) then true else M w 51 != M w 51 then true else M b 51 != M b 51, false), (false, false), (false, false), (bif bif bif decide ((0 : Int) < (0 : Int)) then true else decide ((4 : Int) < (0 : Int)) then true else decide (M b 51 < (0 : Int)) then true else decide ((1099511627776 : Int) < M b 51), false), (false, false), (true, true), (decide (IntKind.wrap .i64 (M b 51 - (0 : Int)) < M b 51), false), (true, true), (bif bif IntKind.wrap .i64 ((0 : Int) + M b 51) != M b 51 then true else decide (Conf.mostC Conf.dflt < IntKind.wrap .i64 ((0 : Int) + (1 : Int))) then true else decide ((100 : Int) < IntKind.wrap .i64 ((0 : Int) + (1 : Int))), false), (true, true), (false, false), (decide (M w 51 < (0 : Int)), false), (decide (M b 51 < (0 : Int)), false), (decide ((eCt l how (M w 51) (M b 51)).e3 < (0 : Int)), false), (decide ((eCt l how (M w 51) (M b 51)).e4 < (0 : Int)), false), (decide ((eCt l how (M w 51) (M b 51)).e5 < (0 : Int)), false), (decide ((eCt l how (M w 51) (M b 51)).e6 < (0 : Int)), false), (bif bif (0 : Int) != (0 : Int) then true else M w 51 != M w 51 then true else M b 51 != M b 51, false), (false, false), (false, false), (decide ((eCt l how (M w 51) (M b 51)).e3 < (eCt l how (M w 51) (M b 51)).e3), false), (decide ((eCt l how (M w 51) (M b 51)).e4 < (eCt l how (M w 51) (M b 51)).e4), false), (decide ((eCt l how (M w 51) (M b 51)).e5 < (eCt l how (M w 51) (M b 51)).e5), false), (decide ((eCt l how (M w 51) (M b 51)).e6 < (eCt l how (M w 51) (M b 51)).e6), false), (false, false)], .s (.bool true)) := by kernel_rfl
theorem cnt_3 (w b : Int) (l : List Int) (how : Int) : T.path [false, false, true, false, false, false, false, false, false, false, false, false, false, false, false, true, false, true, false, false, false, false, false, false, true, false, false, false, false, false, false, true, true, false, false, false, false, true, false, true, false, true, false, false, false, false, false, false, false, false, false, false, false, false, true, false, true, false, true, false, false, false, false, false, false, false, false, false, false, false, false, false, false, false] (T.anon (cntL w b l how)) = some ([(false, false), (false, false), (invC okCt (pCt l how (M w 51) (M b 51)) ⟨0, 0, 0, 0, 0⟩, true), (false, false), (decide (M w 51 < (0 : Int)), false), (decide (M b 51 < (0 : Int)), false), (decide ((eCt l how (M w 51) (M b 51)).e3 < (0 : Int)), false), (decide ((eCt l how (M w 51) (M b 51)).e4 < (0 : Int)), false), (decide ((eCt l how (M w 51) (M b 51)).e5 < (0 : Int)), false), (decide ((eCt l how (M w 51) (M b 51)).e6 < (0 : Int)), false), (bif bif (0 : Int) != (0 : Int) then true else M w 51 != M w 51 then true else M b 51 != M b 51, false), (false, false), (false, false), (bif bif bif decide ((0 : Int) < (0 : Int)) then true else decide ((3 : Int) < (0 : Int)) then true else decide (M b 51 < (0 : Int)) then true else decide ((1099511627776 : Int) < M b 51), false), (false, false), (true, true), (decide (IntKind.wrap .i64 (M b 51 - (0 : Int)) < M b 51), false), (true, true), (bif bif IntKind.wrap .i64 ((0 : Int) + M b 51) != M b 51 then true else decide (Conf.mostC Conf.dflt < IntKind.wrap .i64 ((0 : Int) + (1 : Int))) then true else decide ((100 : Int) < IntKind.wrap .i64 ((0 : Int) + (1 : Int))), false), (false, false), (false, false), (decide (Int.tmod (IntKind.wrap .u64 (how)) (5 : Int) = (↑(0 : Nat) : Int)), false), (decide (Int.tmod (IntKind.wrap .u64 (how)) (5 : Int) = (↑((0 : Nat) + (1 : Nat)) : Int)), false), (decide (Int.tmod (IntKind.wrap .u64 (how)) (5 : Int) = (↑((0 : Nat) + (1 : Nat) + (1 : Nat)) : Int)), false), (decide (Int.tmod (IntKind.wrap .u64 (how)) (5 : Int) = (↑((0 : Nat) + (1 : Nat) + (1 : Nat) + (1 : Nat)) : Int)), true), (false, false), (decide (M w 51 < (0 : Int)), false), (decide (M b 51 < (0 : Int)), false), (decide ((eCt l how (M w 51) (M b 51)).e3 < (0 : Int)), false), (decide ((eCt l how (M w 51) (M b 51)).e4 < (0 : Int)), false), (decide ((eCt l how (M w 51) (M b 51)).e5 < (0 : Int)), false), (true, true), (true, true), (false, false), (false, false), (bif bif bif decide ((0 : Int) < (0 : Int)) then true else decide ((3 : Int) < (0 : Int)) then true else decide (M b 51 < (0 : Int)) then true else decide ((1099511627776 : Int) < M b 51), false), (false, false), (true, true), (decide (IntKind.wrap .i64 (M b 51 - (0 : Int)) < M b 51), false), (true, true), (bif bif IntKind.wrap .i64 ((0 : Int) + M b 51) != M b 51 then true else decide (Conf.mostC Conf.dflt < IntKind.wrap .i64 ((0 : Int) + (1 : Int))) then true else decide ((100 : Int) < IntKind.wrap .i64 ((0 : Int) + (1 : Int))), false), (true, true), (false, false), (decide (M w 51 < (0 : Int)), false), (decide (M b 51 < (0 : Int)), false), (decide ((eCt l how (M w 51) (M b 51)).e3 < (0 : Int)), false), (decide ((eCt l how (M w 51) (M b 51)).e4 < (0 : Int)), false), (decide ((eCt l how (M w 51) (M b 51)).e5 < (0 : Int)), false), (decide ((eCt l how (M w 51) (M b 51)).e6 < (0 : Int)), false), (bif bif (0 : Int) != (0 : Int) then true else M w 51 != M w 51 then true else M b 51 != M b 51, false), (false, false), (false, false), (bif bif bif decide ((0 : Int) < (0 : Int)) then true else decide ((4 : Int) < (0 : Int)) then true else decide (M b 51 < (0 : Int)) then true else decide ((1099511627776 : Int) < M b 51), false), (false, false), (true, true), (decide (IntKind.wrap .i64 (M b 51 - (0 : Int)) < M b 51), false), (true, true), (bif bif IntKind.wrap .i64 ((0 : Int) + M b 51) != M b 51 then true else decide (Conf.mostC Conf.dflt < IntKind.wrap .i64 ((0 : Int) + (1 : Int))) then true else decide ((100 : Int) < IntKind.wrap .i64 ((0 : Int) + (1 : Int))), false), (true, true), (false, false), (decide (M w 51 < (0 : Int)), false), (decide (M b 51 < (0 : Int)), false), (decide ((eCt l how (M w 51) (M b 51)).e3 < (0 : Int)), false), (decide ((eCt l how (M w 51) (M b 51)).e4 < (0 : Int)), false), (decide ((eCt l how (M w 51) (M b 51)).e5 < (0 : Int)), false), (decide ((eCt l how (M w 51) (M b 51)).e6 < (0 : Int)), false), (bif bif (0 : Int) != (0 : Int) then true else M w 51 != M w 51 then true else M b 51 != M b 51, false), (false, false), (false, false), (decide ((eCt l how (M w 51) (M b 51)).e3 < (eCt l how (M w 51) (M b 51)).e3), false), (decide ((eCt l how (M w 51) (M b 51)).e4 < (eCt l how (M w 51) (M b 51)).e4), false), (decide ((eCt l how (M w 51) (M b 51)).e5 < (eCt l how (M w 51) (M b 51)).e5), false), (decide ((eCt l how (M w 51) (M b 51)).e6 < (eCt l how (M w 51) (M b 51)).e6), false), (false, false)], .s (.bool true)) := by kernel_rfl
theorem cnt_4 (w b : Int) (l : List Int) (how : Int) : T.path [false, false, true, false, false, false, false, false, false, false, false, false, false, false, false, true, false, true, false, false, false, false, false, false, false, true, false, false, false, false, false, false, false, true, true, false, false, false, false, true, false, true, false, true, false, false, false, false, false, false, false, false, false, false, false, false, true, false, true, false, true, false, false, false, false, false, false, false, false, false, false, false, false, false, false, false] (T.anon (cntL w b l how)) = some ([(false, false), (false, false), (invC okCt (pCt l how (M w 51) (M b 51)) ⟨0, 0, 0, 0, 0⟩, true), (false, false), (decide (M w 51 < (0 : Int)), false), (decide (M b 51 < (0 : Int)), false), (decide ((eCt l how (M w 51) (M b 51)).e3 < (0 : Int)), false), (decide ((eCt l how (M w 51) (M b 51)).e4 < (0 : Int)), false), (decide ((eCt l how (M w 51) (M b 51)).e5 < (0 : Int)), false), (decide ((eCt l how (M w 51) (M b 51)).e6 < (0 : Int)), false), (bif bif (0 : Int) != (0 : Int) then true else M w 51 != M w 51 then true else M b 51 != M b 51, false), (false, false), (false, false), (bif bif bif decide ((0 : Int) < (0 : Int)) then true else decide ((3 : Int) < (0 : Int)) then true else decide (M b 51 < (0 : Int)) then true else decide ((1099511627776 : Int) < M b 51), false), (false, false), (true, true), (decide (IntKind.wrap .i64 (M b 51 - (0 : Int)) < M b 51), false), (true, true), (bif bif IntKind.wrap .i64 ((0 : Int) + M b 51) != M b 51 then true else decide (Conf.mostC Conf.dflt < IntKind.wrap .i64 ((0 : Int) + (1 : Int))) then true else decide ((100 : Int) < IntKind.wrap .i64 ((0 : Int) + (1 : Int))), false), (false, false), (false, false), (decide (Int.tmod (IntKind.wrap .u64 (how)) (5 : Int) = (↑(0 : Nat) : Int)), false), (decide (Int.tmod (IntKind.wrap .u64 (how)) (5 : Int) = (↑((0 : Nat) + (1 : Nat)) : Int)), false), (decide (Int.tmod (IntKind.wrap .u64 (how)) (5 : Int) = (↑((0 : Nat) + (1 : Nat) + (1 : Nat)) : Int)), false), (decide (Int.tmod (IntKind.wrap .u64 (how)) (5 : Int) = (↑((0 : Nat) + (1 : Nat) + (1 : Nat) + (1 : Nat)) : Int)), false), (decide (Int.tmod (IntKind.wrap .u64 (how)) (5 : Int) = (↑((0 : Nat) + (1 : Nat) + (1 : Nat) + (1 : Nat) + (1 : Nat)) : Int)), true), (false, false), (decide (M w 51 < (0 : Int)), false), (decide (IntKind.wrap .i64 (M b 51 + (1 : Int)) < (0 : Int)), false), (decide ((eCt l how (M w 51) (M b 51)).e3 < (0 : Int)), false), (decide ((eCt l how (M w 51) (M b 51)).e4 < (0 : Int)), false), (decide ((eCt l how (M w 51) (M b 51)).e5 < (0 : Int)), false), (decide ((eCt l how (M w 51) (M b 51)).e6 < (0 : Int)), false), (bif bif (0 : Int) != (0 : Int) then true else M w 51 != M w 51 then true else IntKind.wrap .i64 (M b 51 + (1 : Int)) != M b 51, true), (true, true), (false, false), (false, false), (bif bif bif decide ((0 : Int) < (0 : Int)) then true else decide ((3 : Int) < (0 : Int)) then true else decide (M b 51 < (0 : Int)) then true else decide ((1099511627776 : Int) < M b 51), false), (false, false), (true, true), (decide (IntKind.wrap .i64 (M b 51 - (0 : Int)) < M b 51), false), (true, true), (bif bif IntKind.wrap .i64 ((0 : Int) + M b 51) != M b 51 then true else decide (Conf.mostC Conf.dflt < IntKind.wrap .i64 ((0 : Int) + (1 : Int))) then true else decide ((100 : Int) < IntKind.wrap .i64 ((0 : Int) + (1 : Int))), false), (true, true), (false, false), (decide (M w 51 < (0 : Int)), false), (decide (M b 51 < (0 : Int)), false), (decide ((eCt l how (M w 51) (M b 51)).e3 < (0 : Int)), false), (decide ((eCt l how (M w 51) (M b 51)).e4 < (0 : Int)), false), (decide ((eCt l how (M w 51) (M b 51)).e5 < (0 : Int)), false), (decide ((eCt l how (M w 51) (M b 51)).e6 < (0 : Int)), false), (bif bif (0 : Int) != (0 : Int) then true else M w 51 != M w 51 then true else M b 51 != M b 51, false), (false, false), (false, false), (bif bif bif decide ((0 : Int) < (0 : Int)) then true else decide ((4 : Int) < (0 : Int)) then true else decide (M b 51 < (0 : Int)) then true else decide ((1099511627776 : Int) < M b 51), false), (false, false), (true, true), (decide (IntKind.wrap .i64 (M b 51 - (0 : Int)) < M b 51), false), (true, true), (bif bif IntKind.wrap .i64 ((0 : Int) + M b 51) != M b 51 then true else decide (Conf.mostC Conf.dflt < IntKind.wrap .i64 ((0 : Int) + (1 : Int))) then true else decide ((100 : Int) < IntKind.wrap .i64 ((0 : Int) + (1 : Int))), false), (true, true), (false, false), (decide (M w 51 < (0 : Int)), false), (decide (M b 51 < (0 : Int)), false), (decide ((eCt l how (M w 51) (M b 51)).e3 < (0 : Int)), false), (decide ((eCt l how (M w 51) (M b 51)).e4 < (0 : Int)), false), (decide ((eCt l how (M w 51) (M b 51)).e5 < (0 : Int)), false), (decide ((eCt l how (M w 51) (M b 51)).e6 < (0 : Int)), false), (bif bif (0 : Int) != (0 : Int) then true else M w 51 != M w 51 then true else M b 51 != M b 51, false), (false, false), (false, false), (decide ((eCt l how (M w 51) (M b 51)).e3 < (eCt l how (M w 51) (M b 51)).e3), false), (decide ((eCt l how (M w 51) (M b 51)).e4 < (eCt l how (M w 51) (M b 51)).e4), false), (decide ((eCt l how (M w 51) (M b 51)).e5 < (eCt l how (M w 51) (M b 51)).e5), false), (decide ((eCt l how (M w 51) (M b 51)).e6 < (eCt l how (M w 51) (M b 51)).e6), false), (false, false)], .s (.bool true)) := by kernel_rfl
theorem cnt_run (w b : Int) (l : List Int) (how : Int) : (cntL w b l how).yes := by
  unfold T.yes
  right
  rw [← T.eval_anon (t := cntL w b l how)]
  have hw := M_range w (m := 51) (by decide) (by decide)
  have hb := M_range b (m := 51) (by decide) (by decide)
  have t0 := cnt_0 w b l how
  have t1 := cnt_1 w b l how
  have t2 := cnt_2 w b l how
  have t3 := cnt_3 w b l how
  have t4 := cnt_4 w b l how
  have hu : 0 ≤ IntKind.wrap .u64 how := by rw [IntKind.wrap_u64]; omega
  have r0 := Int.tmod_nonneg 5 hu
  have r1 := Int.tmod_lt_of_pos (IntKind.wrap .u64 how) (show (0 : Int) < 5 by decide)
  have h0 : okCt (pCt l how (M w 51) (M b 51)) ⟨0, 0, 0, 0, 0⟩ := ⟨rfl, by decide, by decide, by decide, by decide, by decide, by decide⟩
  have iv := invC_is h0
  obtain ⟨k1, -⟩ := endC stepCt h0
  have k1 : okCt (pCt l how (M w 51) (M b 51)) (eCt l how (M w 51) (M b 51)) := k1
  obtain ⟨-, -, -, h3, h4, h5, h6⟩ := k1
  rw [iv] at t0 t1 t2 t3 t4
  clear iv h0
  revert t0 t1 t2 t3 t4 hw hb r0 r1 h3 h4 h5 h6
  generalize eCt l how (M w 51) (M b 51) = E
  generalize M w 51 = x
  generalize M b 51 = y
  generalize Int.tmod (IntKind.wrap .u64 how) 5 = r
  intro hw hb t0 t1 t2 t3 t4 r0 r1 h3 h4 h5 h6
  have dw : decide (x < 0) = false := decide_eq_false (by omega)
  have dy : decide (y < 0) = false := decide_eq_false (by omega)
  have dz : decide (y + 1 < 0) = false := decide_eq_false (by omega)
  have d3 : decide (E.e3 < 0) = false := decide_eq_false (by omega)
  have d4 : decide (E.e4 < 0) = false := decide_eq_false (by omega)
  have d5 : decide (E.e5 < 0) = false := decide_eq_false (by omega)
  have d6 : decide (E.e6 < 0) = false := decide_eq_false (by omega)
  have i3 : decide (E.e3 < E.e3) = false := decide_eq_false (by omega)
  have i4 : decide (E.e4 < E.e4) = false := decide_eq_false (by omega)
  have i5 : decide (E.e5 < E.e5) = false := decide_eq_false (by omega)
  have i6 : decide (E.e6 < E.e6) = false := decide_eq_false (by omega)
  have iy : decide (y < y) = false := decide_eq_false (by omega)
  have bg : decide (1099511627776 < y) = false := decide_eq_false (by omega)
  have n1 : (x != x) = false := bne_self_eq_false _
  have n2 : (y != y) = false := bne_self_eq_false _
  have w1 : IntKind.wrap .i64 (x + 1) = x + 1 := wrap64_in (by omega) (by omega)
  have w2 : IntKind.wrap .i64 (y + 1) = y + 1 := wrap64_in (by omega) (by omega)
  have w3 : IntKind.wrap .i64 (y - 0) = y := wrap64_in (by omega) (by omega) |>.trans (by omega)
  have w4 : IntKind.wrap .i64 (0 + y) = y := wrap64_in (by omega) (by omega) |>.trans (by omega)
  have n3 : (x != x + 1) = true := by rw [bne_iff_ne]; omega
  have n4 : (y != y + 1) = true := by rw [bne_iff_ne]; omega
  have n5 : (y + 1 != y) = true := by rw [bne_iff_ne]; omega
  rw [w4, w3] at t0 t1 t2 t3 t4
  rw [w2] at t1 t4
  rw [w1] at t0
  have hr : r = 0 ∨ r = 1 ∨ r = 2 ∨ r = 3 ∨ r = 4 := by omega
  rcases hr with rfl | rfl | rfl | rfl | rfl
  · simp only [dw, dy, dz, d3, d4, d5, d6, i3, i4, i5, i6, iy, bg, n1, n2, n3, n4, n5] at t0
    exact T.path_eval t0 (allSay_of (by rfl))
  · simp only [dw, dy, dz, d3, d4, d5, d6, i3, i4, i5, i6, iy, bg, n1, n2, n3, n4, n5] at t1
    exact T.path_eval t1 (allSay_of (by rfl))
  · simp only [dw, dy, dz, d3, d4, d5, d6, i3, i4, i5, i6, iy, bg, n1, n2, n3, n4, n5] at t2
    exact T.path_eval t2 (allSay_of (by rfl))
  · simp only [dw, dy, dz, d3, d4, d5, d6, i3, i4, i5, i6, iy, bg, n1, n2, n3, n4, n5] at t3
    exact T.path_eval t3 (allSay_of (by rfl))
  · simp only [dw, dy, dz, d3, d4, d5, d6, i3, i4, i5, i6, iy, bg, n1, n2, n3, n4, n5] at t4
    exact T.path_eval t4 (allSay_of (by rfl))
theorem cnt_walk (a : Int) (_ : (Lit.int .i64 a).wf = true) (b : Int) (_ : (Lit.int .i64 b).wf = true) (g : List Int) (_ : g.length ≤ maxLen) (_ : ∀ x ∈ g, (Lit.int .i64 x).wf = true) (x : Value) (c : Int) (_ : (Lit.int .i64 c).wf = true) (w : World) (hx : holdsP 0 w (.orow 3 [.int .i64] g) x) :
    Calls Try.prog 15 #[.int .i64 a, .int .i64 b, x, .int .i64 c] w fun e w' => e = .returned (.bool true) ∧ Below w.heap.size w w' :=
  Law.law_rows (args := [.s (.int .i64 a), .s (.int .i64 b), .orow 3 [.int .i64] g, .s (.int .i64 c)]) (xs := [.int .i64 a, .int .i64 b, x, .int .i64 c]) (execS_loops (Λ := byReg [(rgCt, famCt)]) U7_ok mixed Try.func15 (by kernel_rfl) (by kernel_rfl) (one_lp (by kernel_rfl) rgCt_is lpCt_ok)) rfl (cnt_run a b g c) w ⟨rfl, rfl, hx, rfl, trivial⟩
end Go.Proofs.Ytebibmioiigplaa.Tow

