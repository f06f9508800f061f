import Derived.Test.YtebibmioiigplaaGG
import Derived.Test.YtebibmioiigplaaGP
/- Layer 25: what is told of a few: closed runs. -/
namespace Go.Proofs.Ytebibmioiigplaa.Tow
open Go.Eng Go.RowKit
set_option linter.unusedVariables false
set_option linter.unusedSimpArgs false
set_option maxRecDepth 100000
theorem mixed : Try.prog.follows .mixedOrders = true := Checked.mixed Try.checked
noncomputable def T0 : Cfg := ⟨Try.prog, lookG [], [], 0⟩
theorem T0_ok : T0.Ok := Cfg.ok trivial trivial
noncomputable def aloE : Eng.Obj := execO T0 noLoops 139
theorem aloE_ok : ObjOk Try.prog 139 aloE := execO_plain T0_ok mixed Try.func139 (by kernel_rfl) (by kernel_rfl)
noncomputable def nxtE : Eng.Obj := execO T0 noLoops 116
theorem nxtE_ok : ObjOk Try.prog 116 nxtE := execO_plain T0_ok mixed Try.func116 (by kernel_rfl) (by kernel_rfl)
noncomputable def balE : Eng.Obj := execO T0 (rounds T0 9 1) 71
theorem balE_ok : ObjOk Try.prog 71 balE := execO_rounds T0_ok mixed 9 1 Try.func71 (by kernel_rfl) (by kernel_rfl)
noncomputable def T1 : Cfg := ⟨Try.prog, lookG [(139, .obj aloE)], [], 0⟩
theorem T1_ok : T1.Ok := Cfg.ok ⟨aloE_ok, trivial⟩ trivial
noncomputable def couE : Eng.Obj := execO T1 (rounds T1 5 1) 113
theorem couE_ok : ObjOk Try.prog 113 couE := execO_rounds T1_ok mixed 5 1 Try.func113 (by kernel_rfl) (by kernel_rfl)
noncomputable def T2 : Cfg := ⟨Try.prog, lookG [(113, .obj (Eng.Obj.plain couE)), (96, .val Conf.mayS), (109, .val Conf.mostS)], [], 0⟩
theorem T2_ok : T2.Ok := Cfg.ok ⟨couE_ok.plain, Conf.may_ok, Conf.most_ok, trivial⟩ trivial
noncomputable def podE : Eng.Obj := execO T2 noLoops 72
theorem podE_ok : ObjOk Try.prog 72 podE := execO_plain T2_ok mixed Try.func72 (by kernel_rfl) (by kernel_rfl)
noncomputable def T3 : Cfg := ⟨Try.prog, lookG [(72, .obj (Eng.Obj.plain podE)), (71, .obj (Eng.Obj.plain balE)), (96, .val Conf.mayS), (109, .val Conf.mostS)], [], 0⟩
theorem T3_ok : T3.Ok := Cfg.ok ⟨podE_ok.plain, balE_ok.plain, Conf.may_ok, Conf.most_ok, trivial⟩ trivial
noncomputable def pasE : Eng.Obj := execO T3 noLoops 115
theorem pasE_ok : ObjOk Try.prog 115 pasE := execO_plain T3_ok mixed Try.func115 (by kernel_rfl) (by kernel_rfl)
noncomputable def T4 : Cfg := ⟨Try.prog, lookG [(115, .obj (Eng.Obj.plain pasE)), (116, .obj nxtE), (96, .val Conf.mayS), (109, .val Conf.mostS)], [], 0⟩
theorem T4_ok : T4.Ok := Cfg.ok ⟨pasE_ok.plain, nxtE_ok, Conf.may_ok, Conf.most_ok, trivial⟩ trivial
noncomputable def steE : Eng.Obj := execO T4 (rounds T4 9 1) 74
theorem steE_ok : ObjOk Try.prog 74 steE := execO_rounds T4_ok mixed 9 1 Try.func74 (by kernel_rfl) (by kernel_rfl)
noncomputable def T5 : Cfg := ⟨Try.prog, lookG [(74, .obj (Eng.Obj.plain steE)), (96, .val Conf.mayS)], [], 0⟩
theorem T5_ok : T5.Ok := Cfg.ok ⟨steE_ok.plain, Conf.may_ok, trivial⟩ trivial
noncomputable def traE : Eng.Obj := execO T5 (rounds T5 5 1) 114
theorem traE_ok : ObjOk Try.prog 114 traE := execO_rounds T5_ok mixed 5 1 Try.func114 (by kernel_rfl) (by kernel_rfl)
noncomputable def T6 : Cfg := ⟨Try.prog, lookG [(74, .obj (Eng.Obj.plain steE)), (114, .obj (Eng.Obj.plain traE)), (72, .obj (Eng.Obj.plain podE)), (71, .obj (Eng.Obj.plain balE)), (50, .val Conf.dfltS)], [], 0⟩
theorem T6_ok : T6.Ok := Cfg.ok ⟨steE_ok.plain, traE_ok.plain, podE_ok.plain, balE_ok.plain, Conf.refdflt_ok, trivial⟩ trivial
noncomputable def tol25 : Eng.Spec := execS T6 noLoops 73
theorem tol25_ok : SpecOk Try.prog 73 tol25 := execS_plain T6_ok mixed Try.func73 (by kernel_rfl) (by kernel_rfl)
end Go.Proofs.Ytebibmioiigplaa.Tow

/- Layer 25: what is told of a few. -/
namespace Go.Proofs.Ytebibmioiigplaa.Tow
open Go.Eng Go.RowKit Rin
set_option linter.unusedVariables false
set_option linter.unusedSimpArgs false
set_option maxRecDepth 100000
theorem tol25_run : (tol25 []).eval = some (.s (.bool true)) := by kernel_rfl
theorem told25_ok : SpecOk Try.prog 73 yesR :=
  tol25_ok.of_den fun args v _ h => by
    unfold yesR at h
    split at h
    · simp only [T.eval, Option.some.injEq] at h
      subst h
      exact ⟨_, tol25_run, ⟨rfl, rfl⟩, rfl⟩
    · cases h
end Go.Proofs.Ytebibmioiigplaa.Tow

/- Layer 25: the tower's functions, run by the machine on open views. -/
namespace Go.Proofs.Ytebibmioiigplaa.Tow
open Go.Eng Go.RowKit Rin
set_option linter.unusedVariables false
set_option linter.unusedSimpArgs false
set_option maxRecDepth 100000
noncomputable def U2 : Cfg := ⟨Try.prog, lookG [(113, .obj couE), (96, .val Conf.mayS), (109, .val Conf.mostS)], [], 0⟩
theorem U2_ok : U2.Ok := Cfg.ok ⟨couE_ok, Conf.may_ok, Conf.most_ok, trivial⟩ trivial
noncomputable def podF : Eng.Obj := execO U2 noLoops 72
theorem podF_ok : ObjOk Try.prog 72 podF := execO_plain U2_ok mixed Try.func72 (by kernel_rfl) (by kernel_rfl)
noncomputable def U3 : Cfg := ⟨Try.prog, lookG [(72, .obj podF), (71, .obj balE), (96, .val Conf.mayS), (109, .val Conf.mostS)], [], 0⟩
theorem U3_ok : U3.Ok := Cfg.ok ⟨podF_ok, balE_ok, Conf.may_ok, Conf.most_ok, trivial⟩ trivial
noncomputable def pasF : Eng.Obj := execO U3 noLoops 115
theorem pasF_ok : ObjOk Try.prog 115 pasF := execO_plain U3_ok mixed Try.func115 (by kernel_rfl) (by kernel_rfl)
noncomputable def U4 : Cfg := ⟨Try.prog, lookG [(115, .obj pasF), (116, .obj nxtE), (96, .val Conf.mayS), (109, .val Conf.mostS)], [], 0⟩
theorem U4_ok : U4.Ok := Cfg.ok ⟨pasF_ok, nxtE_ok, Conf.may_ok, Conf.most_ok, trivial⟩ trivial
noncomputable def steF : Eng.Obj := execO U4 (rounds U4 9 1) 74
theorem steF_ok : ObjOk Try.prog 74 steF := execO_rounds U4_ok mixed 9 1 Try.func74 (by kernel_rfl) (by kernel_rfl)
noncomputable def U6 : Cfg := ⟨Try.prog, lookG [(74, .obj steF), (72, .obj podF), (71, .obj balE), (50, .val Conf.dfltS), (73, .val yesR)], [], 0⟩
theorem U6_ok : U6.Ok := Cfg.ok ⟨steF_ok, podF_ok, balE_ok, Conf.refdflt_ok, told25_ok, trivial⟩ trivial
noncomputable def bouR (a b lo hi e w : Int) : T V := execS U6 noLoops 17 [.s (.int .i64 a), .s (.int .i64 b), .s (.int .i64 lo), .s (.int .i64 hi), .s (.int .i64 e), .s (.int .i64 w)]
noncomputable def cntR (w b : Int) (l : List Int) (how : Int) : T V := execS U6 (rounds U6 9 1) 15 [.s (.int .i64 w), .s (.int .i64 b), .orow 3 [.int .i64] l, .s (.int .i64 how)]
end Go.Proofs.Ytebibmioiigplaa.Tow

/- Layer 25: TowerBounds. -/
namespace Go.Proofs.Ytebibmioiigplaa.Tow
open Go.Eng Go.RowKit Rin Mil Conf
set_option linter.unusedVariables false
set_option linter.unusedSimpArgs false
set_option maxRecDepth 100000
abbrev wJ (n : Int) : Int := IntKind.wrap .i64 n
def M (x m : Int) : Int := IntKind.wrap .i64 (Int.tmod (IntKind.wrap .u64 x) m)
def cB (l h : Int) : Conf.Cf := { Conf.dflt with min := l, max := h, initial := 50 }
theorem M_range (x : Int) {m : Int} (h0 : 0 < m) (h1 : m ≤ 1000000) : 0 ≤ M x m ∧ M x m < m := by
  unfold M
  have hu : 0 ≤ IntKind.wrap .u64 x := by rw [IntKind.wrap_u64]; omega
  have h2 := Int.tmod_nonneg m hu
  have h3 := Int.tmod_lt_of_pos (IntKind.wrap .u64 x) h0
  rw [wrap64_in (by omega) (by omega)]
  exact ⟨h2, h3⟩
theorem cB_may {l h : Int} (l0 : 0 ≤ l) (l1 : l < 50) (h0 : 50 ≤ h) (h1 : h ≤ 100) : Conf.mayB (cB l h) = true := by
  have k : ∀ {a b c : Int}, decide (a ≤ b ∧ b ≤ c) = true → a ≤ b ∧ b ≤ c := fun h => of_decide_eq_true h
  have e : Conf.mostC (cB l h) = h := by
    unfold Conf.mostC
    show (if h = 0 then 100 else h) = h
    rw [if_neg (by omega)]
  exact (Conf.may_iff _).2 ⟨k (b := 10000) rfl, k (b := 700) rfl, k (b := 60) rfl, k (b := 6) (c := 60) rfl, k (b := 1) (c := 6) rfl, k (b := 2000) rfl, k (b := 10000) rfl, k (b := 2000) rfl, ⟨l0, by show l ≤ 100; omega⟩, .inr ⟨by show l ≤ h; omega, by show 1 ≤ h; omega, h1⟩, ⟨by show (0 : Int) ≤ 50; decide, by rw [e]; exact h0⟩, k (b := 30) rfl, k (b := 0) rfl, .inr (k (b := 20000) rfl), k (b := 10) rfl, k (b := 100) rfl, k (b := 60) rfl, k (b := 3) rfl, k (b := 0) rfl, k (b := 0) rfl⟩
theorem cB_most {l h : Int} (h0 : 50 ≤ h) : Conf.mostC (cB l h) = h := by
  unfold Conf.mostC
  show (if h = 0 then 100 else h) = h
  rw [if_neg (by omega)]
theorem bou_1 (a b lo hi e w : Int) : T.path [false, false, false, false, false, false, false, false, false, false, true, false, false, false, false, false, false, false, false, false, false, false, false, true, false, false, false, false, false, false, false, false, false, true, true] (T.anon (bouR a b lo hi e w)) = some ([(false, false), (false, false), (false, false), (false, false), (false, false), (false, false), (!mayB (cB (M lo 50) (wJ (50 + M hi 51))), false), (!mayB (cB (M lo 50) (wJ (50 + M hi 51))), false), (false, false), (bif bif (0 : Int) != (0 : Int) then true else decide (mostC (cB (M lo 50) (wJ (50 + M hi 51))) < (0 : Int)) then true else decide ((100 : Int) < (0 : Int)), false), (true, true), (false, false), (false, false), (false, false), (false, false), (decide ((M w 6) < (0 : Int)), false), (false, false), (false, false), (false, false), (bif !mayB (cB (M lo 50) (wJ (50 + M hi 51))) then true else !bif (0 : Int) == (0 : Int) then (0 : Int) == (0 : Int) else false, false), (!mayB (cB (M lo 50) (wJ (50 + M hi 51))), false), (false, false), (bif bif (0 : Int) != (0 : Int) then true else decide (mostC (cB (M lo 50) (wJ (50 + M hi 51))) < (0 : Int)) then true else decide ((100 : Int) < (0 : Int)), false), (true, true), (false, false), (false, false), (false, false), (false, false), (decide ((M e 6) < (0 : Int)), false), (false, false), (false, false), (false, false), (bif bif bif !mayB (cB (M lo 50) (wJ (50 + M hi 51))) then true else !bif (0 : Int) == (0 : Int) then (0 : Int) == (0 : Int) else false then true else !bif (0 : Int) == (0 : Int) then (0 : Int) == (0 : Int) else false then true else !bif decide ((4 : Int) < (5 : Int)) then wJ ((5 : Int) - (4 : Int)) == (1 : Int) else false, false), (bif decide ((M b 111) < (M lo 50)) then true else decide (mostC (cB (M lo 50) (wJ (50 + M hi 51))) < (M b 111)), true), (bif decide ((M b 111) < (M lo 50)) then true else decide (wJ ((50 : Int) + (M hi 51)) < (M b 111)), true)], .s (.bool true)) := by kernel_rfl
theorem bou_2 (a b lo hi e w : Int) : T.path [false, false, false, false, false, false, false, false, false, false, true, false, false, false, false, false, false, false, false, false, false, false, false, true, false, false, false, false, false, false, false, false, false, false, false, true, false, true] (T.anon (bouR a b lo hi e w)) = some ([(false, false), (false, false), (false, false), (false, false), (false, false), (false, false), (!mayB (cB (M lo 50) (wJ (50 + M hi 51))), false), (!mayB (cB (M lo 50) (wJ (50 + M hi 51))), false), (false, false), (bif bif (0 : Int) != (0 : Int) then true else decide (mostC (cB (M lo 50) (wJ (50 + M hi 51))) < (0 : Int)) then true else decide ((100 : Int) < (0 : Int)), false), (true, true), (false, false), (false, false), (false, false), (false, false), (decide ((M w 6) < (0 : Int)), false), (false, false), (false, false), (false, false), (bif !mayB (cB (M lo 50) (wJ (50 + M hi 51))) then true else !bif (0 : Int) == (0 : Int) then (0 : Int) == (0 : Int) else false, false), (!mayB (cB (M lo 50) (wJ (50 + M hi 51))), false), (false, false), (bif bif (0 : Int) != (0 : Int) then true else decide (mostC (cB (M lo 50) (wJ (50 + M hi 51))) < (0 : Int)) then true else decide ((100 : Int) < (0 : Int)), false), (true, true), (false, false), (false, false), (false, false), (false, false), (decide ((M e 6) < (0 : Int)), false), (false, false), (false, false), (false, false), (bif bif bif !mayB (cB (M lo 50) (wJ (50 + M hi 51))) then true else !bif (0 : Int) == (0 : Int) then (0 : Int) == (0 : Int) else false then true else !bif (0 : Int) == (0 : Int) then (0 : Int) == (0 : Int) else false then true else !bif decide ((4 : Int) < (5 : Int)) then wJ ((5 : Int) - (4 : Int)) == (1 : Int) else false, false), (bif decide ((M b 111) < (M lo 50)) then true else decide (mostC (cB (M lo 50) (wJ (50 + M hi 51))) < (M b 111)), false), (false, false), (decide ((M e 6) < (M w 6)), true), (bif decide ((M b 111) < (M lo 50)) then true else decide (wJ ((50 : Int) + (M hi 51)) < (M b 111)), false), (decide ((M e 6) < (M w 6)), true)], .s (.bool true)) := by kernel_rfl
theorem bou_3 (a b lo hi e w : Int) : T.path [false, false, false, false, false, false, false, false, false, false, true, false, false, false, false, false, false, false, false, false, false, false, false, true, false, false, false, false, false, false, false, false, false, false, false, false, false, false, false, false, false, false, false, false, true, false, false, false, false, false, false, false, false, false, false, false, false, true, false, false, false, false, false, false, false, false, false, false, false, false, false, false, true] (T.anon (bouR a b lo hi e w)) = some ([(false, false), (false, false), (false, false), (false, false), (false, false), (false, false), (!mayB (cB (M lo 50) (wJ (50 + M hi 51))), false), (!mayB (cB (M lo 50) (wJ (50 + M hi 51))), false), (false, false), (bif bif (0 : Int) != (0 : Int) then true else decide (mostC (cB (M lo 50) (wJ (50 + M hi 51))) < (0 : Int)) then true else decide ((100 : Int) < (0 : Int)), false), (true, true), (false, false), (false, false), (false, false), (false, false), (decide ((M w 6) < (0 : Int)), false), (false, false), (false, false), (false, false), (bif !mayB (cB (M lo 50) (wJ (50 + M hi 51))) then true else !bif (0 : Int) == (0 : Int) then (0 : Int) == (0 : Int) else false, false), (!mayB (cB (M lo 50) (wJ (50 + M hi 51))), false), (false, false), (bif bif (0 : Int) != (0 : Int) then true else decide (mostC (cB (M lo 50) (wJ (50 + M hi 51))) < (0 : Int)) then true else decide ((100 : Int) < (0 : Int)), false), (true, true), (false, false), (false, false), (false, false), (false, false), (decide ((M e 6) < (0 : Int)), false), (false, false), (false, false), (false, false), (bif bif bif !mayB (cB (M lo 50) (wJ (50 + M hi 51))) then true else !bif (0 : Int) == (0 : Int) then (0 : Int) == (0 : Int) else false then true else !bif (0 : Int) == (0 : Int) then (0 : Int) == (0 : Int) else false then true else !bif decide ((4 : Int) < (5 : Int)) then wJ ((5 : Int) - (4 : Int)) == (1 : Int) else false, false), (bif decide ((M b 111) < (M lo 50)) then true else decide (mostC (cB (M lo 50) (wJ (50 + M hi 51))) < (M b 111)), false), (false, false), (decide ((M e 6) < (M w 6)), false), (false, false), (false, false), (bif decide ((M b 111) < (M lo 50)) then true else decide (wJ ((50 : Int) + (M hi 51)) < (M b 111)), false), (decide ((M e 6) < (M w 6)), false), (!mayB (cB (M lo 50) (wJ (50 + M hi 51))), false), (!mayB (cB (M lo 50) (wJ (50 + M hi 51))), false), (false, false), (bif bif (0 : Int) != (0 : Int) then true else decide (mostC (cB (M lo 50) (wJ (50 + M hi 51))) < (0 : Int)) then true else decide ((100 : Int) < (0 : Int)), false), (true, true), (false, false), (false, false), (false, false), (false, false), (decide ((M w 6) < (0 : Int)), false), (false, false), (false, false), (false, false), (bif !mayB (cB (M lo 50) (wJ (50 + M hi 51))) then true else !bif (0 : Int) == (0 : Int) then (0 : Int) == (0 : Int) else false, false), (!mayB (cB (M lo 50) (wJ (50 + M hi 51))), false), (false, false), (bif bif (0 : Int) != (0 : Int) then true else decide (mostC (cB (M lo 50) (wJ (50 + M hi 51))) < (0 : Int)) then true else decide ((100 : Int) < (0 : Int)), false), (true, true), (false, false), (false, false), (false, false), (false, false), (decide ((M e 6) < (0 : Int)), false), (false, false), (false, false), (false, false), (bif bif bif !mayB (cB (M lo 50) (wJ (50 + M hi 51))) then true else !bif (0 : Int) == (0 : Int) then (0 : Int) == (0 : Int) else false then true else !bif (0 : Int) == (0 : Int) then (0 : Int) == (0 : Int) else false then true else !bif decide ((4 : Int) < (5 : Int)) then wJ ((5 : Int) - (4 : Int)) == (1 : Int) else false, false), (bif decide ((M b 111) < (M lo 50)) then true else decide (mostC (cB (M lo 50) (wJ (50 + M hi 51))) < (M b 111)), false), (false, false), (decide ((M e 6) < (M w 6)), false), (false, false), (false, false), (decide ((M b 111) < (M a 111)), true)], V.s (S.bool (bif bif (0 : Int) == (0 : Int) then ((8 : Int) == (8 : Int)) == decide ((M b 111) < (M a 111)) else false then ((8 : Int) == (0 : Int)) == decide ((M a 111) ≤ (M b 111)) else false))) := by kernel_rfl
theorem bou_4 (a b lo hi e w : Int) : T.path [false, false, false, false, false, false, false, false, false, false, true, false, false, false, false, false, false, false, false, false, false, false, false, true, false, false, false, false, false, false, false, false, false, false, false, false, false, false, false, false, false, false, false, false, true, false, false, false, false, false, false, false, false, false, false, false, false, true, false, false, false, false, false, false, false, false, false, false, false, false, false, false, false] (T.anon (bouR a b lo hi e w)) = some ([(false, false), (false, false), (false, false), (false, false), (false, false), (false, false), (!mayB (cB (M lo 50) (wJ (50 + M hi 51))), false), (!mayB (cB (M lo 50) (wJ (50 + M hi 51))), false), (false, false), (bif bif (0 : Int) != (0 : Int) then true else decide (mostC (cB (M lo 50) (wJ (50 + M hi 51))) < (0 : Int)) then true else decide ((100 : Int) < (0 : Int)), false), (true, true), (false, false), (false, false), (false, false), (false, false), (decide ((M w 6) < (0 : Int)), false), (false, false), (false, false), (false, false), (bif !mayB (cB (M lo 50) (wJ (50 + M hi 51))) then true else !bif (0 : Int) == (0 : Int) then (0 : Int) == (0 : Int) else false, false), (!mayB (cB (M lo 50) (wJ (50 + M hi 51))), false), (false, false), (bif bif (0 : Int) != (0 : Int) then true else decide (mostC (cB (M lo 50) (wJ (50 + M hi 51))) < (0 : Int)) then true else decide ((100 : Int) < (0 : Int)), false), (true, true), (false, false), (false, false), (false, false), (false, false), (decide ((M e 6) < (0 : Int)), false), (false, false), (false, false), (false, false), (bif bif bif !mayB (cB (M lo 50) (wJ (50 + M hi 51))) then true else !bif (0 : Int) == (0 : Int) then (0 : Int) == (0 : Int) else false then true else !bif (0 : Int) == (0 : Int) then (0 : Int) == (0 : Int) else false then true else !bif decide ((4 : Int) < (5 : Int)) then wJ ((5 : Int) - (4 : Int)) == (1 : Int) else false, false), (bif decide ((M b 111) < (M lo 50)) then true else decide (mostC (cB (M lo 50) (wJ (50 + M hi 51))) < (M b 111)), false), (false, false), (decide ((M e 6) < (M w 6)), false), (false, false), (false, false), (bif decide ((M b 111) < (M lo 50)) then true else decide (wJ ((50 : Int) + (M hi 51)) < (M b 111)), false), (decide ((M e 6) < (M w 6)), false), (!mayB (cB (M lo 50) (wJ (50 + M hi 51))), false), (!mayB (cB (M lo 50) (wJ (50 + M hi 51))), false), (false, false), (bif bif (0 : Int) != (0 : Int) then true else decide (mostC (cB (M lo 50) (wJ (50 + M hi 51))) < (0 : Int)) then true else decide ((100 : Int) < (0 : Int)), false), (true, true), (false, false), (false, false), (false, false), (false, false), (decide ((M w 6) < (0 : Int)), false), (false, false), (false, false), (false, false), (bif !mayB (cB (M lo 50) (wJ (50 + M hi 51))) then true else !bif (0 : Int) == (0 : Int) then (0 : Int) == (0 : Int) else false, false), (!mayB (cB (M lo 50) (wJ (50 + M hi 51))), false), (false, false), (bif bif (0 : Int) != (0 : Int) then true else decide (mostC (cB (M lo 50) (wJ (50 + M hi 51))) < (0 : Int)) then true else decide ((100 : Int) < (0 : Int)), false), (true, true), (false, false), (false, false), (false, false), (false, false), (decide ((M e 6) < (0 : Int)), false), (false, false), (false, false), (false, false), (bif bif bif !mayB (cB (M lo 50) (wJ (50 + M hi 51))) then true else !bif (0 : Int) == (0 : Int) then (0 : Int) == (0 : Int) else false then true else !bif (0 : Int) == (0 : Int) then (0 : Int) == (0 : Int) else false then true else !bif decide ((4 : Int) < (5 : Int)) then wJ ((5 : Int) - (4 : Int)) == (1 : Int) else false, false), (bif decide ((M b 111) < (M lo 50)) then true else decide (mostC (cB (M lo 50) (wJ (50 + M hi 51))) < (M b 111)), false), (false, false), (decide ((M e 6) < (M w 6)), false), (false, false), (false, false), (decide ((M b 111) < (M a 111)), false)], V.s (S.bool (bif bif (0 : Int) == (0 : Int) then ((0 : Int) == (8 : Int)) == decide ((M b 111) < (M a 111)) else false then ((0 : Int) == (0 : Int)) == decide ((M a 111) ≤ (M b 111)) else false))) := by kernel_rfl
theorem bou_run (a b lo hi e w : Int) : (bouR a b lo hi e w).yes := by
  unfold T.yes
  rw [← T.eval_anon (t := bouR a b lo hi e w)]
  have ha := M_range a (m := 111) (by decide) (by decide)
  have hb := M_range b (m := 111) (by decide) (by decide)
  have hl := M_range lo (m := 50) (by decide) (by decide)
  have hh := M_range hi (m := 51) (by decide) (by decide)
  have he := M_range e (m := 6) (by decide) (by decide)
  have hw := M_range w (m := 6) (by decide) (by decide)
  have ew : wJ (50 + M hi 51) = 50 + M hi 51 := wrap64_in (by omega) (by omega)
  have w1 := bou_1 a b lo hi e w
  have w2 := bou_2 a b lo hi e w
  have w3 := bou_3 a b lo hi e w
  have w4 := bou_4 a b lo hi e w
  rw [ew] at w1 w2 w3 w4
  have hm := cB_may hl.1 hl.2 (show 50 ≤ 50 + M hi 51 by omega) (by omega)
  have hM : Conf.mostC (cB (M lo 50) (50 + M hi 51)) = 50 + M hi 51 := cB_most (by omega)
  rw [hm, hM] at w1 w2 w3 w4
  clear hm hM ew
  revert w1 w2 w3 w4 ha hb hl hh he hw
  generalize M a 111 = a
  generalize M b 111 = b
  generalize M lo 50 = lo
  generalize M hi 51 = hi
  generalize M e 6 = e
  generalize M w 6 = w
  intro ha hb hl hh he hw w1 w2 w3 w4
  have c1 : decide (50 + hi < 0) = false := decide_eq_false (by omega)
  have c2 : decide (w < 0) = false := decide_eq_false (by omega)
  have c3 : decide (e < 0) = false := decide_eq_false (by omega)
  rw [c1, c2, c3] at w1 w2 w3 w4
  by_cases q : b < lo ∨ 50 + hi < b
  · have q1 : (bif decide (b < lo) then true else decide (50 + hi < b)) = true := by
      rcases q with q | q
      · rw [decide_eq_true q]; rfl
      · rw [decide_eq_true q]; cases decide (b < lo) <;> rfl
    rw [q1] at w1
    exact .inr (T.path_eval w1 (allSay_of (by rfl)))
  · have q1 : decide (b < lo) = false := decide_eq_false (by omega)
    have q2 : decide (50 + hi < b) = false := decide_eq_false (by omega)
    rw [q1, q2] at w2 w3 w4
    by_cases q3 : e < w
    · rw [decide_eq_true q3] at w2
      exact .inr (T.path_eval w2 (allSay_of (by rfl)))
    · rw [decide_eq_false q3] at w3 w4
      right
      by_cases q4 : b < a
      · rw [decide_eq_true q4, decide_eq_false (show ¬ a ≤ b by omega)] at w3
        exact T.path_eval w3 (allSay_of (by rfl))
      · rw [decide_eq_false q4, decide_eq_true (show a ≤ b by omega)] at w4
        exact T.path_eval w4 (allSay_of (by rfl))
theorem bou_walk (a : Int) (_ : (Lit.int .i64 a).wf = true) (b : Int) (_ : (Lit.int .i64 b).wf = true) (lo : Int) (_ : (Lit.int .i64 lo).wf = true) (hi : Int) (_ : (Lit.int .i64 hi).wf = true) (e : Int) (_ : (Lit.int .i64 e).wf = true) (w : Int) (_ : (Lit.int .i64 w).wf = true) (W : World) :
    Calls Try.prog 17 #[.int .i64 a, .int .i64 b, .int .i64 lo, .int .i64 hi, .int .i64 e, .int .i64 w] W fun e w' => e = .returned (.bool true) ∧ Below W.heap.size W w' :=
  Law.law_rows (args := [.s (.int .i64 a), .s (.int .i64 b), .s (.int .i64 lo), .s (.int .i64 hi), .s (.int .i64 e), .s (.int .i64 w)]) (xs := [.int .i64 a, .int .i64 b, .int .i64 lo, .int .i64 hi, .int .i64 e, .int .i64 w]) (execS_plain U6_ok mixed Try.func17 (by kernel_rfl) (by kernel_rfl)) rfl (bou_run a b lo hi e w) W ⟨rfl, rfl, rfl, rfl, rfl, rfl, trivial⟩
end Go.Proofs.Ytebibmioiigplaa.Tow

