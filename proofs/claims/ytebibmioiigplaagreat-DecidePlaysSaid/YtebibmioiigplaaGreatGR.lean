import Derived.Test.YtebibmioiigplaaGreatGQ
/- Layer 17: what is wanted lies within its bounds. -/
namespace Go.Proofs.YtebibmioiigplaaGreat.Dec
open Go.Eng Go.RowKit Mil Rin
set_option linter.unusedVariables false
set_option linter.unusedSimpArgs false
theorem boundI_range {c : Conf.Cf} (hm : Conf.mayB c = true) (n : Int) : c.min ≤ boundI c n ∧ boundI c n ≤ Conf.mostC c := by
  have may := Conf.may_of hm
  have h1 := may.min
  have h2 := may.max
  have h3 : c.min ≤ Conf.mostC c := by
    unfold Conf.mostC; split <;> omega
  unfold boundI
  repeat' split
  all_goals omega
theorem mostC_range {c : Conf.Cf} (hm : Conf.mayB c = true) : c.min ≤ Conf.mostC c ∧ 1 ≤ Conf.mostC c ∧ Conf.mostC c ≤ 100 := by
  have may := Conf.may_of hm
  have h1 := may.min
  have h2 := may.max
  unfold Conf.mostC; split <;> omega
theorem boundI_mono (c : Conf.Cf) {a b : Int} (h : a ≤ b) : boundI c a ≤ boundI c b := by
  unfold boundI
  repeat' split
  all_goals omega
theorem nx_panic {b : Bool} {d : DcS} {t r : Int} (h : 0 ≤ (nxK b d t r).since) : nxW b d t r = boundI d.c (nxK b d t r).most := by
  have hs : (nxK b d t r).since = (nxM d t r).since := keep_since _ _
  rw [hs] at h
  unfold nxW
  congr 1
  unfold nxQ nxK
  generalize (nxM d t r).most = mo at *
  revert h
  generalize (nxM d t r).since = si
  intro h
  unfold Conf.keepW Conf.keepA
  have hn : ¬ si < 0 := by omega
  simp only [hn, if_false]
theorem nx_calm {b : Bool} {d : DcS} {t r : Int} (h : ¬ 0 ≤ (nxM d t r).since) : nxW b d t r = boundI d.c (nxF b d t r) := by
  unfold nxW
  congr 1
  unfold nxQ Conf.keepW
  show (if (nxM d t r).since < 0 then _ else _) = _
  rw [if_pos (by omega)]
theorem nx_keep {b : Bool} {d : DcS} {t r : Int} (h0 : 0 ≤ d.si) (h : 0 ≤ (nxK b d t r).since) : d.mo ≤ (nxK b d t r).most := by
  have hs : (nxK b d t r).since = (nxM d t r).since := keep_since _ _
  rw [hs] at h
  have hm : (nxM d t r).most = d.mo := by
    unfold nxM Conf.nextA at h ⊢
    split
    · rfl
    · split
      · show (if d.si < 0 then 0 else d.mo) = d.mo; rw [if_neg (by omega)]
      · split
        · rfl
        · split
          · rename_i h1 h2 h3 h4
            rw [if_neg h1, if_neg h2, if_neg h3, if_pos h4] at h
            exact absurd h (by show ¬ (0 : Int) ≤ -1; omega)
          · rfl
  rw [← hm]
  unfold nxK Conf.keepA
  show _ ≤ (if (nxM d t r).since < 0 then _ else _ : Conf.Md).most
  rw [if_neg (by omega)]
  show _ ≤ (if _ > (nxM d t r).most then _ else (nxM d t r).most)
  split <;> omega
theorem nxN_bd {d : DcS} (hm : Conf.mayB d.c = true) (b : Bool) (t r : Int) : 0 ≤ nxN b d t r ∧ nxN b d t r ≤ 1000000 := by
  have l1 := limit_bd hm (ofC_bd d.c (d.s.mean t)).1 (ofC_bd d.c (d.s.mean t)).2 r
  have l2 := limit_bd hm (ofC_bd d.c (d.q.mean t)).1 (ofC_bd d.c (d.q.mean t)).2 r
  unfold nxN calmy hasty
  cases b
  · exact l1
  · simp only [cond_true]; split
    · exact l2
    · exact l1
/-- with no delay, what was just put -/
theorem nxF_now {d : DcS} {m : Nat} (h : DcG d m) (hsp : d.sp = 0) {t r : Int} (ht : d.la < t) (t1 : t ≤ 1099511627776) (b : Bool) : nxF b d t r = nxN b d t r := by
  obtain ⟨L, hh⟩ := h.h
  have al := h.al
  have la := h.la
  obtain ⟨n0, n1⟩ := nxN_bd h.may b t r
  have hp := hh.put (t := t) (w := nxN b d t r) (by omega) t1 n0 n1
  have ex : Dly.thr (Dly.mx0 t) d.sp = t := by
    unfold Dly.thr Dly.mx0
    rw [hsp, if_neg (by omega)]; omega
  have e2 : Dly.mS t L = 0 := Dly.mS_out fun s hs => by have := (hh.T s hs).2; omega
  have e3 : Dly.mS t [(t, nxN b d t r)] = nxN b d t r := by
    show max (Dly.vS t (t, nxN b d t r)) 0 = _
    unfold Dly.vS; rw [if_pos (Int.le_refl _)]; show max (nxN b d t r) 0 = _; omega
  unfold nxF nxL
  rw [ex, Dly.fS_mS _ hp.dec, hp.m t (by omega), Dly.mS_app, e2, e3]
  omega
theorem limit_mid {c : Conf.Cf} (hm : Conf.mayB c = true) (w : Int) {r : Int} (r0 : 0 ≤ r) (r1 : r ≤ 100) : Conf.leastR c r ≤ Conf.limitR c w r ∧ Conf.limitR c w r ≤ Conf.mostR c r := by
  obtain ⟨h1, h2, _⟩ := Conf.rate_between (Conf.may_of hm) r0 (show r ≤ 900000 by omega)
  unfold Conf.limitR
  rw [if_pos hm]
  unfold Conf.midR
  repeat' split
  all_goals omega
/-- out of panic and with no delay: by the rates alone -/
theorem nx_rates {d : DcS} {m : Nat} (h : DcG d m) (hsp : d.sp = 0) {t r : Int} (ht : d.la < t) (t1 : t ≤ 1099511627776) (r0 : 0 ≤ r) (r1 : r ≤ 100) (b : Bool) (hb : decide (0 ≤ (nxM d t r).since) = b) (hp : ¬ 0 ≤ (nxM d t r).since) :
    nxW b d t r = boundI d.c (Conf.limitR d.c (calmy d t) r) := by
  have hb : b = false := by rw [← hb]; exact decide_eq_false hp
  subst hb
  rw [nx_calm hp, nxF_now h hsp ht t1]; rfl
theorem bound_rates {c : Conf.Cf} (hm : Conf.mayB c = true) (w : Int) {r : Int} (r0 : 0 ≤ r) (r1 : r ≤ 100) : boundI c (Conf.limitR c w r) ≤ max c.min (Conf.mostR c r) ∧ min (Conf.mostC c) (Conf.leastR c r) ≤ boundI c (Conf.limitR c w r) := by
  obtain ⟨h1, h2⟩ := limit_mid hm w r0 r1
  obtain ⟨h3, _⟩ := mostC_range hm
  unfold boundI
  repeat' split
  all_goals omega
end Go.Proofs.YtebibmioiigplaaGreat.Dec

/- Layer 26: what is told of a few: closed runs. -/
namespace Go.Proofs.YtebibmioiigplaaGreat.Dec
open Go.Eng Go.RowKit Mil Rin
set_option linter.unusedVariables false
set_option linter.unusedSimpArgs false
set_option maxRecDepth 100000
noncomputable def SA : Cfg := ⟨Tryz.prog, lookG [(24, .val Conf.mayS)], [], 0⟩
theorem SA_ok : SA.Ok := Cfg.ok ⟨Conf.may_ok, trivial⟩ trivial
noncomputable def sofE : Eng.Obj := execO SA noLoops 53
theorem sofE_ok : ObjOk Tryz.prog 53 sofE := execO_plain SA_ok mixed Tryz.func53 (by kernel_rfl) (by kernel_rfl)
noncomputable def SB : Cfg := ⟨Tryz.prog, lookG [(53, .obj sofE), (55, .val Conf.ofS), (37, .val Conf.mostS)], [], 0⟩
theorem SB_ok : SB.Ok := Cfg.ok ⟨sofE_ok, Conf.of_ok, Conf.most_ok, trivial⟩ trivial
noncomputable def aimE : Eng.Obj := execO SB noLoops 20
theorem aimE_ok : ObjOk Tryz.prog 20 aimE := execO_plain SB_ok mixed Tryz.func20 (by kernel_rfl) (by kernel_rfl)
noncomputable def ticE : Eng.Obj := execO SB noLoops 22
theorem ticE_ok : ObjOk Tryz.prog 22 ticE := execO_plain SB_ok mixed Tryz.func22 (by kernel_rfl) (by kernel_rfl)
noncomputable def SY : Cfg := ⟨Tryz.prog, lookG [(53, .obj sofE), (5, .obj (Eng.Obj.plain dneT)), (12, .obj (Eng.Obj.plain nexT)), (8, .obj (Eng.Obj.plain dputT))], [], 0⟩
theorem SY_ok : SY.Ok := Cfg.ok ⟨sofE_ok, dneT_ok.plain, nexT_ok.plain, dputT_ok.plain, trivial⟩ trivial
noncomputable def runT : Eng.Obj := execO SY (rounds SY 4 1) 17
theorem runT_ok : ObjOk Tryz.prog 17 runT := execO_rounds SY_ok mixed 4 1 Tryz.func17 (by kernel_rfl) (by kernel_rfl)
noncomputable def SZ : Cfg := ⟨Tryz.prog, lookG [(17, .obj (Eng.Obj.plain runT)), (20, .obj (Eng.Obj.plain aimE)), (22, .obj (Eng.Obj.plain ticE)), (31, .val Conf.dfltS)], [], 0⟩
theorem SZ_ok : SZ.Ok := Cfg.ok ⟨runT_ok.plain, aimE_ok.plain, ticE_ok.plain, Conf.refdflt_ok, trivial⟩ trivial
noncomputable def tol26 : Eng.Spec := execS SZ noLoops 19
theorem tol26_ok : SpecOk Tryz.prog 19 tol26 := execS_plain SZ_ok mixed Tryz.func19 (by kernel_rfl) (by kernel_rfl)
end Go.Proofs.YtebibmioiigplaaGreat.Dec

/- Layer 26: what is told of a few. -/
namespace Go.Proofs.YtebibmioiigplaaGreat.Dec
open Go.Eng Go.RowKit Mil Rin
set_option linter.unusedVariables false
set_option linter.unusedSimpArgs false
set_option maxRecDepth 100000
theorem tol26_run : (tol26 []).eval = some (.s (.bool true)) := by kernel_rfl
theorem told26_ok : SpecOk Tryz.prog 19 yesR :=
  tol26_ok.of_den fun args v _ h => by
    unfold yesR at h
    split at h
    · simp only [T.eval, Option.some.injEq] at h
      subst h
      exact ⟨_, tol26_run, ⟨rfl, rfl⟩, rfl⟩
    · cases h
end Go.Proofs.YtebibmioiigplaaGreat.Dec

