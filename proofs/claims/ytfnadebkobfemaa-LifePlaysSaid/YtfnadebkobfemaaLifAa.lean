/- Layer 21: Scale's contract; told. -/
import Derived.Test.YtfnadebkobfemaaLifZ
namespace Go.Proofs.Ytfnadebkobfemaa.Lif
open Go.Eng Go.RowKit
set_option linter.unusedVariables false
set_option linter.unusedSimpArgs false
theorem cnt_append (a b : List R4) : cnt (a ++ b) = cnt a + cnt b := by unfold cnt; rw [List.filter_append, List.length_append]
theorem cnt_newP (now : Int) : ∀ (n : Nat) (m : Int), cnt (newP now n m) = n
  | 0, m => rfl
  | n + 1, m => by
    have := cnt_newP now n (m + 1)
    unfold cnt at *
    rw [show newP now (n + 1) m = (m, 1, 0, now) :: newP now n (m + 1) from rfl, List.filter_cons_of_pos (by rfl), List.length_cons, this]
def okSc (m : Int) (n : Nat) (l : List R4) : Bool := okN n l && decide (l.length ≤ 10000 ∧ 0 ≤ m ∧ m ≤ 1000000000)
theorem outS_no {want now : Int} (h : outS want now = false) : 0 ≤ want ∧ want ≤ 100 ∧ 0 ≤ now ∧ now ≤ 1099511627776 := by
  unfold outS at h
  rw [cond_or, cond_or, cond_or] at h
  simp only [Bool.or_eq_false_iff, decide_eq_false_iff_not] at h
  omega
theorem scaE_run {m want now : Int} {n : Nat} {l : List R4} (h : okSc m n l = true) (ho : outS want now = false) : (scaE [.ptr 0 0, iv want, iv now] (hL m n l)).eval = some (iv 0, hK 2000 (scaleM m l want) (scaleL m l want now).length (scaleL m l want now)) := by
  obtain ⟨ha, hb⟩ := (Bool.and_eq_true _ _).mp h
  obtain ⟨h1, h2⟩ := okN_is ha
  obtain ⟨h3, h4, h5⟩ := of_decide_eq_true hb
  obtain ⟨w1, w2, w3, w4⟩ := outS_no ho
  have hc := cnt_le l
  have z1 : IntKind.wrap .i64 (want - cnt l) = want - cnt l := wrap64_in (by omega) (by omega)
  have h0 : okSa (pSa m want now l) ⟨m, n, l, 0⟩ := ⟨by show IntKind.wrap .i64 (want - cnt l) ≤ 100; rw [z1]; omega, h4, h5, h3, Int.le_refl _, by show (0 : Int) ≤ max _ 0; omega, h1, by show l = l ++ newP now 0 m; simp [newP], by show m = m + 0; omega⟩
  obtain ⟨k1, k2⟩ := endC stepSa h0
  obtain ⟨_, _, _, _, a5, a6, a7, a8, a9⟩ := k1
  have k2' : ¬ (eSa m want now n l).i < IntKind.wrap .i64 (want - cnt l) := of_decide_eq_false k2
  have a6' : (eSa m want now n l).i ≤ max (IntKind.wrap .i64 (want - cnt l)) 0 := a6
  have a5' : 0 ≤ (eSa m want now n l).i := a5
  rw [z1] at k2' a6'
  have ai : (eSa m want now n l).i = ((want - cnt l).toNat : Int) := by omega
  have al : (eSa m want now n l).l = l ++ newP now (want - cnt l).toNat m := by
    have : (eSa m want now n l).l = l ++ newP now (eSa m want now n l).i.toNat m := a8
    rw [this, ai, Int.toNat_natCast]
  have am : (eSa m want now n l).m = scaleM m l want := by
    have : (eSa m want now n l).m = m + (eSa m want now n l).i := a9
    rw [this, ai]; rfl
  have a7' : (eSa m want now n l).n = (eSa m want now n l).l.length := a7
  have hcl : cnt (eSa m want now n l).l = cnt l + (want - cnt l).toNat := by rw [al, cnt_append, cnt_newP]
  have hll : (eSa m want now n l).l.length ≤ 100000 := by rw [al, List.length_append, newP_len]; omega
  have z2 : IntKind.wrap .i64 (cnt (eSa m want now n l).l - want) = cnt (eSa m want now n l).l - want := wrap64_in (by omega) (by omega)
  have h0b : okSb (pSb m want now n l) ⟨(eSa m want now n l).m, (eSa m want now n l).n, (eSa m want now n l).l, 0⟩ := ⟨by show IntKind.wrap .i64 (cnt (eSa m want now n l).l - want) ≤ 100000; rw [z2]; omega, hll, Int.le_refl _, by show (0 : Int) ≤ max _ 0; omega, a7, rfl⟩
  obtain ⟨b1, b2⟩ := endC stepSb h0b
  obtain ⟨_, _, c3, c4, c5, c6⟩ := b1
  refine (T.path_eval (waySc0 m want now n l) ⟨ho, ha, invC_is h0, decide_eq_true ⟨a7, hll⟩, invC_is h0b, trivial⟩).trans ?_
  have b2' : ¬ (eSb m want now n l).i < IntKind.wrap .i64 (cnt (eSa m want now n l).l - want) := of_decide_eq_false b2
  have c4' : (eSb m want now n l).i ≤ max (IntKind.wrap .i64 (cnt (eSa m want now n l).l - want)) 0 := c4
  have c3' : 0 ≤ (eSb m want now n l).i := c3
  rw [z2] at b2' c4'
  have bi : (eSb m want now n l).i.toNat = ((cnt l : Int) - want).toNat := by omega
  have bl : (eSb m want now n l).l = scaleL m l want now := by
    have : (eSb m want now n l).l = disN now (eSb m want now n l).i.toNat (eSa m want now n l).l := c6
    rw [this, bi, al]; rfl
  have bn : (eSb m want now n l).n = (eSb m want now n l).l.length := c5
  have bm : (eSb m want now n l).m = scaleM m l want := by
    have := (endW_says (nxt := nxtC okSb goSb rdSb FSb muSb (pSb m want now n l)) (I := okSb (pSb m want now n l)) (μ := muSb (pSb m want now n l)) (fun a b ha hb => ⟨(nxtC_some hb).2.2.1, (nxtC_some hb).2.2.2⟩) h0b).2.2 (fun a => a.m = (eSa m want now n l).m) rfl (fun a b ha hq hb => by
      obtain ⟨g1, g2, g3, g4⟩ := nxtC_some hb
      obtain ⟨b', s1, s2, s3⟩ : ∃ b', (rdSb (pSb m want now n l) a).eval = some (.normal, FSb (pSb m want now n l) b') ∧ b'.m = a.m ∧ True := by
        obtain ⟨h1, h2, h3, h4, h5, h6⟩ := id ha
        have hl : a.l.length ≤ 100000 := by rw [h6]; exact Nat.le_trans (disN_len _ _ _) h2
        exact ⟨_, T.path_eval (waySb (pSb m want now n l) a) ⟨g1, decide_eq_true ⟨h5, hl⟩, trivial⟩, rfl, trivial⟩
      have e := s1.symm.trans g2
      simp only [Option.some.injEq, Prod.mk.injEq, true_and] at e
      have e2 : FSb (pSb m want now n l) b' = FSb (pSb m want now n l) b := e
      have e3 : b'.m = b.m := by
        unfold FSb mkSt at e2
        simp only [St.mk.injEq, bsSb, zipK, keysR, List.map_cons, List.map_nil, List.cons.injEq, Prod.mk.injEq, Blk.cells.injEq, V.s.injEq, iv, S.int.injEq, true_and] at e2
        exact e2.2.1.1.1
      rw [← e3, s2]; exact hq)
    exact this.trans am
  rw [bl] at bn
  rw [bm, bn, bl]
noncomputable def scaC (args : List V) (h : Heap) : T (V × Heap) := match args with
  | [.ptr 0 0, .s (.int .i64 want), .s (.int .i64 now)] => opt (dH h) fun x => .ite none (okSc x.1 x.2.1 x.2.2) (.ite none (outS want now) (.ret (iv 1, hL x.1 x.2.1 x.2.2)) (.ret (iv 0, hK 2000 (scaleM x.1 x.2.2 want) (scaleL x.1 x.2.2 want now).length (scaleL x.1 x.2.2 want now)))) .fail
  | _ => .fail
theorem scaC_ok : ObjOk Try.prog 25 scaC := scaE_ok.of_eval fun args h v hv => by
  unfold scaC at hv
  split at hv
  · rename_i want now
    obtain ⟨⟨m, n, l⟩, hd, hv⟩ := opt_eval hv
    have := dH_ok hd
    subst this
    obtain ⟨hc, hv⟩ := ite_some hv
    have hc : okSc m n l = true := hc
    cases ho : outS want now
    · simp only [ho, T.eval, cond_false, Option.some.injEq] at hv
      subst hv
      exact scaE_run hc ho
    · simp only [ho, T.eval, cond_true, Option.some.injEq] at hv
      subst hv
      exact T.path_eval (waySc1 m want now n l) ⟨ho, trivial⟩
  · cases hv
/-! ### told -/
noncomputable def cntD : Eng.Obj := execO J0 (rounds J0 4 1) 30
theorem cntD_ok : ObjOk Try.prog 30 cntD := execO_rounds J0_ok mixed 4 1 Try.func30 (by kernel_rfl) (by kernel_rfl)
noncomputable def finD : Eng.Obj := execO J0 (rounds J0 4 1) 74
theorem finD_ok : ObjOk Try.prog 74 finD := execO_rounds J0_ok mixed 4 1 Try.func74 (by kernel_rfl) (by kernel_rfl)
noncomputable def ripD : Eng.Obj := execO J0 (rounds J0 4 1) 26
theorem ripD_ok : ObjOk Try.prog 26 ripD := execO_rounds J0_ok mixed 4 1 Try.func26 (by kernel_rfl) (by kernel_rfl)
noncomputable def spaD : Eng.Obj := execO J3 (rounds J3 4 1) 95
theorem spaD_ok : ObjOk Try.prog 95 spaD := execO_rounds J3_ok mixed 4 1 Try.func95 (by kernel_rfl) (by kernel_rfl)
noncomputable def J4d : Cfg := ⟨Try.prog, lookG [(74, .obj finD.plain), (75, .obj (Obj.plain remL)), (95, .obj spaD.plain)], [], 0⟩
theorem J4d_ok : J4d.Ok := Cfg.ok ⟨finD_ok.plain, remL_ok.plain, spaD_ok.plain, trivial⟩ trivial
noncomputable def disD : Eng.Obj := execO J4d noLoops 73
theorem disD_ok : ObjOk Try.prog 73 disD := execO_plain J4d_ok mixed Try.func73 (by kernel_rfl) (by kernel_rfl)
noncomputable def entD : Eng.Obj := execO J4d noLoops 27
theorem entD_ok : ObjOk Try.prog 27 entD := execO_plain J4d_ok mixed Try.func27 (by kernel_rfl) (by kernel_rfl)
noncomputable def leaD : Eng.Obj := execO J4d noLoops 29
theorem leaD_ok : ObjOk Try.prog 29 leaD := execO_plain J4d_ok mixed Try.func29 (by kernel_rfl) (by kernel_rfl)
noncomputable def J5d : Cfg := ⟨Try.prog, lookG [(30, .obj cntD.plain), (73, .obj disD.plain)], [], 0⟩
theorem J5d_ok : J5d.Ok := Cfg.ok ⟨cntD_ok.plain, disD_ok.plain, trivial⟩ trivial
noncomputable def scaD : Eng.Obj := execO J5d (rounds J5d 4 1) 25
theorem scaD_ok : ObjOk Try.prog 25 scaD := execO_rounds J5d_ok mixed 4 1 Try.func25 (by kernel_rfl) (by kernel_rfl)
noncomputable def JT : Cfg := ⟨Try.prog, lookG [(24, .obj newL.plain), (25, .obj scaD.plain), (27, .obj entD.plain), (29, .obj leaD.plain), (26, .obj ripD.plain), (31, .obj (Obj.plain allL)), (30, .obj cntD.plain), (28, .obj (Obj.plain craC))], [39], 0⟩
theorem JT_ok : JT.Ok := Cfg.ok ⟨newL_ok.plain, scaD_ok.plain, entD_ok.plain, leaD_ok.plain, ripD_ok.plain, allL_ok.plain, cntD_ok.plain, craC_ok.plain, trivial⟩ ⟨⟨by kernel_rfl, by kernel_rfl⟩, trivial⟩
theorem told_run : (execS JT noLoops 32 []).eval = some (.s (.bool true)) := by kernel_rfl
end Go.Proofs.Ytfnadebkobfemaa.Lif
