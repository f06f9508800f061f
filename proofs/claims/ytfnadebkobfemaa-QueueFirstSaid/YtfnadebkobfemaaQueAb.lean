/- Layer 20: Late. -/
import Derived.Test.YtfnadebkobfemaaQueAa
namespace Go.Proofs.Ytfnadebkobfemaa.Que
open Go.Eng Go.RowKit
set_option linter.unusedVariables false
set_option linter.unusedSimpArgs false
def wB (t now age : Int) : Bool := bif decide (t ≤ now) then decide (IntKind.wrap .u64 (if 0 > age then 0 else age) ≤ IntKind.wrap .u64 (IntKind.wrap .u64 now - IntKind.wrap .u64 t)) else false
def bL (p : PL) (a : AL) : AL := ⟨Int.toNat (a.n : Int) - Int.toNat 1, (a.l.drop (Int.toNat 1)).take (Int.toNat (a.n : Int) - Int.toNat 1), List.take a.j a.W ++ [(g2w a.l 0).1], a.j + [(g2w a.l 0).1].length⟩
theorem wayL (p : PL) (a : AL) : T.path [false, true, true, false, true, true] (rdL p a) = some ([((a.n : Int) == 0, false), (decide ((0 : Int) ≤ 0) && (decide ((0 : Int) < (a.n : Int)) && decide (0 + Int.toNat 0 < a.l.length)), true), (decide (0 + Int.toNat 0 < a.l.length), true), (!(wB (g2w a.l 0).2 p.now p.age), false),
  (decide ((0 : Int) ≤ 1) && (decide ((1 : Int) ≤ (a.n : Int)) && (decide ((a.n : Int) ≤ (a.n : Int)) && decide (a.n ≤ a.l.length))), true), (true && (decide (a.j ≤ a.W.length) && decide (a.j + [(g2w a.l 0).1].length ≤ 1000000)), true)], (.normal, FL p (bL p a))) := by
  obtain ⟨d, u, now, age⟩ := p
  cases u <;> kernel_rfl
theorem wayL0 (p : PL) (a : AL) : T.path [true] (rdL p a) = some ([((a.n : Int) == 0, true)], (.ret, XL p a)) := by
  obtain ⟨d, u, now, age⟩ := p
  cases u <;> kernel_rfl
theorem wayL1 (p : PL) (a : AL) : T.path [false, true, true, true] (rdL p a) = some ([((a.n : Int) == 0, false), (decide ((0 : Int) ≤ 0) && (decide ((0 : Int) < (a.n : Int)) && decide (0 + Int.toNat 0 < a.l.length)), true), (decide (0 + Int.toNat 0 < a.l.length), true), (!(wB (g2w a.l 0).2 p.now p.age), true)], (.ret, XL p a)) := by
  obtain ⟨d, u, now, age⟩ := p
  cases u <;> kernel_rfl
def okL (p : PL) (a : AL) : Prop := a.n = a.l.length ∧ a.j = a.W.length ∧ a.l.length + a.W.length ≤ 1000
def goL (p : PL) (a : AL) : Bool := !((a.n : Int) == 0) && wB (g2w a.l 0).2 p.now p.age
def nxtL (p : PL) (a : AL) : Option AL := if goL p a = true then some (bL p a) else none
def muL (p : PL) (a : AL) : Nat := a.l.length
noncomputable def outL (p : PL) (a : AL) : T (Ex × St) := .ret (.ret, XL p a)
theorem tail_is {a : AL} (h : a.n = a.l.length) (h2 : a.j = a.W.length) (p : PL) : bL p a = ⟨a.l.length - 1, a.l.tail, a.W ++ [(g2w a.l 0).1], a.W.length + 1⟩ := by
  unfold bL
  have e1 : Int.toNat 1 = 1 := rfl
  have e2 : Int.toNat (a.n : Int) = a.n := Int.toNat_natCast _
  rw [e1, e2, h, h2, List.take_length, List.drop_one, List.take_of_length_le (by rw [List.length_tail]; exact Nat.le_refl _)]
  rfl
theorem stL (p : PL) (a b : AL) (h : invC okL p a = true) (e : nxtL p a = some b) : invC okL p b = true ∧ muL p b < muL p a := by
  obtain ⟨h1, h2, h3⟩ := invC_ok h
  unfold nxtL at e
  split at e
  · rename_i hg
    obtain rfl := Option.some.inj e
    unfold goL at hg
    simp only [Bool.and_eq_true, Bool.not_eq_true', beq_eq_false_iff_ne] at hg
    have hl : 0 < a.l.length := by omega
    rw [tail_is h1 h2]
    refine ⟨invC_is ⟨?_, ?_, ?_⟩, ?_⟩
    · show a.l.length - 1 = a.l.tail.length; rw [List.length_tail]
    · show a.W.length + 1 = (a.W ++ [(g2w a.l 0).1]).length; simp
    · show a.l.tail.length + (a.W ++ [(g2w a.l 0).1]).length ≤ 1000; rw [List.length_tail, List.length_append, List.length_singleton]; omega
    · show a.l.tail.length < a.l.length; rw [List.length_tail]; omega
  · cases e
theorem hrL (p : PL) (a : AL) (h : invC okL p a = true) : (∀ b, nxtL p a = some b → (rdL p a).eval = some (.normal, FL p b)) ∧ (nxtL p a = none → ∀ r, (outL p a).eval = some r → r.1 ≠ .normal ∧ (rdL p a).eval = some r) := by
  obtain ⟨h1, h2, h3⟩ := invC_ok h
  have cs : (a.n : Int) ≠ 0 → (decide ((0 : Int) ≤ 0) && (decide ((0 : Int) < (a.n : Int)) && decide (0 + Int.toNat 0 < a.l.length))) = true ∧ decide (0 + Int.toNat 0 < a.l.length) = true := by
    intro hn
    have : 0 + Int.toNat 0 < a.l.length := by show 0 + 0 < a.l.length; omega
    rw [decide_eq_true (show (0 : Int) < (a.n : Int) by omega), decide_eq_true this]
    exact ⟨rfl, rfl⟩
  refine ⟨fun b hb => ?_, fun hn r hr => ?_⟩
  · unfold nxtL at hb
    split at hb
    · rename_i hg
      obtain rfl := Option.some.inj hb
      unfold goL at hg
      simp only [Bool.and_eq_true, Bool.not_eq_true'] at hg
      have hn : (a.n : Int) ≠ 0 := beq_eq_false_iff_ne.1 hg.1
      refine T.path_eval (wayL p a) ⟨hg.1, (cs hn).1, (cs hn).2, by rw [hg.2]; rfl, ?_, ?_, trivial⟩
      · rw [decide_eq_true (show (1 : Int) ≤ (a.n : Int) by omega), decide_eq_true (Int.le_refl (a.n : Int)), decide_eq_true (show a.n ≤ a.l.length by omega)]; rfl
      · rw [decide_eq_true (show a.j ≤ a.W.length by omega), decide_eq_true (show a.j + [(g2w a.l 0).1].length ≤ 1000000 by simp; omega)]; rfl
    · cases hb
  · obtain rfl := Option.some.inj hr
    refine ⟨by simp, ?_⟩
    unfold nxtL at hn
    split at hn
    · cases hn
    · rename_i hg
      unfold goL at hg
      cases q : ((a.n : Int) == 0)
      · rw [q] at hg
        have hw : wB (g2w a.l 0).2 p.now p.age = false := by simpa using hg
        have hn : (a.n : Int) ≠ 0 := beq_eq_false_iff_ne.1 q
        exact T.path_eval (wayL1 p a) ⟨q, (cs hn).1, (cs hn).2, by rw [hw]; rfl, trivial⟩
      · exact T.path_eval (wayL0 p a) ⟨q, trivial⟩
def decL : List V → List Blk → Option (PL × AL)
  | [.ptr 0 0, .s (.int .i64 now), .s (.int .i64 age), .sub 1001 1 0 j], [.cells t0 [.s (.int .i64 d), .nilIface, .sub 1000 2 0 n], .lst true t1 [.int .i64, .int .i64] l, .lst true t2 [.int .i64] W] =>
    if t0 = 100 then if t1 = 103 then if t2 = 3 then some (⟨d, none, now, age⟩, ⟨n, l, W, j⟩) else none else none else none
  | [.ptr 0 0, .s (.int .i64 now), .s (.int .i64 age), .sub 1001 1 0 j], [.cells t0 [.s (.int .i64 d), .iface ti (.s (.int .i64 u)), .sub 1000 2 0 n], .lst true t1 [.int .i64, .int .i64] l, .lst true t2 [.int .i64] W] =>
    if ti = 2 then if t0 = 100 then if t1 = 103 then if t2 = 3 then some (⟨d, some u, now, age⟩, ⟨n, l, W, j⟩) else none else none else none else none
  | _, _ => none
theorem decL_ok (l : List V) (b : List Blk) (d : PL × AL) (h : decL l b = some d) : l = vsL d.1 d.2 ∧ b = bsL d.1 d.2 := by
  unfold decL at h
  split at h
  · split at h
    · rename_i ht0
      split at h
      · rename_i ht1
        split at h
        · rename_i ht2
          subst ht0 ht1 ht2
          cases h
          exact ⟨rfl, rfl⟩
        · cases h
      · cases h
    · cases h
  · split at h
    · rename_i hti
      split at h
      · rename_i ht0
        split at h
        · rename_i ht1
          split at h
          · rename_i ht2
            subst hti ht0 ht1 ht2
            cases h
            exact ⟨rfl, rfl⟩
          · cases h
        · cases h
      · cases h
    · cases h
  · cases h
noncomputable def famLt : LSpec := famXW [0,1,2,7] SL0 SL1 1000 1002 41 decL (invC okL) nxtL outL
theorem lqL_ok : LoopOk J1 lqL famLt := famXW_ok (T1 := [6]) (vs := vsL) (bs := bsL) J1_ok mixed (noLoops_ok _) decL_ok muL stL fun p a h => by
  have e : (roundX J1 noLoops lqL [0,1,2,7] SL0 [6] SL1 1000 1002 (mkSt [0,1,2,7] (keysR SL0) 1002 41 (vsL p a) (bsL p a))).eval = (rdL p a).eval := by unfold rdL; rw [T.eval_anon]
  rw [e]
  exact hrL p a h
noncomputable def qllist : List (Nat × LSpec) := [(4, famLt)]
theorem qlreg : firstReg lqL = some 4 := by kernel_rfl
noncomputable def lateQ : Eng.Obj := execO J1 (byReg qllist) 21
theorem lateQ_ok : ObjOk Try.prog 21 lateQ := execO_loops J1_ok mixed Try.func21 (by kernel_rfl) (by kernel_rfl) (one_lp (c := lqL) (by kernel_rfl) qlreg lqL_ok)
end Go.Proofs.Ytfnadebkobfemaa.Que
