/- Layer 21: Scale, told plainly; told. -/
import Derived.Test.YtfnadebkobfemaaLifY
namespace Go.Proofs.Ytfnadebkobfemaa.Lif
open Go.Eng Go.RowKit
set_option linter.unusedVariables false
set_option linter.unusedSimpArgs false
theorem waySa (p : PSa) (a : ASa) : T.path [true, true] (rdSa p a) = some ([(decide (a.i < p.z), true), (apC a.n a.l (a.m, 1, 0, p.now), true)], (.normal, FSa p ⟨IntKind.wrap .i64 (a.m + 1), a.n + [((a.m, 1, 0, p.now) : R4)].length, List.take a.n a.l ++ [((a.m, 1, 0, p.now) : R4)], IntKind.wrap .i64 (a.i + 1)⟩)) := by kernel_rfl
theorem waySax (p : PSa) (a : ASa) : T.path [false] (rdSa p a) = some ([(decide (a.i < p.z), false)], (.exit 0, FSa p a)) := by kernel_rfl
def okSa (p : PSa) (a : ASa) : Prop := p.z ≤ 100 ∧ 0 ≤ p.m0 ∧ p.m0 ≤ 1000000000 ∧ p.l0.length ≤ 10000 ∧ 0 ≤ a.i ∧ a.i ≤ max p.z 0 ∧ a.n = a.l.length ∧ a.l = p.l0 ++ newP p.now a.i.toNat p.m0 ∧ a.m = p.m0 + a.i
def goSa (p : PSa) (a : ASa) : Bool := decide (a.i < p.z)
def muSa (p : PSa) (a : ASa) : Nat := (p.z - a.i).toNat
theorem stepSa (p : PSa) (a : ASa) (h : okSa p a) (hg : goSa p a = true) : ∃ b, stepC okSa rdSa FSa muSa p a b := by
  obtain ⟨h1, h2, h3, h4, h5, h6, h7, h8, h9⟩ := id h
  have hi : a.i < p.z := of_decide_eq_true hg
  have hw : IntKind.wrap .i64 (a.i + 1) = a.i + 1 := wrap64_in (by omega) (by omega)
  have hm : IntKind.wrap .i64 (a.m + 1) = a.m + 1 := wrap64_in (by omega) (by omega)
  have hl : a.l.length ≤ 100000 := by rw [h8, List.length_append, newP_len]; omega
  refine ⟨_, T.path_eval (waySa p a) ⟨hg, apC_is _ h7 hl, trivial⟩, ⟨h1, h2, h3, h4, ?_, ?_, ?_, ?_, ?_⟩, ?_⟩
  · show 0 ≤ IntKind.wrap .i64 (a.i + 1); rw [hw]; omega
  · show IntKind.wrap .i64 (a.i + 1) ≤ _; rw [hw]; omega
  · show a.n + 1 = (List.take a.n a.l ++ [_]).length
    rw [h7, List.take_length]; simp
  · show List.take a.n a.l ++ [(a.m, 1, 0, p.now)] = p.l0 ++ newP p.now (IntKind.wrap .i64 (a.i + 1)).toNat p.m0
    rw [hw, show (a.i + 1).toNat = a.i.toNat + 1 by omega, newP_succ, h7, List.take_length, ← List.append_assoc, ← h8, h9, show p.m0 + (a.i.toNat : Int) = p.m0 + a.i by omega]
  · show IntKind.wrap .i64 (a.m + 1) = p.m0 + IntKind.wrap .i64 (a.i + 1); rw [hw, hm]; omega
  · show (p.z - IntKind.wrap .i64 (a.i + 1)).toNat < (p.z - a.i).toNat
    rw [hw]; omega
theorem exSa (p : PSa) (a : ASa) (h : okSa p a) (hg : goSa p a = false) : (rdSa p a).eval = some (.exit 0, FSa p a) := T.path_eval (waySax p a) ⟨hg, trivial⟩
noncomputable def famSa : LSpec := famC [0,1,2,26,27] SSa 1000 1001 62 decSa okSa goSa rdSa FSa muSa (.exit 0)
theorem lpSa_ok : LoopOk J5 lpSa famSa := famC_ok (vs := vsSa) (bs := bsSa) J5_ok mixed (noLoops_ok _) decSa_ok (by simp) (fun _ _ => rfl) (fun _ _ => rfl) stepSa exSa
theorem waySb (p : PSb) (a : ASb) : T.path [true, true] (rdSb p a) = some ([(decide (a.i < p.z), true), (okN a.n a.l, true)], (.normal, FSb p ⟨a.m, (disL p.now a.l).length, disL p.now a.l, IntKind.wrap .i64 (a.i + 1)⟩)) := by kernel_rfl
theorem waySbx (p : PSb) (a : ASb) : T.path [false] (rdSb p a) = some ([(decide (a.i < p.z), false)], (.exit 2, FSb p a)) := by kernel_rfl
def okSb (p : PSb) (a : ASb) : Prop := p.z ≤ 100000 ∧ p.l0.length ≤ 100000 ∧ 0 ≤ a.i ∧ a.i ≤ max p.z 0 ∧ a.n = a.l.length ∧ a.l = disN p.now a.i.toNat p.l0
def goSb (p : PSb) (a : ASb) : Bool := decide (a.i < p.z)
def muSb (p : PSb) (a : ASb) : Nat := (p.z - a.i).toNat
theorem stepSb (p : PSb) (a : ASb) (h : okSb p a) (hg : goSb p a = true) : ∃ b, stepC okSb rdSb FSb muSb p a b := by
  obtain ⟨h1, h2, h3, h4, h5, h6⟩ := id h
  have hi : a.i < p.z := of_decide_eq_true hg
  have hw : IntKind.wrap .i64 (a.i + 1) = a.i + 1 := wrap64_in (by omega) (by omega)
  have hl : a.l.length ≤ 100000 := by rw [h6]; exact Nat.le_trans (disN_len _ _ _) h2
  refine ⟨_, T.path_eval (waySb p a) ⟨hg, decide_eq_true ⟨h5, hl⟩, trivial⟩, ⟨h1, h2, ?_, ?_, rfl, ?_⟩, ?_⟩
  · show 0 ≤ IntKind.wrap .i64 (a.i + 1); rw [hw]; omega
  · show IntKind.wrap .i64 (a.i + 1) ≤ _; rw [hw]; omega
  · show disL p.now a.l = disN p.now (IntKind.wrap .i64 (a.i + 1)).toNat p.l0
    rw [hw, show (a.i + 1).toNat = a.i.toNat + 1 by omega, disN_succ, ← h6]
  · show (p.z - IntKind.wrap .i64 (a.i + 1)).toNat < (p.z - a.i).toNat
    rw [hw]; omega
theorem exSb (p : PSb) (a : ASb) (h : okSb p a) (hg : goSb p a = false) : (rdSb p a).eval = some (.exit 2, FSb p a) := T.path_eval (waySbx p a) ⟨hg, trivial⟩
noncomputable def famSb : LSpec := famC [0,2,55,56] SSb 2000 2001 62 decSb okSb goSb rdSb FSb muSb (.exit 2)
theorem lpSb_ok : LoopOk J5 lpSb famSb := famC_ok (vs := vsSb) (bs := bsSb) J5_ok mixed (noLoops_ok _) decSb_ok (by simp) (fun _ _ => rfl) (fun _ _ => rfl) stepSb exSb
noncomputable def scaE : Eng.Obj := execO J5 (byReg [(rgSa, famSa), (rgSb, famSb)]) 25
theorem scaE_ok : ObjOk Try.prog 25 scaE := execO_loops J5_ok mixed Try.func25 (by kernel_rfl) (by kernel_rfl) (two_lp (c := lpSa) (c' := lpSb) (by kernel_rfl) rgSa_is rgSb_is (by kernel_rfl) lpSa_ok lpSb_ok)
def outS (want now : Int) : Bool := bif bif bif decide (want < 0) then true else decide (100 < want) then true else decide (now < 0) then true else decide (1099511627776 < now)
noncomputable def pSa (m want now : Int) (l : List R4) : PSa := ⟨want, now, IntKind.wrap .i64 (want - cnt l), l, m⟩
noncomputable def eSa (m want now : Int) (n : Nat) (l : List R4) : ASa := endW (nxtC okSa goSa rdSa FSa muSa (pSa m want now l)) ⟨m, n, l, 0⟩
noncomputable def pSb (m want now : Int) (n : Nat) (l : List R4) : PSb := ⟨now, IntKind.wrap .i64 (cnt (eSa m want now n l).l - want), (eSa m want now n l).l⟩
noncomputable def eSb (m want now : Int) (n : Nat) (l : List R4) : ASb := endW (nxtC okSb goSb rdSb FSb muSb (pSb m want now n l)) ⟨(eSa m want now n l).m, (eSa m want now n l).n, (eSa m want now n l).l, 0⟩
theorem waySc1 (m want now : Int) (n : Nat) (l : List R4) : T.path [true] (scaE [.ptr 0 0, iv want, iv now] (hL m n l)) = some ([(outS want now, true)], (iv 1, hL m n l)) := by kernel_rfl
theorem waySc0 (m want now : Int) (n : Nat) (l : List R4) : T.path [false, true, true, true, true] (scaE [.ptr 0 0, iv want, iv now] (hL m n l)) = some ([(outS want now, false), (okN n l, true), (invC okSa (pSa m want now l) ⟨m, n, l, 0⟩, true), (okN (eSa m want now n l).n (eSa m want now n l).l, true), (invC okSb (pSb m want now n l) ⟨(eSa m want now n l).m, (eSa m want now n l).n, (eSa m want now n l).l, 0⟩, true)], (iv 0, hK 2000 (eSb m want now n l).m (eSb m want now n l).n (eSb m want now n l).l)) := by kernel_rfl
end Go.Proofs.Ytfnadebkobfemaa.Lif
