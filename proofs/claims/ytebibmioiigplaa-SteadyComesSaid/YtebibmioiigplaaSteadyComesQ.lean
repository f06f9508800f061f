import Derived.Test.YtebibmioiigplaaGT
/- Layer 26: SteadyFalls: the loop. -/
namespace Go.Proofs.Ytebibmioiigplaa.Dec
open Go.Eng Go.RowKit Mil Rin
set_option linter.unusedVariables false
set_option linter.unusedSimpArgs false
set_option maxRecDepth 100000
noncomputable def lpFa : Code := loopAt Try.prog 21 0
structure PFa where (v : Int) (k : Nat) (o : List (Int × Int × Int × Int × Bool × Int))
structure AFa where (w : Int) (i : Int)
abbrev SFa : List (Nat × Src) := [(16, .same)]
def vsFa (p : PFa) (a : AFa) : List V := [iv p.v, .sub 16 6 0 p.k, iv a.w, iv a.i]
def bsFa (p : PFa) (a : AFa) : List Blk := [.lst true 83 [.int .i64, .int .i64, .int .i64, .int .i64, .bool, .int .i64] p.o]
noncomputable def FFa (p : PFa) (a : AFa) : St := mkSt [6,8,9,10] (keysR SFa) 2020 83 (vsFa p a) (bsFa p a)
noncomputable def rdFa (p : PFa) (a : AFa) : T (Ex × St) := T.anon (roundN SS noLoops lpFa [6,8,9,10] SFa 2000 2020 (mkSt [6,8,9,10] (keysR SFa) 2020 83 (vsFa p a) (bsFa p a)))
def decFa_v0 : V → Option ((Int))
  | .s (.int .i64 v) => some (v)
  | _ => none
theorem decFa_v0_ok (b : V) (x0 : (Int)) (h : decFa_v0 b = some x0) : b = iv (x0) := by
  unfold decFa_v0 at h
  split at h
  · cases h
    rfl
  · cases h
def decFa_v1 : V → Option ((Nat))
  | .sub 16 6 0 k => some (k)
  | _ => none
theorem decFa_v1_ok (b : V) (x1 : (Nat)) (h : decFa_v1 b = some x1) : b = .sub 16 6 0 (x1) := by
  unfold decFa_v1 at h
  split at h
  · cases h
    rfl
  · cases h
def decFa_v2 : V → Option ((Int))
  | .s (.int .i64 w) => some (w)
  | _ => none
theorem decFa_v2_ok (b : V) (x2 : (Int)) (h : decFa_v2 b = some x2) : b = iv (x2) := by
  unfold decFa_v2 at h
  split at h
  · cases h
    rfl
  · cases h
def decFa_v3 : V → Option ((Int))
  | .s (.int .i64 i) => some (i)
  | _ => none
theorem decFa_v3_ok (b : V) (x3 : (Int)) (h : decFa_v3 b = some x3) : b = iv (x3) := by
  unfold decFa_v3 at h
  split at h
  · cases h
    rfl
  · cases h
def decFa_b0 : Blk → Option ((List (Int × Int × Int × Int × Bool × Int)))
  | .lst true tt0 [.int .i64, .int .i64, .int .i64, .int .i64, .bool, .int .i64] o => if tt0 = 83 then some (o) else none
  | _ => none
theorem decFa_b0_ok (b : Blk) (y0 : (List (Int × Int × Int × Int × Bool × Int))) (h : decFa_b0 b = some y0) : b = .lst true 83 [.int .i64, .int .i64, .int .i64, .int .i64, .bool, .int .i64] (y0) := by
  unfold decFa_b0 at h
  split at h
  · obtain ⟨e0, h⟩ := ite_some0 h
    subst e0
    cases h
    rfl
  · cases h
def decFa : List V → List Blk → Option (PFa × AFa)
  | [v0, v1, v2, v3], [b0] => (decFa_v0 v0).bind fun x0 => (decFa_v1 v1).bind fun x1 => (decFa_v2 v2).bind fun x2 => (decFa_v3 v3).bind fun x3 => (decFa_b0 b0).bind fun y0 => some (⟨(x0), (x1), (y0)⟩, ⟨(x2), (x3)⟩)
  | _, _ => none
theorem decFa_ok (l : List V) (b : List Blk) (d : PFa × AFa) (h : decFa l b = some d) : l = vsFa d.1 d.2 ∧ b = bsFa d.1 d.2 := by
  unfold decFa at h
  split at h
  · obtain ⟨x0, hx0, h⟩ := Option.bind_eq_some_iff.1 h
    obtain ⟨x1, hx1, h⟩ := Option.bind_eq_some_iff.1 h
    obtain ⟨x2, hx2, h⟩ := Option.bind_eq_some_iff.1 h
    obtain ⟨x3, hx3, h⟩ := Option.bind_eq_some_iff.1 h
    obtain ⟨y0, hy0, h⟩ := Option.bind_eq_some_iff.1 h
    have ex0 := decFa_v0_ok _ _ hx0
    have ex1 := decFa_v1_ok _ _ hx1
    have ex2 := decFa_v2_ok _ _ hx2
    have ex3 := decFa_v3_ok _ _ hx3
    have ey0 := decFa_b0_ok _ _ hy0
    cases h
    subst ex0 ex1 ex2 ex3 ey0
    exact ⟨rfl, rfl⟩
  · cases h
noncomputable def rgFa : Nat := (firstReg lpFa).getD 0
theorem rgFa_is : firstReg lpFa = some rgFa := by kernel_rfl
end Go.Proofs.Ytebibmioiigplaa.Dec

/- Layer 26: SteadyFalls. -/
namespace Go.Proofs.Ytebibmioiigplaa.Dec
open Go.Eng Go.RowKit Mil Rin
set_option linter.unusedVariables false
set_option linter.unusedSimpArgs false
set_option maxRecDepth 100000
def xD (o : List Dcn) (i : Int) : Dcn := o.getD (0 + i.toNat) z6
def pnD (x : Dcn) : Bool := x.2.2.2.2.1
def wnD (x : Dcn) : Int := x.2.2.2.1
theorem wayFa (v w i : Int) (k : Nat) (o : List Dcn) : T.path [true, true, true, true, true, true, true, true, true, true, true, true, false, true, true, false, false, true, true, false, false, false, false, false, true, true] (rdFa ⟨v, k, o⟩ ⟨w, i⟩) = some ([(decide (i < (k : Int)), true), (idR o k i, true), (ldR o i, true), (pnD (xD o i) == false, true), (pnD (xD o i) == false, true), (pnD (xD o i) == false, true), (idR o k i, true), (pnD (xD o i) == false, true), (pnD (xD o i) == false, true), (ldR o i, true), (pnD (xD o i) == false, true), (pnD (xD o i) == false, true), (pnD (xD o i), false), (bif decide (w < wnD (xD o i)) == false && true then idR o k i else true, true), (bif decide (w < wnD (xD o i)) == false && true then ldR o i else true, true), (decide (w < wnD (xD o i)), false), ((2 : Int) == 0, false), (bif decide (w < wnD (xD o i)) == false && (decide (wnD (xD o i) < wI (Int.tdiv w 2)) == true && true) then idR o k i else true, true), (bif decide (w < wnD (xD o i)) == false && (decide (wnD (xD o i) < wI (Int.tdiv w 2)) == true && true) then ldR o i else true, true), (decide (w < wnD (xD o i)) == false && (decide (wnD (xD o i) < wI (Int.tdiv w 2)) == true && true), false), (decide (w < wnD (xD o i)) == false && (decide (wnD (xD o i) < wI (Int.tdiv w 2)) == true && true), false), (decide (w < wnD (xD o i)), false), (decide (wnD (xD o i) < wI (Int.tdiv w 2)), false), (bif decide (w < wnD (xD o i)) then true else false, false), (idR o k i, true), (ldR o i, true)], (.normal, FFa ⟨v, k, o⟩ ⟨wnD (xD o i), wI (i + 1)⟩)) := by kernel_rfl
theorem wayFax (p : PFa) (a : AFa) : T.path [false] (rdFa p a) = some ([(decide (a.i < (p.k : Int)), false)], (.exit 0, FFa p a)) := by kernel_rfl
/-- the default settings, the load v, w pods wanted -/
theorem dflt_of {v : Int} (v0 : 0 ≤ v) (v1 : v ≤ 700000) : Conf.ofC Conf.dflt v = (v + 6999) / 7000 := by
  have mz : Conf.mayB Conf.dflt = true := by kernel_rfl
  rw [Conf.ofC_of (Conf.may_of mz) v0 (by omega)]
  have ep : Conf.perC Conf.dflt = 7000 := by kernel_rfl
  have e : Mil.upI v 7000 = (v + 6999) / 7000 := by
    unfold Mil.upI
    rw [Int.fdiv_eq_ediv_of_nonneg _ (by omega)]
    omega
  rw [ep, e]
  split <;> omega
theorem dflt_limit {w r : Int} (r0 : 0 ≤ r) (r1 : r ≤ 100) : Conf.limitR Conf.dflt w r = if 10 * (if r < 1 then 1 else r) < (if r / 2 > w then r / 2 else w) then 10 * (if r < 1 then 1 else r) else (if r / 2 > w then r / 2 else w) := by
  have mz : Conf.mayB Conf.dflt = true := by kernel_rfl
  have e1 : Conf.leastR Conf.dflt r = r / 2 := by
    unfold Conf.leastR
    rw [if_pos mz]
    show 1000 * Mil.clampI r 0 1000000 / 2000 = r / 2
    have : Mil.clampI r 0 1000000 = r := by unfold Mil.clampI; rw [if_neg (by omega), if_neg (by omega)]
    rw [this]; omega
  have e2 : Conf.mostR Conf.dflt r = 10 * (if r < 1 then 1 else r) := by
    unfold Conf.mostR
    rw [if_pos mz]
    have : Mil.clampI r 1 1000000 = if r < 1 then 1 else r := by unfold Mil.clampI; rw [if_neg (by omega)]
    rw [this]
    show Conf.capM (Mil.upI (10000 * if r < 1 then 1 else r) 1000) = _
    have : Mil.upI (10000 * if r < 1 then 1 else r) 1000 = 10 * (if r < 1 then 1 else r) := by
      unfold Mil.upI
      rw [Int.fdiv_eq_ediv_of_nonneg _ (by omega)]
      split <;> omega
    rw [this]
    unfold Conf.capM
    split <;> split <;> omega
  unfold Conf.limitR
  rw [if_pos mz, e1, e2]
  unfold Conf.midR
  rfl
theorem dflt_over (w r : Int) (w0 : 0 ≤ w) (w1 : w ≤ 1000) (r0 : 0 ≤ r) (r1 : r ≤ 100) : Conf.overC Conf.dflt w r = decide (2 * (if r < 1 then 1 else r) ≤ w) := by
  have mz : Conf.mayB Conf.dflt = true := by kernel_rfl
  unfold Conf.overC
  rw [mz, Bool.true_and]
  have e1 : Mil.clampI r 1 1000000 = if r < 1 then 1 else r := by unfold Mil.clampI; rw [if_neg (by omega)]
  have e2 : Mil.clampI w 0 1000000 = w := by unfold Mil.clampI; rw [if_neg (by omega), if_neg (by omega)]
  rw [e1, e2]
  show decide (2000 * (if r < 1 then 1 else r) ≤ w * 1000) = _
  congr 1
  rw [eq_iff_iff]
  split <;> omega
end Go.Proofs.Ytebibmioiigplaa.Dec

/- Layer 26: SteadyRises: the loop. -/
namespace Go.Proofs.Ytebibmioiigplaa.Dec
open Go.Eng Go.RowKit Mil Rin
set_option linter.unusedVariables false
set_option linter.unusedSimpArgs false
set_option maxRecDepth 100000
noncomputable def lpRs : Code := loopAt Try.prog 19 0
structure PRs where (m : Int) (k : Nat) (o : List (Int × Int × Int × Int × Bool × Int))
structure ARs where (i : Int)
abbrev SRs : List (Nat × Src) := [(16, .same)]
def vsRs (p : PRs) (a : ARs) : List V := [.sub 16 6 0 p.k, iv p.m, iv a.i]
def bsRs (p : PRs) (a : ARs) : List Blk := [.lst true 83 [.int .i64, .int .i64, .int .i64, .int .i64, .bool, .int .i64] p.o]
noncomputable def FRs (p : PRs) (a : ARs) : St := mkSt [5,6,7] (keysR SRs) 2020 72 (vsRs p a) (bsRs p a)
noncomputable def rdRs (p : PRs) (a : ARs) : T (Ex × St) := T.anon (roundN SS noLoops lpRs [5,6,7] SRs 2000 2020 (mkSt [5,6,7] (keysR SRs) 2020 72 (vsRs p a) (bsRs p a)))
def decRs_v0 : V → Option ((Nat))
  | .sub 16 6 0 k => some (k)
  | _ => none
theorem decRs_v0_ok (b : V) (x0 : (Nat)) (h : decRs_v0 b = some x0) : b = .sub 16 6 0 (x0) := by
  unfold decRs_v0 at h
  split at h
  · cases h
    rfl
  · cases h
def decRs_v1 : V → Option ((Int))
  | .s (.int .i64 m) => some (m)
  | _ => none
theorem decRs_v1_ok (b : V) (x1 : (Int)) (h : decRs_v1 b = some x1) : b = iv (x1) := by
  unfold decRs_v1 at h
  split at h
  · cases h
    rfl
  · cases h
def decRs_v2 : V → Option ((Int))
  | .s (.int .i64 i) => some (i)
  | _ => none
theorem decRs_v2_ok (b : V) (x2 : (Int)) (h : decRs_v2 b = some x2) : b = iv (x2) := by
  unfold decRs_v2 at h
  split at h
  · cases h
    rfl
  · cases h
def decRs_b0 : Blk → Option ((List (Int × Int × Int × Int × Bool × Int)))
  | .lst true tt0 [.int .i64, .int .i64, .int .i64, .int .i64, .bool, .int .i64] o => if tt0 = 83 then some (o) else none
  | _ => none
theorem decRs_b0_ok (b : Blk) (y0 : (List (Int × Int × Int × Int × Bool × Int))) (h : decRs_b0 b = some y0) : b = .lst true 83 [.int .i64, .int .i64, .int .i64, .int .i64, .bool, .int .i64] (y0) := by
  unfold decRs_b0 at h
  split at h
  · obtain ⟨e0, h⟩ := ite_some0 h
    subst e0
    cases h
    rfl
  · cases h
def decRs : List V → List Blk → Option (PRs × ARs)
  | [v0, v1, v2], [b0] => (decRs_v0 v0).bind fun x0 => (decRs_v1 v1).bind fun x1 => (decRs_v2 v2).bind fun x2 => (decRs_b0 b0).bind fun y0 => some (⟨(x1), (x0), (y0)⟩, ⟨(x2)⟩)
  | _, _ => none
theorem decRs_ok (l : List V) (b : List Blk) (d : PRs × ARs) (h : decRs l b = some d) : l = vsRs d.1 d.2 ∧ b = bsRs d.1 d.2 := by
  unfold decRs at h
  split at h
  · obtain ⟨x0, hx0, h⟩ := Option.bind_eq_some_iff.1 h
    obtain ⟨x1, hx1, h⟩ := Option.bind_eq_some_iff.1 h
    obtain ⟨x2, hx2, h⟩ := Option.bind_eq_some_iff.1 h
    obtain ⟨y0, hy0, h⟩ := Option.bind_eq_some_iff.1 h
    have ex0 := decRs_v0_ok _ _ hx0
    have ex1 := decRs_v1_ok _ _ hx1
    have ex2 := decRs_v2_ok _ _ hx2
    have ey0 := decRs_b0_ok _ _ hy0
    cases h
    subst ex0 ex1 ex2 ey0
    exact ⟨rfl, rfl⟩
  · cases h
noncomputable def rgRs : Nat := (firstReg lpRs).getD 0
theorem rgRs_is : firstReg lpRs = some rgRs := by kernel_rfl
end Go.Proofs.Ytebibmioiigplaa.Dec

/- Layer 26: SteadyFalls: what Run gives. -/
namespace Go.Proofs.Ytebibmioiigplaa.Dec
open Go.Eng Go.RowKit Mil Rin
set_option linter.unusedVariables false
set_option linter.unusedSimpArgs false
set_option maxRecDepth 100000
theorem xD_outs {v : Int} {c : Conf.Cf} {r0 : Int} {n : Nat} {i : Int} (i0 : 0 ≤ i) (h : i < n) : xD (outs v c r0 n) i = outD v c r0 i.toNat := by
  unfold xD outs
  rw [Nat.zero_add, List.getD_eq_getElem?_getD, List.getElem?_map, List.getElem?_range (by omega)]; rfl
/-- the next one's wish, when it is calm and stays so -/
theorem seq_calm {v : Int} {c : Conf.Cf} {r0 : Int} (hm : Conf.mayB c = true) (hd : c.delay = 0) (v0 : 0 ≤ v) (v1 : v ≤ 1000000000) (h0 : 0 ≤ r0) (h1 : r0 ≤ 100) {k : Nat} (hk : k < 30000) (hsp : (seqD v c r0 k).1.sp = 0) (hsi : (seqD v c r0 k).1.si = -1) (ho : Conf.overC c (Conf.ofC c v) (seqD v c r0 k).2 = false) :
    (seqD v c r0 (k + 1)).2 = boundI c (Conf.limitR c (Conf.ofC c v) (seqD v c r0 k).2) ∧ (seqD v c r0 (k + 1)).1.si = -1 ∧ (seqD v c r0 (k + 1)).1.sp = 0 ∧ pnD (outD v c r0 k) = false ∧ (outD v c r0 k).2.1 = v ∧ (outD v c r0 k).2.2.1 = v := by
  obtain ⟨hv, x0, x1⟩ := seqD_ok hm v0 v1 h0 h1 k (by omega)
  obtain ⟨_, _, e1, e2, g, hn⟩ := hv.tick (by omega) (by omega) (by omega) v0 v1 x0 x1
  have hc := seqD_c v c r0 k
  have hM : (nxM ((seqD v c r0 k).1.put ((k : Int) + 1) v) ((k : Int) + 1) (seqD v c r0 k).2).since = -1 := by
    unfold nxM hasty
    rw [e2]
    show (Conf.nextA (seqD v c r0 k).1.c ⟨(seqD v c r0 k).1.si, (seqD v c r0 k).1.mo⟩ ((k : Int) + 1) (Conf.overC (seqD v c r0 k).1.c (Conf.ofC (seqD v c r0 k).1.c v) (seqD v c r0 k).2)).since = -1
    rw [hc, ho]
    unfold Conf.nextA
    split
    · exact hsi
    · show (if false = true then _ else if (seqD v c r0 k).1.si < 0 then (⟨(seqD v c r0 k).1.si, (seqD v c r0 k).1.mo⟩ : Conf.Md) else _).since = -1
      rw [if_neg (by decide), if_pos (by omega)]; exact hsi
  have hb : tkB (seqD v c r0 k).1 v ((k : Int) + 1) (seqD v c r0 k).2 = false := decide_eq_false (by omega)
  have hK : (nxK (tkB (seqD v c r0 k).1 v ((k : Int) + 1) (seqD v c r0 k).2) ((seqD v c r0 k).1.put ((k : Int) + 1) v) ((k : Int) + 1) (seqD v c r0 k).2).since = -1 := (keep_since _ _).trans hM
  refine ⟨?_, hK, hsp, ?_, e1, e2⟩
  · show nxW _ _ _ _ = _
    rw [hb, nx_rates g hsp (by show (seqD v c r0 k).1.la < (k : Int) + 1; rw [hv.la]; omega) (by omega) x0 x1 false hb (by omega)]
    unfold calmy
    rw [e1]
    show boundI (seqD v c r0 k).1.c (Conf.limitR (seqD v c r0 k).1.c (Conf.ofC (seqD v c r0 k).1.c v) _) = _
    rw [hc]
  · exact decide_eq_false (by show ¬ 0 ≤ (nxK _ _ _ _).since; rw [hK]; omega)
theorem mz_dflt : Conf.mayB Conf.dflt = true := by kernel_rfl
/-- far above: half, until it is w -/
theorem falls {v r0 : Int} (v0 : 0 ≤ v) (v1 : v ≤ 70000) (h0 : 20 ≤ r0) (h1 : r0 ≤ 100) : ∀ k : Nat, k ≤ 1000 → (seqD v Conf.dflt r0 k).1.sp = 0 ∧ (seqD v Conf.dflt r0 k).1.si = -1 ∧ (v + 6999) / 7000 ≤ (seqD v Conf.dflt r0 k).2 ∧ (seqD v Conf.dflt r0 k).2 ≤ 100 ∧ ((seqD v Conf.dflt r0 k).2 ≤ (v + 6999) / 7000 ∨ (seqD v Conf.dflt r0 k).2 ≤ hvQ k)
  | 0, _ => ⟨rfl, rfl, by show _ ≤ r0; omega, h1, .inr h1⟩
  | k + 1, hk => by
    obtain ⟨a1, a2, a3, a4, a5⟩ := falls v0 v1 h0 h1 k (by omega)
    have ho : Conf.overC Conf.dflt (Conf.ofC Conf.dflt v) (seqD v Conf.dflt r0 k).2 = false := by
      rw [dflt_of v0 (by omega), dflt_over _ _ (by omega) (by omega) (by omega) a4]
      refine decide_eq_false ?_
      split <;> omega
    obtain ⟨b1, b2, b3, _⟩ := seq_calm mz_dflt rfl v0 (by omega) (by omega) h1 (k := k) (by omega) a1 a2 ho
    rw [dflt_of v0 (by omega), dflt_limit (by omega) a4] at b1
    have e : (seqD v Conf.dflt r0 (k + 1)).2 = if (seqD v Conf.dflt r0 k).2 / 2 > (v + 6999) / 7000 then (seqD v Conf.dflt r0 k).2 / 2 else (v + 6999) / 7000 := by
      rw [b1]
      unfold boundI
      have e3 : Conf.mostC Conf.dflt = 100 := rfl
      have e4 : Conf.dflt.min = 0 := rfl
      rw [e3, e4]
      repeat' split
      all_goals omega
    refine ⟨b3, b2, ?_, ?_, ?_⟩
    · rw [e]; split <;> omega
    · rw [e]; split <;> omega
    · rw [e]
      have : hvQ (k + 1) = hvQ k / 2 := rfl
      rw [this]; split <;> omega
theorem falls_row {v r0 : Int} (v0 : 0 ≤ v) (v1 : v ≤ 70000) (h0 : 20 ≤ r0) (h1 : r0 ≤ 100) (k : Nat) (hk : k ≤ 900) : pnD (outD v Conf.dflt r0 k) = false ∧ wnD (outD v Conf.dflt r0 k) ≤ (seqD v Conf.dflt r0 k).2 ∧ (seqD v Conf.dflt r0 k).2 / 2 ≤ wnD (outD v Conf.dflt r0 k) := by
  obtain ⟨a1, a2, a3, a4, a5⟩ := falls v0 v1 h0 h1 k (by omega)
  have ho : Conf.overC Conf.dflt (Conf.ofC Conf.dflt v) (seqD v Conf.dflt r0 k).2 = false := by
    rw [dflt_of v0 (by omega), dflt_over _ _ (by omega) (by omega) (by omega) a4]
    refine decide_eq_false ?_
    split <;> omega
  obtain ⟨b1, b2, b3, b4, _⟩ := seq_calm mz_dflt rfl v0 (by omega) (by omega) h1 (k := k) (by omega) a1 a2 ho
  rw [dflt_of v0 (by omega), dflt_limit (by omega) a4] at b1
  have e : wnD (outD v Conf.dflt r0 k) = if (seqD v Conf.dflt r0 k).2 / 2 > (v + 6999) / 7000 then (seqD v Conf.dflt r0 k).2 / 2 else (v + 6999) / 7000 := by
    show (seqD v Conf.dflt r0 (k + 1)).2 = _
    rw [b1]
    unfold boundI
    have e3 : Conf.mostC Conf.dflt = 100 := rfl
    have e4 : Conf.dflt.min = 0 := rfl
    rw [e3, e4]
    repeat' split
    all_goals omega
  refine ⟨b4, ?_, ?_⟩
  · rw [e]; split <;> omega
  · rw [e]; split <;> omega
def okFa (p : PFa) (a : AFa) : Prop := ∃ (v r0 : Int) (i : Nat), p = ⟨v, 40, outs v Conf.dflt r0 40⟩ ∧ a = ⟨(seqD v Conf.dflt r0 i).2, (i : Int)⟩ ∧ 0 ≤ v ∧ v ≤ 70000 ∧ 20 ≤ r0 ∧ r0 ≤ 100 ∧ i ≤ 40
def goFa (p : PFa) (a : AFa) : Bool := decide (a.i < (p.k : Int))
def muFa (p : PFa) (a : AFa) : Nat := (40 - a.i).toNat
theorem stepFa (p : PFa) (a : AFa) (h : okFa p a) (hg : goFa p a = true) : ∃ b, stepC okFa rdFa FFa muFa p a b := by
  obtain ⟨v, r0, i, rfl, rfl, v0, v1, h0, h1, i1⟩ := h
  have hg0 : decide ((i : Int) < ((40 : Nat) : Int)) = true := hg
  have hi : (i : Int) < ((40 : Nat) : Int) := of_decide_eq_true hg0
  have hw : wI ((i : Int) + 1) = (i : Int) + 1 := wrap64_in (by omega) (by omega)
  obtain ⟨b1, b2, b3⟩ := falls_row v0 v1 h0 h1 i (by omega)
  obtain ⟨_, _, a3, a4, _⟩ := falls v0 v1 h0 h1 i (by omega)
  have ex : xD (outs v Conf.dflt r0 40) (i : Int) = outD v Conf.dflt r0 i := by rw [xD_outs (by omega) (by omega)]; rfl
  obtain ⟨y1, y2⟩ := idR_is (g := outs v Conf.dflt r0 40) (k := 40) (i := (i : Int)) (outs_len _ _ _ _).symm (by omega) hi
  have way := wayFa v (seqD v Conf.dflt r0 i).2 (i : Int) 40 (outs v Conf.dflt r0 40)
  rw [ex, hw] at way
  have q1 : decide ((seqD v Conf.dflt r0 i).2 < wnD (outD v Conf.dflt r0 i)) = false := decide_eq_false (by omega)
  have q2 : decide (wnD (outD v Conf.dflt r0 i) < wI (Int.tdiv (seqD v Conf.dflt r0 i).2 2)) = false := by
    rw [Int.tdiv_eq_ediv_of_nonneg (by omega), show wI ((seqD v Conf.dflt r0 i).2 / 2) = (seqD v Conf.dflt r0 i).2 / 2 from wrap64_in (by omega) (by omega)]
    exact decide_eq_false (by omega)
  refine ⟨⟨(seqD v Conf.dflt r0 (i + 1)).2, ((i + 1 : Nat) : Int)⟩, T.path_eval way ?_, ⟨v, r0, i + 1, rfl, rfl, v0, v1, h0, h1, by omega⟩, ?_⟩
  · rw [b1, y1, y2, q1, q2, hg0]
    exact ⟨rfl, rfl, rfl, rfl, rfl, rfl, rfl, rfl, rfl, rfl, rfl, rfl, rfl, rfl, rfl, rfl, rfl, rfl, rfl, rfl, rfl, rfl, rfl, rfl, rfl, rfl, trivial⟩
  · show (40 - ((i + 1 : Nat) : Int)).toNat < (40 - (i : Int)).toNat; omega
theorem exFa (p : PFa) (a : AFa) (h : okFa p a) (hg : goFa p a = false) : (rdFa p a).eval = some (.exit 0, FFa p a) := T.path_eval (wayFax p a) ⟨hg, trivial⟩
noncomputable def famFa : LSpec := famC [6,8,9,10] SFa 2000 2020 83 decFa okFa goFa rdFa FFa muFa (.exit 0)
theorem lpFa_ok : LoopOk SS lpFa famFa := famC_ok (vs := vsFa) (bs := bsFa) SS_ok mixed (noLoops_ok _) decFa_ok (by simp) (fun _ _ => rfl) (fun _ _ => rfl) stepFa exFa
noncomputable def falR (a b : Int) : T V := execS SS (byReg [(rgFa, famFa)]) 21 [Eng.iv a, Eng.iv b]
end Go.Proofs.Ytebibmioiigplaa.Dec

/- Layer 26: SteadyFalls. -/
namespace Go.Proofs.Ytebibmioiigplaa.Dec
open Go.Eng Go.RowKit Mil Rin
set_option linter.unusedVariables false
set_option linter.unusedSimpArgs false
set_option maxRecDepth 100000
noncomputable def pFa0 (v r : Int) : PFa := ⟨v, 40, outs (cpI v 1000000000) Conf.dflt (cpI r 100) 40⟩
noncomputable def eFa (v r : Int) : AFa := endW (nxtC okFa goFa rdFa FFa muFa (pFa0 v r)) ⟨r, 0⟩
theorem fal_w (a b v r : Int) (e : AFa) (hv : wI (Int.tmod (IntKind.wrap .u64 a) 70001) = v) (hr : wI (20 + wI (Int.tmod (IntKind.wrap .u64 b) 81)) = r) (he : eFa v r = e) : T.path [false, false, true, false, true, false] (T.anon (falR a b)) = some ([((70001 : Int) == 0, false), ((81 : Int) == 0, false), (Conf.mayB Conf.dflt, true), ((((cpI 40 30000).toNat : Nat) : Int) != 40, false), (invC okFa (pFa0 v r) ⟨r, 0⟩, true), ((7000 : Int) == 0, false)], .s (.bool (e.w == wI (Int.tdiv (wI (v + 6999)) 7000)))) := by subst he; subst hr; subst hv; kernel_rfl
theorem cp_in {a hi : Int} (h0 : 0 ≤ a) (h1 : a ≤ hi) : cpI a hi = a := by unfold cpI; rw [if_neg (show ¬ 0 > a by omega), if_neg (by omega)]
theorem fal_run (a b : Int) : (falR a b).yes := by
  unfold T.yes
  refine .inr ?_
  rw [← T.eval_anon (t := falR a b)]
  have hA : 0 ≤ wI (Int.tmod (IntKind.wrap .u64 a) 70001) ∧ wI (Int.tmod (IntKind.wrap .u64 a) 70001) < 70001 := modI a (by omega) (by omega)
  have hB : 0 ≤ wI (Int.tmod (IntKind.wrap .u64 b) 81) ∧ wI (Int.tmod (IntKind.wrap .u64 b) 81) < 81 := modI b (by omega) (by omega)
  have eB : wI (20 + wI (Int.tmod (IntKind.wrap .u64 b) 81)) = 20 + wI (Int.tmod (IntKind.wrap .u64 b) 81) := wrap64_in (by omega) (by omega)
  have way := fal_w a b (wI (Int.tmod (IntKind.wrap .u64 a) 70001)) (wI (20 + wI (Int.tmod (IntKind.wrap .u64 b) 81))) _ rfl rfl rfl
  rw [eB] at way
  revert way hA hB
  clear eB
  generalize wI (Int.tmod (IntKind.wrap .u64 a) 70001) = v
  generalize wI (Int.tmod (IntKind.wrap .u64 b) 81) = r1
  intro hA hB
  have hr : 20 ≤ 20 + r1 ∧ 20 + r1 ≤ 100 := by omega
  revert hr
  generalize 20 + r1 = r
  intro hr way
  have ep : pFa0 v r = ⟨v, 40, outs v Conf.dflt r 40⟩ := by unfold pFa0; rw [cp_in hA.1 (by omega), cp_in (by omega) hr.2]
  have h0 : okFa (pFa0 v r) ⟨r, 0⟩ := ⟨v, r, 0, ep, rfl, hA.1, by omega, hr.1, hr.2, by omega⟩
  obtain ⟨k1, k2⟩ := endC stepFa h0
  have k1 : okFa (pFa0 v r) (eFa v r) := k1
  have k2 : decide ((eFa v r).i < (((pFa0 v r).k : Nat) : Int)) = false := k2
  obtain ⟨v', r', i, hp, ha, v0, v1, r0, r1', i1⟩ := k1
  rw [ep] at hp
  have ev : v = v' := congrArg PFa.v hp
  subst ev
  rw [ha] at way k2
  have k2 : ¬ (i : Int) < ((40 : Nat) : Int) := of_decide_eq_false k2
  have ei : i = 40 := by omega
  subst ei
  obtain ⟨_, _, a3, a4, a5⟩ := falls v0 v1 r0 r1' 40 (by omega)
  have hz : hvQ 40 = 0 := by kernel_rfl
  rw [hz] at a5
  have e1 : (seqD v Conf.dflt r' 40).2 = (v + 6999) / 7000 := by omega
  have e2 : wI (Int.tdiv (wI (v + 6999)) 7000) = (v + 6999) / 7000 := by
    rw [show wI (v + 6999) = v + 6999 from wrap64_in (by omega) (by omega), Int.tdiv_eq_ediv_of_nonneg (by omega)]
    exact wrap64_in (by omega) (by omega)
  refine (T.path_eval way ⟨rfl, rfl, mz_dflt, by kernel_rfl, invC_is h0, rfl, trivial⟩).trans ?_
  show some (V.s (.bool ((seqD v Conf.dflt r' 40).2 == wI (Int.tdiv (wI (v + 6999)) 7000)))) = _
  rw [e1, e2]; simp
theorem fal_walk (a : Int) (_ : (Lit.int .i64 a).wf = true) (b : Int) (_ : (Lit.int .i64 b).wf = true) (W : World) :
    Calls Try.prog 21 #[.int .i64 a, .int .i64 b] W fun e w' => e = .returned (.bool true) ∧ Below W.heap.size W w' :=
  Law.law_rows (args := [Eng.iv a, Eng.iv b]) (xs := [.int .i64 a, .int .i64 b]) (execS_loops (Λ := byReg [(rgFa, famFa)]) SS_ok mixed Try.func21 (by kernel_rfl) (by kernel_rfl) (one_lp (by kernel_rfl) rgFa_is lpFa_ok)) rfl (fal_run a b) W ⟨rfl, rfl, trivial⟩
end Go.Proofs.Ytebibmioiigplaa.Dec

/- Layer 26: SteadyRises: what Run gives. -/
namespace Go.Proofs.Ytebibmioiigplaa.Dec
open Go.Eng Go.RowKit Mil Rin
set_option linter.unusedVariables false
set_option linter.unusedSimpArgs false
set_option maxRecDepth 100000
theorem nextA_most {c : Conf.Cf} {m : Conf.Md} {t : Int} {b : Bool} {n : Int} (h : 0 ≤ m.since → m.most ≤ n) (n0 : 0 ≤ n) (hs : 0 ≤ (Conf.nextA c m t b).since) : (Conf.nextA c m t b).most ≤ n := by
  unfold Conf.nextA at hs ⊢
  split
  · rename_i q
    rw [if_pos q] at hs; exact h hs
  · rename_i q
    rw [if_neg q] at hs
    split
    · show (if m.since < 0 then 0 else m.most) ≤ n
      split
      · exact n0
      · exact h (by omega)
    · rename_i q2
      rw [if_neg q2] at hs
      split
      · rename_i q3
        rw [if_pos q3] at hs; exact h hs
      · rename_i q3
        rw [if_neg q3] at hs
        split
        · exact n0
        · exact h (by omega)
/-- the next one's wish, calm or in panic, when what panic holds up is no more -/
theorem seq_any {v : Int} {c : Conf.Cf} {r0 : Int} (hm : Conf.mayB c = true) (v0 : 0 ≤ v) (v1 : v ≤ 1000000000) (h0 : 0 ≤ r0) (h1 : r0 ≤ 100) {k : Nat} (hk : k < 30000) (hsp : (seqD v c r0 k).1.sp = 0) (hmo : 0 ≤ (seqD v c r0 k).1.si → (seqD v c r0 k).1.mo ≤ Conf.limitR c (Conf.ofC c v) (seqD v c r0 k).2) :
    (seqD v c r0 (k + 1)).2 = boundI c (Conf.limitR c (Conf.ofC c v) (seqD v c r0 k).2) ∧ (0 ≤ (seqD v c r0 (k + 1)).1.si → (seqD v c r0 (k + 1)).1.mo ≤ Conf.limitR c (Conf.ofC c v) (seqD v c r0 k).2) ∧ (seqD v c r0 (k + 1)).1.sp = 0 ∧ (seqD v c r0 (k + 1)).1.si = (Conf.nextA c ⟨(seqD v c r0 k).1.si, (seqD v c r0 k).1.mo⟩ ((k : Int) + 1) (Conf.overC c (Conf.ofC c v) (seqD v c r0 k).2)).since := by
  obtain ⟨hv, x0, x1⟩ := seqD_ok hm v0 v1 h0 h1 k (by omega)
  obtain ⟨_, _, e1, e2, g, hn⟩ := hv.tick (by omega) (by omega) (by omega) v0 v1 x0 x1
  have hc := seqD_c v c r0 k
  have hcp : ((seqD v c r0 k).1.put ((k : Int) + 1) v).c = c := hc
  have n0 := (limit_bd hm (ofC_bd c v).1 (ofC_bd c v).2 (seqD v c r0 k).2).1
  have eM : nxM ((seqD v c r0 k).1.put ((k : Int) + 1) v) ((k : Int) + 1) (seqD v c r0 k).2 = Conf.nextA c ⟨(seqD v c r0 k).1.si, (seqD v c r0 k).1.mo⟩ ((k : Int) + 1) (Conf.overC c (Conf.ofC c v) (seqD v c r0 k).2) := by
    unfold nxM hasty
    rw [e2, hcp]; rfl
  have eN : ∀ b, nxN b ((seqD v c r0 k).1.put ((k : Int) + 1) v) ((k : Int) + 1) (seqD v c r0 k).2 = Conf.limitR c (Conf.ofC c v) (seqD v c r0 k).2 := by
    intro b
    unfold nxN hasty calmy
    rw [e1, e2, hcp]
    cases b
    · rfl
    · show (if _ > _ then _ else _) = _
      rw [if_neg (Int.lt_irrefl _)]
  have eF : ∀ b, nxF b ((seqD v c r0 k).1.put ((k : Int) + 1) v) ((k : Int) + 1) (seqD v c r0 k).2 = Conf.limitR c (Conf.ofC c v) (seqD v c r0 k).2 := by
    intro b
    rw [nxF_now g hsp (by show (seqD v c r0 k).1.la < (k : Int) + 1; rw [hv.la]; omega) (by omega) b, eN]
  have hle : 0 ≤ (nxM ((seqD v c r0 k).1.put ((k : Int) + 1) v) ((k : Int) + 1) (seqD v c r0 k).2).since → (nxM ((seqD v c r0 k).1.put ((k : Int) + 1) v) ((k : Int) + 1) (seqD v c r0 k).2).most ≤ Conf.limitR c (Conf.ofC c v) (seqD v c r0 k).2 := by
    rw [eM]
    exact fun hs => nextA_most (m := ⟨(seqD v c r0 k).1.si, (seqD v c r0 k).1.mo⟩) hmo n0 hs
  have eQ : ∀ b, nxQ b ((seqD v c r0 k).1.put ((k : Int) + 1) v) ((k : Int) + 1) (seqD v c r0 k).2 = Conf.limitR c (Conf.ofC c v) (seqD v c r0 k).2 := by
    intro b
    unfold nxQ Conf.keepW
    rw [eF]
    show (if (nxM _ _ _).since < 0 then _ else if _ > (nxM _ _ _).most then _ else (nxM _ _ _).most) = _
    split
    · rfl
    · have := hle (by omega)
      split <;> omega
  refine ⟨?_, ?_, hsp, ?_⟩
  · show boundI ((seqD v c r0 k).1.put ((k : Int) + 1) v).c (nxQ _ _ _ _) = _
    rw [hcp, eQ]
  · intro hs
    have hs : 0 ≤ (nxK (tkB (seqD v c r0 k).1 v ((k : Int) + 1) (seqD v c r0 k).2) ((seqD v c r0 k).1.put ((k : Int) + 1) v) ((k : Int) + 1) (seqD v c r0 k).2).since := hs
    have hs' := hs
    rw [show (nxK (tkB (seqD v c r0 k).1 v ((k : Int) + 1) (seqD v c r0 k).2) ((seqD v c r0 k).1.put ((k : Int) + 1) v) ((k : Int) + 1) (seqD v c r0 k).2).since = _ from keep_since _ _] at hs
    have := hle hs
    show (nxK (tkB (seqD v c r0 k).1 v ((k : Int) + 1) (seqD v c r0 k).2) ((seqD v c r0 k).1.put ((k : Int) + 1) v) ((k : Int) + 1) (seqD v c r0 k).2).most ≤ _
    unfold nxK Conf.keepA
    rw [eF]
    show (if (nxM _ _ _).since < 0 then (⟨(nxM _ _ _).since, (nxM _ _ _).most⟩ : Conf.Md) else ⟨(nxM _ _ _).since, if _ > (nxM _ _ _).most then _ else (nxM _ _ _).most⟩).most ≤ _
    rw [if_neg (show ¬ (nxM ((seqD v c r0 k).1.put ((k : Int) + 1) v) ((k : Int) + 1) (seqD v c r0 k).2).since < 0 by have h2 : 0 ≤ (nxM ((seqD v c r0 k).1.put ((k : Int) + 1) v) ((k : Int) + 1) (seqD v c r0 k).2).since := hs; omega)]
    show (if _ > (nxM _ _ _).most then _ else (nxM _ _ _).most) ≤ _
    split <;> omega
  · show (nxK _ _ _ _).since = _
    rw [show (nxK (tkB (seqD v c r0 k).1 v ((k : Int) + 1) (seqD v c r0 k).2) ((seqD v c r0 k).1.put ((k : Int) + 1) v) ((k : Int) + 1) (seqD v c r0 k).2).since = (nxM ((seqD v c r0 k).1.put ((k : Int) + 1) v) ((k : Int) + 1) (seqD v c r0 k).2).since from keep_since _ _, eM]
theorem dflt_bound {n : Int} (n0 : 0 ≤ n) (n1 : n ≤ 100) : boundI Conf.dflt n = n := by
  unfold boundI
  have e3 : Conf.mostC Conf.dflt = 100 := rfl
  have e4 : Conf.dflt.min = 0 := rfl
  rw [e3, e4]
  repeat' split
  all_goals omega
theorem rises {v : Int} (v0 : 0 ≤ v) (v1 : v ≤ 700000) : ∀ k : Nat, k ≤ 1000 → (seqD v Conf.dflt 1 (k + 1)).2 = (if k = 0 then min ((v + 6999) / 7000) 10 else (v + 6999) / 7000) ∧ (seqD v Conf.dflt 1 (k + 1)).1.sp = 0 ∧ (0 ≤ (seqD v Conf.dflt 1 (k + 1)).1.si → (seqD v Conf.dflt 1 (k + 1)).1.mo ≤ (seqD v Conf.dflt 1 (k + 1)).2)
  | 0, _ => by
    obtain ⟨b1, b2, b3, _⟩ := seq_any (v := v) (c := Conf.dflt) (r0 := 1) mz_dflt v0 (by omega) (by omega) (by omega) (k := 0) (by omega) rfl (fun h => absurd h (by show ¬ (0 : Int) ≤ -1; omega))
    have e : Conf.limitR Conf.dflt (Conf.ofC Conf.dflt v) (seqD v Conf.dflt 1 0).2 = min ((v + 6999) / 7000) 10 := by
      rw [dflt_of v0 v1]
      show Conf.limitR Conf.dflt _ 1 = _
      rw [dflt_limit (by omega) (by omega)]
      rw [if_neg (show ¬ (1 : Int) < 1 by omega)]
      repeat' split
      all_goals omega
    rw [e] at b1 b2
    rw [dflt_bound (by omega) (by omega)] at b1
    rw [b1, if_pos rfl]
    exact ⟨rfl, b3, b2⟩
  | k + 1, hk => by
    obtain ⟨a1, a2, a3⟩ := rises v0 v1 k (by omega)
    have e : Conf.limitR Conf.dflt (Conf.ofC Conf.dflt v) (seqD v Conf.dflt 1 (k + 1)).2 = (v + 6999) / 7000 := by
      rw [dflt_of v0 v1, a1]
      rw [dflt_limit (by split <;> omega) (by split <;> omega)]
      by_cases hz : k = 0
      · rw [if_pos hz]
        repeat' split
        all_goals omega
      · rw [if_neg hz]
        repeat' split
        all_goals omega
    obtain ⟨b1, b2, b3, _⟩ := seq_any (v := v) (c := Conf.dflt) (r0 := 1) mz_dflt v0 (by omega) (by omega) (by omega) (k := k + 1) (by omega) a2 (fun h => by
      have := a3 h
      rw [e]
      rw [a1] at this
      revert this
      split <;> intro this <;> omega)
    rw [e] at b1 b2
    rw [dflt_bound (by omega) (by omega)] at b1
    refine ⟨by rw [b1, if_neg (by omega)], b3, fun h => by rw [b1]; exact b2 h⟩
end Go.Proofs.Ytebibmioiigplaa.Dec

/- Layer 26: SteadyComes: what Run comes to. -/
namespace Go.Proofs.Ytebibmioiigplaa.Dec
open Go.Eng Go.RowKit Mil Rin
set_option linter.unusedVariables false
set_option linter.unusedSimpArgs false
set_option maxRecDepth 100000
theorem mS_le2 {x n : Int} : ∀ {l : List Dly.Stp}, 0 ≤ n → (∀ s ∈ l, x ≤ s.1 → s.2 ≤ n) → Dly.mS x l ≤ n
  | [], h, _ => h
  | s :: r, h, hs => by
    have h1 := mS_le2 (x := x) h (fun z hz => hs z (List.mem_cons_of_mem _ hz))
    have h2 := hs s List.mem_cons_self
    show max (Dly.vS x s) (Dly.mS x r) ≤ n
    unfold Dly.vS
    by_cases q : x ≤ s.1
    · have := h2 q
      rw [if_pos q]; omega
    · rw [if_neg q]; omega
theorem mS_ge {x : Int} : ∀ {l : List Dly.Stp} {s : Dly.Stp}, s ∈ l → x ≤ s.1 → s.2 ≤ Dly.mS x l
  | y :: r, s, hs, hx => by
    show _ ≤ max (Dly.vS x y) (Dly.mS x r)
    rcases List.mem_cons.1 hs with rfl | hs
    · unfold Dly.vS; rw [if_pos hx]; omega
    · have := mS_ge hs hx; omega
/-- what was put into the delay, behind k ticks -/
noncomputable def paceL (v : Int) (c : Conf.Cf) (r0 : Int) (k : Nat) : List Dly.Stp := (List.range k).map fun (j : Nat) => ((j : Int) + 1, Conf.limitR c (Conf.ofC c v) (seqD v c r0 j).2)
theorem paceL_succ (v : Int) (c : Conf.Cf) (r0 : Int) (k : Nat) : paceL v c r0 (k + 1) = paceL v c r0 k ++ [((k : Int) + 1, Conf.limitR c (Conf.ofC c v) (seqD v c r0 k).2)] := by
  unfold paceL
  rw [List.range_succ, List.map_append]; rfl
noncomputable def topF (v : Int) (c : Conf.Cf) (r0 : Int) (k : Nat) : Int := Dly.mS (max ((k : Int) + 1 - 600) (Dly.thr ((k : Int) + 1) c.delay)) (paceL v c r0 (k + 1))
noncomputable def modF (v : Int) (c : Conf.Cf) (r0 : Int) (k : Nat) : Conf.Md := Conf.nextA c ⟨(seqD v c r0 k).1.si, (seqD v c r0 k).1.mo⟩ ((k : Int) + 1) (Conf.overC c (Conf.ofC c v) (seqD v c r0 k).2)
def fl : Nat → Int
  | 0 => 100
  | m + 1 => 10 * fl m / 11
theorem topF_lo (v : Int) (c : Conf.Cf) (r0 : Int) (k : Nat) (hd : 0 ≤ c.delay) : Conf.limitR c (Conf.ofC c v) (seqD v c r0 k).2 ≤ topF v c r0 k := by
  unfold topF
  refine mS_ge (s := ((k : Int) + 1, Conf.limitR c (Conf.ofC c v) (seqD v c r0 k).2)) ?_ ?_
  · rw [paceL_succ]; exact List.mem_append_right _ List.mem_cons_self
  · show max _ (Dly.thr _ _) ≤ (k : Int) + 1
    unfold Dly.thr; omega
theorem topF_hi (v : Int) (c : Conf.Cf) (r0 : Int) (k : Nat) {B : Int} (b0 : 0 ≤ B) (h : ∀ j : Nat, j ≤ k → (k : Int) + 1 ≤ j + max 1 c.delay → Conf.limitR c (Conf.ofC c v) (seqD v c r0 j).2 ≤ B) : topF v c r0 k ≤ B := by
  unfold topF
  refine mS_le2 b0 fun s hs hx => ?_
  unfold paceL at hs
  obtain ⟨j, hj, rfl⟩ := List.mem_map.1 hs
  have hj := List.mem_range.1 hj
  have hx : max ((k : Int) + 1 - 600) (Dly.thr ((k : Int) + 1) c.delay) ≤ (j : Int) + 1 := hx
  unfold Dly.thr at hx
  exact h j (by omega) (by omega)
theorem keepW_ge (m : Conf.Md) (w : Int) : w ≤ Conf.keepW m w := by
  unfold Conf.keepW
  repeat' split
  all_goals omega
theorem boundI_ge {c : Conf.Cf} {n x : Int} (h : x ≤ n) (hx : x ≤ Conf.mostC c) : x ≤ boundI c n := by
  unfold boundI
  repeat' split
  all_goals omega
theorem boundI_le {c : Conf.Cf} {n x : Int} (h : n ≤ x) : boundI c n ≤ max c.min x := by
  unfold boundI
  repeat' split
  all_goals omega
theorem clamp_max {r : Int} (h0 : 0 ≤ r) (h1 : r ≤ 100) : clampI r 1 1000000 = max r 1 := by
  unfold clampI
  repeat' split
  all_goals omega
section
variable {v : Int} {c : Conf.Cf} {r0 : Int} (hm : Conf.mayB c = true) (v0 : 0 ≤ v) (v1 : v ≤ 1000000000) (h0 : 0 ≤ r0) (h1 : r0 ≤ 100)
include hm v0 v1 h0 h1
theorem nN_eq {k : Nat} (hk : k < 30000) (b : Bool) : nxN b ((seqD v c r0 k).1.put ((k : Int) + 1) v) ((k : Int) + 1) (seqD v c r0 k).2 = Conf.limitR c (Conf.ofC c v) (seqD v c r0 k).2 := by
  obtain ⟨hv, x0, x1⟩ := seqD_ok hm v0 v1 h0 h1 k (by omega)
  obtain ⟨_, _, e1, e2, g, hn⟩ := hv.tick (by omega) (by omega) (by omega) v0 v1 x0 x1
  have hcp : ((seqD v c r0 k).1.put ((k : Int) + 1) v).c = c := seqD_c v c r0 k
  unfold nxN hasty calmy
  rw [e1, e2, hcp]
  cases b
  · rfl
  · show (if _ > _ then _ else _) = _
    rw [if_neg (Int.lt_irrefl _)]
theorem nM_eq {k : Nat} (hk : k < 30000) : nxM ((seqD v c r0 k).1.put ((k : Int) + 1) v) ((k : Int) + 1) (seqD v c r0 k).2 = Conf.nextA c ⟨(seqD v c r0 k).1.si, (seqD v c r0 k).1.mo⟩ ((k : Int) + 1) (Conf.overC c (Conf.ofC c v) (seqD v c r0 k).2) := by
  obtain ⟨hv, x0, x1⟩ := seqD_ok hm v0 v1 h0 h1 k (by omega)
  obtain ⟨_, _, e1, e2, g, hn⟩ := hv.tick (by omega) (by omega) (by omega) v0 v1 x0 x1
  have hcp : ((seqD v c r0 k).1.put ((k : Int) + 1) v).c = c := seqD_c v c r0 k
  unfold nxM hasty
  rw [e2, hcp]; rfl
theorem seq_del : ∀ k : Nat, k < 30000 → Dly.Holds (seqD v c r0 k).1.a (seqD v c r0 k).1.l (paceL v c r0 k) ∧ (seqD v c r0 k).1.a ≤ (k : Int) ∧ (seqD v c r0 k).1.sp = c.delay
  | 0, _ => ⟨by show Dly.Holds 0 [] []; exact Dly.Holds.new, Int.le_refl _, rfl⟩
  | k + 1, hk => by
    obtain ⟨a1, a2, a3⟩ := seq_del k (by omega)
    have n0 := limit_bd hm (ofC_bd c v).1 (ofC_bd c v).2 (seqD v c r0 k).2
    have hp := a1.put (t := (k : Int) + 1) (w := Conf.limitR c (Conf.ofC c v) (seqD v c r0 k).2) (by omega) (by omega) n0.1 n0.2
    refine ⟨?_, by show (k : Int) + 1 ≤ _; omega, a3⟩
    rw [paceL_succ]
    show Dly.Holds ((k : Int) + 1) (Dly.putL _ _ (nxN _ _ _ _)) _
    rw [nN_eq hm v0 v1 h0 h1 (by omega)]
    exact hp
/-- the most of late -/
theorem nF_eq {k : Nat} (hk : k < 29999) (b : Bool) : nxF b ((seqD v c r0 k).1.put ((k : Int) + 1) v) ((k : Int) + 1) (seqD v c r0 k).2 = Dly.mS (max ((k : Int) + 1 - 600) (Dly.thr ((k : Int) + 1) c.delay)) (paceL v c r0 (k + 1)) := by
  obtain ⟨a1, a2, a3⟩ := seq_del hm v0 v1 h0 h1 k (by omega)
  have n0 := limit_bd hm (ofC_bd c v).1 (ofC_bd c v).2 (seqD v c r0 k).2
  have hp := a1.put (t := (k : Int) + 1) (w := Conf.limitR c (Conf.ofC c v) (seqD v c r0 k).2) (by omega) (by omega) n0.1 n0.2
  unfold nxF nxL
  rw [nN_eq hm v0 v1 h0 h1 (by omega), paceL_succ]
  have e : Dly.mx0 ((k : Int) + 1) = (k : Int) + 1 := by unfold Dly.mx0; rw [if_neg (by omega)]
  have e3 : ((seqD v c r0 k).1.put ((k : Int) + 1) v).sp = c.delay := a3
  rw [e, e3]
  exact hp.most _
theorem seq_one {k : Nat} (hk : k < 29999) : (seqD v c r0 (k + 1)).2 = boundI c (Conf.keepW (modF v c r0 k) (topF v c r0 k)) ∧ (seqD v c r0 (k + 1)).1.si = (modF v c r0 k).since ∧ pnD (outD v c r0 k) = decide (0 ≤ (modF v c r0 k).since) ∧ (outD v c r0 k).2.1 = v ∧ (outD v c r0 k).2.2.1 = v := by
  obtain ⟨hv, x0, x1⟩ := seqD_ok hm v0 v1 h0 h1 k (by omega)
  obtain ⟨_, _, e1, e2, g, hn⟩ := hv.tick (by omega) (by omega) (by omega) v0 v1 x0 x1
  have hcp : ((seqD v c r0 k).1.put ((k : Int) + 1) v).c = c := seqD_c v c r0 k
  have eM := nM_eq hm v0 v1 h0 h1 (k := k) (by omega)
  have hs : (seqD v c r0 (k + 1)).1.si = (modF v c r0 k).since := by
    show (nxK _ _ _ _).since = _
    rw [show (nxK (tkB (seqD v c r0 k).1 v ((k : Int) + 1) (seqD v c r0 k).2) ((seqD v c r0 k).1.put ((k : Int) + 1) v) ((k : Int) + 1) (seqD v c r0 k).2).since = (nxM ((seqD v c r0 k).1.put ((k : Int) + 1) v) ((k : Int) + 1) (seqD v c r0 k).2).since from keep_since _ _, eM]; rfl
  refine ⟨?_, hs, ?_, e1, e2⟩
  · show boundI ((seqD v c r0 k).1.put ((k : Int) + 1) v).c (nxQ _ _ _ _) = _
    rw [hcp]
    unfold nxQ
    rw [eM, nF_eq hm v0 v1 h0 h1 hk]; rfl
  · show decide (0 ≤ (seqD v c r0 (k + 1)).1.si) = _
    rw [hs]
variable (hw : Conf.ofC c v ≤ Conf.mostC c)
include hw
/-- up it goes by one at least -/
theorem goes_up : ∀ k : Nat, k < 29999 → min (Conf.ofC c v) (k : Int) ≤ (seqD v c r0 k).2 ∧ 0 ≤ (seqD v c r0 k).2 ∧ (seqD v c r0 k).2 ≤ 100 ∧ (1 ≤ k → c.min ≤ (seqD v c r0 k).2)
  | 0, _ => by
    have := (ofC_bd c v).1
    exact ⟨by show min _ _ ≤ r0; omega, h0, h1, fun h => by omega⟩
  | k + 1, hk => by
    obtain ⟨a1, a2, a3, _⟩ := goes_up k (by omega)
    obtain ⟨e, _⟩ := seq_one hm v0 v1 h0 h1 (k := k) (by omega)
    have may := Conf.may_of hm
    obtain ⟨b1, b2⟩ := boundI_range hm (Conf.keepW (modF v c r0 k) (topF v c r0 k))
    have mr := mostC_range hm
    have mn := may.min
    obtain ⟨l1, l2, l3, l4⟩ := Conf.rate_between may a2 (show (seqD v c r0 k).2 ≤ 900000 by omega)
    have lo := topF_lo v c r0 k may.delay.1
    have kw := keepW_ge (modF v c r0 k) (topF v c r0 k)
    have ll : min (Conf.ofC c v) ((seqD v c r0 k).2 + 1) ≤ Conf.limitR c (Conf.ofC c v) (seqD v c r0 k).2 := by
      unfold Conf.limitR
      rw [if_pos hm]
      unfold Conf.midR
      repeat' split
      all_goals omega
    have := boundI_ge (c := c) (n := Conf.keepW (modF v c r0 k) (topF v c r0 k)) (x := min (Conf.ofC c v) ((seqD v c r0 k).2 + 1)) (by omega) (by omega)
    rw [e]
    exact ⟨by omega, by omega, by omega, fun _ => b1⟩
theorem not_over {k : Nat} (hk : k < 29999) (k0 : 100 ≤ k) : Conf.overC c (Conf.ofC c v) (seqD v c r0 k).2 = false := by
  obtain ⟨a1, a2, a3, _⟩ := goes_up hm v0 v1 h0 h1 hw k hk
  have mr := mostC_range hm
  have wb := ofC_bd c v
  have th := (Conf.may_of hm).threshold
  unfold Conf.overC
  rw [hm, Bool.true_and]
  refine decide_eq_false ?_
  have e1 : clampI (seqD v c r0 k).2 1 1000000 = max (seqD v c r0 k).2 1 := clamp_max a2 a3
  have e2 : clampI (Conf.ofC c v) 0 1000000 = Conf.ofC c v := by unfold clampI; rw [if_neg (by omega), if_neg (by omega)]
  rw [e1, e2]
  have h3 : 1100 * max (seqD v c r0 k).2 1 ≤ c.threshold * max (seqD v c r0 k).2 1 := Int.mul_le_mul_of_nonneg_right th.1 (by omega)
  omega
/-- panic's last beginning -/
theorem since_le : ∀ k : Nat, k < 29999 → 100 ≤ k → (seqD v c r0 k).1.si ≤ 100
  | 0, _, h => by omega
  | k + 1, hk, h => by
    by_cases q : k = 99
    · subst q
      obtain ⟨hv, _⟩ := seqD_ok hm v0 v1 h0 h1 100 (by omega)
      have h1 := hv.g.sl
      have h2 := hv.la
      show (seqD v c r0 100).1.si ≤ 100
      omega
    · have ih := since_le k (by omega) (by omega)
      obtain ⟨_, e, _⟩ := seq_one hm v0 v1 h0 h1 (k := k) (by omega)
      rw [e]
      unfold modF
      rw [not_over hm v0 v1 h0 h1 hw (by omega) (by omega)]
      unfold Conf.nextA
      repeat' split
      all_goals first
        | exact ih
        | (show (-1 : Int) ≤ 100; omega)
        | contradiction
theorem calm_at {k : Nat} (hk : k < 29999) (h : 100 + c.stable ≤ (k : Int)) : (modF v c r0 k).since < 0 := by
  have st0 := (Conf.may_of hm).stable
  have ih := since_le hm v0 v1 h0 h1 hw k hk (by omega)
  unfold modF
  rw [not_over hm v0 v1 h0 h1 hw hk (by omega)]
  unfold Conf.nextA
  rw [hm, decide_eq_false (show ¬ (k : Int) + 1 < 0 by omega), decide_eq_false (show ¬ 1099511627776 < (k : Int) + 1 by omega)]
  rw [if_neg (by simp), if_neg (by simp)]
  split
  · assumption
  · rename_i q
    rw [if_pos (show c.stable ≤ (k : Int) + 1 - (seqD v c r0 k).1.si by omega)]
    show (-1 : Int) < 0; omega
variable (dl : c.delay ≤ 10) (hdn : 1100 ≤ c.down) (st : c.stable ≤ 40)
include dl hdn st
theorem falls_to (D : Int) (hD : D = max 1 c.delay) : ∀ (m : Nat) (x : Int), x = (m : Int) * D → ∀ k : Nat, k < 29999 → 101 + c.stable + x ≤ (k : Int) → (seqD v c r0 k).2 ≤ max (max c.min (Conf.ofC c v)) (fl m)
  | 0, x, _, k, hk, h => by
    obtain ⟨_, _, a3, _⟩ := goes_up hm v0 v1 h0 h1 hw k hk
    show _ ≤ max _ (100 : Int); omega
  | m + 1, x, hx, 0, hk, h => by
    have st0 := (Conf.may_of hm).stable
    have : 0 ≤ x := by rw [hx]; exact Int.mul_nonneg (by omega) (by omega)
    omega
  | m + 1, x, hx, k + 1, hk, h => by
    have st0 := (Conf.may_of hm).stable
    have wb := ofC_bd c v
    have x0 : 0 ≤ (m : Int) * D := Int.mul_nonneg (by omega) (by omega)
    have ex : x = (m : Int) * D + D := by rw [hx]; rw [show ((m + 1 : Nat) : Int) = (m : Int) + 1 by omega, Int.add_mul, Int.one_mul]
    have ih := falls_to D hD m _ rfl
    obtain ⟨e, _⟩ := seq_one hm v0 v1 h0 h1 (k := k) (by omega)
    have cm := calm_at hm v0 v1 h0 h1 hw (k := k) (by omega) (by omega)
    have ek : Conf.keepW (modF v c r0 k) (topF v c r0 k) = topF v c r0 k := by unfold Conf.keepW; rw [if_pos cm]
    rw [e, ek]
    have mn := (Conf.may_of hm).min
    have hf : topF v c r0 k ≤ max (max c.min (Conf.ofC c v)) (fl (m + 1)) := by
      refine topF_hi v c r0 k (by omega) fun j hj hjk => ?_
      have r1 := ih j (by omega) (by omega)
      obtain ⟨a1, a2, a3, _⟩ := goes_up hm v0 v1 h0 h1 hw j (by omega)
      have mr := mostC_range hm
      have hd := (Conf.may_of hm).down
      have el : Conf.leastR c (seqD v c r0 j).2 ≤ 10 * (seqD v c r0 j).2 / 11 := by
        unfold Conf.leastR
        rw [if_pos hm]
        have e1 : clampI (seqD v c r0 j).2 0 1000000 = (seqD v c r0 j).2 := by unfold clampI; rw [if_neg (by omega), if_neg (by omega)]
        rw [e1]
        have e2 : 1000 * (seqD v c r0 j).2 / c.down ≤ 1000 * (seqD v c r0 j).2 / 1100 := by
          refine (Int.le_ediv_iff_mul_le (by omega)).2 ?_
          have h1 : 1000 * (seqD v c r0 j).2 / c.down * 1100 ≤ 1000 * (seqD v c r0 j).2 / c.down * c.down := Int.mul_le_mul_of_nonneg_left hdn (Int.ediv_nonneg (by omega) (by omega))
          have h2 := Int.ediv_mul_le (1000 * (seqD v c r0 j).2) (show c.down ≠ 0 by omega)
          omega
        omega
      have hl : Conf.limitR c (Conf.ofC c v) (seqD v c r0 j).2 ≤ max (Conf.ofC c v) (Conf.leastR c (seqD v c r0 j).2) := by
        unfold Conf.limitR
        rw [if_pos hm]
        unfold Conf.midR
        repeat' split
        all_goals omega
      have ef : fl (m + 1) = 10 * fl m / 11 := rfl
      rw [ef]
      omega
    have := boundI_le (c := c) hf
    omega
theorem comes {k : Nat} (hk : k < 29998) (h : 101 + c.stable + 31 * max 1 c.delay ≤ (k : Int)) : pnD (outD v c r0 k) = false ∧ wnD (outD v c r0 k) = max c.min (Conf.ofC c v) ∧ (outD v c r0 k).2.1 = v ∧ (outD v c r0 k).2.2.1 = v := by
  have st0 := (Conf.may_of hm).stable
  have mr := mostC_range hm
  have wb := ofC_bd c v
  obtain ⟨e, _, e2, e3, e4⟩ := seq_one hm v0 v1 h0 h1 (k := k) (by omega)
  have cm := calm_at hm v0 v1 h0 h1 hw (k := k) (by omega) (by omega)
  refine ⟨?_, ?_, e3, e4⟩
  · rw [e2]; exact decide_eq_false (by omega)
  · have f1 := falls_to hm v0 v1 h0 h1 hw dl hdn st (max 1 c.delay) rfl 31 _ rfl (k + 1) (by omega) (by omega)
    obtain ⟨a1, a2, a3, a4⟩ := goes_up hm v0 v1 h0 h1 hw (k + 1) (by omega)
    have a4 := a4 (by omega)
    have e31 : fl 31 = 0 := by decide +kernel
    rw [e31] at f1
    show (seqD v c r0 (k + 1)).2 = _
    have mn := (Conf.may_of hm).min
    omega
end
end Go.Proofs.Ytebibmioiigplaa.Dec

/- Layer 26: SteadyComes: the loop. -/
namespace Go.Proofs.Ytebibmioiigplaa.Dec
open Go.Eng Go.RowKit Mil Rin
set_option linter.unusedVariables false
set_option linter.unusedSimpArgs false
set_option maxRecDepth 100000
noncomputable def lpCm : Code := loopAt Try.prog 18 0
structure PCm where (c_target : Int) (c_util : Int) (c_stable : Int) (c_panic : Int) (c_grain : Int) (c_threshold : Int) (c_up : Int) (c_down : Int) (c_min : Int) (c_max : Int) (c_initial : Int) (c_grace : Int) (c_delay : Int) (c_burst : Int) (c_limit : Int) (c_queue : Int) (c_timeout : Int) (c_ready : Int) (c_subset : Int) (c_sample : Int) (v : Int) (k : Nat) (w : Int) (o : List (Int × Int × Int × Int × Bool × Int))
structure ACm where (i : Int)
abbrev SCm : List (Nat × Src) := [(0, .same), (168, .same)]
def vsCm (p : PCm) (a : ACm) : List V := [.ptr 0 0, iv p.v, .sub 168 6 0 p.k, iv p.w, iv a.i]
def bsCm (p : PCm) (a : ACm) : List Blk := [.cells 52 [iv p.c_target, iv p.c_util, iv p.c_stable, iv p.c_panic, iv p.c_grain, iv p.c_threshold, iv p.c_up, iv p.c_down, iv p.c_min, iv p.c_max, iv p.c_initial, iv p.c_grace, iv p.c_delay, iv p.c_burst, iv p.c_limit, iv p.c_queue, iv p.c_timeout, iv p.c_ready, iv p.c_subset, iv p.c_sample], .lst true 83 [.int .i64, .int .i64, .int .i64, .int .i64, .bool, .int .i64] p.o]
noncomputable def FCm (p : PCm) (a : ACm) : St := mkSt [3,7,9,10,11] (keysR SCm) 2020 143 (vsCm p a) (bsCm p a)
noncomputable def rdCm (p : PCm) (a : ACm) : T (Ex × St) := T.anon (roundN SS noLoops lpCm [3,7,9,10,11] SCm 2000 2020 (mkSt [3,7,9,10,11] (keysR SCm) 2020 143 (vsCm p a) (bsCm p a)))
def decCm_v0 : V → Option (Unit)
  | .ptr 0 0 => some ()
  | _ => none
theorem decCm_v0_ok (b : V) (x0 : Unit) (h : decCm_v0 b = some x0) : b = .ptr 0 0 := by
  unfold decCm_v0 at h
  split at h
  · cases h
    rfl
  · cases h
def decCm_v1 : V → Option ((Int))
  | .s (.int .i64 v) => some (v)
  | _ => none
theorem decCm_v1_ok (b : V) (x1 : (Int)) (h : decCm_v1 b = some x1) : b = iv (x1) := by
  unfold decCm_v1 at h
  split at h
  · cases h
    rfl
  · cases h
def decCm_v2 : V → Option ((Nat))
  | .sub 168 6 0 k => some (k)
  | _ => none
theorem decCm_v2_ok (b : V) (x2 : (Nat)) (h : decCm_v2 b = some x2) : b = .sub 168 6 0 (x2) := by
  unfold decCm_v2 at h
  split at h
  · cases h
    rfl
  · cases h
def decCm_v3 : V → Option ((Int))
  | .s (.int .i64 w) => some (w)
  | _ => none
theorem decCm_v3_ok (b : V) (x3 : (Int)) (h : decCm_v3 b = some x3) : b = iv (x3) := by
  unfold decCm_v3 at h
  split at h
  · cases h
    rfl
  · cases h
def decCm_v4 : V → Option ((Int))
  | .s (.int .i64 i) => some (i)
  | _ => none
theorem decCm_v4_ok (b : V) (x4 : (Int)) (h : decCm_v4 b = some x4) : b = iv (x4) := by
  unfold decCm_v4 at h
  split at h
  · cases h
    rfl
  · cases h
def decCm_b0 : Blk → Option ((Int) × (Int) × (Int) × (Int) × (Int) × (Int) × (Int) × (Int) × (Int) × (Int) × (Int) × (Int) × (Int) × (Int) × (Int) × (Int) × (Int) × (Int) × (Int) × (Int))
  | .cells tt0 [.s (.int .i64 c_target), .s (.int .i64 c_util), .s (.int .i64 c_stable), .s (.int .i64 c_panic), .s (.int .i64 c_grain), .s (.int .i64 c_threshold), .s (.int .i64 c_up), .s (.int .i64 c_down), .s (.int .i64 c_min), .s (.int .i64 c_max), .s (.int .i64 c_initial), .s (.int .i64 c_grace), .s (.int .i64 c_delay), .s (.int .i64 c_burst), .s (.int .i64 c_limit), .s (.int .i64 c_queue), .s (.int .i64 c_timeout), .s (.int .i64 c_ready), .s (.int .i64 c_subset), .s (.int .i64 c_sample)] => if tt0 = 52 then some (c_target, c_util, c_stable, c_panic, c_grain, c_threshold, c_up, c_down, c_min, c_max, c_initial, c_grace, c_delay, c_burst, c_limit, c_queue, c_timeout, c_ready, c_subset, c_sample) else none
  | _ => none
theorem decCm_b0_ok (b : Blk) (y0 : (Int) × (Int) × (Int) × (Int) × (Int) × (Int) × (Int) × (Int) × (Int) × (Int) × (Int) × (Int) × (Int) × (Int) × (Int) × (Int) × (Int) × (Int) × (Int) × (Int)) (h : decCm_b0 b = some y0) : b = .cells 52 [iv (y0.1), iv (y0.2.1), iv (y0.2.2.1), iv (y0.2.2.2.1), iv (y0.2.2.2.2.1), iv (y0.2.2.2.2.2.1), iv (y0.2.2.2.2.2.2.1), iv (y0.2.2.2.2.2.2.2.1), iv (y0.2.2.2.2.2.2.2.2.1), iv (y0.2.2.2.2.2.2.2.2.2.1), iv (y0.2.2.2.2.2.2.2.2.2.2.1), iv (y0.2.2.2.2.2.2.2.2.2.2.2.1), iv (y0.2.2.2.2.2.2.2.2.2.2.2.2.1), iv (y0.2.2.2.2.2.2.2.2.2.2.2.2.2.1), iv (y0.2.2.2.2.2.2.2.2.2.2.2.2.2.2.1), iv (y0.2.2.2.2.2.2.2.2.2.2.2.2.2.2.2.1), iv (y0.2.2.2.2.2.2.2.2.2.2.2.2.2.2.2.2.1), iv (y0.2.2.2.2.2.2.2.2.2.2.2.2.2.2.2.2.2.1), iv (y0.2.2.2.2.2.2.2.2.2.2.2.2.2.2.2.2.2.2.1), iv (y0.2.2.2.2.2.2.2.2.2.2.2.2.2.2.2.2.2.2.2)] := by
  unfold decCm_b0 at h
  split at h
  · obtain ⟨e0, h⟩ := ite_some0 h
    subst e0
    cases h
    rfl
  · cases h
def decCm_b1 : Blk → Option ((List (Int × Int × Int × Int × Bool × Int)))
  | .lst true tt0 [.int .i64, .int .i64, .int .i64, .int .i64, .bool, .int .i64] o => if tt0 = 83 then some (o) else none
  | _ => none
theorem decCm_b1_ok (b : Blk) (y1 : (List (Int × Int × Int × Int × Bool × Int))) (h : decCm_b1 b = some y1) : b = .lst true 83 [.int .i64, .int .i64, .int .i64, .int .i64, .bool, .int .i64] (y1) := by
  unfold decCm_b1 at h
  split at h
  · obtain ⟨e0, h⟩ := ite_some0 h
    subst e0
    cases h
    rfl
  · cases h
def decCm : List V → List Blk → Option (PCm × ACm)
  | [v0, v1, v2, v3, v4], [b0, b1] => (decCm_v0 v0).bind fun x0 => (decCm_v1 v1).bind fun x1 => (decCm_v2 v2).bind fun x2 => (decCm_v3 v3).bind fun x3 => (decCm_v4 v4).bind fun x4 => (decCm_b0 b0).bind fun y0 => (decCm_b1 b1).bind fun y1 => some (⟨(y0.1), (y0.2.1), (y0.2.2.1), (y0.2.2.2.1), (y0.2.2.2.2.1), (y0.2.2.2.2.2.1), (y0.2.2.2.2.2.2.1), (y0.2.2.2.2.2.2.2.1), (y0.2.2.2.2.2.2.2.2.1), (y0.2.2.2.2.2.2.2.2.2.1), (y0.2.2.2.2.2.2.2.2.2.2.1), (y0.2.2.2.2.2.2.2.2.2.2.2.1), (y0.2.2.2.2.2.2.2.2.2.2.2.2.1), (y0.2.2.2.2.2.2.2.2.2.2.2.2.2.1), (y0.2.2.2.2.2.2.2.2.2.2.2.2.2.2.1), (y0.2.2.2.2.2.2.2.2.2.2.2.2.2.2.2.1), (y0.2.2.2.2.2.2.2.2.2.2.2.2.2.2.2.2.1), (y0.2.2.2.2.2.2.2.2.2.2.2.2.2.2.2.2.2.1), (y0.2.2.2.2.2.2.2.2.2.2.2.2.2.2.2.2.2.2.1), (y0.2.2.2.2.2.2.2.2.2.2.2.2.2.2.2.2.2.2.2), (x1), (x2), (x3), (y1)⟩, ⟨(x4)⟩)
  | _, _ => none
theorem decCm_ok (l : List V) (b : List Blk) (d : PCm × ACm) (h : decCm l b = some d) : l = vsCm d.1 d.2 ∧ b = bsCm d.1 d.2 := by
  unfold decCm at h
  split at h
  · obtain ⟨x0, hx0, h⟩ := Option.bind_eq_some_iff.1 h
    obtain ⟨x1, hx1, h⟩ := Option.bind_eq_some_iff.1 h
    obtain ⟨x2, hx2, h⟩ := Option.bind_eq_some_iff.1 h
    obtain ⟨x3, hx3, h⟩ := Option.bind_eq_some_iff.1 h
    obtain ⟨x4, hx4, h⟩ := Option.bind_eq_some_iff.1 h
    obtain ⟨y0, hy0, h⟩ := Option.bind_eq_some_iff.1 h
    obtain ⟨y1, hy1, h⟩ := Option.bind_eq_some_iff.1 h
    have ex0 := decCm_v0_ok _ _ hx0
    have ex1 := decCm_v1_ok _ _ hx1
    have ex2 := decCm_v2_ok _ _ hx2
    have ex3 := decCm_v3_ok _ _ hx3
    have ex4 := decCm_v4_ok _ _ hx4
    have ey0 := decCm_b0_ok _ _ hy0
    have ey1 := decCm_b1_ok _ _ hy1
    cases h
    subst ex0 ex1 ex2 ex3 ex4 ey0 ey1
    exact ⟨rfl, rfl⟩
  · cases h
noncomputable def rgCm : Nat := (firstReg lpCm).getD 0
theorem rgCm_is : firstReg lpCm = some rgCm := by kernel_rfl
def pCm (c : Conf.Cf) (v : Int) (k : Nat) (w : Int) (o : List Dcn) : PCm := ⟨c.target, c.util, c.stable, c.panic, c.grain, c.threshold, c.up, c.down, c.min, c.max, c.initial, c.grace, c.delay, c.burst, c.limit, c.queue, c.timeout, c.ready, c.subset, c.sample, v, k, w, o⟩
end Go.Proofs.Ytebibmioiigplaa.Dec

/- Layer 26: SteadyAims. -/
namespace Go.Proofs.Ytebibmioiigplaa.Dec
open Go.Eng Go.RowKit Mil Rin
set_option linter.unusedVariables false
set_option linter.unusedSimpArgs false
set_option maxRecDepth 100000
noncomputable def SL : Cfg := ⟨Try.prog, lookG [(79, .obj aimE), (77, .obj ticE), (50, .val Conf.dfltS), (66, .val Conf.mayS), (67, .val Conf.mostS), (75, .val yesR)], [], 0⟩
theorem SL_ok : SL.Ok := Cfg.ok ⟨aimE_ok, ticE_ok, Conf.refdflt_ok, Conf.refmay_ok, Conf.refmost_ok, told26_ok, trivial⟩ trivial
noncomputable def aimsR (c : Conf.Cf) (a b : Int) : T V := execS SL noLoops 20 [.agg (cfL c), Eng.iv a, Eng.iv b]
def aimC (c : Conf.Cf) (l : Int) : Int := boundI c (Conf.ofC c (if 0 > l then 0 else l))
def sm1 (c : Conf.Cf) (a b : Int) : Bool := bif (bif decide (aimC c a ≤ aimC c b) then decide (c.min ≤ aimC c a) else false) then decide (aimC c b ≤ Conf.mostC c) else false
def sm2 (c : Conf.Cf) (a b : Int) : Bool := bif sm1 c a b then aimC c 0 == c.min else false
def ticC (c : Conf.Cf) : Int := wI (wI (wI (400 + wI (2 * c.stable)) + c.panic) + wI (40 * c.delay))
def smV (c : Conf.Cf) (a b : Int) : Bool := bif sm2 c a b then decide (wI (400 + wI (2 * c.stable)) ≤ ticC c) else false
def inA (c : Conf.Cf) (l : Int) : Bool := Conf.inC c && Mil.inR (if 0 > l then 0 else l)
def aiC (c : Conf.Cf) (a b : Int) : List (Bool × Bool) := [(!Conf.mayB c, false), (inA c a, true), (!Conf.mayB c, false), (inA c b, true), (sm1 c a b, true), (!Conf.mayB c, false), (inA c 0, true), (sm2 c a b, true), (!Conf.mayB c, false)]
theorem aims_w0 (c : Conf.Cf) (a b : Int) : T.path [true] (T.anon (aimsR c a b)) = some ([(!Conf.mayB c, true)], .tt) := by kernel_rfl
theorem aims_w1 (c : Conf.Cf) (a b : Int) : T.path [false, false, false, true, false, true, true, false, true, true, false] (T.anon (aimsR c a b)) = some ([(!Conf.mayB c, false), (decide (b < a), false)] ++ aiC c a b, .s (.bool (smV c a b))) := by kernel_rfl
theorem aims_w2 (c : Conf.Cf) (a b : Int) : T.path [false, true, false, true, false, true, true, false, true, true, false] (T.anon (aimsR c a b)) = some ([(!Conf.mayB c, false), (decide (b < a), true)] ++ aiC c b a, .s (.bool (smV c b a))) := by kernel_rfl
theorem inC_may {c : Conf.Cf} (h : Conf.mayB c = true) : Conf.inC c = true := by
  have may := Conf.may_of h
  unfold Conf.inC
  have h1 := may.target
  have h2 := may.util
  rw [Mil.inR_iff.2 ⟨by omega, by omega⟩, Mil.inR_iff.2 ⟨by omega, by omega⟩]; rfl
theorem inA_is {c : Conf.Cf} (h : Conf.mayB c = true) {l : Int} (hl : (Lit.int .i64 l).wf = true) : inA c l = true := by
  obtain ⟨h1, h2⟩ := wf64 hl
  unfold inA
  rw [inC_may h, Mil.inR_iff.2 (by split <;> omega)]; rfl
theorem aimC_nought {c : Conf.Cf} (h : Conf.mayB c = true) : aimC c 0 = c.min := by
  have m := mostC_range h
  have m0 := (Conf.may_of h).min
  unfold aimC
  rw [if_neg (by omega), of_nought]
  unfold boundI
  repeat' split
  all_goals omega
theorem ai_all {c : Conf.Cf} (h : Conf.mayB c = true) {a b : Int} (ha : (Lit.int .i64 a).wf = true) (hb : (Lit.int .i64 b).wf = true) (hab : a ≤ b) : allSay (aiC c a b) ∧ smV c a b = true := by
  have may := Conf.may_of h
  have x1 : aimC c a ≤ aimC c b := boundI_mono c (Conf.ofC_mono c (by split <;> split <;> omega))
  have x2 := (boundI_range h (Conf.ofC c (if 0 > a then 0 else a))).1
  have x3 := (boundI_range h (Conf.ofC c (if 0 > b then 0 else b))).2
  have e1 : sm1 c a b = true := by
    unfold sm1
    rw [decide_eq_true x1, decide_eq_true (show c.min ≤ aimC c a from x2), decide_eq_true (show aimC c b ≤ Conf.mostC c from x3)]; rfl
  have e2 : sm2 c a b = true := by unfold sm2; rw [e1, aimC_nought h]; simp
  have s1 := may.stable
  have s2 := may.panic
  have s3 := may.delay
  have s4 := may.grain
  have w1 : wI (2 * c.stable) = 2 * c.stable := wrap64_in (by omega) (by omega)
  have w2 : wI (400 + 2 * c.stable) = 400 + 2 * c.stable := wrap64_in (by omega) (by omega)
  have w3 : wI (400 + 2 * c.stable + c.panic) = 400 + 2 * c.stable + c.panic := wrap64_in (by omega) (by omega)
  have w4 : wI (40 * c.delay) = 40 * c.delay := wrap64_in (by omega) (by omega)
  have w5 : wI (400 + 2 * c.stable + c.panic + 40 * c.delay) = 400 + 2 * c.stable + c.panic + 40 * c.delay := wrap64_in (by omega) (by omega)
  have hm : (!Conf.mayB c) = false := by rw [h]; rfl
  refine ⟨⟨hm, inA_is h ha, hm, inA_is h hb, e1, hm, inA_is h rfl, e2, hm, trivial⟩, ?_⟩
  unfold smV ticC
  rw [e2, w1, w2, w3, w4, w5]
  exact decide_eq_true (by omega)
theorem aims_run (c : Conf.Cf) {a b : Int} (ha : (Lit.int .i64 a).wf = true) (hb : (Lit.int .i64 b).wf = true) : (aimsR c a b).yes := by
  unfold T.yes
  rw [← T.eval_anon (t := aimsR c a b)]
  cases hm : Conf.mayB c with
  | false => exact .inl (T.path_eval (aims_w0 c a b) ⟨by rw [hm]; rfl, trivial⟩)
  | true =>
    refine .inr ?_
    by_cases h : b < a
    · obtain ⟨x1, x2⟩ := ai_all hm hb ha (by omega)
      have way := aims_w2 c a b
      rw [x2] at way
      exact T.path_eval way (allSay_append ⟨by rw [hm]; rfl, decide_eq_true h, trivial⟩ x1)
    · obtain ⟨x1, x2⟩ := ai_all hm ha hb (by omega)
      have way := aims_w1 c a b
      rw [x2] at way
      exact T.path_eval way (allSay_append ⟨by rw [hm]; rfl, decide_eq_false h, trivial⟩ x1)
theorem aims_walk (c : Conf.Cf) (_ : c.Ok) (a : Int) (ha : (Lit.int .i64 a).wf = true) (b : Int) (hb : (Lit.int .i64 b).wf = true) (W : World) :
    Calls Try.prog 20 #[.agg #[.int .i64 c.target, .int .i64 c.util, .int .i64 c.stable, .int .i64 c.panic, .int .i64 c.grain, .int .i64 c.threshold, .int .i64 c.up, .int .i64 c.down, .int .i64 c.min, .int .i64 c.max, .int .i64 c.initial, .int .i64 c.grace, .int .i64 c.delay, .int .i64 c.burst, .int .i64 c.limit, .int .i64 c.queue, .int .i64 c.timeout, .int .i64 c.ready, .int .i64 c.subset, .int .i64 c.sample], .int .i64 a, .int .i64 b] W fun e w' => e = .returned (.bool true) ∧ Below W.heap.size W w' :=
  Law.law_rows (args := [Conf.confV c, Eng.iv a, Eng.iv b]) (xs := [.agg #[.int .i64 c.target, .int .i64 c.util, .int .i64 c.stable, .int .i64 c.panic, .int .i64 c.grain, .int .i64 c.threshold, .int .i64 c.up, .int .i64 c.down, .int .i64 c.min, .int .i64 c.max, .int .i64 c.initial, .int .i64 c.grace, .int .i64 c.delay, .int .i64 c.burst, .int .i64 c.limit, .int .i64 c.queue, .int .i64 c.timeout, .int .i64 c.ready, .int .i64 c.subset, .int .i64 c.sample], .int .i64 a, .int .i64 b]) (execS_plain SL_ok mixed Try.func20 (by kernel_rfl) (by kernel_rfl)) rfl (aims_run c ha hb) W ⟨rfl, rfl, rfl, trivial⟩
end Go.Proofs.Ytebibmioiigplaa.Dec

/- Layer 26: SteadyComes. -/
namespace Go.Proofs.Ytebibmioiigplaa.Dec
open Go.Eng Go.RowKit Mil Rin
set_option linter.unusedVariables false
set_option linter.unusedSimpArgs false
set_option maxRecDepth 100000
theorem wayCm (c : Conf.Cf) (v : Int) (k : Nat) (w : Int) (o : List Dcn) (i : Int) : T.path [true, true, true, true, true, true, true, true, true, true, true, true, false, true, true, true, true, false] (rdCm (pCm c v k w o) ⟨i⟩) = some ([(decide (i < (k : Int)), true), (idR o k i, true), (ldR o i, true), (pnD (xD o i) == false, true), (pnD (xD o i) == false, true), (pnD (xD o i) == false, true), (idR o k i, true), (pnD (xD o i) == false, true), (pnD (xD o i) == false, true), (ldR o i, true), (pnD (xD o i) == false, true), (pnD (xD o i) == false, true), (pnD (xD o i), false), (bif (wnD (xD o i) != w) == false && true then idR o k i else true, true), (bif (wnD (xD o i) != w) == false && true then ldR o i else true, true), (bif (bif wnD (xD o i) != w then true else Prod.fst (Prod.snd (xD o i)) != v) == false && true then idR o k i else true, true), (bif (bif wnD (xD o i) != w then true else Prod.fst (Prod.snd (xD o i)) != v) == false && true then ldR o i else true, true), (bif bif wnD (xD o i) != w then true else Prod.fst (Prod.snd (xD o i)) != v then true else Prod.fst (Prod.snd (Prod.snd (xD o i))) != v, false)], (.normal, FCm (pCm c v k w o) ⟨wI (i + 1)⟩)) := by kernel_rfl
theorem wayCmx (p : PCm) (a : ACm) : T.path [false] (rdCm p a) = some ([(decide (a.i < (p.k : Int)), false)], (.exit 0, FCm p a)) := by kernel_rfl
def okCm (p : PCm) (a : ACm) : Prop := ∃ (c : Conf.Cf) (v r0 i : Int) (k : Nat), p = pCm c v k (max c.min (Conf.ofC c v)) (outs v c r0 k) ∧ a = ⟨i⟩ ∧ Conf.mayB c = true ∧ 0 ≤ v ∧ v ≤ 1000000000 ∧ 0 ≤ r0 ∧ r0 ≤ 100 ∧ Conf.ofC c v ≤ Conf.mostC c ∧ c.delay ≤ 10 ∧ 1100 ≤ c.down ∧ c.stable ≤ 40 ∧ 101 + c.stable + 31 * max 1 c.delay ≤ i ∧ i ≤ k ∧ k ≤ 20000
def goCm (p : PCm) (a : ACm) : Bool := decide (a.i < (p.k : Int))
def muCm (p : PCm) (a : ACm) : Nat := (20000 - a.i).toNat
theorem stepCm (p : PCm) (a : ACm) (h : okCm p a) (hg : goCm p a = true) : ∃ b, stepC okCm rdCm FCm muCm p a b := by
  obtain ⟨c, v, r0, i, k, rfl, rfl, hm, v0, v1, h0, h1, hw, dl, hd, st, i0, i1, k1⟩ := h
  have st0 := (Conf.may_of hm).stable
  have hg0 : decide (i < (k : Int)) = true := hg
  have hi : i < (k : Int) := of_decide_eq_true hg0
  have hwp : wI (i + 1) = i + 1 := wrap64_in (by omega) (by omega)
  have ei : ((i.toNat : Nat) : Int) = i := by omega
  obtain ⟨b1, b2, b3, b4⟩ := comes hm v0 v1 h0 h1 hw dl hd st (k := i.toNat) (by omega) (by omega)
  have ex : xD (outs v c r0 k) i = outD v c r0 i.toNat := xD_outs (by omega) hi
  obtain ⟨y1, y2⟩ := idR_is (g := outs v c r0 k) (k := k) (i := i) (outs_len _ _ _ _).symm (by omega) hi
  have way := wayCm c v k (max c.min (Conf.ofC c v)) (outs v c r0 k) i
  have n1 : ((max c.min (Conf.ofC c v)) != (max c.min (Conf.ofC c v))) = false := bne_self_eq_false _
  have n2 : (v != v) = false := bne_self_eq_false _
  rw [ex, hwp, b1, b2, b3, b4, y1, y2, n1, n2, hg0] at way
  refine ⟨⟨i + 1⟩, T.path_eval way (allSay_of (by rfl)), ⟨c, v, r0, i + 1, k, rfl, rfl, hm, v0, v1, h0, h1, hw, dl, hd, st, by omega, by omega, k1⟩, ?_⟩
  show (20000 - (i + 1)).toNat < (20000 - i).toNat; omega
theorem exCm (p : PCm) (a : ACm) (h : okCm p a) (hg : goCm p a = false) : (rdCm p a).eval = some (.exit 0, FCm p a) := T.path_eval (wayCmx p a) ⟨hg, trivial⟩
noncomputable def famCm : LSpec := famC [3,7,9,10,11] SCm 2000 2020 143 decCm okCm goCm rdCm FCm muCm (.exit 0)
theorem lpCm_ok : LoopOk SS lpCm famCm := famC_ok (vs := vsCm) (bs := bsCm) SS_ok mixed (noLoops_ok _) decCm_ok (by simp) (fun _ _ => rfl) (fun _ _ => rfl) stepCm exCm
noncomputable def comR (c : Conf.Cf) (a b : Int) : T V := execS SS (byReg [(rgCm, famCm)]) 18 [.agg (cfL c), Eng.iv a, Eng.iv b]
def cC (c : Conf.Cf) : Conf.Cf := { c with stable := wI (6 + wI (Int.tmod (IntKind.wrap .u64 c.stable) 35)), panic := wI (1 + wI (Int.tmod (IntKind.wrap .u64 c.panic) 6)), grain := wI (1 + wI (Int.tmod (IntKind.wrap .u64 c.grain) (IntKind.wrap .u64 (wI (1 + wI (Int.tmod (IntKind.wrap .u64 c.panic) 6)))))), up := if 1100 > c.up then 1100 else c.up, down := if 1100 > c.down then 1100 else c.down, delay := wI (Int.tmod (IntKind.wrap .u64 c.delay) 11) }
def qC (c : Conf.Cf) (v : Int) : Int := wI (Int.tmod (IntKind.wrap .u64 v) (IntKind.wrap .u64 (wI (wI (Conf.perC c * Conf.mostC c) + 1))))
def vC (c : Conf.Cf) (v : Int) : Int := if 1000000000 < qC c v then 1000000000 else qC c v
def uC (c : Conf.Cf) (v : Int) : Int := wI (Int.tdiv (wI (wI (v + Conf.perC c) - 1)) (Conf.perC c))
def wC (c : Conf.Cf) (v : Int) : Int := if uC c v > c.min then uC c v else c.min
def nC (c : Conf.Cf) : Int := wI (ticC c + 50)
theorem com_w0 (c : Conf.Cf) (a b : Int) : T.path [false, false, false, false, true] (T.anon (comR c a b)) = some ([(false, false), (false, false), (false, false), (IntKind.wrap .u64 (wI (1 + wI (Int.tmod (IntKind.wrap .u64 c.panic) 6))) == 0, false), (!Conf.mayB (cC c), true)], .tt) := by kernel_rfl
theorem com_w1 (c d : Conf.Cf) (a b v : Int) (k : Nat) (hd : cC c = d) (hv : vC d a = v) (hk : (cpI (nC d) 30000).toNat = k) : T.path [false, false, false, false, false, true, false, false, true, false, true, true, false, true, false, true] (T.anon (comR c a b)) =
    some ([(false, false), (false, false), (false, false), (IntKind.wrap .u64 (wI (1 + wI (Int.tmod (IntKind.wrap .u64 c.panic) 6))) == 0, false), (!Conf.mayB d, false), (Mil.inR c.target && Mil.inR c.util, true), (IntKind.wrap .u64 (wI (wI (Conf.perC d * Conf.mostC d) + 1)) == 0, false), (!Conf.mayB d, false), (Conf.mayB d, true), (bif (k : Int) != nC d then true else decide (ticC d < 400), false), (Mil.inR c.target && Mil.inR c.util, true), (Mil.inR c.target && Mil.inR c.util, true), (Conf.perC d == 0, false),
      (invC okCm (pCm d v k (wC d v) (outs (cpI v 1000000000) d (cpI b 100) k)) ⟨wI (ticC d - 1)⟩, true), (!Conf.mayB d, false), (inA d v, true)], .s (.bool (aimC d v == wC d v))) := by subst hk; subst hv; subst hd; kernel_rfl
end Go.Proofs.Ytebibmioiigplaa.Dec

/- Layer 26: SteadyComes: the law. -/
namespace Go.Proofs.Ytebibmioiigplaa.Dec
open Go.Eng Go.RowKit Mil Rin
set_option linter.unusedVariables false
set_option linter.unusedSimpArgs false
set_option maxRecDepth 100000
theorem wu_in {x : Int} (h0 : 0 ≤ x) (h1 : x ≤ 1000000000000) : IntKind.wrap .u64 x = x := by rw [IntKind.wrap_u64]; omega
theorem modW (a : Int) {m : Int} (hm : 0 < m) (h2 : m ≤ 9223372036854775807) : 0 ≤ wI (Int.tmod (IntKind.wrap .u64 a) m) ∧ wI (Int.tmod (IntKind.wrap .u64 a) m) < m := modI a hm h2
theorem ceil_eq {v p : Int} (hp : 0 < p) : (v + p - 1) / p = Mil.upI v p := by
  refine (Conf.up_eq hp ?_ ?_).symm
  · have := Int.lt_ediv_add_one_mul_self (v + p - 1) hp
    rw [Int.add_mul] at this; omega
  · have := Int.ediv_mul_le (v + p - 1) (show p ≠ 0 by omega)
    omega
structure ComN (c : Conf.Cf) (a : Int) : Prop where
  v0 : 0 ≤ vC c a
  v1 : vC c a ≤ 1000000000
  w : wC c (vC c a) = max c.min (Conf.ofC c (vC c a))
  le : Conf.ofC c (vC c a) ≤ Conf.mostC c
  nz : (IntKind.wrap .u64 (wI (wI (Conf.perC c * Conf.mostC c) + 1)) == 0) = false
theorem comN {c : Conf.Cf} (hm : Conf.mayB c = true) (a : Int) : ComN c a := by
  have may := Conf.may_of hm
  obtain ⟨_, p2, p3⟩ := Conf.per_go may
  obtain ⟨_, m1, m2⟩ := mostC_range hm
  have hp1 := Conf.perC_pos c
  have b0 : 0 ≤ Conf.perC c * Conf.mostC c := Int.mul_nonneg (by omega) (by omega)
  have b1 : Conf.perC c * Conf.mostC c ≤ 1000000 * 100 := Int.mul_le_mul p3 m2 (by omega) (by omega)
  have e1 : wI (Conf.perC c * Conf.mostC c) = Conf.perC c * Conf.mostC c := wrap64_in (by omega) (by omega)
  have e2 : wI (Conf.perC c * Conf.mostC c + 1) = Conf.perC c * Conf.mostC c + 1 := wrap64_in (by omega) (by omega)
  have e3 : IntKind.wrap .u64 (Conf.perC c * Conf.mostC c + 1) = Conf.perC c * Conf.mostC c + 1 := wu_in (by omega) (by omega)
  obtain ⟨q0, q1⟩ := modW a (m := Conf.perC c * Conf.mostC c + 1) (by omega) (by omega)
  have eq : qC c a = wI (Int.tmod (IntKind.wrap .u64 a) (Conf.perC c * Conf.mostC c + 1)) := by unfold qC; rw [e1, e2, e3]
  have q0 : 0 ≤ qC c a := by rw [eq]; exact q0
  have q1 : qC c a < Conf.perC c * Conf.mostC c + 1 := by rw [eq]; exact q1
  have hv0 : 0 ≤ vC c a := by unfold vC; split <;> omega
  have hv1 : vC c a ≤ 1000000000 := by unfold vC; split <;> omega
  have hv2 : vC c a ≤ Conf.perC c * Conf.mostC c := by unfold vC; split <;> omega
  have hu : Mil.upI (vC c a) (Conf.perC c) ≤ Conf.mostC c := by
    rw [← ceil_eq (by omega)]
    have : vC c a + Conf.perC c - 1 < (Conf.mostC c + 1) * Conf.perC c := by rw [Int.add_mul, Int.mul_comm (Conf.mostC c)]; omega
    have := Int.ediv_lt_of_lt_mul (by omega) this
    omega
  have hn := Conf.up_nonneg hv0 (show 0 < Conf.perC c by omega)
  have ho : Conf.ofC c (vC c a) = Mil.upI (vC c a) (Conf.perC c) := by
    rw [Conf.ofC_of may hv0 (by omega), if_neg (by omega)]
  have hU : uC c (vC c a) = Mil.upI (vC c a) (Conf.perC c) := by
    unfold uC
    rw [show wI (vC c a + Conf.perC c) = vC c a + Conf.perC c from wrap64_in (by omega) (by omega), show wI (vC c a + Conf.perC c - 1) = vC c a + Conf.perC c - 1 from wrap64_in (by omega) (by omega), Int.tdiv_eq_ediv_of_nonneg (by omega), ceil_eq (by omega)]
    exact wrap64_in (by omega) (by omega)
  refine ⟨hv0, hv1, ?_, by rw [ho]; exact hu, ?_⟩
  · unfold wC
    rw [hU, ho]
    split <;> omega
  · rw [e1, e2, e3, beq_eq_false_iff_ne]; omega
theorem com_run (c : Conf.Cf) (a b : Int) : (comR c a b).yes := by
  unfold T.yes
  refine (Classical.em (Conf.mayB (cC c) = true)).elim (fun hm => ?_) fun hm => ?_
  · right
    rw [← T.eval_anon (t := comR c a b)]
    have may := Conf.may_of hm
    have hP := modW c.panic (m := 6) (by omega) (by omega)
    have eP : wI (1 + wI (Int.tmod (IntKind.wrap .u64 c.panic) 6)) = 1 + wI (Int.tmod (IntKind.wrap .u64 c.panic) 6) := wrap64_in (by omega) (by omega)
    have z0 : (IntKind.wrap .u64 (wI (1 + wI (Int.tmod (IntKind.wrap .u64 c.panic) 6))) == 0) = false := by
      rw [eP, wu_in (by omega) (by omega), beq_eq_false_iff_ne]; omega
    have inc : (Mil.inR c.target && Mil.inR c.util) = true := by
      have h1 : 10 ≤ c.target ∧ c.target ≤ 1000000 := may.target
      have h2 : 100 ≤ c.util ∧ c.util ≤ 1000 := may.util
      rw [Mil.inR_iff.2 ⟨by omega, by omega⟩, Mil.inR_iff.2 ⟨by omega, by omega⟩]; rfl
    have dl : (cC c).delay ≤ 10 := by
      have := modW c.delay (m := 11) (by omega) (by omega)
      show wI (Int.tmod (IntKind.wrap .u64 c.delay) 11) ≤ 10; omega
    have hd : 1100 ≤ (cC c).down := by show 1100 ≤ if 1100 > c.down then 1100 else c.down; split <;> omega
    have st : (cC c).stable ≤ 40 := by
      have := modW c.stable (m := 35) (by omega) (by omega)
      show wI (6 + wI (Int.tmod (IntKind.wrap .u64 c.stable) 35)) ≤ 40
      rw [show wI (6 + wI (Int.tmod (IntKind.wrap .u64 c.stable) 35)) = 6 + wI (Int.tmod (IntKind.wrap .u64 c.stable) 35) from wrap64_in (by omega) (by omega)]
      omega
    have way := com_w1 c (cC c) a b (vC (cC c) a) _ rfl rfl rfl
    revert way hm may dl hd st
    generalize cC c = d
    intro hm may dl hd st way
    obtain ⟨v0, v1, hw, le, nz⟩ := comN hm a
    have s1 := may.stable
    have s2 := may.panic
    have s3 := may.delay
    have tk : ticC d = 400 + 2 * d.stable + d.panic + 40 * d.delay := by
      unfold ticC
      have w1 : wI (2 * d.stable) = 2 * d.stable := wrap64_in (by omega) (by omega)
      have w2 : wI (400 + 2 * d.stable) = 400 + 2 * d.stable := wrap64_in (by omega) (by omega)
      have w3 : wI (400 + 2 * d.stable + d.panic) = 400 + 2 * d.stable + d.panic := wrap64_in (by omega) (by omega)
      have w4 : wI (40 * d.delay) = 40 * d.delay := wrap64_in (by omega) (by omega)
      rw [w1, w2, w3, w4]
      exact wrap64_in (by omega) (by omega)
    have en : nC d = ticC d + 50 := by unfold nC; exact wrap64_in (by omega) (by omega)
    have ec : cpI (nC d) 30000 = nC d := cp_in (by omega) (by omega)
    have ek : (((nC d).toNat : Nat) : Int) = nC d := by omega
    have e1 : wI (ticC d - 1) = ticC d - 1 := wrap64_in (by omega) (by omega)
    have hr := cpI_range b (show (0 : Int) ≤ 100 by omega)
    rw [ec, e1, hw, hm, z0, inc, nz, cp_in v0 (by omega)] at way
    have h0 : okCm (pCm d (vC d a) (nC d).toNat (max d.min (Conf.ofC d (vC d a))) (outs (vC d a) d (cpI b 100) (nC d).toNat)) ⟨ticC d - 1⟩ :=
      ⟨d, _, _, _, _, rfl, rfl, hm, v0, v1, hr.1, hr.2, le, dl, hd, st, by omega, by omega, by omega⟩
    have i0 := invC_is h0
    have p0 : (Conf.perC d == 0) = false := by have := Conf.perC_pos d; rw [beq_eq_false_iff_ne]; omega
    have c9 : (bif (((nC d).toNat : Nat) : Int) != nC d then true else decide (ticC d < 400)) = false := by
      rw [ek, bne_self_eq_false, decide_eq_false (show ¬ ticC d < 400 by omega)]; rfl
    have ia : inA d (vC d a) = true := by
      unfold inA
      rw [inC_may hm, Mil.inR_iff.2 (by split <;> omega)]; rfl
    have ea : (aimC d (vC d a) == max d.min (Conf.ofC d (vC d a))) = true := by
      rw [beq_iff_eq]
      unfold aimC
      rw [if_neg (by omega)]
      have mn := may.min
      have mr := mostC_range hm
      unfold boundI
      repeat' split
      all_goals omega
    rw [i0, p0, c9, ia, ea] at way
    exact T.path_eval way (allSay_of (by rfl))
  · left
    rw [← T.eval_anon (t := comR c a b)]
    have hP := modW c.panic (m := 6) (by omega) (by omega)
    have eP : wI (1 + wI (Int.tmod (IntKind.wrap .u64 c.panic) 6)) = 1 + wI (Int.tmod (IntKind.wrap .u64 c.panic) 6) := wrap64_in (by omega) (by omega)
    have z0 : (IntKind.wrap .u64 (wI (1 + wI (Int.tmod (IntKind.wrap .u64 c.panic) 6))) == 0) = false := by
      rw [eP, wu_in (by omega) (by omega), beq_eq_false_iff_ne]; omega
    have hf : Conf.mayB (cC c) = false := by cases h : Conf.mayB (cC c) with
      | true => exact absurd h hm
      | false => rfl
    have way := com_w0 c a b
    rw [z0, hf] at way
    exact T.path_eval way (allSay_of (by rfl))
theorem com_walk (c : Conf.Cf) (_ : c.Ok) (a : Int) (_ : (Lit.int .i64 a).wf = true) (b : Int) (_ : (Lit.int .i64 b).wf = true) (W : World) :
    Calls Try.prog 18 #[.agg #[.int .i64 c.target, .int .i64 c.util, .int .i64 c.stable, .int .i64 c.panic, .int .i64 c.grain, .int .i64 c.threshold, .int .i64 c.up, .int .i64 c.down, .int .i64 c.min, .int .i64 c.max, .int .i64 c.initial, .int .i64 c.grace, .int .i64 c.delay, .int .i64 c.burst, .int .i64 c.limit, .int .i64 c.queue, .int .i64 c.timeout, .int .i64 c.ready, .int .i64 c.subset, .int .i64 c.sample], .int .i64 a, .int .i64 b] W fun e w' => e = .returned (.bool true) ∧ Below W.heap.size W w' :=
  Law.law_rows (args := [Conf.confV c, Eng.iv a, Eng.iv b]) (xs := [.agg #[.int .i64 c.target, .int .i64 c.util, .int .i64 c.stable, .int .i64 c.panic, .int .i64 c.grain, .int .i64 c.threshold, .int .i64 c.up, .int .i64 c.down, .int .i64 c.min, .int .i64 c.max, .int .i64 c.initial, .int .i64 c.grace, .int .i64 c.delay, .int .i64 c.burst, .int .i64 c.limit, .int .i64 c.queue, .int .i64 c.timeout, .int .i64 c.ready, .int .i64 c.subset, .int .i64 c.sample], .int .i64 a, .int .i64 b]) (execS_loops (Λ := byReg [(rgCm, famCm)]) SS_ok mixed Try.func18 (by kernel_rfl) (by kernel_rfl) (one_lp (by kernel_rfl) rgCm_is lpCm_ok)) rfl (com_run c a b) W ⟨rfl, rfl, rfl, trivial⟩
end Go.Proofs.Ytebibmioiigplaa.Dec

