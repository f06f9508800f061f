import Derived.Test.YtebibmioiigplaaGT
/- Layer 26: SteadyFalls: the loop. -/
namespace Go.Proofs.Ytebibmioiigplaa.Dec
open Go.Eng Go.RowKit Mil Rin
set_option linter.unusedVariables false
set_option linter.unusedSimpArgs false
set_option maxRecDepth 100000
noncomputable def lpFa : Code := loopAt Try.prog 21 0
structure PFa where (v : Int) (k : Nat) (o : List (Int × Int × Int × Int × Bool × Int))
structure AFa where (w : Int) (i : Int)
abbrev SFa : List (Nat × Src) := [(16, .same)]
def vsFa (p : PFa) (a : AFa) : List V := [iv p.v, .sub 16 6 0 p.k, iv a.w, iv a.i]
def bsFa (p : PFa) (a : AFa) : List Blk := [.lst true 83 [.int .i64, .int .i64, .int .i64, .int .i64, .bool, .int .i64] p.o]
noncomputable def FFa (p : PFa) (a : AFa) : St := mkSt [6,8,9,10] (keysR SFa) 2020 83 (vsFa p a) (bsFa p a)
noncomputable def rdFa (p : PFa) (a : AFa) : T (Ex × St) := T.anon (roundN SS noLoops lpFa [6,8,9,10] SFa 2000 2020 (mkSt [6,8,9,10] (keysR SFa) 2020 83 (vsFa p a) (bsFa p a)))
def decFa_v0 : V → Option ((Int))
  | .s (.int .i64 v) => some (v)
  | _ => none
theorem decFa_v0_ok (b : V) (x0 : (Int)) (h : decFa_v0 b = some x0) : b = iv (x0) := by
  unfold decFa_v0 at h
  split at h
  · cases h
    rfl
  · cases h
def decFa_v1 : V → Option ((Nat))
  | .sub 16 6 0 k => some (k)
  | _ => none
theorem decFa_v1_ok (b : V) (x1 : (Nat)) (h : decFa_v1 b = some x1) : b = .sub 16 6 0 (x1) := by
  unfold decFa_v1 at h
  split at h
  · cases h
    rfl
  · cases h
def decFa_v2 : V → Option ((Int))
  | .s (.int .i64 w) => some (w)
  | _ => none
theorem decFa_v2_ok (b : V) (x2 : (Int)) (h : decFa_v2 b = some x2) : b = iv (x2) := by
  unfold decFa_v2 at h
  split at h
  · cases h
    rfl
  · cases h
def decFa_v3 : V → Option ((Int))
  | .s (.int .i64 i) => some (i)
  | _ => none
theorem decFa_v3_ok (b : V) (x3 : (Int)) (h : decFa_v3 b = some x3) : b = iv (x3) := by
  unfold decFa_v3 at h
  split at h
  · cases h
    rfl
  · cases h
def decFa_b0 : Blk → Option ((List (Int × Int × Int × Int × Bool × Int)))
  | .lst true tt0 [.int .i64, .int .i64, .int .i64, .int .i64, .bool, .int .i64] o => if tt0 = 83 then some (o) else none
  | _ => none
theorem decFa_b0_ok (b : Blk) (y0 : (List (Int × Int × Int × Int × Bool × Int))) (h : decFa_b0 b = some y0) : b = .lst true 83 [.int .i64, .int .i64, .int .i64, .int .i64, .bool, .int .i64] (y0) := by
  unfold decFa_b0 at h
  split at h
  · obtain ⟨e0, h⟩ := ite_some0 h
    subst e0
    cases h
    rfl
  · cases h
def decFa : List V → List Blk → Option (PFa × AFa)
  | [v0, v1, v2, v3], [b0] => (decFa_v0 v0).bind fun x0 => (decFa_v1 v1).bind fun x1 => (decFa_v2 v2).bind fun x2 => (decFa_v3 v3).bind fun x3 => (decFa_b0 b0).bind fun y0 => some (⟨(x0), (x1), (y0)⟩, ⟨(x2), (x3)⟩)
  | _, _ => none
theorem decFa_ok (l : List V) (b : List Blk) (d : PFa × AFa) (h : decFa l b = some d) : l = vsFa d.1 d.2 ∧ b = bsFa d.1 d.2 := by
  unfold decFa at h
  split at h
  · obtain ⟨x0, hx0, h⟩ := Option.bind_eq_some_iff.1 h
    obtain ⟨x1, hx1, h⟩ := Option.bind_eq_some_iff.1 h
    obtain ⟨x2, hx2, h⟩ := Option.bind_eq_some_iff.1 h
    obtain ⟨x3, hx3, h⟩ := Option.bind_eq_some_iff.1 h
    obtain ⟨y0, hy0, h⟩ := Option.bind_eq_some_iff.1 h
    have ex0 := decFa_v0_ok _ _ hx0
    have ex1 := decFa_v1_ok _ _ hx1
    have ex2 := decFa_v2_ok _ _ hx2
    have ex3 := decFa_v3_ok _ _ hx3
    have ey0 := decFa_b0_ok _ _ hy0
    cases h
    subst ex0 ex1 ex2 ex3 ey0
    exact ⟨rfl, rfl⟩
  · cases h
noncomputable def rgFa : Nat := (firstReg lpFa).getD 0
theorem rgFa_is : firstReg lpFa = some rgFa := by kernel_rfl
end Go.Proofs.Ytebibmioiigplaa.Dec

/- Layer 26: SteadyFalls. -/
namespace Go.Proofs.Ytebibmioiigplaa.Dec
open Go.Eng Go.RowKit Mil Rin
set_option linter.unusedVariables false
set_option linter.unusedSimpArgs false
set_option maxRecDepth 100000
def xD (o : List Dcn) (i : Int) : Dcn := o.getD (0 + i.toNat) z6
def pnD (x : Dcn) : Bool := x.2.2.2.2.1
def wnD (x : Dcn) : Int := x.2.2.2.1
theorem wayFa (v w i : Int) (k : Nat) (o : List Dcn) : T.path [true, true, true, true, true, true, true, true, true, true, true, true, false, true, true, false, false, true, true, false, false, false, false, false, true, true] (rdFa ⟨v, k, o⟩ ⟨w, i⟩) = some ([(decide (i < (k : Int)), true), (idR o k i, true), (ldR o i, true), (pnD (xD o i) == false, true), (pnD (xD o i) == false, true), (pnD (xD o i) == false, true), (idR o k i, true), (pnD (xD o i) == false, true), (pnD (xD o i) == false, true), (ldR o i, true), (pnD (xD o i) == false, true), (pnD (xD o i) == false, true), (pnD (xD o i), false), (bif decide (w < wnD (xD o i)) == false && true then idR o k i else true, true), (bif decide (w < wnD (xD o i)) == false && true then ldR o i else true, true), (decide (w < wnD (xD o i)), false), ((2 : Int) == 0, false), (bif decide (w < wnD (xD o i)) == false && (decide (wnD (xD o i) < wI (Int.tdiv w 2)) == true && true) then idR o k i else true, true), (bif decide (w < wnD (xD o i)) == false && (decide (wnD (xD o i) < wI (Int.tdiv w 2)) == true && true) then ldR o i else true, true), (decide (w < wnD (xD o i)) == false && (decide (wnD (xD o i) < wI (Int.tdiv w 2)) == true && true), false), (decide (w < wnD (xD o i)) == false && (decide (wnD (xD o i) < wI (Int.tdiv w 2)) == true && true), false), (decide (w < wnD (xD o i)), false), (decide (wnD (xD o i) < wI (Int.tdiv w 2)), false), (bif decide (w < wnD (xD o i)) then true else false, false), (idR o k i, true), (ldR o i, true)], (.normal, FFa ⟨v, k, o⟩ ⟨wnD (xD o i), wI (i + 1)⟩)) := by kernel_rfl
theorem wayFax (p : PFa) (a : AFa) : T.path [false] (rdFa p a) = some ([(decide (a.i < (p.k : Int)), false)], (.exit 0, FFa p a)) := by kernel_rfl
/-- the default settings, the load v, w pods wanted -/
theorem dflt_of {v : Int} (v0 : 0 ≤ v) (v1 : v ≤ 700000) : Conf.ofC Conf.dflt v = (v + 6999) / 7000 := by
  have mz : Conf.mayB Conf.dflt = true := by kernel_rfl
  rw [Conf.ofC_of (Conf.may_of mz) v0 (by omega)]
  have ep : Conf.perC Conf.dflt = 7000 := by kernel_rfl
  have e : Mil.upI v 7000 = (v + 6999) / 7000 := by
    unfold Mil.upI
    rw [Int.fdiv_eq_ediv_of_nonneg _ (by omega)]
    omega
  rw [ep, e]
  split <;> omega
theorem dflt_limit {w r : Int} (r0 : 0 ≤ r) (r1 : r ≤ 100) : Conf.limitR Conf.dflt w r = if 10 * (if r < 1 then 1 else r) < (if r / 2 > w then r / 2 else w) then 10 * (if r < 1 then 1 else r) else (if r / 2 > w then r / 2 else w) := by
  have mz : Conf.mayB Conf.dflt = true := by kernel_rfl
  have e1 : Conf.leastR Conf.dflt r = r / 2 := by
    unfold Conf.leastR
    rw [if_pos mz]
    show 1000 * Mil.clampI r 0 1000000 / 2000 = r / 2
    have : Mil.clampI r 0 1000000 = r := by unfold Mil.clampI; rw [if_neg (by omega), if_neg (by omega)]
    rw [this]; omega
  have e2 : Conf.mostR Conf.dflt r = 10 * (if r < 1 then 1 else r) := by
    unfold Conf.mostR
    rw [if_pos mz]
    have : Mil.clampI r 1 1000000 = if r < 1 then 1 else r := by unfold Mil.clampI; rw [if_neg (by omega)]
    rw [this]
    show Conf.capM (Mil.upI (10000 * if r < 1 then 1 else r) 1000) = _
    have : Mil.upI (10000 * if r < 1 then 1 else r) 1000 = 10 * (if r < 1 then 1 else r) := by
      unfold Mil.upI
      rw [Int.fdiv_eq_ediv_of_nonneg _ (by omega)]
      split <;> omega
    rw [this]
    unfold Conf.capM
    split <;> split <;> omega
  unfold Conf.limitR
  rw [if_pos mz, e1, e2]
  unfold Conf.midR
  rfl
theorem dflt_over (w r : Int) (w0 : 0 ≤ w) (w1 : w ≤ 1000) (r0 : 0 ≤ r) (r1 : r ≤ 100) : Conf.overC Conf.dflt w r = decide (2 * (if r < 1 then 1 else r) ≤ w) := by
  have mz : Conf.mayB Conf.dflt = true := by kernel_rfl
  unfold Conf.overC
  rw [mz, Bool.true_and]
  have e1 : Mil.clampI r 1 1000000 = if r < 1 then 1 else r := by unfold Mil.clampI; rw [if_neg (by omega)]
  have e2 : Mil.clampI w 0 1000000 = w := by unfold Mil.clampI; rw [if_neg (by omega), if_neg (by omega)]
  rw [e1, e2]
  show decide (2000 * (if r < 1 then 1 else r) ≤ w * 1000) = _
  congr 1
  rw [eq_iff_iff]
  split <;> omega
end Go.Proofs.Ytebibmioiigplaa.Dec

/- Layer 26: SteadyRises: the loop. -/
namespace Go.Proofs.Ytebibmioiigplaa.Dec
open Go.Eng Go.RowKit Mil Rin
set_option linter.unusedVariables false
set_option linter.unusedSimpArgs false
set_option maxRecDepth 100000
noncomputable def lpRs : Code := loopAt Try.prog 19 0
structure PRs where (m : Int) (k : Nat) (o : List (Int × Int × Int × Int × Bool × Int))
structure ARs where (i : Int)
abbrev SRs : List (Nat × Src) := [(16, .same)]
def vsRs (p : PRs) (a : ARs) : List V := [.sub 16 6 0 p.k, iv p.m, iv a.i]
def bsRs (p : PRs) (a : ARs) : List Blk := [.lst true 83 [.int .i64, .int .i64, .int .i64, .int .i64, .bool, .int .i64] p.o]
noncomputable def FRs (p : PRs) (a : ARs) : St := mkSt [5,6,7] (keysR SRs) 2020 72 (vsRs p a) (bsRs p a)
noncomputable def rdRs (p : PRs) (a : ARs) : T (Ex × St) := T.anon (roundN SS noLoops lpRs [5,6,7] SRs 2000 2020 (mkSt [5,6,7] (keysR SRs) 2020 72 (vsRs p a) (bsRs p a)))
def decRs_v0 : V → Option ((Nat))
  | .sub 16 6 0 k => some (k)
  | _ => none
theorem decRs_v0_ok (b : V) (x0 : (Nat)) (h : decRs_v0 b = some x0) : b = .sub 16 6 0 (x0) := by
  unfold decRs_v0 at h
  split at h
  · cases h
    rfl
  · cases h
def decRs_v1 : V → Option ((Int))
  | .s (.int .i64 m) => some (m)
  | _ => none
theorem decRs_v1_ok (b : V) (x1 : (Int)) (h : decRs_v1 b = some x1) : b = iv (x1) := by
  unfold decRs_v1 at h
  split at h
  · cases h
    rfl
  · cases h
def decRs_v2 : V → Option ((Int))
  | .s (.int .i64 i) => some (i)
  | _ => none
theorem decRs_v2_ok (b : V) (x2 : (Int)) (h : decRs_v2 b = some x2) : b = iv (x2) := by
  unfold decRs_v2 at h
  split at h
  · cases h
    rfl
  · cases h
def decRs_b0 : Blk → Option ((List (Int × Int × Int × Int × Bool × Int)))
  | .lst true tt0 [.int .i64, .int .i64, .int .i64, .int .i64, .bool, .int .i64] o => if tt0 = 83 then some (o) else none
  | _ => none
theorem decRs_b0_ok (b : Blk) (y0 : (List (Int × Int × Int × Int × Bool × Int))) (h : decRs_b0 b = some y0) : b = .lst true 83 [.int .i64, .int .i64, .int .i64, .int .i64, .bool, .int .i64] (y0) := by
  unfold decRs_b0 at h
  split at h
  · obtain ⟨e0, h⟩ := ite_some0 h
    subst e0
    cases h
    rfl
  · cases h
def decRs : List V → List Blk → Option (PRs × ARs)
  | [v0, v1, v2], [b0] => (decRs_v0 v0).bind fun x0 => (decRs_v1 v1).bind fun x1 => (decRs_v2 v2).bind fun x2 => (decRs_b0 b0).bind fun y0 => some (⟨(x1), (x0), (y0)⟩, ⟨(x2)⟩)
  | _, _ => none
theorem decRs_ok (l : List V) (b : List Blk) (d : PRs × ARs) (h : decRs l b = some d) : l = vsRs d.1 d.2 ∧ b = bsRs d.1 d.2 := by
  unfold decRs at h
  split at h
  · obtain ⟨x0, hx0, h⟩ := Option.bind_eq_some_iff.1 h
    obtain ⟨x1, hx1, h⟩ := Option.bind_eq_some_iff.1 h
    obtain ⟨x2, hx2, h⟩ := Option.bind_eq_some_iff.1 h
    obtain ⟨y0, hy0, h⟩ := Option.bind_eq_some_iff.1 h
    have ex0 := decRs_v0_ok _ _ hx0
    have ex1 := decRs_v1_ok _ _ hx1
    have ex2 := decRs_v2_ok _ _ hx2
    have ey0 := decRs_b0_ok _ _ hy0
    cases h
    subst ex0 ex1 ex2 ey0
    exact ⟨rfl, rfl⟩
  · cases h
noncomputable def rgRs : Nat := (firstReg lpRs).getD 0
theorem rgRs_is : firstReg lpRs = some rgRs := by kernel_rfl
end Go.Proofs.Ytebibmioiigplaa.Dec

/- Layer 26: SteadyFalls: what Run gives. -/
namespace Go.Proofs.Ytebibmioiigplaa.Dec
open Go.Eng Go.RowKit Mil Rin
set_option linter.unusedVariables false
set_option linter.unusedSimpArgs false
set_option maxRecDepth 100000
theorem xD_outs {v : Int} {c : Conf.Cf} {r0 : Int} {n : Nat} {i : Int} (i0 : 0 ≤ i) (h : i < n) : xD (outs v c r0 n) i = outD v c r0 i.toNat := by
  unfold xD outs
  rw [Nat.zero_add, List.getD_eq_getElem?_getD, List.getElem?_map, List.getElem?_range (by omega)]; rfl
/-- the next one's wish, when it is calm and stays so -/
theorem seq_calm {v : Int} {c : Conf.Cf} {r0 : Int} (hm : Conf.mayB c = true) (hd : c.delay = 0) (v0 : 0 ≤ v) (v1 : v ≤ 1000000000) (h0 : 0 ≤ r0) (h1 : r0 ≤ 100) {k : Nat} (hk : k < 30000) (hsp : (seqD v c r0 k).1.sp = 0) (hsi : (seqD v c r0 k).1.si = -1) (ho : Conf.overC c (Conf.ofC c v) (seqD v c r0 k).2 = false) :
    (seqD v c r0 (k + 1)).2 = boundI c (Conf.limitR c (Conf.ofC c v) (seqD v c r0 k).2) ∧ (seqD v c r0 (k + 1)).1.si = -1 ∧ (seqD v c r0 (k + 1)).1.sp = 0 ∧ pnD (outD v c r0 k) = false ∧ (outD v c r0 k).2.1 = v ∧ (outD v c r0 k).2.2.1 = v := by
  obtain ⟨hv, x0, x1⟩ := seqD_ok hm v0 v1 h0 h1 k (by omega)
  obtain ⟨_, _, e1, e2, g, hn⟩ := hv.tick (by omega) (by omega) (by omega) v0 v1 x0 x1
  have hc := seqD_c v c r0 k
  have hM : (nxM ((seqD v c r0 k).1.put ((k : Int) + 1) v) ((k : Int) + 1) (seqD v c r0 k).2).since = -1 := by
    unfold nxM hasty
    rw [e2]
    show (Conf.nextA (seqD v c r0 k).1.c ⟨(seqD v c r0 k).1.si, (seqD v c r0 k).1.mo⟩ ((k : Int) + 1) (Conf.overC (seqD v c r0 k).1.c (Conf.ofC (seqD v c r0 k).1.c v) (seqD v c r0 k).2)).since = -1
    rw [hc, ho]
    unfold Conf.nextA
    split
    · exact hsi
    · show (if false = true then _ else if (seqD v c r0 k).1.si < 0 then (⟨(seqD v c r0 k).1.si, (seqD v c r0 k).1.mo⟩ : Conf.Md) else _).since = -1
      rw [if_neg (by decide), if_pos (by omega)]; exact hsi
  have hb : tkB (seqD v c r0 k).1 v ((k : Int) + 1) (seqD v c r0 k).2 = false := decide_eq_false (by omega)
  have hK : (nxK (tkB (seqD v c r0 k).1 v ((k : Int) + 1) (seqD v c r0 k).2) ((seqD v c r0 k).1.put ((k : Int) + 1) v) ((k : Int) + 1) (seqD v c r0 k).2).since = -1 := (keep_since _ _).trans hM
  refine ⟨?_, hK, hsp, ?_, e1, e2⟩
  · show nxW _ _ _ _ = _
    rw [hb, nx_rates g hsp (by show (seqD v c r0 k).1.la < (k : Int) + 1; rw [hv.la]; omega) (by omega) x0 x1 false hb (by omega)]
    unfold calmy
    rw [e1]
    show boundI (seqD v c r0 k).1.c (Conf.limitR (seqD v c r0 k).1.c (Conf.ofC (seqD v c r0 k).1.c v) _) = _
    rw [hc]
  · exact decide_eq_false (by show ¬ 0 ≤ (nxK _ _ _ _).since; rw [hK]; omega)
theorem mz_dflt : Conf.mayB Conf.dflt = true := by kernel_rfl
/-- far above: half, until it is w -/
theorem falls {v r0 : Int} (v0 : 0 ≤ v) (v1 : v ≤ 70000) (h0 : 20 ≤ r0) (h1 : r0 ≤ 100) : ∀ k : Nat, k ≤ 1000 → (seqD v Conf.dflt r0 k).1.sp = 0 ∧ (seqD v Conf.dflt r0 k).1.si = -1 ∧ (v + 6999) / 7000 ≤ (seqD v Conf.dflt r0 k).2 ∧ (seqD v Conf.dflt r0 k).2 ≤ 100 ∧ ((seqD v Conf.dflt r0 k).2 ≤ (v + 6999) / 7000 ∨ (seqD v Conf.dflt r0 k).2 ≤ hvQ k)
  | 0, _ => ⟨rfl, rfl, by show _ ≤ r0; omega, h1, .inr h1⟩
  | k + 1, hk => by
    obtain ⟨a1, a2, a3, a4, a5⟩ := falls v0 v1 h0 h1 k (by omega)
    have ho : Conf.overC Conf.dflt (Conf.ofC Conf.dflt v) (seqD v Conf.dflt r0 k).2 = false := by
      rw [dflt_of v0 (by omega), dflt_over _ _ (by omega) (by omega) (by omega) a4]
      refine decide_eq_false ?_
      split <;> omega
    obtain ⟨b1, b2, b3, _⟩ := seq_calm mz_dflt rfl v0 (by omega) (by omega) h1 (k := k) (by omega) a1 a2 ho
    rw [dflt_of v0 (by omega), dflt_limit (by omega) a4] at b1
    have e : (seqD v Conf.dflt r0 (k + 1)).2 = if (seqD v Conf.dflt r0 k).2 / 2 > (v + 6999) / 7000 then (seqD v Conf.dflt r0 k).2 / 2 else (v + 6999) / 7000 := by
      rw [b1]
      unfold boundI
      have e3 : Conf.mostC Conf.dflt = 100 := rfl
      have e4 : Conf.dflt.min = 0 := rfl
      rw [e3, e4]
      repeat' split
      all_goals omega
    refine ⟨b3, b2, ?_, ?_, ?_⟩
    · rw [e]; split <;> omega
    · rw [e]; split <;> omega
    · rw [e]
      have : hvQ (k + 1) = hvQ k / 2 := rfl
      rw [this]; split <;> omega
theorem falls_row {v r0 : Int} (v0 : 0 ≤ v) (v1 : v ≤ 70000) (h0 : 20 ≤ r0) (h1 : r0 ≤ 100) (k : Nat) (hk : k ≤ 900) : pnD (outD v Conf.dflt r0 k) = false ∧ wnD (outD v Conf.dflt r0 k) ≤ (seqD v Conf.dflt r0 k).2 ∧ (seqD v Conf.dflt r0 k).2 / 2 ≤ wnD (outD v Conf.dflt r0 k) := by
  obtain ⟨a1, a2, a3, a4, a5⟩ := falls v0 v1 h0 h1 k (by omega)
  have ho : Conf.overC Conf.dflt (Conf.ofC Conf.dflt v) (seqD v Conf.dflt r0 k).2 = false := by
    rw [dflt_of v0 (by omega), dflt_over _ _ (by omega) (by omega) (by omega) a4]
    refine decide_eq_false ?_
    split <;> omega
  obtain ⟨b1, b2, b3, b4, _⟩ := seq_calm mz_dflt rfl v0 (by omega) (by omega) h1 (k := k) (by omega) a1 a2 ho
  rw [dflt_of v0 (by omega), dflt_limit (by omega) a4] at b1
  have e : wnD (outD v Conf.dflt r0 k) = if (seqD v Conf.dflt r0 k).2 / 2 > (v + 6999) / 7000 then (seqD v Conf.dflt r0 k).2 / 2 else (v + 6999) / 7000 := by
    show (seqD v Conf.dflt r0 (k + 1)).2 = _
    rw [b1]
    unfold boundI
    have e3 : Conf.mostC Conf.dflt = 100 := rfl
    have e4 : Conf.dflt.min = 0 := rfl
    rw [e3, e4]
    repeat' split
    all_goals omega
  refine ⟨b4, ?_, ?_⟩
  · rw [e]; split <;> omega
  · rw [e]; split <;> omega
def okFa (p : PFa) (a : AFa) : Prop := ∃ (v r0 : Int) (i : Nat), p = ⟨v, 40, outs v Conf.dflt r0 40⟩ ∧ a = ⟨(seqD v Conf.dflt r0 i).2, (i : Int)⟩ ∧ 0 ≤ v ∧ v ≤ 70000 ∧ 20 ≤ r0 ∧ r0 ≤ 100 ∧ i ≤ 40
def goFa (p : PFa) (a : AFa) : Bool := decide (a.i < (p.k : Int))
def muFa (p : PFa) (a : AFa) : Nat := (40 - a.i).toNat
theorem stepFa (p : PFa) (a : AFa) (h : okFa p a) (hg : goFa p a = true) : ∃ b, stepC okFa rdFa FFa muFa p a b := by
  obtain ⟨v, r0, i, rfl, rfl, v0, v1, h0, h1, i1⟩ := h
  have hg0 : decide ((i : Int) < ((40 : Nat) : Int)) = true := hg
  have hi : (i : Int) < ((40 : Nat) : Int) := of_decide_eq_true hg0
  have hw : wI ((i : Int) + 1) = (i : Int) + 1 := wrap64_in (by omega) (by omega)
  obtain ⟨b1, b2, b3⟩ := falls_row v0 v1 h0 h1 i (by omega)
  obtain ⟨_, _, a3, a4, _⟩ := falls v0 v1 h0 h1 i (by omega)
  have ex : xD (outs v Conf.dflt r0 40) (i : Int) = outD v Conf.dflt r0 i := by rw [xD_outs (by omega) (by omega)]; rfl
  obtain ⟨y1, y2⟩ := idR_is (g := outs v Conf.dflt r0 40) (k := 40) (i := (i : Int)) (outs_len _ _ _ _).symm (by omega) hi
  have way := wayFa v (seqD v Conf.dflt r0 i).2 (i : Int) 40 (outs v Conf.dflt r0 40)
  rw [ex, hw] at way
  have q1 : decide ((seqD v Conf.dflt r0 i).2 < wnD (outD v Conf.dflt r0 i)) = false := decide_eq_false (by omega)
  have q2 : decide (wnD (outD v Conf.dflt r0 i) < wI (Int.tdiv (seqD v Conf.dflt r0 i).2 2)) = false := by
    rw [Int.tdiv_eq_ediv_of_nonneg (by omega), show wI ((seqD v Conf.dflt r0 i).2 / 2) = (seqD v Conf.dflt r0 i).2 / 2 from wrap64_in (by omega) (by omega)]
    exact decide_eq_false (by omega)
  refine ⟨⟨(seqD v Conf.dflt r0 (i + 1)).2, ((i + 1 : Nat) : Int)⟩, T.path_eval way ?_, ⟨v, r0, i + 1, rfl, rfl, v0, v1, h0, h1, by omega⟩, ?_⟩
  · rw [b1, y1, y2, q1, q2, hg0]
    exact ⟨rfl, rfl, rfl, rfl, rfl, rfl, rfl, rfl, rfl, rfl, rfl, rfl, rfl, rfl, rfl, rfl, rfl, rfl, rfl, rfl, rfl, rfl, rfl, rfl, rfl, rfl, trivial⟩
  · show (40 - ((i + 1 : Nat) : Int)).toNat < (40 - (i : Int)).toNat; omega
theorem exFa (p : PFa) (a : AFa) (h : okFa p a) (hg : goFa p a = false) : (rdFa p a).eval = some (.exit 0, FFa p a) := T.path_eval (wayFax p a) ⟨hg, trivial⟩
noncomputable def famFa : LSpec := famC [6,8,9,10] SFa 2000 2020 83 decFa okFa goFa rdFa FFa muFa (.exit 0)
theorem lpFa_ok : LoopOk SS lpFa famFa := famC_ok (vs := vsFa) (bs := bsFa) SS_ok mixed (noLoops_ok _) decFa_ok (by simp) (fun _ _ => rfl) (fun _ _ => rfl) stepFa exFa
noncomputable def falR (a b : Int) : T V := execS SS (byReg [(rgFa, famFa)]) 21 [Eng.iv a, Eng.iv b]
end Go.Proofs.Ytebibmioiigplaa.Dec

/- Layer 26: SteadyFalls. -/
namespace Go.Proofs.Ytebibmioiigplaa.Dec
open Go.Eng Go.RowKit Mil Rin
set_option linter.unusedVariables false
set_option linter.unusedSimpArgs false
set_option maxRecDepth 100000
noncomputable def pFa0 (v r : Int) : PFa := ⟨v, 40, outs (cpI v 1000000000) Conf.dflt (cpI r 100) 40⟩
noncomputable def eFa (v r : Int) : AFa := endW (nxtC okFa goFa rdFa FFa muFa (pFa0 v r)) ⟨r, 0⟩
theorem fal_w (a b v r : Int) (e : AFa) (hv : wI (Int.tmod (IntKind.wrap .u64 a) 70001) = v) (hr : wI (20 + wI (Int.tmod (IntKind.wrap .u64 b) 81)) = r) (he : eFa v r = e) : T.path [false, false, true, false, true, false] (T.anon (falR a b)) = some ([((70001 : Int) == 0, false), ((81 : Int) == 0, false), (Conf.mayB Conf.dflt, true), ((((cpI 40 30000).toNat : Nat) : Int) != 40, false), (invC okFa (pFa0 v r) ⟨r, 0⟩, true), ((7000 : Int) == 0, false)], .s (.bool (e.w == wI (Int.tdiv (wI (v + 6999)) 7000)))) := by subst he; subst hr; subst hv; kernel_rfl
theorem cp_in {a hi : Int} (h0 : 0 ≤ a) (h1 : a ≤ hi) : cpI a hi = a := by unfold cpI; rw [if_neg (show ¬ 0 > a by omega), if_neg (by omega)]
theorem fal_run (a b : Int) : (falR a b).yes := by
  unfold T.yes
  refine .inr ?_
  rw [← T.eval_anon (t := falR a b)]
  have hA : 0 ≤ wI (Int.tmod (IntKind.wrap .u64 a) 70001) ∧ wI (Int.tmod (IntKind.wrap .u64 a) 70001) < 70001 := modI a (by omega) (by omega)
  have hB : 0 ≤ wI (Int.tmod (IntKind.wrap .u64 b) 81) ∧ wI (Int.tmod (IntKind.wrap .u64 b) 81) < 81 := modI b (by omega) (by omega)
  have eB : wI (20 + wI (Int.tmod (IntKind.wrap .u64 b) 81)) = 20 + wI (Int.tmod (IntKind.wrap .u64 b) 81) := wrap64_in (by omega) (by omega)
  have way := fal_w a b (wI (Int.tmod (IntKind.wrap .u64 a) 70001)) (wI (20 + wI (Int.tmod (IntKind.wrap .u64 b) 81))) _ rfl rfl rfl
  rw [eB] at way
  revert way hA hB
  clear eB
  generalize wI (Int.tmod (IntKind.wrap .u64 a) 70001) = v
  generalize wI (Int.tmod (IntKind.wrap .u64 b) 81) = r1
  intro hA hB
  have hr : 20 ≤ 20 + r1 ∧ 20 + r1 ≤ 100 := by omega
  revert hr
  generalize 20 + r1 = r
  intro hr way
  have ep : pFa0 v r = ⟨v, 40, outs v Conf.dflt r 40⟩ := by unfold pFa0; rw [cp_in hA.1 (by omega), cp_in (by omega) hr.2]
  have h0 : okFa (pFa0 v r) ⟨r, 0⟩ := ⟨v, r, 0, ep, rfl, hA.1, by omega, hr.1, hr.2, by omega⟩
  obtain ⟨k1, k2⟩ := endC stepFa h0
  have k1 : okFa (pFa0 v r) (eFa v r) := k1
  have k2 : decide ((eFa v r).i < (((pFa0 v r).k : Nat) : Int)) = false := k2
  obtain ⟨v', r', i, hp, ha, v0, v1, r0, r1', i1⟩ := k1
  rw [ep] at hp
  have ev : v = v' := congrArg PFa.v hp
  subst ev
  rw [ha] at way k2
  have k2 : ¬ (i : Int) < ((40 : Nat) : Int) := of_decide_eq_false k2
  have ei : i = 40 := by omega
  subst ei
  obtain ⟨_, _, a3, a4, a5⟩ := falls v0 v1 r0 r1' 40 (by omega)
  have hz : hvQ 40 = 0 := by kernel_rfl
  rw [hz] at a5
  have e1 : (seqD v Conf.dflt r' 40).2 = (v + 6999) / 7000 := by omega
  have e2 : wI (Int.tdiv (wI (v + 6999)) 7000) = (v + 6999) / 7000 := by
    rw [show wI (v + 6999) = v + 6999 from wrap64_in (by omega) (by omega), Int.tdiv_eq_ediv_of_nonneg (by omega)]
    exact wrap64_in (by omega) (by omega)
  refine (T.path_eval way ⟨rfl, rfl, mz_dflt, by kernel_rfl, invC_is h0, rfl, trivial⟩).trans ?_
  show some (V.s (.bool ((seqD v Conf.dflt r' 40).2 == wI (Int.tdiv (wI (v + 6999)) 7000)))) = _
  rw [e1, e2]; simp
theorem fal_walk (a : Int) (_ : (Lit.int .i64 a).wf = true) (b : Int) (_ : (Lit.int .i64 b).wf = true) (W : World) :
    Calls Try.prog 21 #[.int .i64 a, .int .i64 b] W fun e w' => e = .returned (.bool true) ∧ Below W.heap.size W w' :=
  Law.law_rows (args := [Eng.iv a, Eng.iv b]) (xs := [.int .i64 a, .int .i64 b]) (execS_loops (Λ := byReg [(rgFa, famFa)]) SS_ok mixed Try.func21 (by kernel_rfl) (by kernel_rfl) (one_lp (by kernel_rfl) rgFa_is lpFa_ok)) rfl (fal_run a b) W ⟨rfl, rfl, trivial⟩
end Go.Proofs.Ytebibmioiigplaa.Dec

/- Layer 26: SteadyRises: what Run gives. -/
namespace Go.Proofs.Ytebibmioiigplaa.Dec
open Go.Eng Go.RowKit Mil Rin
set_option linter.unusedVariables false
set_option linter.unusedSimpArgs false
set_option maxRecDepth 100000
theorem nextA_most {c : Conf.Cf} {m : Conf.Md} {t : Int} {b : Bool} {n : Int} (h : 0 ≤ m.since → m.most ≤ n) (n0 : 0 ≤ n) (hs : 0 ≤ (Conf.nextA c m t b).since) : (Conf.nextA c m t b).most ≤ n := by
  unfold Conf.nextA at hs ⊢
  split
  · rename_i q
    rw [if_pos q] at hs; exact h hs
  · rename_i q
    rw [if_neg q] at hs
    split
    · show (if m.since < 0 then 0 else m.most) ≤ n
      split
      · exact n0
      · exact h (by omega)
    · rename_i q2
      rw [if_neg q2] at hs
      split
      · rename_i q3
        rw [if_pos q3] at hs; exact h hs
      · rename_i q3
        rw [if_neg q3] at hs
        split
        · exact n0
        · exact h (by omega)
/-- the next one's wish, calm or in panic, when what panic holds up is no more -/
theorem seq_any {v : Int} {c : Conf.Cf} {r0 : Int} (hm : Conf.mayB c = true) (v0 : 0 ≤ v) (v1 : v ≤ 1000000000) (h0 : 0 ≤ r0) (h1 : r0 ≤ 100) {k : Nat} (hk : k < 30000) (hsp : (seqD v c r0 k).1.sp = 0) (hmo : 0 ≤ (seqD v c r0 k).1.si → (seqD v c r0 k).1.mo ≤ Conf.limitR c (Conf.ofC c v) (seqD v c r0 k).2) :
    (seqD v c r0 (k + 1)).2 = boundI c (Conf.limitR c (Conf.ofC c v) (seqD v c r0 k).2) ∧ (0 ≤ (seqD v c r0 (k + 1)).1.si → (seqD v c r0 (k + 1)).1.mo ≤ Conf.limitR c (Conf.ofC c v) (seqD v c r0 k).2) ∧ (seqD v c r0 (k + 1)).1.sp = 0 ∧ (seqD v c r0 (k + 1)).1.si = (Conf.nextA c ⟨(seqD v c r0 k).1.si, (seqD v c r0 k).1.mo⟩ ((k : Int) + 1) (Conf.overC c (Conf.ofC c v) (seqD v c r0 k).2)).since := by
  obtain ⟨hv, x0, x1⟩ := seqD_ok hm v0 v1 h0 h1 k (by omega)
  obtain ⟨_, _, e1, e2, g, hn⟩ := hv.tick (by omega) (by omega) (by omega) v0 v1 x0 x1
  have hc := seqD_c v c r0 k
  have hcp : ((seqD v c r0 k).1.put ((k : Int) + 1) v).c = c := hc
  have n0 := (limit_bd hm (ofC_bd c v).1 (ofC_bd c v).2 (seqD v c r0 k).2).1
  have eM : nxM ((seqD v c r0 k).1.put ((k : Int) + 1) v) ((k : Int) + 1) (seqD v c r0 k).2 = Conf.nextA c ⟨(seqD v c r0 k).1.si, (seqD v c r0 k).1.mo⟩ ((k : Int) + 1) (Conf.overC c (Conf.ofC c v) (seqD v c r0 k).2) := by
    unfold nxM hasty
    rw [e2, hcp]; rfl
  have eN : ∀ b, nxN b ((seqD v c r0 k).1.put ((k : Int) + 1) v) ((k : Int) + 1) (seqD v c r0 k).2 = Conf.limitR c (Conf.ofC c v) (seqD v c r0 k).2 := by
    intro b
    unfold nxN hasty calmy
    rw [e1, e2, hcp]
    cases b
    · rfl
    · show (if _ > _ then _ else _) = _
      rw [if_neg (Int.lt_irrefl _)]
  have eF : ∀ b, nxF b ((seqD v c r0 k).1.put ((k : Int) + 1) v) ((k : Int) + 1) (seqD v c r0 k).2 = Conf.limitR c (Conf.ofC c v) (seqD v c r0 k).2 := by
    intro b
    rw [nxF_now g hsp (by show (seqD v c r0 k).1.la < (k : Int) + 1; rw [hv.la]; omega) (by omega) b, eN]
  have hle : 0 ≤ (nxM ((seqD v c r0 k).1.put ((k : Int) + 1) v) ((k : Int) + 1) (seqD v c r0 k).2).since → (nxM ((seqD v c r0 k).1.put ((k : Int) + 1) v) ((k : Int) + 1) (seqD v c r0 k).2).most ≤ Conf.limitR c (Conf.ofC c v) (seqD v c r0 k).2 := by
    rw [eM]
    exact fun hs => nextA_most (m := ⟨(seqD v c r0 k).1.si, (seqD v c r0 k).1.mo⟩) hmo n0 hs
  have eQ : ∀ b, nxQ b ((seqD v c r0 k).1.put ((k : Int) + 1) v) ((k : Int) + 1) (seqD v c r0 k).2 = Conf.limitR c (Conf.ofC c v) (seqD v c r0 k).2 := by
    intro b
    unfold nxQ Conf.keepW
    rw [eF]
    show (if (nxM _ _ _).since < 0 then _ else if _ > (nxM _ _ _).most then _ else (nxM _ _ _).most) = _
    split
    · rfl
    · have := hle (by omega)
      split <;> omega
  refine ⟨?_, ?_, hsp, ?_⟩
  · show boundI ((seqD v c r0 k).1.put ((k : Int) + 1) v).c (nxQ _ _ _ _) = _
    rw [hcp, eQ]
  · intro hs
    have hs : 0 ≤ (nxK (tkB (seqD v c r0 k).1 v ((k : Int) + 1) (seqD v c r0 k).2) ((seqD v c r0 k).1.put ((k : Int) + 1) v) ((k : Int) + 1) (seqD v c r0 k).2).since := hs
    have hs' := hs
    rw [show (nxK (tkB (seqD v c r0 k).1 v ((k : Int) + 1) (seqD v c r0 k).2) ((seqD v c r0 k).1.put ((k : Int) + 1) v) ((k : Int) + 1) (seqD v c r0 k).2).since = _ from keep_since _ _] at hs
    have := hle hs
    show (nxK (tkB (seqD v c r0 k).1 v ((k : Int) + 1) (seqD v c r0 k).2) ((seqD v c r0 k).1.put ((k : Int) + 1) v) ((k : Int) + 1) (seqD v c r0 k).2).most ≤ _
    unfold nxK Conf.keepA
    rw [eF]
    show (if (nxM _ _ _).since < 0 then (⟨(nxM _ _ _).since, (nxM _ _ _).most⟩ : Conf.Md) else ⟨(nxM _ _ _).since, if _ > (nxM _ _ _).most then _ else (nxM _ _ _).most⟩).most ≤ _
    rw [if_neg (show ¬ (nxM ((seqD v c r0 k).1.put ((k : Int) + 1) v) ((k : Int) + 1) (seqD v c r0 k).2).since < 0 by have h2 : 0 ≤ (nxM ((seqD v c r0 k).1.put ((k : Int) + 1) v) ((k : Int) + 1) (seqD v c r0 k).2).since := hs; omega)]
    show (if _ > (nxM _ _ _).most then _ else (nxM _ _ _).most) ≤ _
    split <;> omega
  · show (nxK _ _ _ _).since = _
    rw [show (nxK (tkB (seqD v c r0 k).1 v ((k : Int) + 1) (seqD v c r0 k).2) ((seqD v c r0 k).1.put ((k : Int) + 1) v) ((k : Int) + 1) (seqD v c r0 k).2).since = (nxM ((seqD v c r0 k).1.put ((k : Int) + 1) v) ((k : Int) + 1) (seqD v c r0 k).2).since from keep_since _ _, eM]
theorem dflt_bound {n : Int} (n0 : 0 ≤ n) (n1 : n ≤ 100) : boundI Conf.dflt n = n := by
  unfold boundI
  have e3 : Conf.mostC Conf.dflt = 100 := rfl
  have e4 : Conf.dflt.min = 0 := rfl
  rw [e3, e4]
  repeat' split
  all_goals omega
theorem rises {v : Int} (v0 : 0 ≤ v) (v1 : v ≤ 700000) : ∀ k : Nat, k ≤ 1000 → (seqD v Conf.dflt 1 (k + 1)).2 = (if k = 0 then min ((v + 6999) / 7000) 10 else (v + 6999) / 7000) ∧ (seqD v Conf.dflt 1 (k + 1)).1.sp = 0 ∧ (0 ≤ (seqD v Conf.dflt 1 (k + 1)).1.si → (seqD v Conf.dflt 1 (k + 1)).1.mo ≤ (seqD v Conf.dflt 1 (k + 1)).2)
  | 0, _ => by
    obtain ⟨b1, b2, b3, _⟩ := seq_any (v := v) (c := Conf.dflt) (r0 := 1) mz_dflt v0 (by omega) (by omega) (by omega) (k := 0) (by omega) rfl (fun h => absurd h (by show ¬ (0 : Int) ≤ -1; omega))
    have e : Conf.limitR Conf.dflt (Conf.ofC Conf.dflt v) (seqD v Conf.dflt 1 0).2 = min ((v + 6999) / 7000) 10 := by
      rw [dflt_of v0 v1]
      show Conf.limitR Conf.dflt _ 1 = _
      rw [dflt_limit (by omega) (by omega)]
      rw [if_neg (show ¬ (1 : Int) < 1 by omega)]
      repeat' split
      all_goals omega
    rw [e] at b1 b2
    rw [dflt_bound (by omega) (by omega)] at b1
    rw [b1, if_pos rfl]
    exact ⟨rfl, b3, b2⟩
  | k + 1, hk => by
    obtain ⟨a1, a2, a3⟩ := rises v0 v1 k (by omega)
    have e : Conf.limitR Conf.dflt (Conf.ofC Conf.dflt v) (seqD v Conf.dflt 1 (k + 1)).2 = (v + 6999) / 7000 := by
      rw [dflt_of v0 v1, a1]
      rw [dflt_limit (by split <;> omega) (by split <;> omega)]
      by_cases hz : k = 0
      · rw [if_pos hz]
        repeat' split
        all_goals omega
      · rw [if_neg hz]
        repeat' split
        all_goals omega
    obtain ⟨b1, b2, b3, _⟩ := seq_any (v := v) (c := Conf.dflt) (r0 := 1) mz_dflt v0 (by omega) (by omega) (by omega) (k := k + 1) (by omega) a2 (fun h => by
      have := a3 h
      rw [e]
      rw [a1] at this
      revert this
      split <;> intro this <;> omega)
    rw [e] at b1 b2
    rw [dflt_bound (by omega) (by omega)] at b1
    refine ⟨by rw [b1, if_neg (by omega)], b3, fun h => by rw [b1]; exact b2 h⟩
end Go.Proofs.Ytebibmioiigplaa.Dec

/- Layer 26: SteadyRises. -/
namespace Go.Proofs.Ytebibmioiigplaa.Dec
open Go.Eng Go.RowKit Mil Rin
set_option linter.unusedVariables false
set_option linter.unusedSimpArgs false
set_option maxRecDepth 100000
theorem wayRs (m i : Int) (k : Nat) (o : List Dcn) : T.path [true, true, true, true, true, true, true, true, true, false] (rdRs ⟨m, k, o⟩ ⟨i⟩) = some ([(decide (i < (k : Int)), true), (idR o k i, true), (ldR o i, true), (idR o k (wI (i - 1)), true), (ldR o (wI (i - 1)), true),
  ((bif decide (wnD (xD o i) < wnD (xD o (wI (i - 1)))) == true && true then idR o k i else true), true), ((bif decide (wnD (xD o i) < wnD (xD o (wI (i - 1)))) == true && true then ldR o i else true), true), ((bif decide (wnD (xD o i) < wnD (xD o (wI (i - 1)))) == true && true then idR o k (wI (i - 1)) else true), true), ((bif decide (wnD (xD o i) < wnD (xD o (wI (i - 1)))) == true && true then ldR o (wI (i - 1)) else true), true),
  ((bif decide (wnD (xD o i) < wnD (xD o (wI (i - 1)))) then decide (wnD (xD o i) < if wnD (xD o (wI (i - 1))) < m then wnD (xD o (wI (i - 1))) else m) else false), false)], (.normal, FRs ⟨m, k, o⟩ ⟨wI (i + 1)⟩)) := by kernel_rfl
theorem wayRsx (p : PRs) (a : ARs) : T.path [false] (rdRs p a) = some ([(decide (a.i < (p.k : Int)), false)], (.exit 0, FRs p a)) := by kernel_rfl
def okRs (p : PRs) (a : ARs) : Prop := ∃ (v m i : Int), p = ⟨m, 100, outs v Conf.dflt 1 100⟩ ∧ a = ⟨i⟩ ∧ 0 ≤ v ∧ v ≤ 700000 ∧ 1 ≤ i ∧ i ≤ 100
def goRs (p : PRs) (a : ARs) : Bool := decide (a.i < (p.k : Int))
def muRs (p : PRs) (a : ARs) : Nat := (100 - a.i).toNat
theorem stepRs (p : PRs) (a : ARs) (h : okRs p a) (hg : goRs p a = true) : ∃ b, stepC okRs rdRs FRs muRs p a b := by
  obtain ⟨v, m, i, rfl, rfl, v0, v1, i0, i1⟩ := h
  have hg0 : decide (i < ((100 : Nat) : Int)) = true := hg
  have hi : i < ((100 : Nat) : Int) := of_decide_eq_true hg0
  have hw : wI (i + 1) = i + 1 := wrap64_in (by omega) (by omega)
  have hw2 : wI (i - 1) = i - 1 := wrap64_in (by omega) (by omega)
  have e1 : xD (outs v Conf.dflt 1 100) i = outD v Conf.dflt 1 i.toNat := xD_outs (by omega) (by omega)
  have e2 : xD (outs v Conf.dflt 1 100) (i - 1) = outD v Conf.dflt 1 (i - 1).toNat := xD_outs (by omega) (by omega)
  obtain ⟨a1, _⟩ := rises v0 v1 i.toNat (by omega)
  obtain ⟨b1, _⟩ := rises v0 v1 (i - 1).toNat (by omega)
  rw [if_neg (by omega)] at a1
  have w1 : wnD (outD v Conf.dflt 1 i.toNat) = (v + 6999) / 7000 := a1
  have w2 : wnD (outD v Conf.dflt 1 (i - 1).toNat) ≤ (v + 6999) / 7000 := by
    show (seqD v Conf.dflt 1 ((i - 1).toNat + 1)).2 ≤ _
    rw [b1]; split <;> omega
  obtain ⟨y1, y2⟩ := idR_is (g := outs v Conf.dflt 1 100) (k := 100) (i := i) (outs_len _ _ _ _).symm (by omega) hi
  obtain ⟨z1, z2⟩ := idR_is (g := outs v Conf.dflt 1 100) (k := 100) (i := i - 1) (outs_len _ _ _ _).symm (by omega) (by omega)
  have way := wayRs m i 100 (outs v Conf.dflt 1 100)
  rw [hw, hw2, e1, e2, w1] at way
  have q : decide ((v + 6999) / 7000 < wnD (outD v Conf.dflt 1 (i - 1).toNat)) = false := decide_eq_false (by omega)
  refine ⟨⟨i + 1⟩, T.path_eval way ?_, ⟨v, m, i + 1, rfl, rfl, v0, v1, by omega, by omega⟩, ?_⟩
  · rw [q]
    exact ⟨hg0, y1, y2, z1, z2, rfl, rfl, rfl, rfl, rfl, trivial⟩
  · show (100 - (i + 1)).toNat < (100 - i).toNat; omega
theorem exRs (p : PRs) (a : ARs) (h : okRs p a) (hg : goRs p a = false) : (rdRs p a).eval = some (.exit 0, FRs p a) := T.path_eval (wayRsx p a) ⟨hg, trivial⟩
noncomputable def famRs : LSpec := famC [5,6,7] SRs 2000 2020 72 decRs okRs goRs rdRs FRs muRs (.exit 0)
theorem lpRs_ok : LoopOk SS lpRs famRs := famC_ok (vs := vsRs) (bs := bsRs) SS_ok mixed (noLoops_ok _) decRs_ok (by simp) (fun _ _ => rfl) (fun _ _ => rfl) stepRs exRs
noncomputable def risR (a : Int) : T V := execS SS (byReg [(rgRs, famRs)]) 19 [Eng.iv a]
noncomputable def oRs (v : Int) : List Dcn := outs (cpI v 1000000000) Conf.dflt (cpI 1 100) 100
def amI (v : Int) : Int := wI (Int.tdiv (wI (v + 6999)) 7000)
theorem ris_w (a v : Int) (o : List Dcn) (hv : wI (Int.tmod (IntKind.wrap .u64 a) 700001) = v) (ho : oRs v = o) : T.path [false, true, false, false, true, true, true, true, false, true] (T.anon (risR a)) =
    some ([((700001 : Int) == 0, false), (Conf.mayB Conf.dflt, true), ((((cpI 100 30000).toNat : Nat) : Int) != 100, false), ((7000 : Int) == 0, false), (idR o 100 0, true), (ldR o 0, true), ((bif (!(pnD (xD o 0) == decide (2 ≤ amI v))) == false && true then idR o 100 99 else true), true), ((bif (!(pnD (xD o 0) == decide (2 ≤ amI v))) == false && true then ldR o 99 else true), true),
      ((bif !(pnD (xD o 0) == decide (2 ≤ amI v)) then true else wnD (xD o 99) != amI v), false), (invC okRs ⟨amI v, 100, o⟩ ⟨1⟩, true)], .tt) := by subst ho; subst hv; kernel_rfl
theorem ent (b : Bool) : decide (0 ≤ (Conf.nextA Conf.dflt ⟨-1, 0⟩ 1 b).since) = b := by cases b <;> kernel_rfl
theorem bif_true (c : Bool) : (bif c then true else true) = true := by cases c <;> rfl
theorem ris_run (a : Int) : (risR a).yes := by
  unfold T.yes
  refine .inl ?_
  rw [← T.eval_anon (t := risR a)]
  have hA : 0 ≤ wI (Int.tmod (IntKind.wrap .u64 a) 700001) ∧ wI (Int.tmod (IntKind.wrap .u64 a) 700001) < 700001 := modI a (by omega) (by omega)
  have way := ris_w a (wI (Int.tmod (IntKind.wrap .u64 a) 700001)) _ rfl rfl
  revert way hA
  generalize wI (Int.tmod (IntKind.wrap .u64 a) 700001) = v
  intro hA way
  have eo : oRs v = outs v Conf.dflt 1 100 := by unfold oRs; rw [cp_in hA.1 (by omega), cp_in (a := 1) (by omega) (by omega)]
  have em : amI v = (v + 6999) / 7000 := by
    unfold amI
    rw [show wI (v + 6999) = v + 6999 from wrap64_in (by omega) (by omega), Int.tdiv_eq_ediv_of_nonneg (by omega)]
    exact wrap64_in (by omega) (by omega)
  rw [eo, em] at way
  have h0 : okRs ⟨(v + 6999) / 7000, 100, outs v Conf.dflt 1 100⟩ ⟨1⟩ := ⟨v, _, 1, rfl, rfl, hA.1, by omega, by omega, by omega⟩
  have e0 : xD (outs v Conf.dflt 1 100) 0 = outD v Conf.dflt 1 0 := xD_outs (by omega) (by omega)
  have e9 : xD (outs v Conf.dflt 1 100) 99 = outD v Conf.dflt 1 99 := xD_outs (by omega) (by omega)
  obtain ⟨y1, y2⟩ := idR_is (g := outs v Conf.dflt 1 100) (k := 100) (i := 0) (outs_len _ _ _ _).symm (by omega) (by omega)
  obtain ⟨z1, z2⟩ := idR_is (g := outs v Conf.dflt 1 100) (k := 100) (i := 99) (outs_len _ _ _ _).symm (by omega) (by omega)
  obtain ⟨a1, _⟩ := rises hA.1 (show v ≤ 700000 by omega) 99 (by omega)
  rw [if_neg (by omega)] at a1
  have w9 : wnD (outD v Conf.dflt 1 99) = (v + 6999) / 7000 := a1
  obtain ⟨_, _, _, b4⟩ := seq_any (v := v) (c := Conf.dflt) (r0 := 1) mz_dflt hA.1 (by omega) (by omega) (by omega) (k := 0) (by omega) rfl (fun h => absurd h (by show ¬ (0 : Int) ≤ -1; omega))
  have p0 : pnD (outD v Conf.dflt 1 0) = decide (2 ≤ (v + 6999) / 7000) := by
    show decide (0 ≤ (seqD v Conf.dflt 1 1).1.si) = _
    rw [b4]
    have eo : Conf.overC Conf.dflt (Conf.ofC Conf.dflt v) (seqD v Conf.dflt 1 0).2 = decide (2 ≤ (v + 6999) / 7000) := by
      rw [dflt_of hA.1 (by omega)]
      show Conf.overC Conf.dflt _ 1 = _
      rw [dflt_over _ _ (by omega) (by omega) (by omega) (by omega), if_neg (by omega)]
      rfl
    rw [eo]
    exact ent _
  rw [e0, e9, w9, p0] at way
  refine T.path_eval way ⟨rfl, mz_dflt, by kernel_rfl, rfl, y1, y2, ?_, ?_, ?_, invC_is h0, trivial⟩
  · rw [z1]; exact bif_true _
  · rw [z2]; exact bif_true _
  · simp
theorem ris_walk (a : Int) (_ : (Lit.int .i64 a).wf = true) (W : World) :
    Calls Try.prog 19 #[.int .i64 a] W fun e w' => e = .returned (.bool true) ∧ Below W.heap.size W w' :=
  Law.law_rows (args := [Eng.iv a]) (xs := [.int .i64 a]) (execS_loops (Λ := byReg [(rgRs, famRs)]) SS_ok mixed Try.func19 (by kernel_rfl) (by kernel_rfl) (one_lp (by kernel_rfl) rgRs_is lpRs_ok)) rfl (ris_run a) W ⟨rfl, trivial⟩
end Go.Proofs.Ytebibmioiigplaa.Dec

