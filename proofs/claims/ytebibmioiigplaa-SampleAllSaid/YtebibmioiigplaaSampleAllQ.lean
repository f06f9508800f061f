import Derived.Test.YtebibmioiigplaaChecked
import Derived.Test.YtebibmioiigplaaGE
/- Layer 10: who is asked, run by the machine; the few that told asks. -/
namespace Go.Proofs.Ytebibmioiigplaa.Sam
open Go.Eng Go.RowKit
set_option linter.unusedVariables false
set_option linter.unusedSimpArgs false
theorem mixed : Try.prog.follows .mixedOrders = true := Checked.mixed Try.checked
def iv (n : Int) : V := .s (.int .i64 n)
noncomputable def P0 : Cfg := ⟨Try.prog, lookG [], [], 0⟩
theorem P0_ok : P0.Ok := Cfg.ok trivial trivial
noncomputable def sizeD : Eng.Spec := execS P0 noLoops 95
theorem sizeD_ok : SpecOk Try.prog 95 sizeD := execS_plain P0_ok mixed Try.func95 (by kernel_rfl) (by kernel_rfl)
noncomputable def P1 : Cfg := ⟨Try.prog, lookG [(95, .val sizeD)], [], 0⟩
theorem P1_ok : P1.Ok := Cfg.ok ⟨sizeD_ok, trivial⟩ trivial
noncomputable def askedD : Eng.Spec := execS P1 noLoops 94
theorem askedD_ok : SpecOk Try.prog 94 askedD := execS_plain P1_ok mixed Try.func94 (by kernel_rfl) (by kernel_rfl)
noncomputable def P2 : Cfg := ⟨Try.prog, lookG [(94, .val askedD)], [], 0⟩
theorem P2_ok : P2.Ok := Cfg.ok ⟨askedD_ok, trivial⟩ trivial
noncomputable def whichD : Eng.Spec := execS P2 (rounds P2 4 1) 37
theorem whichD_ok : SpecOk Try.prog 37 whichD := execS_rounds P2_ok mixed 4 1 Try.func37 (by kernel_rfl) (by kernel_rfl)
noncomputable def P3 : Cfg := ⟨Try.prog, lookG [(95, .val sizeD), (37, .val whichD)], [], 0⟩
theorem P3_ok : P3.Ok := Cfg.ok ⟨sizeD_ok, whichD_ok, trivial⟩ trivial
theorem told_run : (execS P3 noLoops 38 []).eval = some (.s (.bool true)) := by kernel_rfl
def yesD : Eng.Spec := fun args => match args with
  | [] => .ret .tt
  | _ => .fail
theorem told_ok : SpecOk Try.prog 38 yesD :=
  (execS_plain P3_ok mixed Try.func38 (by kernel_rfl) (by kernel_rfl)).of_den fun args v _ h => by
    unfold yesD at h
    split at h
    · simp only [T.eval, Option.some.injEq] at h
      subst h
      exact ⟨_, told_run, ⟨rfl, rfl⟩, rfl⟩
    · cases h
noncomputable def P4 : Cfg := ⟨Try.prog, lookG [(38, .val yesD), (95, .val sizeD)], [], 0⟩
theorem P4_ok : P4.Ok := Cfg.ok ⟨told_ok, sizeD_ok, trivial⟩ trivial
end Go.Proofs.Ytebibmioiigplaa.Sam

/- Layer 10: how many are asked. -/
namespace Go.Proofs.Ytebibmioiigplaa.Sam
open Go.Eng Go.RowKit
set_option linter.unusedVariables false
set_option linter.unusedSimpArgs false
def sizeF (n : Int) : Int := if n ≤ 3 then (if 0 > n then 0 else n) else if 208 < n then 16 else 16 - 208 / (n + 13)
def sizeS : Eng.Spec
  | [.s (.int .i64 n)] => .ret (iv (sizeF n))
  | _ => .fail
theorem ev_ite {i : Option Nat} {c : Bool} {x y : T V} {v : V} (h1 : c = true → x.eval = some v) (h2 : c = false → y.eval = some v) : (T.ite i c x y).eval = some v := by
  cases c
  · exact h2 rfl
  · exact h1 rfl
theorem size_run (n : Int) : T.anon (sizeD [iv n]) = T.ite none (decide (n ≤ 3)) (T.ret (iv (if 0 > n then 0 else n))) (T.ite none (decide (208 < n)) (T.ret (iv 16)) (T.ite none (IntKind.wrap .i64 (n + 13) == 0) T.fail (T.ret (iv (IntKind.wrap .i64 (16 - IntKind.wrap .i64 (Int.tdiv 208 (IntKind.wrap .i64 (n + 13))))))))) := by kernel_rfl
theorem sizeS_ok : SpecOk Try.prog 95 sizeS := by
  refine sizeD_ok.of_den fun args v hfl h => ?_
  clear hfl
  unfold sizeS at h
  split at h
  · rename_i n
    obtain rfl := Option.some.inj h
    refine ⟨iv (sizeF n), ?_, ⟨rfl, rfl⟩, rfl⟩
    rw [← T.eval_anon, show sizeD [V.s (.int .i64 n)] = sizeD [iv n] from rfl, size_run]
    unfold sizeF
    refine ev_ite (fun h => ?_) fun h => ev_ite (fun h5 => ?_) fun h5 => ?_ <;> simp only [decide_eq_true_eq, decide_eq_false_iff_not] at *
    · rw [if_pos h]; rfl
    · rw [if_neg h, if_pos h5]; rfl
    · rw [if_neg h, if_neg h5]
      have e1 : IntKind.wrap .i64 (n + 13) = n + 13 := wrap64_in (by omega) (by omega)
      rw [e1]
      have e2 : Int.tdiv 208 (n + 13) = 208 / (n + 13) := Int.tdiv_eq_ediv_of_nonneg (by decide)
      have h6 : 0 ≤ 208 / (n + 13) := Int.ediv_nonneg (by decide) (by omega)
      have h7 : 208 / (n + 13) ≤ 208 := Int.ediv_le_self _ (by decide)
      rw [e2, wrap64_in (n := 208 / (n + 13)) (by omega) (by omega), wrap64_in (n := 16 - 208 / (n + 13)) (by omega) (by omega)]
      refine ev_ite (fun h => ?_) fun h => ?_
      · simp only [beq_iff_eq] at h; omega
      · rfl
  · cases h
theorem sizeF_all : ∀ n : Nat, n < 210 → sizeF n ≤ 16 ∧ sizeF n ≤ n ∧ (n < 3 ∨ 3 ≤ sizeF n) ∧ sizeF n ≤ sizeF (n + 1) ∧ (0 < n → 0 < sizeF n) ∧ 0 ≤ sizeF n := by decide +kernel
theorem sizeF_big {n : Int} (h : 208 < n) : sizeF n = 16 := by unfold sizeF; rw [if_neg (by omega), if_pos h]
theorem sizeF_says {n : Int} (h : 0 ≤ n) : sizeF n ≤ 16 ∧ sizeF n ≤ n ∧ (n < 3 ∨ 3 ≤ sizeF n) ∧ sizeF n ≤ sizeF (n + 1) ∧ (0 < n → 0 < sizeF n) ∧ 0 ≤ sizeF n := by
  by_cases q : n ≤ 208
  · obtain ⟨m, rfl⟩ := Int.eq_ofNat_of_zero_le h
    obtain ⟨h1, h2, h3, h4, h5, h6⟩ := sizeF_all m (by omega)
    exact ⟨h1, h2, by omega, h4, fun h => h5 (by omega), h6⟩
  · rw [sizeF_big (by omega), sizeF_big (n := n + 1) (by omega)]; omega
noncomputable def P5 : Cfg := ⟨Try.prog, lookG [(38, .val yesD), (95, .val sizeS)], [], 0⟩
theorem P5_ok : P5.Ok := Cfg.ok ⟨told_ok, sizeS_ok, trivial⟩ trivial
end Go.Proofs.Ytebibmioiigplaa.Sam

/- Layer 10: where a round begins. -/
namespace Go.Proofs.Ytebibmioiigplaa.Sam
open Go.Eng Go.RowKit
set_option linter.unusedVariables false
set_option linter.unusedSimpArgs false
noncomputable def P6 : Cfg := ⟨Try.prog, lookG [(95, .val sizeS)], [], 0⟩
theorem P6_ok : P6.Ok := Cfg.ok ⟨sizeS_ok, trivial⟩ trivial
noncomputable def askedE : Eng.Spec := execS P6 noLoops 94
theorem askedE_ok : SpecOk Try.prog 94 askedE := execS_plain P6_ok mixed Try.func94 (by kernel_rfl) (by kernel_rfl)
def ori (l : List Int) : V := .orow 3 [.int .i64] l
/-- how many are asked, and from where on -/
def lenF (n most : Int) : Int := if 0 < most then (if most < sizeF n then most else sizeF n) else sizeF n
def mx0 (r : Int) : Int := if 0 > r then 0 else r
def startF (n most r : Int) : Int := (mx0 r % n * lenF n most) % n
def askedC : Eng.Spec
  | [.s (.int .i64 n), .s (.int .i64 m), .s (.int .i64 r)] => .ite none (decide (0 ≤ n) && decide (n ≤ 1000) && decide (r ≤ 9223372036854775807)) (.ite none (n == 0) (.ret (.iface 187 (.agg []))) (.ret (.iface 138 (.agg [iv (startF n m r), iv (lenF n m)])))) .fail
  | _ => .fail
theorem asked_run (n m r : Int) : T.anon (askedE [iv n, iv m, iv r]) = T.ite none (n == 0) (.ret (.iface 187 (.agg []))) (T.ite none (decide (0 < m))
    (T.ite none (n == 0) .fail (T.ite none (n == 0) .fail (.ret (.iface 138 (.agg [iv (Int.tmod (IntKind.wrap .i64 (Int.tmod (mx0 r) n * (if m < sizeF n then m else sizeF n))) n), iv (if m < sizeF n then m else sizeF n)])))))
    (T.ite none (n == 0) .fail (T.ite none (n == 0) .fail (.ret (.iface 138 (.agg [iv (Int.tmod (IntKind.wrap .i64 (Int.tmod (mx0 r) n * sizeF n)) n), iv (sizeF n)])))))) := by kernel_rfl
theorem lenF_range {n : Int} (hn : 0 < n) (m : Int) : 0 < lenF n m ∧ lenF n m ≤ 16 ∧ lenF n m ≤ n := by
  obtain ⟨h1, h2, -, -, h5, -⟩ := sizeF_says (n := n) (by omega)
  have := h5 hn
  unfold lenF
  split
  · split <;> omega
  · omega
theorem start_eq {n L x : Int} (hn : 0 < n) (h2 : n ≤ 1000) (h3 : 0 < L) (h4 : L ≤ 16) (hx : 0 ≤ x) : Int.tmod (IntKind.wrap .i64 (Int.tmod x n * L)) n = (x % n * L) % n := by
  rw [Int.tmod_eq_emod_of_nonneg hx]
  have a1 := Int.emod_nonneg x (b := n) (by omega)
  have a2 := Int.emod_lt_of_pos x hn
  have a3 : 0 ≤ x % n * L := Int.mul_nonneg a1 (by omega)
  have a4 : x % n * L ≤ 1000 * 16 := Int.mul_le_mul (by omega) h4 (by omega) (by omega)
  rw [wrap64_in (by omega) (by omega), Int.tmod_eq_emod_of_nonneg a3]
theorem askedC_ok : SpecOk Try.prog 94 askedC := by
  refine askedE_ok.of_den fun args v hfl h => ?_
  clear hfl
  unfold askedC at h
  split at h
  · rename_i n m r
    cases hk : (decide (0 ≤ n) && decide (n ≤ 1000) && decide (r ≤ 9223372036854775807))
    · rw [hk] at h; cases h
    · rw [hk] at h
      simp only [Bool.and_eq_true, decide_eq_true_eq] at hk
      have h : (T.ite none (n == 0) (.ret (.iface 187 (.agg []))) (.ret (.iface 138 (.agg [iv (startF n m r), iv (lenF n m)]))) : T V).eval = some v := h
      refine ⟨v, ?_, ?_, rfl⟩
      · rw [← T.eval_anon, show askedE [V.s (.int .i64 n), V.s (.int .i64 m), V.s (.int .i64 r)] = askedE [iv n, iv m, iv r] from rfl, asked_run]
        by_cases q : n = 0
        · subst q; exact h
        · have q2 : (n == 0) = false := by simpa using q
          rw [q2] at h
          obtain rfl := Option.some.inj h
          have hx : 0 ≤ mx0 r := by unfold mx0; split <;> omega
          obtain ⟨l1, l2, l3⟩ := lenF_range (n := n) (by omega) m
          refine tev_else q2 ?_
          have hs : startF n m r = (mx0 r % n * lenF n m) % n := rfl
          by_cases hm : 0 < m
          · have e : lenF n m = if m < sizeF n then m else sizeF n := by unfold lenF; rw [if_pos hm]
            rw [← e]
            refine tev_then (decide_eq_true hm) (tev_else q2 (tev_else q2 ?_))
            rw [start_eq (by omega) hk.1.2 l1 l2 hx]; rfl
          · have e : lenF n m = sizeF n := by unfold lenF; rw [if_neg hm]
            rw [← e]
            refine tev_else (decide_eq_false hm) (tev_else q2 (tev_else q2 ?_))
            rw [start_eq (by omega) hk.1.2 l1 l2 hx]; rfl
      · cases q : n == 0 <;> rw [q] at h <;> (obtain rfl := Option.some.inj h; exact ⟨rfl, rfl⟩)
  · cases h
noncomputable def P7 : Cfg := ⟨Try.prog, lookG [(94, .val askedC)], [], 0⟩
theorem P7_ok : P7.Ok := Cfg.ok ⟨askedC_ok, trivial⟩ trivial
noncomputable def wh1 : Code := loopAt Try.prog 37 0
def rI (own : Bool) (l : List Int) : Blk := .lst own 3 [.int .i64] l
abbrev SH : List (Nat × Src) := [(0, .same), (9, .same), (1000, .tmp 9)]
structure PH where (g : List Int) (k : Nat) (st ln : Int) (j : Nat) (n : Int)
structure AH where (l : List Int) (i : Int)
def vsH (p : PH) (a : AH) : List V := [.sub 0 1 0 p.k, .ptr 9 0, .sub 1000 1 0 p.j, iv p.n, iv a.i]
def bsH (p : PH) (a : AH) : List Blk := [rI false p.g, .cells 138 [iv p.st, iv p.ln], rI true a.l]
noncomputable def FH (p : PH) (a : AH) : St := mkSt [0,7,9,26,27] [0,9,1000] 1001 45 (vsH p a) (bsH p a)
end Go.Proofs.Ytebibmioiigplaa.Sam

/- Layer 10: who is asked. -/
namespace Go.Proofs.Ytebibmioiigplaa.Sam
open Go.Eng Go.RowKit
set_option linter.unusedVariables false
set_option linter.unusedSimpArgs false
noncomputable def rtH (g : List Int) (k : Nat) (st ln : Int) (j : Nat) (n : Int) (l : List Int) (i : Int) : T (Ex × St) :=
  T.ite none (decide (i < n)) (T.ite none ((k : Int) == 0) T.fail (T.ite none (decide (0 ≤ Int.tmod (IntKind.wrap .i64 (st + i)) (k : Int)) && (decide (Int.tmod (IntKind.wrap .i64 (st + i)) (k : Int) < (k : Int)) && decide (0 + Int.toNat (Int.tmod (IntKind.wrap .i64 (st + i)) (k : Int)) < g.length)))
    (T.ite none (decide (0 + Int.toNat (Int.tmod (IntKind.wrap .i64 (st + i)) (k : Int)) < g.length)) (T.ite none (decide (0 ≤ i) && (decide (i < (j : Int)) && decide (0 + Int.toNat i < l.length))) (T.ite none (decide (0 + Int.toNat i < l.length))
      (T.ret (.normal, FH ⟨g, k, st, ln, j, n⟩ ⟨l.set (0 + i.toNat) (gI g (Int.tmod (IntKind.wrap .i64 (st + i)) (k : Int))), IntKind.wrap .i64 (i + 1)⟩)) T.fail) T.fail) T.fail) T.fail)) (T.ret (.exit 0, FH ⟨g, k, st, ln, j, n⟩ ⟨l, i⟩))
def decH : List V → List Blk → Option (PH × AH)
  | [.sub 0 1 0 k, .ptr 9 0, .sub 1000 1 0 j, .s (.int .i64 n), .s (.int .i64 i)], [.lst false t1 [.int .i64] g, .cells t2 [.s (.int .i64 st), .s (.int .i64 ln)], .lst true t3 [.int .i64] l] =>
    if t1 = 3 ∧ t2 = 138 ∧ t3 = 3 then some (⟨g, k, st, ln, j, n⟩, ⟨l, i⟩) else none
  | _, _ => none
theorem decH_ok (l : List V) (b : List Blk) (d : PH × AH) (h : decH l b = some d) : l = vsH d.1 d.2 ∧ b = bsH d.1 d.2 := by
  unfold decH at h
  split at h
  · split at h
    · rename_i ht
      obtain ⟨rfl, rfl, rfl⟩ := ht
      cases h
      exact ⟨rfl, rfl⟩
    · cases h
  · cases h
def invH (p : PH) (a : AH) : Bool := decide (p.k = p.g.length) && decide (0 < p.k) && decide (p.k ≤ 1000) && decide (p.j = a.l.length) && decide (p.n = (p.j : Int)) && decide (p.j ≤ 1000) && decide (0 ≤ a.i) && decide (a.i ≤ p.n) && decide (0 ≤ p.st) && decide (p.st < p.k)
def elH (p : PH) (i : Int) : Int := gI p.g ((p.st + i) % p.k)
def nxtH (p : PH) (a : AH) : Option AH := if a.i < p.n then some ⟨a.l.set (0 + a.i.toNat) (elH p a.i), a.i + 1⟩ else none
noncomputable def outH (p : PH) (a : AH) : T (Ex × St) := .ret (.exit 0, FH p a)
theorem stH (p : PH) (a b : AH) (h : invH p a = true) (e : nxtH p a = some b) : invH p b = true ∧ (p.n - b.i).toNat < (p.n - a.i).toNat := by
  obtain ⟨l, i⟩ := a
  unfold nxtH at e
  split at e
  · rename_i hc
    obtain rfl := Option.some.inj e
    simp only [invH, Bool.and_eq_true, decide_eq_true_eq, List.length_set] at h hc ⊢
    omega
  · cases e
theorem lpH_ok : LoopOk P7 wh1 (famWN [0,7,9,26,27] SH 1000 1001 45 decH invH nxtH outH) := by
  refine famWN_ok (vs := vsH) (bs := bsH) P7_ok mixed (noLoops_ok _) decH_ok (fun p a => (p.n - a.i).toNat) stH fun ⟨g, k, st, ln, j, n⟩ ⟨l, i⟩ h => ?_
  have e : T.anon (roundN P7 noLoops wh1 [0,7,9,26,27] SH 1000 1001 (mkSt [0,7,9,26,27] (keysR SH) 1001 45 (vsH ⟨g, k, st, ln, j, n⟩ ⟨l, i⟩) (bsH ⟨g, k, st, ln, j, n⟩ ⟨l, i⟩))) = rtH g k st ln j n l i := by kernel_rfl
  rw [← T.eval_anon (t := roundN _ _ _ _ _ _ _ _), e]
  clear e
  simp only [invH, Bool.and_eq_true, decide_eq_true_eq] at h
  obtain ⟨⟨⟨⟨⟨⟨⟨⟨⟨rfl, h1⟩, h2⟩, rfl⟩, rfl⟩, h3⟩, h4⟩, h5⟩, h6⟩, h7⟩ := h
  simp only [nxtH, outH, elH]
  unfold rtH
  by_cases hc : i < l.length
  · rw [if_pos hc]
    refine ⟨fun b hb => ?_, fun h => by cases h⟩
    obtain rfl := Option.some.inj hb
    have e1 : Int.tmod (IntKind.wrap .i64 (st + i)) (g.length : Int) = (st + i) % (g.length : Int) := by
      rw [wrap64_in (n := st + i) (by omega) (by omega), Int.tmod_eq_emod_of_nonneg (by omega)]
    rw [e1, wrap64_in (n := i + 1) (by omega) (by omega)]
    have q1 := Int.emod_nonneg (st + i) (b := (g.length : Int)) (by omega)
    have q2 := Int.emod_lt_of_pos (st + i) (b := (g.length : Int)) (by omega)
    exact tev_then (decide_eq_true hc) (tev_else (by rw [beq_eq_false_iff_ne]; omega) (tev_then (by simp only [Bool.and_eq_true, decide_eq_true_eq]; omega) (tev_then (by simp only [decide_eq_true_eq]; omega) (tev_then (by (first | with_reducible rfl | assumption | (simp only [cond_and, cond_or, Bool.and_eq_true, Bool.or_eq_true, Bool.and_eq_false_iff, Bool.or_eq_false_iff, decide_eq_true_eq, decide_eq_false_iff_not, beq_iff_eq, bne_iff_ne, beq_eq_false_iff_ne, bne_eq_false_iff_eq, Bool.not_eq_true', Bool.not_eq_false', ne_eq, Bool.true_and, Bool.and_true, Bool.false_and, Bool.and_false, Bool.true_or, Bool.or_true, Bool.not_true, Bool.not_false, Bool.cond_true, Bool.cond_false, true_and, and_true]; first | done | omega))) (tev_then (by (first | with_reducible rfl | assumption | (simp only [cond_and, cond_or, Bool.and_eq_true, Bool.or_eq_true, Bool.and_eq_false_iff, Bool.or_eq_false_iff, decide_eq_true_eq, decide_eq_false_iff_not, beq_iff_eq, bne_iff_ne, beq_eq_false_iff_ne, bne_eq_false_iff_eq, Bool.not_eq_true', Bool.not_eq_false', ne_eq, Bool.true_and, Bool.and_true, Bool.false_and, Bool.and_false, Bool.true_or, Bool.or_true, Bool.not_true, Bool.not_false, Bool.cond_true, Bool.cond_false, true_and, and_true]; first | done | omega))) rfl)))))
  · rw [if_neg hc]
    refine ⟨fun b hb => (by cases hb), fun _ r hr => ?_⟩
    obtain rfl := Option.some.inj hr
    exact ⟨by simp, tev_else (decide_eq_false hc) rfl⟩
noncomputable def hlist : List (Nat × LSpec) := [(6, famWN [0,7,9,26,27] SH 1000 1001 45 decH invH nxtH outH)]
theorem hfind : findL hlist 6 = some (famWN [0,7,9,26,27] SH 1000 1001 45 decH invH nxtH outH) := rfl
theorem hreg : firstReg wh1 = some 6 := by kernel_rfl
theorem hlps_ok : ∀ a ∈ loopsIn (codeOf Try.prog 37), ∀ sp, byReg hlist a = some sp → LoopOk P7 a sp := by
  have e : loopsIn (codeOf Try.prog 37) = [wh1] := by kernel_rfl
  rw [e]
  intro a ha
  rcases List.mem_cons.1 ha with h | ha
  · rw [h]; exact byReg_mem hreg hfind lpH_ok
  · cases ha
/-- an arc of n of them from st on -/
def whL (g : List Int) (st : Int) (n : Nat) : List Int := (List.range n).map fun (q : Nat) => gI g ((st + q) % g.length)
theorem whL_length (g : List Int) (st : Int) (n : Nat) : (whL g st n).length = n := by simp [whL]
theorem whL_get (g : List Int) (st : Int) (n q : Nat) (h : q < n) : (whL g st n)[q]? = some (gI g ((st + q) % g.length)) := by simp [whL, h]
theorem endH {p : PH} {l : List Int} (h : invH p ⟨l, 0⟩ = true) : endW (nxtH p) ⟨l, 0⟩ = ⟨whL p.g p.st p.j, p.n⟩ := by
  obtain ⟨h1, h2, h3⟩ := endW_says (stH p) h
  have h4 := h3 (fun a => ∀ q : Nat, (q : Int) < a.i → a.l[q]? = some (elH p q)) (fun q hq => by dsimp only at hq; omega) fun a b hi hq e => by
    obtain ⟨m, i⟩ := a
    simp only [invH, Bool.and_eq_true, decide_eq_true_eq] at hi
    unfold nxtH at e
    split at e
    · rename_i hc
      obtain rfl := Option.some.inj e
      dsimp only at hc hq ⊢
      intro q hq'
      by_cases hqi : (q : Int) = i
      · subst hqi
        rw [Nat.zero_add, Int.toNat_natCast, List.getElem?_set_self (by omega)]
      · rw [List.getElem?_set_ne (by omega)]
        exact hq q (by omega)
    · cases e
  generalize endW (nxtH p) ⟨l, 0⟩ = E at *
  obtain ⟨m, i⟩ := E
  simp only [invH, Bool.and_eq_true, decide_eq_true_eq] at h1
  unfold nxtH at h2
  split at h2
  · cases h2
  · rename_i hc
    dsimp only at hc h4
    have hi : i = p.n := by omega
    subst hi
    congr 1
    apply List.ext_getElem?
    intro q
    by_cases hq : q < p.j
    · rw [h4 q (by omega), whL_get _ _ _ _ hq]
      unfold elH
      rw [show (p.k : Int) = p.g.length by omega]
    · rw [List.getElem?_eq_none (by omega), List.getElem?_eq_none (by rw [whL_length]; omega)]
def asLII {α : Type} (args : List V) (f : List Int → Int → Int → T α) : T α :=
  match args with
  | [.orow t [.int .i64] l, .s (.int .i64 m), .s (.int .i64 r)] => if t = 3 then f l m r else .fail
  | _ => .fail
theorem asLII_some {α : Type} {args : List V} {f : List Int → Int → Int → T α} {r : α} (e : (asLII args f).eval = some r) : ∃ l m z, args = [ori l, iv m, iv z] ∧ (f l m z).eval = some r := by
  unfold asLII at e
  split at e
  · split at e
    · rename_i ht; subst ht; exact ⟨_, _, _, rfl, e⟩
    · cases e
  · cases e
def whichC : Eng.Spec := fun args => asLII args fun l m r => .ite none (decide (l.length ≤ 1000) && decide (r ≤ 9223372036854775807)) (.ret (ori (whL l (startF l.length m r) (lenF l.length m).toNat))) .fail
noncomputable def pH (l : List Int) (m r : Int) : PH := ⟨l, l.length, startF l.length m r, lenF l.length m, (lenF l.length m).toNat, ((lenF l.length m).toNat : Nat)⟩
theorem which_run (l : List Int) (m r : Int) : T.anon (execS P7 (byReg hlist) 37 [ori l, iv m, iv r]) = T.ite none (decide (0 ≤ (l.length : Int)) && decide ((l.length : Int) ≤ 1000) && decide (r ≤ 9223372036854775807)) (T.ite none ((l.length : Int) == 0) (T.ite none (decide ((0 : Nat) = ([] : List Int).length)) (.ret (ori [])) .fail)
    (T.ite none (decide (0 ≤ lenF l.length m) && (decide (lenF l.length m ≤ lenF l.length m) && decide (lenF l.length m ≤ 1000000))) (T.ite none (invH (pH l m r) ⟨List.replicate (lenF l.length m).toNat 0, 0⟩)
      (T.ite none (decide ((lenF l.length m).toNat = (endW (nxtH (pH l m r)) ⟨List.replicate (lenF l.length m).toNat 0, 0⟩).l.length)) (.ret (ori (endW (nxtH (pH l m r)) ⟨List.replicate (lenF l.length m).toNat 0, 0⟩).l)) .fail) .fail) .fail)) .fail := by kernel_rfl
theorem guard_eval {c : Bool} {x : T V} {v : V} (h : (T.ite none c x .fail).eval = some v) : c = true ∧ x.eval = some v := by
  cases c
  · cases h
  · exact ⟨rfl, h⟩
theorem whichC_ok : SpecOk Try.prog 37 whichC := by
  refine (execS_loops (Λ := byReg hlist) P7_ok mixed Try.func37 (by kernel_rfl) (by kernel_rfl) hlps_ok).of_eval fun args v h => ?_
  obtain ⟨l, m, r, rfl, h1⟩ := asLII_some (show (asLII args _).eval = some v from h)
  clear h
  obtain ⟨hk, h⟩ := guard_eval h1
  obtain rfl := Option.some.inj h
  simp only [Bool.and_eq_true, decide_eq_true_eq] at hk
  rw [← T.eval_anon, which_run]
  refine tev_then (by simp only [Bool.and_eq_true, decide_eq_true_eq]; omega) ?_
  by_cases q : l.length = 0
  · have hl : l = [] := List.length_eq_zero_iff.1 q
    subst hl
    have e : (lenF (([] : List Int).length : Int) m).toNat = 0 := by
      unfold lenF
      have : sizeF (([] : List Int).length : Int) = 0 := rfl
      rw [this]
      split
      · split <;> omega
      · rfl
    rw [e]
    exact tev_then rfl (tev_then rfl rfl)
  · obtain ⟨b1, b2, b3⟩ := lenF_range (n := (l.length : Int)) (by omega) m
    have c1 : 0 ≤ startF l.length m r := Int.emod_nonneg _ (by omega)
    have c2 : startF l.length m r < l.length := Int.emod_lt_of_pos _ (by omega)
    have hi : invH (pH l m r) ⟨List.replicate (lenF l.length m).toNat 0, 0⟩ = true := by
      unfold pH
      simp only [invH, Bool.and_eq_true, decide_eq_true_eq, List.length_replicate]
      exact ⟨⟨⟨⟨⟨⟨⟨⟨⟨trivial, by omega⟩, by omega⟩, trivial⟩, trivial⟩, by omega⟩, by omega⟩, by omega⟩, c1⟩, c2⟩
    refine tev_else (by rw [beq_eq_false_iff_ne]; omega) (tev_then (by simp only [Bool.and_eq_true, decide_eq_true_eq]; omega) (tev_then hi ?_))
    rw [endH hi]
    refine tev_then ?_ rfl
    simp only [decide_eq_true_eq]
    rw [whL_length]; rfl
noncomputable def P8 : Cfg := ⟨Try.prog, lookG [(38, .val yesD), (95, .val sizeS), (37, .val whichC)], [], 0⟩
theorem P8_ok : P8.Ok := Cfg.ok ⟨told_ok, sizeS_ok, whichC_ok, trivial⟩ trivial
end Go.Proofs.Ytebibmioiigplaa.Sam

/- Layer 10: SampleAll: the ids. -/
namespace Go.Proofs.Ytebibmioiigplaa.Sam
open Go.Eng Go.RowKit
set_option linter.unusedVariables false
set_option linter.unusedSimpArgs false
set_option maxRecDepth 100000
noncomputable def lpAa : Code := loopAt Try.prog 6 0
structure PAa where (mo : Int) (fr : Int) (k : Int)
structure AAa where (i : Int) (j : Nat) (W : List Int)
abbrev SAa : List (Nat × Src) := [(2000, .tmp 8)]
def vsAa (p : PAa) (a : AAa) : List V := [iv p.mo, iv p.fr, iv p.k, .sub 2000 1 0 a.j, iv a.i]
def bsAa (p : PAa) (a : AAa) : List Blk := [.lst true 3 [.int .i64] a.W]
noncomputable def FAa (p : PAa) (a : AAa) : St := mkSt [1,2,7,8,9] (keysR SAa) 2001 113 (vsAa p a) (bsAa p a)
noncomputable def rdAa (p : PAa) (a : AAa) : T (Ex × St) := T.anon (roundN P8 noLoops lpAa [1,2,7,8,9] SAa 2000 2001 (mkSt [1,2,7,8,9] (keysR SAa) 2001 113 (vsAa p a) (bsAa p a)))
def decAa_v0 : V → Option ((Int))
  | .s (.int .i64 mo) => some (mo)
  | _ => none
theorem decAa_v0_ok (b : V) (x0 : (Int)) (h : decAa_v0 b = some x0) : b = iv (x0) := by
  unfold decAa_v0 at h
  split at h
  · cases h
    rfl
  · cases h
def decAa_v1 : V → Option ((Int))
  | .s (.int .i64 fr) => some (fr)
  | _ => none
theorem decAa_v1_ok (b : V) (x1 : (Int)) (h : decAa_v1 b = some x1) : b = iv (x1) := by
  unfold decAa_v1 at h
  split at h
  · cases h
    rfl
  · cases h
def decAa_v2 : V → Option ((Int))
  | .s (.int .i64 k) => some (k)
  | _ => none
theorem decAa_v2_ok (b : V) (x2 : (Int)) (h : decAa_v2 b = some x2) : b = iv (x2) := by
  unfold decAa_v2 at h
  split at h
  · cases h
    rfl
  · cases h
def decAa_v3 : V → Option ((Nat))
  | .sub 2000 1 0 j => some (j)
  | _ => none
theorem decAa_v3_ok (b : V) (x3 : (Nat)) (h : decAa_v3 b = some x3) : b = .sub 2000 1 0 (x3) := by
  unfold decAa_v3 at h
  split at h
  · cases h
    rfl
  · cases h
def decAa_v4 : V → Option ((Int))
  | .s (.int .i64 i) => some (i)
  | _ => none
theorem decAa_v4_ok (b : V) (x4 : (Int)) (h : decAa_v4 b = some x4) : b = iv (x4) := by
  unfold decAa_v4 at h
  split at h
  · cases h
    rfl
  · cases h
def decAa_b0 : Blk → Option ((List Int))
  | .lst true tt0 [.int .i64] W => if tt0 = 3 then some (W) else none
  | _ => none
theorem decAa_b0_ok (b : Blk) (y0 : (List Int)) (h : decAa_b0 b = some y0) : b = .lst true 3 [.int .i64] (y0) := by
  unfold decAa_b0 at h
  split at h
  · obtain ⟨e0, h⟩ := ite_some0 h
    subst e0
    cases h
    rfl
  · cases h
def decAa : List V → List Blk → Option (PAa × AAa)
  | [v0, v1, v2, v3, v4], [b0] => (decAa_v0 v0).bind fun x0 => (decAa_v1 v1).bind fun x1 => (decAa_v2 v2).bind fun x2 => (decAa_v3 v3).bind fun x3 => (decAa_v4 v4).bind fun x4 => (decAa_b0 b0).bind fun y0 => some (⟨(x0), (x1), (x2)⟩, ⟨(x4), (x3), (y0)⟩)
  | _, _ => none
theorem decAa_ok (l : List V) (b : List Blk) (d : PAa × AAa) (h : decAa l b = some d) : l = vsAa d.1 d.2 ∧ b = bsAa d.1 d.2 := by
  unfold decAa at h
  split at h
  · obtain ⟨x0, hx0, h⟩ := Option.bind_eq_some_iff.1 h
    obtain ⟨x1, hx1, h⟩ := Option.bind_eq_some_iff.1 h
    obtain ⟨x2, hx2, h⟩ := Option.bind_eq_some_iff.1 h
    obtain ⟨x3, hx3, h⟩ := Option.bind_eq_some_iff.1 h
    obtain ⟨x4, hx4, h⟩ := Option.bind_eq_some_iff.1 h
    obtain ⟨y0, hy0, h⟩ := Option.bind_eq_some_iff.1 h
    have ex0 := decAa_v0_ok _ _ hx0
    have ex1 := decAa_v1_ok _ _ hx1
    have ex2 := decAa_v2_ok _ _ hx2
    have ex3 := decAa_v3_ok _ _ hx3
    have ex4 := decAa_v4_ok _ _ hx4
    have ey0 := decAa_b0_ok _ _ hy0
    cases h
    subst ex0 ex1 ex2 ex3 ex4 ey0
    exact ⟨rfl, rfl⟩
  · cases h
noncomputable def rgAa : Nat := (firstReg lpAa).getD 0
theorem rgAa_is : firstReg lpAa = some rgAa := by kernel_rfl
def idA (i : Int) : Int := IntKind.wrap .i64 (100 + i)
theorem aa_w (p : PAa) (a : AAa) : T.path [true, true] (rdAa p a) = some ([(decide (a.i < p.k), true), (apC a.j a.W (idA a.i), true)], (.normal, FAa p ⟨IntKind.wrap .i64 (a.i + 1), a.j + [idA a.i].length, a.W.take a.j ++ [idA a.i]⟩)) := by kernel_rfl
theorem aa_x (p : PAa) (a : AAa) : T.path [false] (rdAa p a) = some ([(decide (a.i < p.k), false)], (.exit 0, FAa p a)) := by kernel_rfl
def idsA (n : Nat) : List Int := (List.range n).map fun (i : Nat) => 100 + (i : Int)
theorem idsA_succ (n : Nat) : idsA (n + 1) = idsA n ++ [100 + (n : Int)] := by unfold idsA; rw [List.range_succ, List.map_append]; rfl
theorem idsA_len (n : Nat) : (idsA n).length = n := by unfold idsA; simp
def okAa (p : PAa) (a : AAa) : Prop := ∃ i : Nat, 0 ≤ p.k ∧ p.k ≤ 60 ∧ (i : Int) ≤ p.k ∧ a = ⟨(i : Int), i, idsA i⟩
def goAa (p : PAa) (a : AAa) : Bool := decide (a.i < p.k)
def muAa (p : PAa) (a : AAa) : Nat := (p.k - a.i).toNat
theorem stepAa (p : PAa) (a : AAa) (h : okAa p a) (hg : goAa p a = true) : ∃ b, stepC okAa rdAa FAa muAa p a b := by
  obtain ⟨i, k0, k1, ik, rfl⟩ := h
  have hi : (i : Int) < p.k := of_decide_eq_true hg
  have hl := idsA_len i
  have e1 : IntKind.wrap .i64 ((i : Int) + 1) = ((i + 1 : Nat) : Int) := (wrap64_in (by omega) (by omega)).trans (by omega)
  have e2 : idA (i : Int) = 100 + (i : Int) := wrap64_in (by omega) (by omega)
  have way := aa_w p ⟨(i : Int), i, idsA i⟩
  simp only at way
  rw [e1, e2, List.take_of_length_le (by omega), ← idsA_succ] at way
  exact ⟨_, T.path_eval way ⟨hg, apC_is _ (by omega) (by omega), trivial⟩, ⟨i + 1, k0, k1, by omega, rfl⟩, by show (p.k - ((i + 1 : Nat) : Int)).toNat < (p.k - (i : Int)).toNat; omega⟩
theorem exAa (p : PAa) (a : AAa) (h : okAa p a) (hg : goAa p a = false) : (rdAa p a).eval = some (.exit 0, FAa p a) := T.path_eval (aa_x p a) ⟨hg, trivial⟩
noncomputable def famAa : LSpec := famC [1,2,7,8,9] SAa 2000 2001 113 decAa okAa goAa rdAa FAa muAa (.exit 0)
theorem lpAa_ok : LoopOk P8 lpAa famAa := famC_ok (vs := vsAa) (bs := bsAa) P8_ok mixed (noLoops_ok _) decAa_ok (by simp) (fun _ _ => rfl) (fun _ _ => rfl) stepAa exAa
end Go.Proofs.Ytebibmioiigplaa.Sam

/- Layer 10: SampleAll: the rounds. -/
namespace Go.Proofs.Ytebibmioiigplaa.Sam
open Go.Eng Go.RowKit
set_option linter.unusedVariables false
set_option linter.unusedSimpArgs false
set_option maxRecDepth 100000
noncomputable def lpAb : Code := loopAt Try.prog 6 1
structure PAb where (k : Int) (n : Nat) (mo : Int) (fi : Int) (g : List Int)
structure AAb where (r : Int) (o : List Int)
abbrev SAb : List (Nat × Src) := [(2000, .same), (2001, .same)]
def vsAb (p : PAb) (a : AAb) : List V := [iv p.k, .sub 2000 1 0 p.n, .pr 2001 1 0 0, iv p.mo, iv p.fi, iv a.r]
def bsAb (p : PAb) (a : AAb) : List Blk := [.lst true 3 [.int .i64] p.g, .lst true 48 [.int .i64] a.o]
noncomputable def FAb (p : PAb) (a : AAb) : St := mkSt [7,8,10,11,12,13] (keysR SAb) 3000 113 (vsAb p a) (bsAb p a)
noncomputable def rdAb (p : PAb) (a : AAb) : T (Ex × St) := T.anon (roundN P8 noLoops lpAb [7,8,10,11,12,13] SAb 3000 3000 (mkSt [7,8,10,11,12,13] (keysR SAb) 3000 113 (vsAb p a) (bsAb p a)))
def decAb_v0 : V → Option ((Int))
  | .s (.int .i64 k) => some (k)
  | _ => none
theorem decAb_v0_ok (b : V) (x0 : (Int)) (h : decAb_v0 b = some x0) : b = iv (x0) := by
  unfold decAb_v0 at h
  split at h
  · cases h
    rfl
  · cases h
def decAb_v1 : V → Option ((Nat))
  | .sub 2000 1 0 n => some (n)
  | _ => none
theorem decAb_v1_ok (b : V) (x1 : (Nat)) (h : decAb_v1 b = some x1) : b = .sub 2000 1 0 (x1) := by
  unfold decAb_v1 at h
  split at h
  · cases h
    rfl
  · cases h
def decAb_v2 : V → Option (Unit)
  | .pr 2001 1 0 0 => some ()
  | _ => none
theorem decAb_v2_ok (b : V) (x2 : Unit) (h : decAb_v2 b = some x2) : b = .pr 2001 1 0 0 := by
  unfold decAb_v2 at h
  split at h
  · cases h
    rfl
  · cases h
def decAb_v3 : V → Option ((Int))
  | .s (.int .i64 mo) => some (mo)
  | _ => none
theorem decAb_v3_ok (b : V) (x3 : (Int)) (h : decAb_v3 b = some x3) : b = iv (x3) := by
  unfold decAb_v3 at h
  split at h
  · cases h
    rfl
  · cases h
def decAb_v4 : V → Option ((Int))
  | .s (.int .i64 fi) => some (fi)
  | _ => none
theorem decAb_v4_ok (b : V) (x4 : (Int)) (h : decAb_v4 b = some x4) : b = iv (x4) := by
  unfold decAb_v4 at h
  split at h
  · cases h
    rfl
  · cases h
def decAb_v5 : V → Option ((Int))
  | .s (.int .i64 r) => some (r)
  | _ => none
theorem decAb_v5_ok (b : V) (x5 : (Int)) (h : decAb_v5 b = some x5) : b = iv (x5) := by
  unfold decAb_v5 at h
  split at h
  · cases h
    rfl
  · cases h
def decAb_b0 : Blk → Option ((List Int))
  | .lst true tt0 [.int .i64] g => if tt0 = 3 then some (g) else none
  | _ => none
theorem decAb_b0_ok (b : Blk) (y0 : (List Int)) (h : decAb_b0 b = some y0) : b = .lst true 3 [.int .i64] (y0) := by
  unfold decAb_b0 at h
  split at h
  · obtain ⟨e0, h⟩ := ite_some0 h
    subst e0
    cases h
    rfl
  · cases h
def decAb_b1 : Blk → Option ((List Int))
  | .lst true tt0 [.int .i64] o => if tt0 = 48 then some (o) else none
  | _ => none
theorem decAb_b1_ok (b : Blk) (y1 : (List Int)) (h : decAb_b1 b = some y1) : b = .lst true 48 [.int .i64] (y1) := by
  unfold decAb_b1 at h
  split at h
  · obtain ⟨e0, h⟩ := ite_some0 h
    subst e0
    cases h
    rfl
  · cases h
def decAb : List V → List Blk → Option (PAb × AAb)
  | [v0, v1, v2, v3, v4, v5], [b0, b1] => (decAb_v0 v0).bind fun x0 => (decAb_v1 v1).bind fun x1 => (decAb_v2 v2).bind fun x2 => (decAb_v3 v3).bind fun x3 => (decAb_v4 v4).bind fun x4 => (decAb_v5 v5).bind fun x5 => (decAb_b0 b0).bind fun y0 => (decAb_b1 b1).bind fun y1 => some (⟨(x0), (x1), (x3), (x4), (y0)⟩, ⟨(x5), (y1)⟩)
  | _, _ => none
theorem decAb_ok (l : List V) (b : List Blk) (d : PAb × AAb) (h : decAb l b = some d) : l = vsAb d.1 d.2 ∧ b = bsAb d.1 d.2 := by
  unfold decAb at h
  split at h
  · obtain ⟨x0, hx0, h⟩ := Option.bind_eq_some_iff.1 h
    obtain ⟨x1, hx1, h⟩ := Option.bind_eq_some_iff.1 h
    obtain ⟨x2, hx2, h⟩ := Option.bind_eq_some_iff.1 h
    obtain ⟨x3, hx3, h⟩ := Option.bind_eq_some_iff.1 h
    obtain ⟨x4, hx4, h⟩ := Option.bind_eq_some_iff.1 h
    obtain ⟨x5, hx5, h⟩ := Option.bind_eq_some_iff.1 h
    obtain ⟨y0, hy0, h⟩ := Option.bind_eq_some_iff.1 h
    obtain ⟨y1, hy1, h⟩ := Option.bind_eq_some_iff.1 h
    have ex0 := decAb_v0_ok _ _ hx0
    have ex1 := decAb_v1_ok _ _ hx1
    have ex2 := decAb_v2_ok _ _ hx2
    have ex3 := decAb_v3_ok _ _ hx3
    have ex4 := decAb_v4_ok _ _ hx4
    have ex5 := decAb_v5_ok _ _ hx5
    have ey0 := decAb_b0_ok _ _ hy0
    have ey1 := decAb_b1_ok _ _ hy1
    cases h
    subst ex0 ex1 ex2 ex3 ex4 ex5 ey0 ey1
    exact ⟨rfl, rfl⟩
  · cases h
noncomputable def rgAb : Nat := (firstReg lpAb).getD 0
theorem rgAb_is : firstReg lpAb = some rgAb := by kernel_rfl
noncomputable def lpAc0 : Code := (loopsIn lpAb).getD 0 .skip
noncomputable def lpAd0 : Code := (loopsIn lpAc0).getD 0 .skip
end Go.Proofs.Ytebibmioiigplaa.Sam

/- Layer 10: SampleAll: the innermost loop: no two alike. -/
namespace Go.Proofs.Ytebibmioiigplaa.Sam
open Go.Eng Go.RowKit
set_option linter.unusedVariables false
set_option linter.unusedSimpArgs false
set_option maxRecDepth 100000
noncomputable def lpAd : Code := lpAd0
structure PAd where (k : Int) (n : Nat) (mo : Int) (fi : Int) (r : Int) (g : List Int) (q : Nat) (l : List Int) (i : Int) (o : List Int)
structure AAd where (j : Int)
abbrev SAd : List (Nat × Src) := [(2000, .same), (2001, .same), (4000, .same)]
def vsAd (p : PAd) (a : AAd) : List V := [iv p.k, .sub 2000 1 0 p.n, .pr 2001 1 0 0, iv p.mo, iv p.fi, iv p.r, .sub 4000 1 0 p.q, iv p.i, iv a.j]
def bsAd (p : PAd) (a : AAd) : List Blk := [.lst true 3 [.int .i64] p.g, .lst true 48 [.int .i64] p.o, .lst true 3 [.int .i64] p.l]
noncomputable def FAd (p : PAd) (a : AAd) : St := mkSt [7,8,10,11,12,13,14,15,16] (keysR SAd) 5000 113 (vsAd p a) (bsAd p a)
noncomputable def rdAd (p : PAd) (a : AAd) : T (Ex × St) := T.anon (roundN P8 noLoops lpAd [7,8,10,11,12,13,14,15,16] SAd 5000 5000 (mkSt [7,8,10,11,12,13,14,15,16] (keysR SAd) 5000 113 (vsAd p a) (bsAd p a)))
def decAd_v0 : V → Option ((Int))
  | .s (.int .i64 k) => some (k)
  | _ => none
theorem decAd_v0_ok (b : V) (x0 : (Int)) (h : decAd_v0 b = some x0) : b = iv (x0) := by
  unfold decAd_v0 at h
  split at h
  · cases h
    rfl
  · cases h
def decAd_v1 : V → Option ((Nat))
  | .sub 2000 1 0 n => some (n)
  | _ => none
theorem decAd_v1_ok (b : V) (x1 : (Nat)) (h : decAd_v1 b = some x1) : b = .sub 2000 1 0 (x1) := by
  unfold decAd_v1 at h
  split at h
  · cases h
    rfl
  · cases h
def decAd_v2 : V → Option (Unit)
  | .pr 2001 1 0 0 => some ()
  | _ => none
theorem decAd_v2_ok (b : V) (x2 : Unit) (h : decAd_v2 b = some x2) : b = .pr 2001 1 0 0 := by
  unfold decAd_v2 at h
  split at h
  · cases h
    rfl
  · cases h
def decAd_v3 : V → Option ((Int))
  | .s (.int .i64 mo) => some (mo)
  | _ => none
theorem decAd_v3_ok (b : V) (x3 : (Int)) (h : decAd_v3 b = some x3) : b = iv (x3) := by
  unfold decAd_v3 at h
  split at h
  · cases h
    rfl
  · cases h
def decAd_v4 : V → Option ((Int))
  | .s (.int .i64 fi) => some (fi)
  | _ => none
theorem decAd_v4_ok (b : V) (x4 : (Int)) (h : decAd_v4 b = some x4) : b = iv (x4) := by
  unfold decAd_v4 at h
  split at h
  · cases h
    rfl
  · cases h
def decAd_v5 : V → Option ((Int))
  | .s (.int .i64 r) => some (r)
  | _ => none
theorem decAd_v5_ok (b : V) (x5 : (Int)) (h : decAd_v5 b = some x5) : b = iv (x5) := by
  unfold decAd_v5 at h
  split at h
  · cases h
    rfl
  · cases h
def decAd_v6 : V → Option ((Nat))
  | .sub 4000 1 0 q => some (q)
  | _ => none
theorem decAd_v6_ok (b : V) (x6 : (Nat)) (h : decAd_v6 b = some x6) : b = .sub 4000 1 0 (x6) := by
  unfold decAd_v6 at h
  split at h
  · cases h
    rfl
  · cases h
def decAd_v7 : V → Option ((Int))
  | .s (.int .i64 i) => some (i)
  | _ => none
theorem decAd_v7_ok (b : V) (x7 : (Int)) (h : decAd_v7 b = some x7) : b = iv (x7) := by
  unfold decAd_v7 at h
  split at h
  · cases h
    rfl
  · cases h
def decAd_v8 : V → Option ((Int))
  | .s (.int .i64 j) => some (j)
  | _ => none
theorem decAd_v8_ok (b : V) (x8 : (Int)) (h : decAd_v8 b = some x8) : b = iv (x8) := by
  unfold decAd_v8 at h
  split at h
  · cases h
    rfl
  · cases h
def decAd_b0 : Blk → Option ((List Int))
  | .lst true tt0 [.int .i64] g => if tt0 = 3 then some (g) else none
  | _ => none
theorem decAd_b0_ok (b : Blk) (y0 : (List Int)) (h : decAd_b0 b = some y0) : b = .lst true 3 [.int .i64] (y0) := by
  unfold decAd_b0 at h
  split at h
  · obtain ⟨e0, h⟩ := ite_some0 h
    subst e0
    cases h
    rfl
  · cases h
def decAd_b1 : Blk → Option ((List Int))
  | .lst true tt0 [.int .i64] o => if tt0 = 48 then some (o) else none
  | _ => none
theorem decAd_b1_ok (b : Blk) (y1 : (List Int)) (h : decAd_b1 b = some y1) : b = .lst true 48 [.int .i64] (y1) := by
  unfold decAd_b1 at h
  split at h
  · obtain ⟨e0, h⟩ := ite_some0 h
    subst e0
    cases h
    rfl
  · cases h
def decAd_b2 : Blk → Option ((List Int))
  | .lst true tt0 [.int .i64] l => if tt0 = 3 then some (l) else none
  | _ => none
theorem decAd_b2_ok (b : Blk) (y2 : (List Int)) (h : decAd_b2 b = some y2) : b = .lst true 3 [.int .i64] (y2) := by
  unfold decAd_b2 at h
  split at h
  · obtain ⟨e0, h⟩ := ite_some0 h
    subst e0
    cases h
    rfl
  · cases h
def decAd : List V → List Blk → Option (PAd × AAd)
  | [v0, v1, v2, v3, v4, v5, v6, v7, v8], [b0, b1, b2] => (decAd_v0 v0).bind fun x0 => (decAd_v1 v1).bind fun x1 => (decAd_v2 v2).bind fun x2 => (decAd_v3 v3).bind fun x3 => (decAd_v4 v4).bind fun x4 => (decAd_v5 v5).bind fun x5 => (decAd_v6 v6).bind fun x6 => (decAd_v7 v7).bind fun x7 => (decAd_v8 v8).bind fun x8 => (decAd_b0 b0).bind fun y0 => (decAd_b1 b1).bind fun y1 => (decAd_b2 b2).bind fun y2 => some (⟨(x0), (x1), (x3), (x4), (x5), (y0), (x6), (y2), (x7), (y1)⟩, ⟨(x8)⟩)
  | _, _ => none
theorem decAd_ok (l : List V) (b : List Blk) (d : PAd × AAd) (h : decAd l b = some d) : l = vsAd d.1 d.2 ∧ b = bsAd d.1 d.2 := by
  unfold decAd at h
  split at h
  · obtain ⟨x0, hx0, h⟩ := Option.bind_eq_some_iff.1 h
    obtain ⟨x1, hx1, h⟩ := Option.bind_eq_some_iff.1 h
    obtain ⟨x2, hx2, h⟩ := Option.bind_eq_some_iff.1 h
    obtain ⟨x3, hx3, h⟩ := Option.bind_eq_some_iff.1 h
    obtain ⟨x4, hx4, h⟩ := Option.bind_eq_some_iff.1 h
    obtain ⟨x5, hx5, h⟩ := Option.bind_eq_some_iff.1 h
    obtain ⟨x6, hx6, h⟩ := Option.bind_eq_some_iff.1 h
    obtain ⟨x7, hx7, h⟩ := Option.bind_eq_some_iff.1 h
    obtain ⟨x8, hx8, h⟩ := Option.bind_eq_some_iff.1 h
    obtain ⟨y0, hy0, h⟩ := Option.bind_eq_some_iff.1 h
    obtain ⟨y1, hy1, h⟩ := Option.bind_eq_some_iff.1 h
    obtain ⟨y2, hy2, h⟩ := Option.bind_eq_some_iff.1 h
    have ex0 := decAd_v0_ok _ _ hx0
    have ex1 := decAd_v1_ok _ _ hx1
    have ex2 := decAd_v2_ok _ _ hx2
    have ex3 := decAd_v3_ok _ _ hx3
    have ex4 := decAd_v4_ok _ _ hx4
    have ex5 := decAd_v5_ok _ _ hx5
    have ex6 := decAd_v6_ok _ _ hx6
    have ex7 := decAd_v7_ok _ _ hx7
    have ex8 := decAd_v8_ok _ _ hx8
    have ey0 := decAd_b0_ok _ _ hy0
    have ey1 := decAd_b1_ok _ _ hy1
    have ey2 := decAd_b2_ok _ _ hy2
    cases h
    subst ex0 ex1 ex2 ex3 ex4 ex5 ex6 ex7 ex8 ey0 ey1 ey2
    exact ⟨rfl, rfl⟩
  · cases h
noncomputable def rgAd : Nat := (firstReg lpAd).getD 0
theorem rgAd_is : firstReg lpAd = some rgAd := by kernel_rfl
theorem ad_n (p : PAd) (a : AAd) : T.path [true, true, true, true, true, false] (rdAd p a) = some ([(decide (a.j < p.i), true), (idR p.l p.q a.j, true), (ldR p.l a.j, true), (idR p.l p.q p.i, true), (ldR p.l p.i, true), (p.l.getD (0 + a.j.toNat) 0 == p.l.getD (0 + p.i.toNat) 0, false)], (.normal, FAd p ⟨IntKind.wrap .i64 (a.j + 1)⟩)) := by kernel_rfl
theorem ad_x (p : PAd) (a : AAd) : T.path [false] (rdAd p a) = some ([(decide (a.j < p.i), false)], (.exit 6, FAd p a)) := by kernel_rfl
structure okAd (p : PAd) (a : AAd) : Prop where
  q : p.q = p.l.length
  q1 : p.q ≤ 1000
  i1 : p.i < p.q
  i0 : 0 ≤ p.i
  j0 : 0 ≤ a.j
  nd : p.l.Nodup
def goAd (p : PAd) (a : AAd) : Bool := decide (a.j < p.i)
def muAd (p : PAd) (a : AAd) : Nat := (p.i - a.j).toNat
theorem stepAd (p : PAd) (a : AAd) (h : okAd p a) (hg : goAd p a = true) : ∃ b, stepC okAd rdAd FAd muAd p a b := by
  obtain ⟨hq, q1, i1, i0, j0, nd⟩ := h
  have hj : a.j < p.i := of_decide_eq_true hg
  have e1 : IntKind.wrap .i64 (a.j + 1) = a.j + 1 := wrap64_in (by omega) (by omega)
  obtain ⟨y1, y2⟩ := idR_is (g := p.l) (k := p.q) (i := a.j) hq j0 (by omega)
  obtain ⟨z1, z2⟩ := idR_is (g := p.l) (k := p.q) (i := p.i) hq i0 i1
  have hne : (p.l.getD (0 + a.j.toNat) 0 == p.l.getD (0 + p.i.toNat) 0) = false := by
    rw [beq_eq_false_iff_ne, getD0 (j := a.j.toNat) rfl (by omega), getD0 (j := p.i.toNat) rfl (by omega)]
    exact List.pairwise_iff_getElem.1 nd a.j.toNat p.i.toNat (by omega) (by omega) (by omega)
  have way := ad_n p a
  rw [e1] at way
  exact ⟨_, T.path_eval way ⟨hg, y1, y2, z1, z2, hne, trivial⟩, ⟨hq, q1, i1, i0, by show 0 ≤ a.j + 1; omega, nd⟩, by show (p.i - (a.j + 1)).toNat < (p.i - a.j).toNat; omega⟩
theorem exAd (p : PAd) (a : AAd) (h : okAd p a) (hg : goAd p a = false) : (rdAd p a).eval = some (.exit 6, FAd p a) := T.path_eval (ad_x p a) ⟨hg, trivial⟩
noncomputable def famAd : LSpec := famC [7,8,10,11,12,13,14,15,16] SAd 5000 5000 113 decAd okAd goAd rdAd FAd muAd (.exit 6)
theorem lpAd_ok : LoopOk P8 lpAd famAd := famC_ok (vs := vsAd) (bs := bsAd) P8_ok mixed (noLoops_ok _) decAd_ok (by simp) (fun _ _ => rfl) (fun _ _ => rfl) stepAd exAd
end Go.Proofs.Ytebibmioiigplaa.Sam

/- Layer 10: SampleAll: the loop over one round. -/
namespace Go.Proofs.Ytebibmioiigplaa.Sam
open Go.Eng Go.RowKit
set_option linter.unusedVariables false
set_option linter.unusedSimpArgs false
set_option maxRecDepth 100000
theorem ad_in : LoopsOkS P8 (byReg [(rgAd, famAd)]) lpAc0 := lps_in (by kernel_rfl) rgAd_is lpAd_ok
noncomputable def lpAc : Code := lpAc0
structure PAc where (k : Int) (n : Nat) (mo : Int) (fi : Int) (r : Int) (g : List Int) (q : Nat) (l : List Int) (o0 : List Int)
structure AAc where (i : Int) (o : List Int)
abbrev SAc : List (Nat × Src) := [(2000, .same), (2001, .same), (4000, .tmp 14)]
def vsAc (p : PAc) (a : AAc) : List V := [iv p.k, .sub 2000 1 0 p.n, .pr 2001 1 0 0, iv p.mo, iv p.fi, iv p.r, .sub 4000 1 0 p.q, iv a.i]
def bsAc (p : PAc) (a : AAc) : List Blk := [.lst true 3 [.int .i64] p.g, .lst true 48 [.int .i64] a.o, .lst true 3 [.int .i64] p.l]
noncomputable def FAc (p : PAc) (a : AAc) : St := mkSt [7,8,10,11,12,13,14,15] (keysR SAc) 4001 113 (vsAc p a) (bsAc p a)
noncomputable def rdAc (p : PAc) (a : AAc) : T (Ex × St) := T.anon (roundN P8 (byReg [(rgAd, famAd)]) lpAc [7,8,10,11,12,13,14,15] SAc 4000 4001 (mkSt [7,8,10,11,12,13,14,15] (keysR SAc) 4001 113 (vsAc p a) (bsAc p a)))
def decAc_v0 : V → Option ((Int))
  | .s (.int .i64 k) => some (k)
  | _ => none
theorem decAc_v0_ok (b : V) (x0 : (Int)) (h : decAc_v0 b = some x0) : b = iv (x0) := by
  unfold decAc_v0 at h
  split at h
  · cases h
    rfl
  · cases h
def decAc_v1 : V → Option ((Nat))
  | .sub 2000 1 0 n => some (n)
  | _ => none
theorem decAc_v1_ok (b : V) (x1 : (Nat)) (h : decAc_v1 b = some x1) : b = .sub 2000 1 0 (x1) := by
  unfold decAc_v1 at h
  split at h
  · cases h
    rfl
  · cases h
def decAc_v2 : V → Option (Unit)
  | .pr 2001 1 0 0 => some ()
  | _ => none
theorem decAc_v2_ok (b : V) (x2 : Unit) (h : decAc_v2 b = some x2) : b = .pr 2001 1 0 0 := by
  unfold decAc_v2 at h
  split at h
  · cases h
    rfl
  · cases h
def decAc_v3 : V → Option ((Int))
  | .s (.int .i64 mo) => some (mo)
  | _ => none
theorem decAc_v3_ok (b : V) (x3 : (Int)) (h : decAc_v3 b = some x3) : b = iv (x3) := by
  unfold decAc_v3 at h
  split at h
  · cases h
    rfl
  · cases h
def decAc_v4 : V → Option ((Int))
  | .s (.int .i64 fi) => some (fi)
  | _ => none
theorem decAc_v4_ok (b : V) (x4 : (Int)) (h : decAc_v4 b = some x4) : b = iv (x4) := by
  unfold decAc_v4 at h
  split at h
  · cases h
    rfl
  · cases h
def decAc_v5 : V → Option ((Int))
  | .s (.int .i64 r) => some (r)
  | _ => none
theorem decAc_v5_ok (b : V) (x5 : (Int)) (h : decAc_v5 b = some x5) : b = iv (x5) := by
  unfold decAc_v5 at h
  split at h
  · cases h
    rfl
  · cases h
def decAc_v6 : V → Option ((Nat))
  | .sub 4000 1 0 q => some (q)
  | _ => none
theorem decAc_v6_ok (b : V) (x6 : (Nat)) (h : decAc_v6 b = some x6) : b = .sub 4000 1 0 (x6) := by
  unfold decAc_v6 at h
  split at h
  · cases h
    rfl
  · cases h
def decAc_v7 : V → Option ((Int))
  | .s (.int .i64 i) => some (i)
  | _ => none
theorem decAc_v7_ok (b : V) (x7 : (Int)) (h : decAc_v7 b = some x7) : b = iv (x7) := by
  unfold decAc_v7 at h
  split at h
  · cases h
    rfl
  · cases h
def decAc_b0 : Blk → Option ((List Int))
  | .lst true tt0 [.int .i64] g => if tt0 = 3 then some (g) else none
  | _ => none
theorem decAc_b0_ok (b : Blk) (y0 : (List Int)) (h : decAc_b0 b = some y0) : b = .lst true 3 [.int .i64] (y0) := by
  unfold decAc_b0 at h
  split at h
  · obtain ⟨e0, h⟩ := ite_some0 h
    subst e0
    cases h
    rfl
  · cases h
def decAc_b1 : Blk → Option ((List Int))
  | .lst true tt0 [.int .i64] o => if tt0 = 48 then some (o) else none
  | _ => none
theorem decAc_b1_ok (b : Blk) (y1 : (List Int)) (h : decAc_b1 b = some y1) : b = .lst true 48 [.int .i64] (y1) := by
  unfold decAc_b1 at h
  split at h
  · obtain ⟨e0, h⟩ := ite_some0 h
    subst e0
    cases h
    rfl
  · cases h
def decAc_b2 : Blk → Option ((List Int))
  | .lst true tt0 [.int .i64] l => if tt0 = 3 then some (l) else none
  | _ => none
theorem decAc_b2_ok (b : Blk) (y2 : (List Int)) (h : decAc_b2 b = some y2) : b = .lst true 3 [.int .i64] (y2) := by
  unfold decAc_b2 at h
  split at h
  · obtain ⟨e0, h⟩ := ite_some0 h
    subst e0
    cases h
    rfl
  · cases h
def decAc : List V → List Blk → Option (PAc × AAc)
  | [v0, v1, v2, v3, v4, v5, v6, v7], [b0, b1, b2] => (decAc_v0 v0).bind fun x0 => (decAc_v1 v1).bind fun x1 => (decAc_v2 v2).bind fun x2 => (decAc_v3 v3).bind fun x3 => (decAc_v4 v4).bind fun x4 => (decAc_v5 v5).bind fun x5 => (decAc_v6 v6).bind fun x6 => (decAc_v7 v7).bind fun x7 => (decAc_b0 b0).bind fun y0 => (decAc_b1 b1).bind fun y1 => (decAc_b2 b2).bind fun y2 => some (⟨(x0), (x1), (x3), (x4), (x5), (y0), (x6), (y2), (y1)⟩, ⟨(x7), (y1)⟩)
  | _, _ => none
theorem decAc_ok (l : List V) (b : List Blk) (d : PAc × AAc) (h : decAc l b = some d) : l = vsAc d.1 d.2 ∧ b = bsAc d.1 d.2 := by
  unfold decAc at h
  split at h
  · obtain ⟨x0, hx0, h⟩ := Option.bind_eq_some_iff.1 h
    obtain ⟨x1, hx1, h⟩ := Option.bind_eq_some_iff.1 h
    obtain ⟨x2, hx2, h⟩ := Option.bind_eq_some_iff.1 h
    obtain ⟨x3, hx3, h⟩ := Option.bind_eq_some_iff.1 h
    obtain ⟨x4, hx4, h⟩ := Option.bind_eq_some_iff.1 h
    obtain ⟨x5, hx5, h⟩ := Option.bind_eq_some_iff.1 h
    obtain ⟨x6, hx6, h⟩ := Option.bind_eq_some_iff.1 h
    obtain ⟨x7, hx7, h⟩ := Option.bind_eq_some_iff.1 h
    obtain ⟨y0, hy0, h⟩ := Option.bind_eq_some_iff.1 h
    obtain ⟨y1, hy1, h⟩ := Option.bind_eq_some_iff.1 h
    obtain ⟨y2, hy2, h⟩ := Option.bind_eq_some_iff.1 h
    have ex0 := decAc_v0_ok _ _ hx0
    have ex1 := decAc_v1_ok _ _ hx1
    have ex2 := decAc_v2_ok _ _ hx2
    have ex3 := decAc_v3_ok _ _ hx3
    have ex4 := decAc_v4_ok _ _ hx4
    have ex5 := decAc_v5_ok _ _ hx5
    have ex6 := decAc_v6_ok _ _ hx6
    have ex7 := decAc_v7_ok _ _ hx7
    have ey0 := decAc_b0_ok _ _ hy0
    have ey1 := decAc_b1_ok _ _ hy1
    have ey2 := decAc_b2_ok _ _ hy2
    cases h
    subst ex0 ex1 ex2 ex3 ex4 ex5 ex6 ex7 ey0 ey1 ey2
    exact ⟨rfl, rfl⟩
  · cases h
noncomputable def rgAc : Nat := (firstReg lpAc).getD 0
theorem rgAc_is : firstReg lpAc = some rgAc := by kernel_rfl
def liA (p : PAc) (a : AAc) : Int := p.l.getD (0 + a.i.toNat) 0
def xA (p : PAc) (a : AAc) : Int := IntKind.wrap .i64 (liA p a - 100)
def ixO (o : List Int) (x : Int) : Bool := decide (0 ≤ x) && (decide (x < 60) && decide (x.toNat < o.length))
def ldO (o : List Int) (x : Int) : Bool := decide (x.toNat < o.length)
def pAd (p : PAc) (a : AAc) : PAd := ⟨p.k, p.n, p.mo, p.fi, p.r, p.g, p.q, p.l, a.i, a.o⟩
theorem ac_n (p : PAc) (a : AAc) : T.path [true, true, true, true, true, false, true, true, true, true, true, true, true] (rdAc p a) = some ([(decide (a.i < (p.q : Int)), true), (idR p.l p.q a.i, true), (ldR p.l a.i, true), (bif decide (liA p a < 100) == false && true then idR p.l p.q a.i else true, true), (bif decide (liA p a < 100) == false && true then ldR p.l a.i else true, true), (bif decide (liA p a < 100) then true else decide (IntKind.wrap .i64 (100 + p.k) ≤ liA p a), false), (invC okAd (pAd p a) ⟨0⟩, true), (idR p.l p.q a.i, true), (ldR p.l a.i, true), (ixO a.o (xA p a), true), (ldO a.o (xA p a), true), (ixO a.o (xA p a), true), (ldO a.o (xA p a), true)], (.normal, FAc p ⟨IntKind.wrap .i64 (a.i + 1), a.o.set (xA p a).toNat (IntKind.wrap .i64 (a.o.getD (xA p a).toNat 0 + 1))⟩)) := by kernel_rfl
theorem ac_x (p : PAc) (a : AAc) : T.path [false] (rdAc p a) = some ([(decide (a.i < (p.q : Int)), false)], (.exit 4, FAc p a)) := by kernel_rfl
/-- one more for who is asked -/
def inc (o : List Int) (y : Int) : List Int := o.set (y - 100).toNat (o.getD (y - 100).toNat 0 + 1)
def addC (o l : List Int) : List Int := l.foldl inc o
theorem addC_app (o a b : List Int) : addC o (a ++ b) = addC (addC o a) b := List.foldl_append
theorem inc_len (o : List Int) (y : Int) : (inc o y).length = o.length := List.length_set ..
theorem addC_len : ∀ (l o : List Int), (addC o l).length = o.length
  | [], o => rfl
  | y :: l, o => by show (addC (inc o y) l).length = _; rw [addC_len l, inc_len]
def hitC (j : Nat) (y : Int) : Bool := decide ((y - 100).toNat = j)
theorem inc_get {o : List Int} {y : Int} {j : Nat} (hj : j < o.length) : (inc o y).getD j 0 = o.getD j 0 + if hitC j y = true then 1 else 0 := by
  unfold inc hitC
  rw [List.getD_eq_getElem?_getD, List.getD_eq_getElem?_getD, List.getElem?_set]
  by_cases h : (y - 100).toNat = j
  · subst h
    rw [if_pos rfl, if_pos hj, if_pos (by simp), List.getD_eq_getElem?_getD]
    rfl
  · rw [if_neg h, if_neg (by simpa using h), List.getD_eq_getElem?_getD, Int.add_zero]
theorem addC_get : ∀ (l : List Int) (o : List Int) (j : Nat), j < o.length → (addC o l).getD j 0 = o.getD j 0 + ((l.countP (hitC j) : Nat) : Int)
  | [], o, j, h => by show o.getD j 0 = o.getD j 0 + ((0 : Nat) : Int); omega
  | y :: l, o, j, h => by
    show (addC (inc o y) l).getD j 0 = _
    rw [addC_get l (inc o y) j (by rw [inc_len]; exact h), inc_get h, List.countP_cons]
    split <;> omega
structure okAc (p : PAc) (a : AAc) : Prop where
  q : p.q = p.l.length
  q1 : p.q ≤ 1000
  nd : p.l.Nodup
  el : ∀ y ∈ p.l, 100 ≤ y ∧ y < 100 + p.k
  k0 : 0 ≤ p.k
  k1 : p.k ≤ 60
  ol : p.o0.length = 60
  ob : ∀ j, 0 ≤ p.o0.getD j 0 ∧ p.o0.getD j 0 ≤ 1000000
  i0 : 0 ≤ a.i
  i1 : a.i ≤ p.q
  o : a.o = addC p.o0 (p.l.take a.i.toNat)
def goAc (p : PAc) (a : AAc) : Bool := decide (a.i < (p.q : Int))
def muAc (p : PAc) (a : AAc) : Nat := (p.q - a.i).toNat
theorem stepAc (p : PAc) (a : AAc) (h : okAc p a) (hg : goAc p a = true) : ∃ b, stepC okAc rdAc FAc muAc p a b := by
  obtain ⟨hq, q1, nd, el, k0, k1, ol, ob, i0, i1, ho⟩ := h
  have hi : a.i < (p.q : Int) := of_decide_eq_true hg
  have hl : a.i.toNat < p.l.length := by omega
  have e1 : IntKind.wrap .i64 (a.i + 1) = a.i + 1 := wrap64_in (by omega) (by omega)
  obtain ⟨y1, y2⟩ := idR_is (g := p.l) (k := p.q) (i := a.i) hq i0 hi
  have eli : liA p a = p.l[a.i.toNat] := getD0 rfl hl
  obtain ⟨b0, b1⟩ := el _ (List.getElem_mem hl)
  rw [← eli] at b0 b1
  have ex : xA p a = liA p a - 100 := wrap64_in (by omega) (by omega)
  have hol : a.o.length = 60 := by rw [ho, addC_len]; exact ol
  have c1 : ixO a.o (xA p a) = true := by
    unfold ixO
    rw [ex, hol, decide_eq_true (show 0 ≤ liA p a - 100 by omega), decide_eq_true (show liA p a - 100 < 60 by omega), decide_eq_true (show (liA p a - 100).toNat < 60 by omega)]; rfl
  have c2 : ldO a.o (xA p a) = true := by
    unfold ldO
    rw [ex, hol]; exact decide_eq_true (by omega)
  have d1 : decide (liA p a < 100) = false := decide_eq_false (by omega)
  have d2 : decide (IntKind.wrap .i64 (100 + p.k) ≤ liA p a) = false := by
    rw [show IntKind.wrap .i64 (100 + p.k) = 100 + p.k from wrap64_in (by omega) (by omega)]
    exact decide_eq_false (by omega)
  have hv : a.o.getD (liA p a - 100).toNat 0 = p.o0.getD (liA p a - 100).toNat 0 + (((p.l.take a.i.toNat).countP (hitC (liA p a - 100).toNat) : Nat) : Int) := by
    rw [ho]; exact addC_get _ _ _ (by omega)
  have hc := List.countP_le_length (p := hitC (liA p a - 100).toNat) (l := p.l.take a.i.toNat)
  rw [List.length_take] at hc
  have hob := ob (liA p a - 100).toNat
  have ew : IntKind.wrap .i64 (a.o.getD (liA p a - 100).toNat 0 + 1) = a.o.getD (liA p a - 100).toNat 0 + 1 := wrap64_in (by omega) (by omega)
  have hI : invC okAd (pAd p a) ⟨0⟩ = true := invC_is ⟨hq, q1, hi, i0, Int.le_refl _, nd⟩
  have way := ac_n p a
  rw [e1, ex, ew, d1, d2] at way
  rw [ex] at c1 c2
  refine ⟨_, T.path_eval way ⟨hg, y1, y2, y1, y2, rfl, hI, y1, y2, c1, c2, c1, c2, trivial⟩, ⟨hq, q1, nd, el, k0, k1, ol, ob, by show 0 ≤ a.i + 1; omega, by show a.i + 1 ≤ p.q; omega, ?_⟩, by show (p.q - (a.i + 1)).toNat < (p.q - a.i).toNat; omega⟩
  show a.o.set _ _ = addC p.o0 (p.l.take (a.i + 1).toNat)
  rw [take_next i0 hl, addC_app, ← ho, ← eli]
  rfl
theorem exAc (p : PAc) (a : AAc) (h : okAc p a) (hg : goAc p a = false) : (rdAc p a).eval = some (.exit 4, FAc p a) := T.path_eval (ac_x p a) ⟨hg, trivial⟩
noncomputable def famAc : LSpec := famC [7,8,10,11,12,13,14,15] SAc 4000 4001 113 decAc okAc goAc rdAc FAc muAc (.exit 4)
theorem lpAc_gen {c : Code} (hl : LoopsOkS P8 (byReg [(rgAd, famAd)]) c) (hrun : ∀ p a, T.anon (roundN P8 (byReg [(rgAd, famAd)]) c [7,8,10,11,12,13,14,15] SAc 4000 4001 (mkSt [7,8,10,11,12,13,14,15] (keysR SAc) 4001 113 (vsAc p a) (bsAc p a))) = rdAc p a) : LoopOk P8 c famAc := famC_ok (vs := vsAc) (bs := bsAc) P8_ok mixed hl.ok decAc_ok (by simp) (fun _ _ => rfl) hrun stepAc exAc
theorem lpAc_ok : LoopOk P8 lpAc famAc := lpAc_gen ad_in (fun _ _ => rfl)
end Go.Proofs.Ytebibmioiigplaa.Sam

/- Layer 10: SampleAll: in numbers: arcs, one behind the other, tile the ring. -/
namespace Go.Proofs.Ytebibmioiigplaa.Sam
open Go.Eng Go.RowKit
set_option linter.unusedVariables false
set_option linter.unusedSimpArgs false
def sumN (g : Nat → Nat) : Nat → Nat
  | 0 => 0
  | n + 1 => sumN g n + g n
theorem sumN_congr {f g : Nat → Nat} : ∀ {n : Nat}, (∀ i, i < n → f i = g i) → sumN f n = sumN g n
  | 0, _ => rfl
  | n + 1, h => by
    show sumN f n + f n = sumN g n + g n
    rw [sumN_congr fun i hi => h i (by omega), h n (by omega)]
theorem sumN_add (f : Nat → Nat) (a : Nat) : ∀ b, sumN f (a + b) = sumN f a + sumN (fun i => f (a + i)) b
  | 0 => rfl
  | b + 1 => by
    show sumN f (a + b) + f (a + b) = sumN f a + (sumN (fun i => f (a + i)) b + f (a + b))
    rw [sumN_add f a b]; omega
theorem sumN_shift (F : Nat → Nat) (c : Nat) : ∀ k, sumN (fun s => F (c + 1 + s)) k + F c = sumN (fun s => F (c + s)) k + F (c + k)
  | 0 => rfl
  | k + 1 => by
    have ih := sumN_shift F c k
    show sumN (fun s => F (c + 1 + s)) k + F (c + 1 + k) + F c = sumN (fun s => F (c + s)) k + F (c + k) + F (c + (k + 1))
    rw [show c + (k + 1) = c + 1 + k by omega]; omega
theorem sumN_round (f : Nat → Nat) (k : Nat) : ∀ c, sumN (fun s => f ((c + s) % k)) k = sumN f k
  | 0 => sumN_congr fun i hi => by rw [Nat.zero_add, Nat.mod_eq_of_lt hi]
  | c + 1 => by
    have h := sumN_shift (fun x => f (x % k)) c k
    have ih := sumN_round f k c
    simp only [Nat.add_mod_right] at h
    omega
def oneB (b : Bool) : Nat := if b = true then 1 else 0
theorem sumN_blocks (P : Nat → Nat) (L : Nat) : ∀ n, sumN P (n * L) = sumN (fun t => sumN (fun q => P (t * L + q)) L) n
  | 0 => by rw [Nat.zero_mul]; rfl
  | n + 1 => by
    rw [Nat.succ_mul, sumN_add, sumN_blocks P L n]; rfl
theorem sumN_one (j : Nat) : ∀ n, sumN (fun y => oneB (decide (y = j))) n = if j < n then 1 else 0
  | 0 => by rw [if_neg (by omega)]; rfl
  | n + 1 => by
    show sumN _ n + oneB (decide (n = j)) = _
    rw [sumN_one j n]
    unfold oneB
    by_cases h : n = j
    · subst h
      rw [if_neg (by omega), if_pos (by simp), if_pos (by omega)]
    · by_cases q : j < n
      · rw [if_pos q, if_neg (by simpa using h), if_pos (by omega)]
      · rw [if_neg q, if_neg (by simpa using h), if_neg (by omega)]
theorem sumN_ring {k j : Nat} (hj : j < k) : ∀ L, sumN (fun x => oneB (decide (x % k = j))) (L * k) = L
  | 0 => by rw [Nat.zero_mul]; rfl
  | L + 1 => by
    rw [Nat.succ_mul, sumN_add, sumN_ring hj L]
    have : sumN (fun i => oneB (decide ((L * k + i) % k = j))) k = 1 := by
      rw [sumN_congr (g := fun y => oneB (decide (y = j))) fun i hi => by rw [show (L * k + i) % k = i by rw [Nat.add_comm, Nat.add_mul_mod_self_right, Nat.mod_eq_of_lt hi]], sumN_one, if_pos hj]
    rw [this]
/-- each place as often as an arc is long -/
theorem sumN_all {k j : Nat} (hj : j < k) (L c : Nat) : sumN (fun s => sumN (fun q => oneB (decide ((((c + s) % k) * L + q) % k = j))) L) k = L := by
  rw [sumN_round (fun t => sumN (fun q => oneB (decide ((t * L + q) % k = j))) L) k c, ← sumN_blocks (fun x => oneB (decide (x % k = j))) L k, Nat.mul_comm]
  exact sumN_ring hj L
theorem countP_range (P : Int → Bool) (g : Nat → Int) : ∀ n, ((List.range n).map g).countP P = sumN (fun q => oneB (P (g q))) n
  | 0 => rfl
  | n + 1 => by
    rw [List.range_succ, List.map_append, List.countP_append, countP_range P g n]
    show _ + List.countP P [g n] = _ + _
    rw [List.countP_cons, List.countP_nil, Nat.zero_add]; rfl
theorem size_bd (k : Nat) (h0 : 1 ≤ k) (h1 : k ≤ 60) : 1 ≤ sizeF (k : Int) ∧ sizeF (k : Int) ≤ (k : Int) ∧ sizeF (k : Int) ≤ 16 := by
  have : ∀ k : Fin 61, 1 ≤ k.1 → 1 ≤ sizeF (k.1 : Int) ∧ sizeF (k.1 : Int) ≤ (k.1 : Int) ∧ sizeF (k.1 : Int) ≤ 16 := by decide +kernel
  exact this ⟨k, by omega⟩ h0
theorem len_bd {k : Nat} (h0 : 1 ≤ k) (h1 : k ≤ 60) {mo : Int} (m0 : 0 ≤ mo) : 1 ≤ lenF (k : Int) mo ∧ lenF (k : Int) mo ≤ (k : Int) ∧ lenF (k : Int) mo ≤ 16 := by
  have := size_bd k h0 h1
  unfold lenF
  repeat' split
  all_goals omega
def lRn (k : Nat) (mo fi : Int) (s : Nat) : List Int := whL (idsA k) (startF (k : Int) mo (fi + s)) (lenF (k : Int) mo).toNat
theorem gI_ids {k : Nat} {i : Int} (i0 : 0 ≤ i) (i1 : i < k) : gI (idsA k) i = 100 + i := by
  unfold gI idsA
  rw [List.getD_eq_getElem?_getD, Nat.zero_add, List.getElem?_map, List.getElem?_range (by omega)]
  show 100 + ((i.toNat : Nat) : Int) = 100 + i
  omega
def posN (k L c s q : Nat) : Nat := (((c + s) % k) * L + q) % k
theorem lRn_eq {k : Nat} (h0 : 1 ≤ k) (h1 : k ≤ 60) {mo : Int} (m0 : 0 ≤ mo) (c s : Nat) : lRn k mo (c : Int) s = (List.range (lenF (k : Int) mo).toNat).map fun (q : Nat) => 100 + ((posN k (lenF (k : Int) mo).toNat c s q : Nat) : Int) := by
  have hL := len_bd h0 h1 m0
  unfold lRn whL
  refine List.map_congr_left fun q hq => ?_
  rw [idsA_len]
  have e : ((startF (k : Int) mo ((c : Int) + (s : Int))) + (q : Int)) % (k : Int) = ((posN k (lenF (k : Int) mo).toNat c s q : Nat) : Int) := by
    unfold startF mx0 posN
    rw [if_neg (by omega), Int.emod_add_emod]
    rw [Int.natCast_emod, Int.natCast_add, Int.natCast_mul, Int.natCast_emod, Int.natCast_add, show (((lenF (k : Int) mo).toNat : Nat) : Int) = lenF (k : Int) mo by omega]
  rw [e]
  exact gI_ids (by omega) (by unfold posN; exact Int.ofNat_lt.2 (Nat.mod_lt _ (by omega)))
theorem lRn_nodup {k : Nat} (h0 : 1 ≤ k) (h1 : k ≤ 60) {mo : Int} (m0 : 0 ≤ mo) (c s : Nat) : (lRn k mo (c : Int) s).Nodup := by
  have hL := len_bd h0 h1 m0
  rw [lRn_eq h0 h1 m0]
  refine List.pairwise_iff_getElem.2 fun i j hi hj hij => ?_
  simp only [List.length_map, List.length_range] at hi hj
  rw [List.getElem_map, List.getElem_map, List.getElem_range, List.getElem_range]
  intro he
  have he : posN k (lenF (k : Int) mo).toNat c s i = posN k (lenF (k : Int) mo).toNat c s j := by omega
  unfold posN at he
  generalize ((c + s) % k) * (lenF (k : Int) mo).toNat = z at he
  have hz : (z + i) % k = (z + j) % k := he
  have h2 : ((z + i) % k + (j - i)) % k = (z + i) % k := by
    rw [Nat.mod_add_mod, show z + i + (j - i) = z + j by omega]; exact hz.symm
  have h3 : (z + i) % k < k := Nat.mod_lt _ (by omega)
  generalize (z + i) % k = u at h2 h3
  by_cases q : u + (j - i) < k
  · rw [Nat.mod_eq_of_lt q] at h2; omega
  · rw [Nat.mod_eq_sub_mod (by omega), Nat.mod_eq_of_lt (by omega)] at h2; omega
theorem lRn_el {k : Nat} (h0 : 1 ≤ k) (h1 : k ≤ 60) {mo : Int} (m0 : 0 ≤ mo) (c s : Nat) : ∀ y ∈ lRn k mo (c : Int) s, 100 ≤ y ∧ y < 100 + (k : Int) := by
  rw [lRn_eq h0 h1 m0]
  intro y hy
  obtain ⟨q, _, rfl⟩ := List.mem_map.1 hy
  have : posN k (lenF (k : Int) mo).toNat c s q < k := Nat.mod_lt _ (by omega)
  omega
def allL (k : Nat) (mo fi : Int) : Nat → List Int
  | 0 => []
  | r + 1 => allL k mo fi r ++ lRn k mo fi r
theorem lRn_len (k : Nat) (mo fi : Int) (s : Nat) : (lRn k mo fi s).length = (lenF (k : Int) mo).toNat := whL_length _ _ _
theorem allL_len (k : Nat) (mo fi : Int) : ∀ r, (allL k mo fi r).length = r * (lenF (k : Int) mo).toNat
  | 0 => by rw [Nat.zero_mul]; rfl
  | r + 1 => by
    show (allL k mo fi r ++ lRn k mo fi r).length = _
    rw [List.length_append, allL_len k mo fi r, lRn_len, Nat.succ_mul]
theorem allL_count {k : Nat} (h0 : 1 ≤ k) (h1 : k ≤ 60) {mo : Int} (m0 : 0 ≤ mo) (c j : Nat) : ∀ r, (allL k mo (c : Int) r).countP (hitC j) = sumN (fun s => sumN (fun q => oneB (decide (posN k (lenF (k : Int) mo).toNat c s q = j))) (lenF (k : Int) mo).toNat) r
  | 0 => rfl
  | r + 1 => by
    show (allL k mo (c : Int) r ++ lRn k mo (c : Int) r).countP (hitC j) = _ + _
    rw [List.countP_append, allL_count h0 h1 m0 c j r, lRn_eq h0 h1 m0, countP_range]
    congr 1
    refine sumN_congr fun q _ => ?_
    unfold hitC
    congr 2
    rw [eq_iff_iff]; omega
theorem allL_full {k : Nat} (h0 : 1 ≤ k) (h1 : k ≤ 60) {mo : Int} (m0 : 0 ≤ mo) (c : Nat) {j : Nat} (hj : j < k) : (allL k mo (c : Int) k).countP (hitC j) = (lenF (k : Int) mo).toNat := by
  rw [allL_count h0 h1 m0]
  exact sumN_all hj _ c
end Go.Proofs.Ytebibmioiigplaa.Sam

/- Layer 10: SampleAll: the rounds, one by one. -/
namespace Go.Proofs.Ytebibmioiigplaa.Sam
open Go.Eng Go.RowKit
set_option linter.unusedVariables false
set_option linter.unusedSimpArgs false
set_option maxRecDepth 100000
theorem ac_in : LoopsOkS P8 (byReg [(rgAc, famAc)]) lpAb := lps_in (by kernel_rfl) rgAc_is lpAc_ok
noncomputable def lpAe : Code := lpAb
structure PAe where (k : Int) (n : Nat) (mo : Int) (fi : Int) (g : List Int)
structure AAe where (r : Int) (o : List Int)
abbrev SAe : List (Nat × Src) := [(2000, .same), (2001, .same)]
def vsAe (p : PAe) (a : AAe) : List V := [iv p.k, .sub 2000 1 0 p.n, .pr 2001 1 0 0, iv p.mo, iv p.fi, iv a.r]
def bsAe (p : PAe) (a : AAe) : List Blk := [.lst true 3 [.int .i64] p.g, .lst true 48 [.int .i64] a.o]
noncomputable def FAe (p : PAe) (a : AAe) : St := mkSt [7,8,10,11,12,13] (keysR SAe) 3000 113 (vsAe p a) (bsAe p a)
noncomputable def rdAe (p : PAe) (a : AAe) : T (Ex × St) := T.anon (roundN P8 (byReg [(rgAc, famAc)]) lpAe [7,8,10,11,12,13] SAe 3000 3000 (mkSt [7,8,10,11,12,13] (keysR SAe) 3000 113 (vsAe p a) (bsAe p a)))
def decAe_v0 : V → Option ((Int))
  | .s (.int .i64 k) => some (k)
  | _ => none
theorem decAe_v0_ok (b : V) (x0 : (Int)) (h : decAe_v0 b = some x0) : b = iv (x0) := by
  unfold decAe_v0 at h
  split at h
  · cases h
    rfl
  · cases h
def decAe_v1 : V → Option ((Nat))
  | .sub 2000 1 0 n => some (n)
  | _ => none
theorem decAe_v1_ok (b : V) (x1 : (Nat)) (h : decAe_v1 b = some x1) : b = .sub 2000 1 0 (x1) := by
  unfold decAe_v1 at h
  split at h
  · cases h
    rfl
  · cases h
def decAe_v2 : V → Option (Unit)
  | .pr 2001 1 0 0 => some ()
  | _ => none
theorem decAe_v2_ok (b : V) (x2 : Unit) (h : decAe_v2 b = some x2) : b = .pr 2001 1 0 0 := by
  unfold decAe_v2 at h
  split at h
  · cases h
    rfl
  · cases h
def decAe_v3 : V → Option ((Int))
  | .s (.int .i64 mo) => some (mo)
  | _ => none
theorem decAe_v3_ok (b : V) (x3 : (Int)) (h : decAe_v3 b = some x3) : b = iv (x3) := by
  unfold decAe_v3 at h
  split at h
  · cases h
    rfl
  · cases h
def decAe_v4 : V → Option ((Int))
  | .s (.int .i64 fi) => some (fi)
  | _ => none
theorem decAe_v4_ok (b : V) (x4 : (Int)) (h : decAe_v4 b = some x4) : b = iv (x4) := by
  unfold decAe_v4 at h
  split at h
  · cases h
    rfl
  · cases h
def decAe_v5 : V → Option ((Int))
  | .s (.int .i64 r) => some (r)
  | _ => none
theorem decAe_v5_ok (b : V) (x5 : (Int)) (h : decAe_v5 b = some x5) : b = iv (x5) := by
  unfold decAe_v5 at h
  split at h
  · cases h
    rfl
  · cases h
def decAe_b0 : Blk → Option ((List Int))
  | .lst true tt0 [.int .i64] g => if tt0 = 3 then some (g) else none
  | _ => none
theorem decAe_b0_ok (b : Blk) (y0 : (List Int)) (h : decAe_b0 b = some y0) : b = .lst true 3 [.int .i64] (y0) := by
  unfold decAe_b0 at h
  split at h
  · obtain ⟨e0, h⟩ := ite_some0 h
    subst e0
    cases h
    rfl
  · cases h
def decAe_b1 : Blk → Option ((List Int))
  | .lst true tt0 [.int .i64] o => if tt0 = 48 then some (o) else none
  | _ => none
theorem decAe_b1_ok (b : Blk) (y1 : (List Int)) (h : decAe_b1 b = some y1) : b = .lst true 48 [.int .i64] (y1) := by
  unfold decAe_b1 at h
  split at h
  · obtain ⟨e0, h⟩ := ite_some0 h
    subst e0
    cases h
    rfl
  · cases h
def decAe : List V → List Blk → Option (PAe × AAe)
  | [v0, v1, v2, v3, v4, v5], [b0, b1] => (decAe_v0 v0).bind fun x0 => (decAe_v1 v1).bind fun x1 => (decAe_v2 v2).bind fun x2 => (decAe_v3 v3).bind fun x3 => (decAe_v4 v4).bind fun x4 => (decAe_v5 v5).bind fun x5 => (decAe_b0 b0).bind fun y0 => (decAe_b1 b1).bind fun y1 => some (⟨(x0), (x1), (x3), (x4), (y0)⟩, ⟨(x5), (y1)⟩)
  | _, _ => none
theorem decAe_ok (l : List V) (b : List Blk) (d : PAe × AAe) (h : decAe l b = some d) : l = vsAe d.1 d.2 ∧ b = bsAe d.1 d.2 := by
  unfold decAe at h
  split at h
  · obtain ⟨x0, hx0, h⟩ := Option.bind_eq_some_iff.1 h
    obtain ⟨x1, hx1, h⟩ := Option.bind_eq_some_iff.1 h
    obtain ⟨x2, hx2, h⟩ := Option.bind_eq_some_iff.1 h
    obtain ⟨x3, hx3, h⟩ := Option.bind_eq_some_iff.1 h
    obtain ⟨x4, hx4, h⟩ := Option.bind_eq_some_iff.1 h
    obtain ⟨x5, hx5, h⟩ := Option.bind_eq_some_iff.1 h
    obtain ⟨y0, hy0, h⟩ := Option.bind_eq_some_iff.1 h
    obtain ⟨y1, hy1, h⟩ := Option.bind_eq_some_iff.1 h
    have ex0 := decAe_v0_ok _ _ hx0
    have ex1 := decAe_v1_ok _ _ hx1
    have ex2 := decAe_v2_ok _ _ hx2
    have ex3 := decAe_v3_ok _ _ hx3
    have ex4 := decAe_v4_ok _ _ hx4
    have ex5 := decAe_v5_ok _ _ hx5
    have ey0 := decAe_b0_ok _ _ hy0
    have ey1 := decAe_b1_ok _ _ hy1
    cases h
    subst ex0 ex1 ex2 ex3 ex4 ex5 ey0 ey1
    exact ⟨rfl, rfl⟩
  · cases h
noncomputable def rgAe : Nat := (firstReg lpAe).getD 0
theorem rgAe_is : firstReg lpAe = some rgAe := by kernel_rfl
def glA (p : PAe) : List Int := List.take p.n (List.drop 0 p.g)
def lE (p : PAe) (a : AAe) : List Int := whL (glA p) (startF ((glA p).length : Int) p.mo (IntKind.wrap .i64 (p.fi + a.r))) (lenF ((glA p).length : Int) p.mo).toNat
def pAc (p : PAe) (a : AAe) : PAc := ⟨p.k, p.n, p.mo, p.fi, a.r, p.g, (lE p a).length, lE p a, a.o⟩
noncomputable def eAc (p : PAe) (a : AAe) : AAc := endW (nxtC okAc goAc rdAc FAc muAc (pAc p a)) ⟨0, a.o⟩
theorem ae_n (p : PAe) (a : AAe) : T.path [true, true, true, true] (rdAe p a) = some ([(decide (a.r < p.k), true), (decide (0 + p.n ≤ p.g.length), true), (decide ((glA p).length ≤ 1000) && decide (IntKind.wrap .i64 (p.fi + a.r) ≤ 9223372036854775807), true), (invC okAc (pAc p a) ⟨0, a.o⟩, true)], (.normal, FAe p ⟨IntKind.wrap .i64 (a.r + 1), (eAc p a).o⟩)) := by kernel_rfl
theorem ae_x (p : PAe) (a : AAe) : T.path [false] (rdAe p a) = some ([(decide (a.r < p.k), false)], (.exit 2, FAe p a)) := by kernel_rfl
def z60 : List Int := List.replicate 60 0
def pAe (k : Nat) (mo : Int) (c : Nat) : PAe := ⟨(k : Int), k, mo, (c : Int), idsA k⟩
def okAe (p : PAe) (a : AAe) : Prop := ∃ (k c r : Nat) (mo : Int), p = pAe k mo c ∧ a = ⟨(r : Int), addC z60 (allL k mo (c : Int) r)⟩ ∧ 1 ≤ k ∧ k ≤ 60 ∧ 0 ≤ mo ∧ c ≤ 1000 ∧ r ≤ k
def goAe (p : PAe) (a : AAe) : Bool := decide (a.r < p.k)
def muAe (p : PAe) (a : AAe) : Nat := (p.k - a.r).toNat
theorem z60_get (l : List Int) (j : Nat) : 0 ≤ (addC z60 l).getD j 0 ∧ (addC z60 l).getD j 0 ≤ l.length := by
  by_cases h : j < 60
  · rw [addC_get l z60 j h]
    have : z60.getD j 0 = 0 := by
      unfold z60
      rw [List.getD_eq_getElem?_getD, List.getElem?_replicate, if_pos h]; rfl
    rw [this]
    have := List.countP_le_length (p := hitC j) (l := l)
    omega
  · have e : (addC z60 l).length = 60 := addC_len l z60
    rw [List.getD_eq_getElem?_getD, List.getElem?_eq_none (by omega)]
    show (0 : Int) ≤ 0 ∧ (0 : Int) ≤ _
    omega
theorem stepAe (p : PAe) (a : AAe) (h : okAe p a) (hg : goAe p a = true) : ∃ b, stepC okAe rdAe FAe muAe p a b := by
  obtain ⟨k, c, r, mo, rfl, rfl, h0, h1, m0, hc, hr⟩ := h
  have hg0 : decide ((r : Int) < (k : Int)) = true := hg
  have hi : (r : Int) < (k : Int) := of_decide_eq_true hg0
  have hl := idsA_len k
  have hL := len_bd h0 h1 m0
  have e1 : IntKind.wrap .i64 ((r : Int) + 1) = ((r + 1 : Nat) : Int) := (wrap64_in (by omega) (by omega)).trans (by omega)
  have e2 : IntKind.wrap .i64 ((c : Int) + (r : Int)) = (c : Int) + (r : Int) := wrap64_in (by omega) (by omega)
  have eg : glA (pAe k mo c) = idsA k := by
    show List.take k (List.drop 0 (idsA k)) = idsA k
    rw [List.drop_zero, List.take_of_length_le (by omega)]
  have el : lE (pAe k mo c) ⟨(r : Int), addC z60 (allL k mo (c : Int) r)⟩ = lRn k mo (c : Int) r := by
    unfold lE lRn
    rw [eg, hl]
    show whL _ (startF _ mo (IntKind.wrap .i64 ((c : Int) + (r : Int)))) (lenF _ mo).toNat = _
    rw [e2]
  have la := allL_len k mo (c : Int) r
  have lb : r * (lenF (k : Int) mo).toNat ≤ 60 * 16 := Nat.mul_le_mul (by omega) (by omega)
  have hok : okAc (pAc (pAe k mo c) ⟨(r : Int), addC z60 (allL k mo (c : Int) r)⟩) ⟨0, addC z60 (allL k mo (c : Int) r)⟩ := by
    have hll := lRn_len k mo (c : Int) r
    unfold pAc
    rw [el]
    refine ⟨rfl, by show (lRn k mo (c : Int) r).length ≤ 1000; omega, lRn_nodup h0 h1 m0 c r, lRn_el h0 h1 m0 c r, by show (0 : Int) ≤ (k : Int); omega, by show (k : Int) ≤ 60; omega, addC_len _ _, fun j => ?_, Int.le_refl _, by show (0 : Int) ≤ (((lRn k mo (c : Int) r).length : Nat) : Int); omega, rfl⟩
    have := z60_get (allL k mo (c : Int) r) j
    show 0 ≤ (addC z60 (allL k mo (c : Int) r)).getD j 0 ∧ (addC z60 (allL k mo (c : Int) r)).getD j 0 ≤ 1000000
    omega
  obtain ⟨k1, k2⟩ := endC stepAc hok
  have k1 : okAc (pAc (pAe k mo c) ⟨(r : Int), addC z60 (allL k mo (c : Int) r)⟩) (eAc (pAe k mo c) ⟨(r : Int), addC z60 (allL k mo (c : Int) r)⟩) := k1
  have k2 : ¬ (eAc (pAe k mo c) ⟨(r : Int), addC z60 (allL k mo (c : Int) r)⟩).i < (((lE (pAe k mo c) ⟨(r : Int), addC z60 (allL k mo (c : Int) r)⟩).length : Nat) : Int) := of_decide_eq_false k2
  have eo := k1.o
  have i1 : (eAc (pAe k mo c) ⟨(r : Int), addC z60 (allL k mo (c : Int) r)⟩).i ≤ (((lE (pAe k mo c) ⟨(r : Int), addC z60 (allL k mo (c : Int) r)⟩).length : Nat) : Int) := k1.i1
  have eo : (eAc (pAe k mo c) ⟨(r : Int), addC z60 (allL k mo (c : Int) r)⟩).o = addC (addC z60 (allL k mo (c : Int) r)) ((lE (pAe k mo c) ⟨(r : Int), addC z60 (allL k mo (c : Int) r)⟩).take (eAc (pAe k mo c) ⟨(r : Int), addC z60 (allL k mo (c : Int) r)⟩).i.toNat) := eo
  rw [List.take_of_length_le (by omega), el, ← addC_app] at eo
  have way := ae_n (pAe k mo c) ⟨(r : Int), addC z60 (allL k mo (c : Int) r)⟩
  rw [eo] at way
  simp only at way
  rw [e1] at way
  refine ⟨_, T.path_eval way ⟨hg, ?_, ?_, invC_is hok, trivial⟩, ⟨k, c, r + 1, mo, rfl, rfl, h0, h1, m0, hc, by omega⟩, ?_⟩
  · show decide (0 + k ≤ (idsA k).length) = true
    exact decide_eq_true (by omega)
  · rw [eg, hl]
    show (decide (k ≤ 1000) && decide (IntKind.wrap .i64 ((c : Int) + (r : Int)) ≤ 9223372036854775807)) = true
    rw [e2, decide_eq_true (show k ≤ 1000 by omega), decide_eq_true (show (c : Int) + (r : Int) ≤ 9223372036854775807 by omega)]; rfl
  · show ((k : Int) - ((r + 1 : Nat) : Int)).toNat < ((k : Int) - (r : Int)).toNat
    omega
theorem exAe (p : PAe) (a : AAe) (h : okAe p a) (hg : goAe p a = false) : (rdAe p a).eval = some (.exit 2, FAe p a) := T.path_eval (ae_x p a) ⟨hg, trivial⟩
noncomputable def famAe : LSpec := famC [7,8,10,11,12,13] SAe 3000 3000 113 decAe okAe goAe rdAe FAe muAe (.exit 2)
theorem lpAe_gen {c : Code} (hl : LoopsOkS P8 (byReg [(rgAc, famAc)]) c) (hrun : ∀ p a, T.anon (roundN P8 (byReg [(rgAc, famAc)]) c [7,8,10,11,12,13] SAe 3000 3000 (mkSt [7,8,10,11,12,13] (keysR SAe) 3000 113 (vsAe p a) (bsAe p a))) = rdAe p a) : LoopOk P8 c famAe := famC_ok (vs := vsAe) (bs := bsAe) P8_ok mixed hl.ok decAe_ok (by simp) (fun _ _ => rfl) hrun stepAe exAe
theorem lpAe_ok : LoopOk P8 lpAe famAe := lpAe_gen ac_in (fun _ _ => rfl)
end Go.Proofs.Ytebibmioiigplaa.Sam

/- Layer 10: SampleAll: the last look. -/
namespace Go.Proofs.Ytebibmioiigplaa.Sam
open Go.Eng Go.RowKit
set_option linter.unusedVariables false
set_option linter.unusedSimpArgs false
set_option maxRecDepth 100000
noncomputable def lpAf : Code := loopAt Try.prog 6 2
structure PAf where (k : Int) (o : List Int)
structure AAf where (i : Int)
abbrev SAf : List (Nat × Src) := [(2001, .same)]
def vsAf (p : PAf) (a : AAf) : List V := [iv p.k, .pr 2001 1 0 0, iv a.i]
def bsAf (p : PAf) (a : AAf) : List Blk := [.lst true 48 [.int .i64] p.o]
noncomputable def FAf (p : PAf) (a : AAf) : St := mkSt [7,10,17] (keysR SAf) 4000 113 (vsAf p a) (bsAf p a)
noncomputable def rdAf (p : PAf) (a : AAf) : T (Ex × St) := T.anon (roundN P8 noLoops lpAf [7,10,17] SAf 4000 4000 (mkSt [7,10,17] (keysR SAf) 4000 113 (vsAf p a) (bsAf p a)))
def decAf_v0 : V → Option ((Int))
  | .s (.int .i64 k) => some (k)
  | _ => none
theorem decAf_v0_ok (b : V) (x0 : (Int)) (h : decAf_v0 b = some x0) : b = iv (x0) := by
  unfold decAf_v0 at h
  split at h
  · cases h
    rfl
  · cases h
def decAf_v1 : V → Option (Unit)
  | .pr 2001 1 0 0 => some ()
  | _ => none
theorem decAf_v1_ok (b : V) (x1 : Unit) (h : decAf_v1 b = some x1) : b = .pr 2001 1 0 0 := by
  unfold decAf_v1 at h
  split at h
  · cases h
    rfl
  · cases h
def decAf_v2 : V → Option ((Int))
  | .s (.int .i64 i) => some (i)
  | _ => none
theorem decAf_v2_ok (b : V) (x2 : (Int)) (h : decAf_v2 b = some x2) : b = iv (x2) := by
  unfold decAf_v2 at h
  split at h
  · cases h
    rfl
  · cases h
def decAf_b0 : Blk → Option ((List Int))
  | .lst true tt0 [.int .i64] o => if tt0 = 48 then some (o) else none
  | _ => none
theorem decAf_b0_ok (b : Blk) (y0 : (List Int)) (h : decAf_b0 b = some y0) : b = .lst true 48 [.int .i64] (y0) := by
  unfold decAf_b0 at h
  split at h
  · obtain ⟨e0, h⟩ := ite_some0 h
    subst e0
    cases h
    rfl
  · cases h
def decAf : List V → List Blk → Option (PAf × AAf)
  | [v0, v1, v2], [b0] => (decAf_v0 v0).bind fun x0 => (decAf_v1 v1).bind fun x1 => (decAf_v2 v2).bind fun x2 => (decAf_b0 b0).bind fun y0 => some (⟨(x0), (y0)⟩, ⟨(x2)⟩)
  | _, _ => none
theorem decAf_ok (l : List V) (b : List Blk) (d : PAf × AAf) (h : decAf l b = some d) : l = vsAf d.1 d.2 ∧ b = bsAf d.1 d.2 := by
  unfold decAf at h
  split at h
  · obtain ⟨x0, hx0, h⟩ := Option.bind_eq_some_iff.1 h
    obtain ⟨x1, hx1, h⟩ := Option.bind_eq_some_iff.1 h
    obtain ⟨x2, hx2, h⟩ := Option.bind_eq_some_iff.1 h
    obtain ⟨y0, hy0, h⟩ := Option.bind_eq_some_iff.1 h
    have ex0 := decAf_v0_ok _ _ hx0
    have ex1 := decAf_v1_ok _ _ hx1
    have ex2 := decAf_v2_ok _ _ hx2
    have ey0 := decAf_b0_ok _ _ hy0
    cases h
    subst ex0 ex1 ex2 ey0
    exact ⟨rfl, rfl⟩
  · cases h
noncomputable def rgAf : Nat := (firstReg lpAf).getD 0
theorem rgAf_is : firstReg lpAf = some rgAf := by kernel_rfl
def yF (p : PAf) (a : AAf) : Int := p.o.getD a.i.toNat 0
theorem af_n (p : PAf) (a : AAf) : T.path [true, true, true, true, true, true, true, false] (rdAf p a) = some ([(decide (a.i < p.k), true), (ixO p.o a.i, true), (ldO p.o a.i, true), (bif decide (yF p a < 1) == false && true then ixO p.o a.i else true, true), (bif decide (yF p a < 1) == false && true then ldO p.o a.i else true, true), (bif decide (yF p a < 1) == false && true then ixO p.o 0 else true, true), (bif decide (yF p a < 1) == false && true then ldO p.o 0 else true, true), (bif decide (yF p a < 1) then true else yF p a != p.o.getD (Int.toNat 0) 0, false)], (.normal, FAf p ⟨IntKind.wrap .i64 (a.i + 1)⟩)) := by kernel_rfl
theorem af_x (p : PAf) (a : AAf) : T.path [false] (rdAf p a) = some ([(decide (a.i < p.k), false)], (.exit 8, FAf p a)) := by kernel_rfl
structure okAf (p : PAf) (a : AAf) : Prop where
  k : p.k ≤ 60
  ol : p.o.length = 60
  e : ∃ L : Int, 1 ≤ L ∧ ∀ j : Nat, (j : Int) < p.k → p.o.getD j 0 = L
  i0 : 0 ≤ a.i
def goAf (p : PAf) (a : AAf) : Bool := decide (a.i < p.k)
def muAf (p : PAf) (a : AAf) : Nat := (p.k - a.i).toNat
theorem stepAf (p : PAf) (a : AAf) (h : okAf p a) (hg : goAf p a = true) : ∃ b, stepC okAf rdAf FAf muAf p a b := by
  obtain ⟨hk, ol, ⟨L, hL, he⟩, i0⟩ := h
  have hi : a.i < p.k := of_decide_eq_true hg
  have e1 : IntKind.wrap .i64 (a.i + 1) = a.i + 1 := wrap64_in (by omega) (by omega)
  have y1 : yF p a = L := he _ (by omega)
  have y2 : p.o.getD (Int.toNat 0) 0 = L := he 0 (by omega)
  have ix : ∀ x : Int, 0 ≤ x → x < 60 → ixO p.o x = true ∧ ldO p.o x = true := by
    intro x x0 x1
    unfold ixO ldO
    rw [ol, decide_eq_true x0, decide_eq_true x1, decide_eq_true (show x.toNat < 60 by omega)]
    exact ⟨rfl, rfl⟩
  obtain ⟨a1, a2⟩ := ix a.i i0 (by omega)
  obtain ⟨b1, b2⟩ := ix 0 (by decide) (by decide)
  have way := af_n p a
  rw [e1, y1, y2, a1, a2, b1, b2, decide_eq_false (show ¬ L < 1 by omega), bne_self_eq_false] at way
  exact ⟨_, T.path_eval way ⟨hg, rfl, rfl, rfl, rfl, rfl, rfl, rfl, trivial⟩, ⟨hk, ol, ⟨L, hL, he⟩, by show 0 ≤ a.i + 1; omega⟩, by show (p.k - (a.i + 1)).toNat < (p.k - a.i).toNat; omega⟩
theorem exAf (p : PAf) (a : AAf) (h : okAf p a) (hg : goAf p a = false) : (rdAf p a).eval = some (.exit 8, FAf p a) := T.path_eval (af_x p a) ⟨hg, trivial⟩
noncomputable def famAf : LSpec := famC [7,10,17] SAf 4000 4000 113 decAf okAf goAf rdAf FAf muAf (.exit 8)
theorem lpAf_ok : LoopOk P8 lpAf famAf := famC_ok (vs := vsAf) (bs := bsAf) P8_ok mixed (noLoops_ok _) decAf_ok (by simp) (fun _ _ => rfl) (fun _ _ => rfl) stepAf exAf
noncomputable def salR (n m f : Int) : T V := execS P8 (byReg [(rgAa, famAa), (rgAe, famAe), (rgAf, famAf)]) 6 [.s (.int .i64 n), .s (.int .i64 m), .s (.int .i64 f)]
def kA (n : Int) : Int := IntKind.wrap .i64 (1 + IntKind.wrap .i64 (Int.tmod (IntKind.wrap .u64 n) 60))
def mA (m : Int) : Int := IntKind.wrap .i64 (Int.tmod (IntKind.wrap .u64 m) 20)
def fA (f : Int) : Int := IntKind.wrap .i64 (Int.tmod (IntKind.wrap .u64 f) 1000)
noncomputable def e1A (m f k : Int) : AAa := endW (nxtC okAa goAa rdAa FAa muAa ⟨m, f, k⟩) ⟨0, 0, []⟩
def p2A (k : Int) (m f : Int) (E : AAa) : PAe := ⟨k, E.j, mA m, fA f, E.W⟩
noncomputable def e2A (k m f : Int) (E : AAa) : AAe := endW (nxtC okAe goAe rdAe FAe muAe (p2A k m f E)) ⟨0, z60⟩
theorem sal_w (n m f k : Int) (E : AAa) (D : AAe) (hk : kA n = k) (hE : e1A m f k = E) (hD : e2A k m f E = D) : T.path [false, true, false, false, true, true] (T.anon (salR n m f)) = some ([(false, false), (invC okAa ⟨m, f, k⟩ ⟨0, 0, []⟩, true), (false, false), (false, false), (invC okAe (p2A k m f E) ⟨0, z60⟩, true), (invC okAf ⟨k, D.o⟩ ⟨0⟩, true)], .tt) := by subst hD; subst hE; subst hk; kernel_rfl
end Go.Proofs.Ytebibmioiigplaa.Sam

/- Layer 10: SampleAll. -/
namespace Go.Proofs.Ytebibmioiigplaa.Sam
open Go.Eng Go.RowKit
set_option linter.unusedVariables false
set_option linter.unusedSimpArgs false
set_option maxRecDepth 100000
theorem modS (x : Int) {m : Int} (h0 : 0 < m) (h1 : m ≤ 1000000) : 0 ≤ IntKind.wrap .i64 (Int.tmod (IntKind.wrap .u64 x) m) ∧ IntKind.wrap .i64 (Int.tmod (IntKind.wrap .u64 x) m) < m := by
  have hu : 0 ≤ IntKind.wrap .u64 x := by rw [IntKind.wrap_u64]; omega
  have h2 := Int.tmod_nonneg m hu
  have h3 := Int.tmod_lt_of_pos (IntKind.wrap .u64 x) h0
  rw [wrap64_in (by omega) (by omega)]
  exact ⟨h2, h3⟩
theorem sal_run (n m f : Int) : (salR n m f).yes := by
  unfold T.yes
  left
  rw [← T.eval_anon (t := salR n m f)]
  have hk0 := modS n (m := 60) (by decide) (by decide)
  have ek : kA n = 1 + IntKind.wrap .i64 (Int.tmod (IntKind.wrap .u64 n) 60) := wrap64_in (by omega) (by omega)
  have hk : 1 ≤ kA n ∧ kA n ≤ 60 := by omega
  have hm : 0 ≤ mA m ∧ mA m < 20 := modS m (by decide) (by decide)
  have hf : 0 ≤ fA f ∧ fA f < 1000 := modS f (by decide) (by decide)
  have way := sal_w n m f _ _ _ rfl rfl rfl
  revert way hk
  clear ek
  generalize kA n = k
  intro hk way
  have h1 : okAa ⟨m, f, k⟩ ⟨0, 0, []⟩ := ⟨0, by show 0 ≤ k; omega, by show k ≤ 60; omega, by show (0 : Int) ≤ k; omega, rfl⟩
  obtain ⟨a1, a2⟩ := endC stepAa h1
  have a1 : okAa ⟨m, f, k⟩ (e1A m f k) := a1
  have a2 : goAa ⟨m, f, k⟩ (e1A m f k) = false := a2
  obtain ⟨i, _, _, ik, ea⟩ := a1
  rw [ea] at a2
  have ik : (i : Int) ≤ k := ik
  have a2 : ¬ (i : Int) < k := of_decide_eq_false a2
  have ei : k = (i : Int) := by omega
  rw [ea] at way
  clear ea a2 ik
  subst ei
  obtain ⟨c, hc⟩ : ∃ c : Nat, fA f = (c : Int) := ⟨(fA f).toNat, by omega⟩
  have ep : p2A (i : Int) m f ⟨(i : Int), i, idsA i⟩ = pAe i (mA m) c := by unfold p2A pAe; rw [hc]
  have h2 : okAe (p2A (i : Int) m f ⟨(i : Int), i, idsA i⟩) ⟨0, z60⟩ := by
    rw [ep]
    exact ⟨i, c, 0, mA m, rfl, rfl, by omega, by omega, hm.1, by omega, by omega⟩
  obtain ⟨b1, b2⟩ := endC stepAe h2
  have b1 : okAe (p2A (i : Int) m f ⟨(i : Int), i, idsA i⟩) (e2A (i : Int) m f ⟨(i : Int), i, idsA i⟩) := b1
  have b2 : goAe (p2A (i : Int) m f ⟨(i : Int), i, idsA i⟩) (e2A (i : Int) m f ⟨(i : Int), i, idsA i⟩) = false := b2
  obtain ⟨k', c', r, mo', hp, hD, g0, g1, g2, g3, g4⟩ := b1
  rw [hD] at b2
  have q1 : (i : Int) = (k' : Int) := congrArg PAe.k hp
  have q1 : i = k' := by omega
  subst q1
  have b2 : ¬ (r : Int) < (i : Int) := of_decide_eq_false b2
  have er : r = i := by omega
  subst er
  rw [hD] at way
  have h3 : okAf ⟨(r : Int), addC z60 (allL r mo' (c' : Int) r)⟩ ⟨0⟩ := by
    refine ⟨by show (r : Int) ≤ 60; omega, addC_len _ _, ⟨((lenF (r : Int) mo').toNat : Nat), ?_, fun j hj => ?_⟩, Int.le_refl _⟩
    · have := len_bd g0 g1 g2
      omega
    · have hj : (j : Int) < (r : Int) := hj
      show (addC z60 (allL r mo' (c' : Int) r)).getD j 0 = _
      rw [addC_get _ z60 j (show j < 60 by omega), allL_full g0 g1 g2 c' (by omega)]
      have : z60.getD j 0 = 0 := by
        unfold z60
        rw [List.getD_eq_getElem?_getD, List.getElem?_replicate, if_pos (by omega)]; rfl
      rw [this]; omega
  exact T.path_eval way ⟨rfl, invC_is h1, rfl, rfl, invC_is h2, invC_is h3, trivial⟩
theorem sal_walk (a : Int) (_ : (Lit.int .i64 a).wf = true) (b : Int) (_ : (Lit.int .i64 b).wf = true) (c : Int) (_ : (Lit.int .i64 c).wf = true) (w : World) :
    Calls Try.prog 6 #[.int .i64 a, .int .i64 b, .int .i64 c] w fun e w' => e = .returned (.bool true) ∧ Below w.heap.size w w' :=
  Law.law_rows (args := [.s (.int .i64 a), .s (.int .i64 b), .s (.int .i64 c)]) (xs := [.int .i64 a, .int .i64 b, .int .i64 c]) (execS_loops (Λ := byReg [(rgAa, famAa), (rgAe, famAe), (rgAf, famAf)]) P8_ok mixed Try.func6 (by kernel_rfl) (by kernel_rfl) (three_lp (by kernel_rfl) rgAa_is rgAe_is rgAf_is ⟨⟨by kernel_rfl, by kernel_rfl⟩, by kernel_rfl⟩ lpAa_ok lpAe_ok lpAf_ok)) rfl (sal_run a b c) w ⟨rfl, rfl, rfl, trivial⟩
end Go.Proofs.Ytebibmioiigplaa.Sam

