import Derived.Test.YtndcealgackgiaaRows
import Derived.WalkKit
import Derived.ProofKit
import Derived.OpenShut
import Derived.Lib.Hide
import Derived.Lib.Mul64
import Derived.Laws.Bits64b
import Derived.Shelf.Bits.Mul64
import Derived.Deep.QuietTactic
import Derived.BigQuiet
import Derived.Handy
import Derived.Test.YtndcealgackgiaaGL
/- Layer 9: whole products of 64 bits by 64 bits. -/
namespace Go.Proofs.Ytndcealgackgiaa.Sta
open Go.ChangeShapes Go.WideShapes Go.ChangeAt Go.RowKit
set_option linter.unusedVariables false
set_option linter.unusedSimpArgs false
def TwoU (v c : Int) (w : World) (e : Ending) (w' : World) : Prop := e = .returned (.tuple #[.int .u64 v, .int .u64 c]) ∧ w = w'
set_option maxHeartbeats 1000000 in
theorem mul64_any (x y : Nat) (hx : x < 18446744073709551616) (hy : y < 18446744073709551616) (w : World) :
    Calls Try.prog 12 #[.int .u64 x, .int .u64 y] w (TwoU ((x * y / 18446744073709551616 : Nat) : Int) ((x * y % 18446744073709551616 : Nat) : Int) w) := by
  obtain ⟨bd, bt, bw, hhi⟩ := Lib.mul64_hi x y hx hy
  have ba := Lib.half_mul_le (a := x / 4294967296) (b := y / 4294967296) (by omega) (by omega)
  have bb := Lib.half_mul_le (a := x / 4294967296) (b := y % 4294967296) (by omega) (by omega)
  have bc := Lib.half_mul_le (a := x % 4294967296) (b := y / 4294967296) (by omega) (by omega)
  have ba' : x / 4294967296 * (y / 4294967296) < 18446744073709551616 := by omega
  have bb' : x / 4294967296 * (y % 4294967296) < 18446744073709551616 := by omega
  have bc' : x % 4294967296 * (y / 4294967296) < 18446744073709551616 := by omega
  have bh1 : x / 4294967296 * (y / 4294967296) + (x / 4294967296 * (y % 4294967296) + x % 4294967296 * (y % 4294967296) / 4294967296) / 4294967296 < 18446744073709551616 := by omega
  have bh : x / 4294967296 * (y / 4294967296) + (x / 4294967296 * (y % 4294967296) + x % 4294967296 * (y % 4294967296) / 4294967296) / 4294967296 + ((x / 4294967296 * (y % 4294967296) + x % 4294967296 * (y % 4294967296) / 4294967296) % 4294967296 + x % 4294967296 * (y / 4294967296)) / 4294967296 < 18446744073709551616 := by omega
  go_enter Try.func12, Try.ntmps12
  go_wp2
  simp only [Mul64.maskN x hx, Mul64.maskN y hy, Mul64.divN, Mul64.mulN, Mul64.addN, Mul64.wrapN _ bd, Mul64.wrapN _ bb', Mul64.wrapN _ bt, Mul64.maskN _ bt, Mul64.wrapN _ bc', Mul64.wrapN _ bw, Mul64.wrapN _ ba', Mul64.wrapN _ bh1, Mul64.wrapN _ bh, Mul64.wrapM (x * y)]
  rw [hhi]
  go_ret2
  exact ⟨rfl, rfl⟩
open Go.Eng
def uv (n : Int) : V := .s (.int .u64 n)
def inU (a : Int) : Bool := decide (0 ≤ a) && decide (a < 18446744073709551616)
def mul64S : Eng.Spec
  | [.s (.int .u64 x), .s (.int .u64 y)] => .ite none (inU x && inU y) (.ret (.tup [uv (x * y / 18446744073709551616), uv (x * y % 18446744073709551616)])) .fail
  | _ => .fail
theorem mul64_plain (args : List V) (v : V) (h : (mul64S args).eval = some v) : flatL args = true ∧ flat v = true := by
  unfold mul64S at h
  split at h
  · obtain ⟨_, h⟩ := guard_eval h
    simp only [T.eval, Option.some.injEq] at h
    subst h
    exact ⟨rfl, rfl⟩
  · cases h
theorem mul64_ok : SpecOk Try.prog 12 mul64S := by
  refine SpecOk.of_calls Try.func12 (by kernel_rfl) (by kernel_rfl) mul64_plain fun args v w hfl h hfv => ?_
  clear hfl hfv
  unfold mul64S at h
  split at h
  · rename_i x y
    obtain ⟨hc, h⟩ := guard_eval h
    simp only [inU, Bool.and_eq_true, decide_eq_true_eq] at hc
    simp only [T.eval, Option.some.injEq] at h
    subst h
    obtain ⟨a, rfl⟩ := Int.eq_ofNat_of_zero_le hc.1.1
    obtain ⟨b, rfl⟩ := Int.eq_ofNat_of_zero_le hc.2.1
    refine (mul64_any a b (by omega) (by omega) w).mono ?_
    rintro e w' ⟨rfl, rfl⟩
    refine ⟨?_, Below.refl _ _⟩
    simp [uv, V.den, denL, S.den]
  · cases h
end Go.Proofs.Ytndcealgackgiaa.Sta

/- Layer 9: what pods tell together, run by the machine; the few that told asks. -/
namespace Go.Proofs.Ytndcealgackgiaa.Sta
open Go.Eng Go.RowKit Mil
set_option linter.unusedVariables false
set_option linter.unusedSimpArgs false
noncomputable def mayS : Eng.Spec := execS P0 noLoops 5
theorem may_ok : SpecOk Try.prog 5 mayS := execS_plain P0_ok mixed Try.func5 (by kernel_rfl) (by kernel_rfl)
noncomputable def P1 : Cfg := ⟨Try.prog, lookG [(5, .val mayS), (11, .val addS), (12, .val mul64S)], [], 0⟩
theorem P1_ok : P1.Ok := Cfg.ok ⟨may_ok, add_ok, mul64_ok, trivial⟩ trivial
noncomputable def addD : Eng.Spec := execS P1 (rounds P1 4 1) 9
theorem addD_ok : SpecOk Try.prog 9 addD := execS_rounds P1_ok mixed 4 1 Try.func9 (by kernel_rfl) (by kernel_rfl)
noncomputable def P2 : Cfg := ⟨Try.prog, lookG [(9, .val addD)], [], 0⟩
theorem P2_ok : P2.Ok := Cfg.ok ⟨addD_ok, trivial⟩ trivial
noncomputable def heardD : Eng.Spec := execS P2 noLoops 7
theorem heardD_ok : SpecOk Try.prog 7 heardD := execS_plain P2_ok mixed Try.func7 (by kernel_rfl) (by kernel_rfl)
noncomputable def timesS : Eng.Spec := execS P1 noLoops 10
theorem times_ok : SpecOk Try.prog 10 timesS := execS_plain P1_ok mixed Try.func10 (by kernel_rfl) (by kernel_rfl)
noncomputable def P3 : Cfg := ⟨Try.prog, lookG [(7, .val heardD), (10, .val timesS)], [], 0⟩
theorem P3_ok : P3.Ok := Cfg.ok ⟨heardD_ok, times_ok, trivial⟩ trivial
noncomputable def meanD : Eng.Spec := execS P3 noLoops 4
theorem meanD_ok : SpecOk Try.prog 4 meanD := execS_plain P3_ok mixed Try.func4 (by kernel_rfl) (by kernel_rfl)
noncomputable def spreadD : Eng.Spec := execS P3 noLoops 8
theorem spreadD_ok : SpecOk Try.prog 8 spreadD := execS_plain P3_ok mixed Try.func8 (by kernel_rfl) (by kernel_rfl)
noncomputable def P4 : Cfg := ⟨Try.prog, lookG [(5, .val mayS), (4, .val meanD), (8, .val spreadD)], [], 0⟩
theorem P4_ok : P4.Ok := Cfg.ok ⟨may_ok, meanD_ok, spreadD_ok, trivial⟩ trivial
theorem told_run : (execS P4 noLoops 6 []).eval = some (.s (.bool true)) := by kernel_rfl
def yesD : Eng.Spec := fun args => match args with
  | [] => .ret .tt
  | _ => .fail
theorem told_ok : SpecOk Try.prog 6 yesD :=
  (execS_plain P4_ok mixed Try.func6 (by kernel_rfl) (by kernel_rfl)).of_den fun args v _ h => by
    unfold yesD at h
    split at h
    · simp only [T.eval, Option.some.injEq] at h
      subst h
      exact ⟨_, told_run, ⟨rfl, rfl⟩, rfl⟩
    · cases h
end Go.Proofs.Ytndcealgackgiaa.Sta

/- Layer 9: the states of the loops over what pods tell. -/
namespace Go.Proofs.Ytndcealgackgiaa.Sta
open Go.Eng Go.RowKit Mil
set_option linter.unusedVariables false
set_option linter.unusedSimpArgs false
abbrev St3 := Int × Int × Int
def rowsB (own : Bool) (l : List St3) : Blk := .lst own 23 [.int .i64, .int .i64, .int .i64] l
structure Tot where
  s : Int
  n : Int
  c : Bool
deriving DecidableEq
noncomputable def ad1 : Code := loopAt Try.prog 9 0
structure PA1 where (age : Int) (l : List St3) (k : Nat) (n : Int)
structure AA1 where (s c : Int) (u : Bool) (i : Int)
def vsA (p : PA1) (a : AA1) : List V := [iv p.age, .ptr 1 0, .sub 0 3 0 p.k, iv p.n, iv a.i]
def bsA (p : PA1) (a : AA1) : List Blk := [rowsB false p.l, .cells 33 [iv a.s, iv a.c, bv a.u]]
abbrev SA : List (Nat × Src) := [(0, .same), (1, .same)]
def mayR (x : St3) : Bool := decide (0 ≤ x.1) && decide (0 ≤ x.2.1) && decide (0 ≤ x.2.2)
def mayS' : Eng.Spec
  | [.agg [.s (.int .i64 a), .s (.int .i64 b), .s (.int .i64 c)]] => .ret (bv (mayR (a, b, c)))
  | _ => .fail
noncomputable def PL : Cfg := ⟨Try.prog, lookG [(5, .val mayS'), (11, .val addS), (12, .val mul64S)], [], 0⟩
end Go.Proofs.Ytndcealgackgiaa.Sta

/- Trees as the machine prints them. -/
namespace Go.Proofs.Ytndcealgackgiaa.Sta
open Go.Eng Go.RowKit Mil
set_option linter.unusedVariables false
set_option maxRecDepth 100000
noncomputable def rtA (age : Int) (l : List St3) (k : Nat) (n s c : Int) (u : Bool) (i : Int) : T (Ex × St) := T.ite none (decide (i < n))
  (T.ite none (decide (0 ≤ i) && (decide (i < (↑k : Int)) && decide (0 + Int.toNat i < List.length l)))
    (T.ite none (decide (0 + Int.toNat i < List.length l))
      (T.ite none (bif !mayR ((g3 l i).1, (g3 l i).2.1, (g3 l i).2.2) then true else decide ((g3 l i).2.1 < age))
        (T.ret (Ex.normal, mkSt [1,5,10,11,12] (keysR SA) 1000 54 (vsA ⟨age, l, k, n⟩ ⟨s, c, u, IntKind.wrap IntKind.i64 (i + 1)⟩) (bsA ⟨age, l, k, n⟩ ⟨s, c, u, IntKind.wrap IntKind.i64 (i + 1)⟩)))
        (T.ite none (inR s && inR (g3 l i).2.2)
          (T.ret (Ex.normal, mkSt [1,5,10,11,12] (keysR SA) 1000 54 (vsA ⟨age, l, k, n⟩ ⟨cutV (s + (g3 l i).2.2), IntKind.wrap IntKind.i64 (c + 1), (bif u then true else cutE (s + (g3 l i).2.2) == 2), IntKind.wrap IntKind.i64 (i + 1)⟩) (bsA ⟨age, l, k, n⟩ ⟨cutV (s + (g3 l i).2.2), IntKind.wrap IntKind.i64 (c + 1), (bif u then true else cutE (s + (g3 l i).2.2) == 2), IntKind.wrap IntKind.i64 (i + 1)⟩)))
          T.fail))
      T.fail)
    T.fail)
  (T.ret (Ex.exit 0, mkSt [1,5,10,11,12] (keysR SA) 1000 54 (vsA ⟨age, l, k, n⟩ ⟨s, c, u, i⟩) (bsA ⟨age, l, k, n⟩ ⟨s, c, u, i⟩)))
end Go.Proofs.Ytndcealgackgiaa.Sta

/- Layer 9: what stats tell together, over any list. -/
namespace Go.Proofs.Ytndcealgackgiaa.Sta
open Go.Eng Go.RowKit Mil
set_option linter.unusedVariables false
set_option linter.unusedSimpArgs false
theorem mayS'_ok : SpecOk Try.prog 5 mayS' := by
  refine may_ok.of_den fun args v hfl h => ?_
  clear hfl
  unfold mayS' at h
  split at h
  · rename_i a b c
    obtain rfl := Option.some.inj h
    refine ⟨bv (mayR (a, b, c)), ?_, ⟨rfl, rfl⟩, rfl⟩
    have e : T.anon (mayS [.agg [iv a, iv b, iv c]]) = T.ret (V.s (S.bool (bif bif decide (0 ≤ a) then decide (0 ≤ b) else false then decide (0 ≤ c) else false))) := by kernel_rfl
    rw [← T.eval_anon, show mayS [.agg [V.s (.int .i64 a), V.s (.int .i64 b), V.s (.int .i64 c)]] = mayS [.agg [iv a, iv b, iv c]] from rfl, e]
    simp only [cond_and, mayR]
    rfl
  · cases h
theorem PL_ok : PL.Ok := Cfg.ok ⟨mayS'_ok, add_ok, mul64_ok, trivial⟩ trivial
def decA : List V → List Blk → Option (PA1 × AA1)
  | [.s (.int .i64 age), .ptr 1 0, .sub 0 3 0 k, .s (.int .i64 n), .s (.int .i64 i)], [.lst false t [.int .i64, .int .i64, .int .i64] l, .cells t2 [.s (.int .i64 s), .s (.int .i64 c), .s (.bool u)]] =>
    if t = 23 ∧ t2 = 33 then some (⟨age, l, k, n⟩, ⟨s, c, u, i⟩) else none
  | _, _ => none
theorem decA_ok (l : List V) (b : List Blk) (d : PA1 × AA1) (h : decA l b = some d) : l = vsA d.1 d.2 ∧ b = bsA d.1 d.2 := by
  unfold decA at h
  split at h
  · split at h
    · rename_i ht
      obtain ⟨rfl, rfl⟩ := ht
      cases h
      exact ⟨rfl, rfl⟩
    · cases h
  · cases h
def okL3 (l : List St3) : Bool := decide (l.length ≤ 1000000) && l.all fun x => inR x.2.2
def invA (p : PA1) (a : AA1) : Bool := decide (p.k = p.l.length) && decide (p.n = (p.k : Int)) && decide (0 ≤ a.i) && decide (a.i ≤ p.n) && decide (0 ≤ a.c) && decide (a.c ≤ a.i) && inR a.s && okL3 p.l
def mayC (age : Int) (x : St3) : Bool := mayR x && decide (age ≤ x.2.1)
def nxtA (p : PA1) (a : AA1) : Option AA1 :=
  if a.i < p.n then some (if mayC p.age (g3 p.l a.i) = true then ⟨cutV (a.s + (g3 p.l a.i).2.2), a.c + 1, a.u || (cutE (a.s + (g3 p.l a.i).2.2) == 2), a.i + 1⟩ else ⟨a.s, a.c, a.u, a.i + 1⟩) else none
noncomputable def outA (p : PA1) (a : AA1) : T (Ex × St) := .ret (.exit 0, mkSt [1,5,10,11,12] [0,1] 1000 54 (vsA p a) (bsA p a))
theorem g3_lt {l : List St3} {i : Int} (h0 : 0 ≤ i) (h : i < l.length) : ∃ x, l[i.toNat]? = some x ∧ g3 l i = x := by
  have hl : i.toNat < l.length := by omega
  refine ⟨l[i.toNat], by simp [hl], ?_⟩
  unfold g3
  rw [Nat.zero_add, List.getD_eq_getElem?_getD, List.getElem?_eq_getElem hl]; rfl
theorem okL3_get {l : List St3} (h : okL3 l = true) {i : Int} (h0 : 0 ≤ i) (hi : i < l.length) : inR (g3 l i).2.2 = true := by
  obtain ⟨x, h1, h2⟩ := g3_lt h0 hi
  rw [h2]
  unfold okL3 at h
  simp only [Bool.and_eq_true, List.all_eq_true] at h
  exact h.2 x (List.mem_of_getElem? h1)
theorem cutV_inR (n : Int) : inR (cutV n) = true := inR_iff.2 (cutV_range n)
theorem stA (p : PA1) (a b : AA1) (h : invA p a = true) (e : nxtA p a = some b) : invA p b = true ∧ (p.n - b.i).toNat < (p.n - a.i).toNat := by
  obtain ⟨s, c, u, i⟩ := a
  unfold nxtA at e
  split at e
  · rename_i hc
    obtain rfl := Option.some.inj e
    simp only [invA, Bool.and_eq_true, decide_eq_true_eq] at h hc ⊢
    obtain ⟨⟨⟨⟨⟨⟨⟨h1, h2⟩, h3⟩, h4⟩, h5⟩, h6⟩, h7⟩, h8⟩ := h
    split
    · exact ⟨⟨⟨⟨⟨⟨⟨⟨h1, h2⟩, by show 0 ≤ i + 1; omega⟩, by show i + 1 ≤ p.n; omega⟩, by show 0 ≤ c + 1; omega⟩, by show c + 1 ≤ i + 1; omega⟩, cutV_inR _⟩, h8⟩, by show (p.n - (i + 1)).toNat < (p.n - i).toNat; omega⟩
    · exact ⟨⟨⟨⟨⟨⟨⟨⟨h1, h2⟩, by show 0 ≤ i + 1; omega⟩, by show i + 1 ≤ p.n; omega⟩, h5⟩, by show c ≤ i + 1; omega⟩, h7⟩, h8⟩, by show (p.n - (i + 1)).toNat < (p.n - i).toNat; omega⟩
  · cases e
theorem lpA_ok : LoopOk PL ad1 (famWN [1,5,10,11,12] SA 1000 1000 54 decA invA nxtA outA) := by
  refine famWN_ok (vs := vsA) (bs := bsA) PL_ok mixed (noLoops_ok _) decA_ok (fun p a => (p.n - a.i).toNat) stA fun ⟨age, l, k, n⟩ ⟨s, c, u, i⟩ h => ?_
  have e : T.anon (roundN PL noLoops ad1 [1,5,10,11,12] SA 1000 1000 (mkSt [1,5,10,11,12] (keysR SA) 1000 54 (vsA ⟨age, l, k, n⟩ ⟨s, c, u, i⟩) (bsA ⟨age, l, k, n⟩ ⟨s, c, u, i⟩))) = rtA age l k n s c u i := by kernel_rfl
  rw [← T.eval_anon (t := roundN _ _ _ _ _ _ _ _), e]
  clear e
  simp only [invA, Bool.and_eq_true, decide_eq_true_eq] at h
  obtain ⟨⟨⟨⟨⟨⟨⟨rfl, rfl⟩, h3⟩, h4⟩, h5⟩, h6⟩, h7⟩, h8⟩ := h
  have hlen : l.length ≤ 1000000 := by unfold okL3 at h8; simp only [Bool.and_eq_true, decide_eq_true_eq] at h8; exact h8.1
  simp only [nxtA, outA]
  unfold rtA
  by_cases hc : i < l.length
  · rw [if_pos hc]
    have h9 := okL3_get h8 h3 hc
    generalize g3 l i = x at *
    refine ⟨fun b hb => ?_, fun h => by cases h⟩
    obtain rfl := Option.some.inj hb
    rw [wrap64_in (n := i + 1) (by omega) (by omega), wrap64_in (n := c + 1) (by omega) (by omega)]
    refine tev_then (by (first | with_reducible rfl | assumption | (simp only [cond_and, cond_or, Bool.and_eq_true, Bool.or_eq_true, Bool.and_eq_false_iff, Bool.or_eq_false_iff, decide_eq_true_eq, decide_eq_false_iff_not, beq_iff_eq, bne_iff_ne, beq_eq_false_iff_ne, bne_eq_false_iff_eq, Bool.not_eq_true', Bool.not_eq_false', ne_eq, Bool.true_and, Bool.and_true, Bool.false_and, Bool.and_false, Bool.true_or, Bool.or_true, Bool.not_true, Bool.not_false, Bool.cond_true, Bool.cond_false, true_and, and_true]; first | done | omega))) (tev_then (by (first | with_reducible rfl | assumption | (simp only [cond_and, cond_or, Bool.and_eq_true, Bool.or_eq_true, Bool.and_eq_false_iff, Bool.or_eq_false_iff, decide_eq_true_eq, decide_eq_false_iff_not, beq_iff_eq, bne_iff_ne, beq_eq_false_iff_ne, bne_eq_false_iff_eq, Bool.not_eq_true', Bool.not_eq_false', ne_eq, Bool.true_and, Bool.and_true, Bool.false_and, Bool.and_false, Bool.true_or, Bool.or_true, Bool.not_true, Bool.not_false, Bool.cond_true, Bool.cond_false, true_and, and_true]; first | done | omega))) (tev_then (by (first | with_reducible rfl | assumption | (simp only [cond_and, cond_or, Bool.and_eq_true, Bool.or_eq_true, Bool.and_eq_false_iff, Bool.or_eq_false_iff, decide_eq_true_eq, decide_eq_false_iff_not, beq_iff_eq, bne_iff_ne, beq_eq_false_iff_ne, bne_eq_false_iff_eq, Bool.not_eq_true', Bool.not_eq_false', ne_eq, Bool.true_and, Bool.and_true, Bool.false_and, Bool.and_false, Bool.true_or, Bool.or_true, Bool.not_true, Bool.not_false, Bool.cond_true, Bool.cond_false, true_and, and_true]; first | done | omega))) ?_))
    by_cases hm : mayC age x = true
    · rw [if_pos hm]
      unfold mayC at hm
      simp only [Bool.and_eq_true, decide_eq_true_eq] at hm
      refine tev_else (by rw [show (x.1, x.2.1, x.2.2) = x from rfl, hm.1]; simp; omega) (tev_then (by rw [h7, h9]; rfl) ?_)
      cases u <;> rfl
    · rw [if_neg hm]
      refine tev_then ?_ rfl
      rw [show (x.1, x.2.1, x.2.2) = x from rfl]
      unfold mayC at hm
      simp only [Bool.and_eq_true, decide_eq_true_eq, not_and] at hm
      by_cases hr : mayR x = true
      · have := hm hr
        rw [hr]; simp; omega
      · rw [show mayR x = false by simpa using hr]; rfl
  · rw [if_neg hc]
    refine ⟨fun b hb => (by cases hb), fun _ r hr => ?_⟩
    obtain rfl := Option.some.inj hr
    exact ⟨by simp, tev_else (by (first | with_reducible rfl | assumption | (simp only [cond_and, cond_or, Bool.and_eq_true, Bool.or_eq_true, Bool.and_eq_false_iff, Bool.or_eq_false_iff, decide_eq_true_eq, decide_eq_false_iff_not, beq_iff_eq, bne_iff_ne, beq_eq_false_iff_ne, bne_eq_false_iff_eq, Bool.not_eq_true', Bool.not_eq_false', ne_eq, Bool.true_and, Bool.and_true, Bool.false_and, Bool.and_false, Bool.true_or, Bool.or_true, Bool.not_true, Bool.not_false, Bool.cond_true, Bool.cond_false, true_and, and_true]; first | done | omega))) rfl⟩
noncomputable def alist : List (Nat × LSpec) := [(3, famWN [1,5,10,11,12] SA 1000 1000 54 decA invA nxtA outA)]
theorem afind : findL alist 3 = some (famWN [1,5,10,11,12] SA 1000 1000 54 decA invA nxtA outA) := rfl
theorem areg : firstReg ad1 = some 3 := by kernel_rfl
theorem alps_ok : ∀ a ∈ loopsIn (codeOf Try.prog 9), ∀ sp, byReg alist a = some sp → LoopOk PL a sp := by
  have e : loopsIn (codeOf Try.prog 9) = [ad1] := by kernel_rfl
  rw [e]
  intro a ha
  rcases List.mem_cons.1 ha with h | ha
  · rw [h]; exact byReg_mem areg afind lpA_ok
  · cases ha
/-! ### what they come to -/
def stepT (age : Int) (t : Tot) (x : St3) : Tot := if mayC age x = true then ⟨cutV (t.s + x.2.2), t.n + 1, t.c || (cutE (t.s + x.2.2) == 2)⟩ else t
def totL (age : Int) (l : List St3) : Tot := l.foldl (stepT age) ⟨0, 0, false⟩
theorem totL_snoc (age : Int) (l : List St3) (x : St3) : totL age (l ++ [x]) = stepT age (totL age l) x := by unfold totL; rw [List.foldl_append]; rfl
theorem take_snoc {l : List St3} {i : Int} (h0 : 0 ≤ i) (h : i < l.length) : l.take (i + 1).toNat = l.take i.toNat ++ [g3 l i] := by
  obtain ⟨x, h1, h2⟩ := g3_lt h0 h
  rw [h2, show (i + 1).toNat = i.toNat + 1 by omega, List.take_add_one, h1]; rfl
theorem endA {p : PA1} (h : invA p ⟨0, 0, false, 0⟩ = true) : endW (nxtA p) ⟨0, 0, false, 0⟩ = ⟨(totL p.age p.l).s, (totL p.age p.l).n, (totL p.age p.l).c, p.n⟩ := by
  obtain ⟨h1, h2, h3⟩ := endW_says (stA p) h
  have h4 := h3 (fun a => (⟨a.s, a.c, a.u⟩ : Tot) = totL p.age (p.l.take a.i.toNat)) rfl fun a b hi hq e => by
    obtain ⟨s, c, u, i⟩ := a
    simp only [invA, Bool.and_eq_true, decide_eq_true_eq] at hi
    unfold nxtA at e
    split at e
    · rename_i hc
      obtain rfl := Option.some.inj e
      dsimp only at hc hq ⊢
      have : i < p.l.length := by omega
      have ht := take_snoc (l := p.l) (i := i) hi.1.1.1.1.1.2 this
      split
      · rename_i hm
        dsimp only
        rw [ht, totL_snoc, ← hq]; unfold stepT; rw [if_pos hm]
      · rename_i hm
        dsimp only
        rw [ht, totL_snoc, ← hq]; unfold stepT; rw [if_neg hm]
    · cases e
  generalize endW (nxtA p) ⟨0, 0, false, 0⟩ = E at *
  obtain ⟨s, c, u, i⟩ := E
  simp only [invA, Bool.and_eq_true, decide_eq_true_eq] at h1
  unfold nxtA at h2
  split at h2
  · cases h2
  · rename_i hc
    dsimp only at hc h4
    have hi : i = p.n := by omega
    subst hi
    have : p.l.take p.n.toNat = p.l := List.take_of_length_le (by omega)
    rw [this] at h4
    rw [← h4]
def nothingV : V := .iface 41 (.agg [])
def totalV (t : Tot) : V := .iface 33 (.agg [iv t.s, iv t.n, bv t.c])
def addC : Eng.Spec
  | [.orow t [.int .i64, .int .i64, .int .i64] l, .s (.int .i64 age)] => if t = 23 then .ite none (okL3 l) (.ite none ((totL age l).n == 0) (.ret nothingV) (.ret (totalV (totL age l)))) .fail else .fail
  | _ => .fail
theorem add_run (l : List St3) (age : Int) : T.anon (execS PL (byReg alist) 9 [.orow 23 [.int .i64, .int .i64, .int .i64] l, iv age]) =
    T.ite none (invA ⟨age, l, l.length, l.length⟩ ⟨0, 0, false, 0⟩) (T.ite none ((endW (nxtA ⟨age, l, l.length, l.length⟩) ⟨0, 0, false, 0⟩).c == 0) (.ret nothingV)
      (.ret (totalV ⟨(endW (nxtA ⟨age, l, l.length, l.length⟩) ⟨0, 0, false, 0⟩).s, (endW (nxtA ⟨age, l, l.length, l.length⟩) ⟨0, 0, false, 0⟩).c, (endW (nxtA ⟨age, l, l.length, l.length⟩) ⟨0, 0, false, 0⟩).u⟩))) .fail := by kernel_rfl
theorem add_eval (l : List St3) (age : Int) (v : V) (h0 : (T.ite none (okL3 l) (.ite none ((totL age l).n == 0) (.ret nothingV) (.ret (totalV (totL age l)))) .fail).eval = some v) :
    (execS PL (byReg alist) 9 [.orow 23 [.int .i64, .int .i64, .int .i64] l, iv age]).eval = some v ∧ flat v = true := by
  obtain ⟨hk, h⟩ := guard_eval h0
  have hi : invA ⟨age, l, l.length, l.length⟩ ⟨0, 0, false, 0⟩ = true := by
    simp only [invA, Bool.and_eq_true, decide_eq_true_eq]
    exact ⟨⟨⟨⟨⟨⟨⟨trivial, trivial⟩, by omega⟩, by omega⟩, by omega⟩, by omega⟩, rfl⟩, hk⟩
  refine ⟨?_, ?_⟩
  · rw [← T.eval_anon, add_run, endA hi]
    exact tev_then hi h
  · cases q : (totL age l).n == 0 <;> rw [q] at h <;> (obtain rfl := Option.some.inj h; rfl)
theorem addC_ok : SpecOk Try.prog 9 addC := by
  refine (execS_loops (Λ := byReg alist) PL_ok mixed Try.func9 (by kernel_rfl) (by kernel_rfl) alps_ok).of_den fun args v hfl h => ?_
  clear hfl
  unfold addC at h
  split at h
  · rename_i t l age
    split at h
    · rename_i ht
      subst ht
      obtain ⟨h1, h2⟩ := add_eval l age v h
      exact ⟨v, h1, ⟨h2, h2⟩, rfl⟩
    · cases h
  · cases h
end Go.Proofs.Ytndcealgackgiaa.Sta

/- Layer 9: heard, Mean, Spread over any list. -/
namespace Go.Proofs.Ytndcealgackgiaa.Sta
open Go.Eng Go.RowKit Mil
set_option linter.unusedVariables false
set_option linter.unusedSimpArgs false
noncomputable def Q1 : Cfg := ⟨Try.prog, lookG [(9, .val addC)], [], 0⟩
theorem Q1_ok : Q1.Ok := Cfg.ok ⟨addC_ok, trivial⟩ trivial
def ors (l : List St3) : V := .orow 23 [.int .i64, .int .i64, .int .i64] l
noncomputable def heardE : Eng.Spec := execS Q1 noLoops 7
theorem heardE_ok : SpecOk Try.prog 7 heardE := execS_plain Q1_ok mixed Try.func7 (by kernel_rfl) (by kernel_rfl)
noncomputable def timesE : Eng.Spec := execS PL noLoops 10
theorem timesE_ok : SpecOk Try.prog 10 timesE := execS_plain PL_ok mixed Try.func10 (by kernel_rfl) (by kernel_rfl)
/-- what is heard: of those that are old enough, or of all -/
def heardL (y : Int) (l : List St3) : Tot := if (totL y l).n = 0 then totL 0 l else totL y l
theorem stepT_ok (y : Int) (t : Tot) (x : St3) (h : 0 ≤ t.s ∧ t.s ≤ 9223372036854775807 ∧ 0 ≤ t.n) : 0 ≤ (stepT y t x).s ∧ (stepT y t x).s ≤ 9223372036854775807 ∧ 0 ≤ (stepT y t x).n ∧ (stepT y t x).n ≤ t.n + 1 := by
  unfold stepT
  split
  · rename_i hm
    unfold mayC mayR at hm
    simp only [Bool.and_eq_true, decide_eq_true_eq] at hm
    have := cutV_range (t.s + x.2.2)
    refine ⟨?_, this.2, by dsimp only; omega, by dsimp only; omega⟩
    dsimp only
    unfold cutV
    split
    · omega
    · split <;> omega
  · omega
theorem foldT_ok (y : Int) : ∀ (l : List St3) (t : Tot), (0 ≤ t.s ∧ t.s ≤ 9223372036854775807 ∧ 0 ≤ t.n) → 0 ≤ (l.foldl (stepT y) t).s ∧ (l.foldl (stepT y) t).s ≤ 9223372036854775807 ∧ 0 ≤ (l.foldl (stepT y) t).n ∧ (l.foldl (stepT y) t).n ≤ t.n + l.length
  | [], t, h => ⟨h.1, h.2.1, h.2.2, by simp⟩
  | x :: r, t, h => by
    have h1 := stepT_ok y t x h
    have h2 := foldT_ok y r (stepT y t x) ⟨h1.1, h1.2.1, h1.2.2.1⟩
    simp only [List.foldl_cons, List.length_cons]
    exact ⟨h2.1, h2.2.1, h2.2.2.1, by omega⟩
theorem totL_ok (y : Int) (l : List St3) : 0 ≤ (totL y l).s ∧ (totL y l).s ≤ 9223372036854775807 ∧ 0 ≤ (totL y l).n ∧ (totL y l).n ≤ l.length := by
  have := foldT_ok y l ⟨0, 0, false⟩ ⟨by decide, by decide, by decide⟩
  unfold totL
  simpa using this
theorem heardL_ok (y : Int) (l : List St3) : 0 ≤ (heardL y l).s ∧ (heardL y l).s ≤ 9223372036854775807 ∧ 0 ≤ (heardL y l).n ∧ (heardL y l).n ≤ l.length := by
  unfold heardL; split
  · exact totL_ok 0 l
  · exact totL_ok y l
def asLI {α : Type} (args : List V) (f : List St3 → Int → T α) : T α :=
  match args with
  | [.orow t [.int .i64, .int .i64, .int .i64] l, .s (.int .i64 y)] => if t = 23 then f l y else .fail
  | _ => .fail
theorem asLI_some {α : Type} {args : List V} {f : List St3 → Int → T α} {r : α} (e : (asLI args f).eval = some r) : ∃ l y, args = [ors l, iv y] ∧ (f l y).eval = some r := by
  unfold asLI at e
  split at e
  · split at e
    · rename_i ht; subst ht; exact ⟨_, _, rfl, e⟩
    · cases e
  · cases e
def asLII {α : Type} (args : List V) (f : List St3 → Int → Int → T α) : T α :=
  match args with
  | [.orow t [.int .i64, .int .i64, .int .i64] l, .s (.int .i64 y), .s (.int .i64 r)] => if t = 23 then f l y r else .fail
  | _ => .fail
theorem asLII_some {α : Type} {args : List V} {f : List St3 → Int → Int → T α} {r : α} (e : (asLII args f).eval = some r) : ∃ l y z, args = [ors l, iv y, iv z] ∧ (f l y z).eval = some r := by
  unfold asLII at e
  split at e
  · split at e
    · rename_i ht; subst ht; exact ⟨_, _, _, rfl, e⟩
    · cases e
  · cases e
def heardC : Eng.Spec := fun args => asLI args fun l y => .ite none (okL3 l) (.ite none ((heardL y l).n == 0) (.ret nothingV) (.ret (totalV (heardL y l)))) .fail
theorem heard_run (l : List St3) (y : Int) : T.anon (heardE [ors l, iv y]) = T.ite none (decide (0 + l.length ≤ l.length)) (T.ite none (okL3 ((l.drop 0).take l.length)) (T.ite none ((totL y ((l.drop 0).take l.length)).n == 0)
    (T.ite none (decide (0 + l.length ≤ l.length)) (T.ite none (okL3 ((l.drop 0).take l.length)) (T.ite none ((totL 0 ((l.drop 0).take l.length)).n == 0) (.ret nothingV) (.ret (totalV (totL 0 ((l.drop 0).take l.length))))) .fail) .fail)
    (.ret (totalV (totL y ((l.drop 0).take l.length))))) .fail) .fail := by kernel_rfl
theorem whole3 (l : List St3) : (l.drop 0).take l.length = l := by rw [List.drop_zero, List.take_length]
theorem flat_two {c : Bool} {v1 v2 v : V} (h1 : flat v1 = true) (h2 : flat v2 = true) (h : (T.ite none c (.ret v1) (.ret v2)).eval = some v) : flat v = true := by
  cases c <;> (obtain rfl := Option.some.inj h) <;> assumption
theorem heardC_ok : SpecOk Try.prog 7 heardC := by
  refine heardE_ok.of_den fun args v hfl h => ?_
  clear hfl
  obtain ⟨l, y, rfl, h1⟩ := asLI_some (show (asLI args _).eval = some v from h)
  clear h
  obtain ⟨hk, h⟩ := guard_eval h1
  refine ⟨v, ?_, ⟨flat_two rfl rfl h, flat_two rfl rfl h⟩, rfl⟩
  rw [← T.eval_anon, heard_run, whole3]
  refine tev_then (by simp) (tev_then hk ?_)
  unfold heardL at h
  by_cases q : (totL y l).n = 0
  · rw [if_pos q] at h
    exact tev_then (by simpa using q) (tev_then (by simp) (tev_then hk h))
  · rw [if_neg q] at h
    have q2 : ((totL y l).n == 0) = false := by simpa using q
    rw [q2] at h
    exact tev_else q2 h
def timesC : Eng.Spec
  | [.s (.int .i64 s), .s (.int .i64 r)] => .ite none (decide (0 ≤ s) && decide (s ≤ 9223372036854775807) && (decide (0 ≤ r) && decide (r ≤ 9223372036854775807))) (.ite none (decide (9223372036854775807 < s * r)) (.ret (.tup [iv 9223372036854775807, .tt])) (.ret (.tup [iv (s * r), .ff]))) .fail
  | _ => .fail
theorem times_run (s r : Int) : T.anon (timesE [iv s, iv r]) = T.ite none (inU (IntKind.wrap .u64 s) && inU (IntKind.wrap .u64 r))
    (T.ite none (bif decide (0 < IntKind.wrap .u64 s * IntKind.wrap .u64 r / 18446744073709551616) then true else decide (9223372036854775807 < IntKind.wrap .u64 s * IntKind.wrap .u64 r % 18446744073709551616))
      (.ret (.tup [iv 9223372036854775807, .tt])) (.ret (.tup [iv (IntKind.wrap .i64 (IntKind.wrap .u64 s * IntKind.wrap .u64 r % 18446744073709551616)), .ff]))) .fail := by kernel_rfl
theorem timesC_ok : SpecOk Try.prog 10 timesC := by
  refine timesE_ok.of_den fun args v hfl h => ?_
  clear hfl
  unfold timesC at h
  split at h
  · rename_i s r
    obtain ⟨hk, h⟩ := guard_eval h
    simp only [Bool.and_eq_true, decide_eq_true_eq] at hk
    obtain ⟨⟨h1, h2⟩, h3, h4⟩ := hk
    refine ⟨v, ?_, ⟨flat_two rfl rfl h, flat_two rfl rfl h⟩, rfl⟩
    rw [← T.eval_anon, show timesE [V.s (.int .i64 s), V.s (.int .i64 r)] = timesE [iv s, iv r] from rfl, times_run, wrapu64, wrapu64, Int.emod_eq_of_lt h1 (by omega), Int.emod_eq_of_lt h3 (by omega)]
    have hp : 0 ≤ s * r := Int.mul_nonneg h1 h3
    generalize s * r = p at *
    refine tev_then (by unfold inU; simp only [Bool.and_eq_true, decide_eq_true_eq]; omega) ?_
    by_cases q : 9223372036854775807 < p
    · rw [decide_eq_true q] at h
      refine tev_then ?_ h
      simp only [cond_or, Bool.or_eq_true, decide_eq_true_eq]
      omega
    · rw [decide_eq_false q] at h
      refine tev_else ?_ ?_
      · simp only [cond_or, Bool.or_eq_false_iff, decide_eq_false_iff_not]; omega
      · rw [show p % 18446744073709551616 = p by omega, wrap64_in (by omega) (by omega)]; exact h
  · cases h
noncomputable def Q2 : Cfg := ⟨Try.prog, lookG [(7, .val heardC), (10, .val timesC)], [], 0⟩
theorem Q2_ok : Q2.Ok := Cfg.ok ⟨heardC_ok, timesC_ok, trivial⟩ trivial
noncomputable def meanE : Eng.Spec := execS Q2 noLoops 4
theorem meanE_ok : SpecOk Try.prog 4 meanE := execS_plain Q2_ok mixed Try.func4 (by kernel_rfl) (by kernel_rfl)
noncomputable def spreadE : Eng.Spec := execS Q2 noLoops 8
theorem spreadE_ok : SpecOk Try.prog 8 spreadE := execS_plain Q2_ok mixed Try.func8 (by kernel_rfl) (by kernel_rfl)
end Go.Proofs.Ytndcealgackgiaa.Sta

/- Trees as the machine prints them. -/
namespace Go.Proofs.Ytndcealgackgiaa.Sta
open Go.Eng Go.RowKit Mil
set_option linter.unusedVariables false
set_option maxRecDepth 100000
noncomputable def meT (l : List St3) (y : Int) : T V := T.ite none (decide (0 + List.length l ≤ List.length l))
  (T.ite none (okL3 (List.take (List.length l) (List.drop 0 l)))
    (T.ite none (Tot.n (heardL y (List.take (List.length l) (List.drop 0 l))) == 0)
      (T.ret (V.tup [V.s (S.int IntKind.i64 0), V.s (S.int IntKind.i64 0)]))
      (T.ite none (Tot.n (heardL y (List.take (List.length l) (List.drop 0 l))) == 0) T.fail
        (T.ret
          (V.tup
            [V.s
                (S.int IntKind.i64
                  (IntKind.wrap IntKind.i64
                    (Int.tdiv (Tot.s (heardL y (List.take (List.length l) (List.drop 0 l))))
                      (Tot.n (heardL y (List.take (List.length l) (List.drop 0 l))))))),
              V.s (S.int IntKind.i64 (Tot.n (heardL y (List.take (List.length l) (List.drop 0 l)))))]))))
    T.fail)
  T.fail
noncomputable def spT (l : List St3) (y r : Int) : T V := T.ite none (decide (0 + List.length l ≤ List.length l))
  (T.ite none (okL3 (List.take (List.length l) (List.drop 0 l)))
    (T.ite none (Tot.n (heardL y (List.take (List.length l) (List.drop 0 l))) == 0)
      (T.ret (V.tup [V.s (S.int IntKind.i64 0), V.s (S.int IntKind.i64 7)]))
      (T.ite none (decide (r < 0)) (T.ret (V.tup [V.s (S.int IntKind.i64 0), V.s (S.int IntKind.i64 1)]))
        (T.ite none
          (decide (0 ≤ Tot.s (heardL y (List.take (List.length l) (List.drop 0 l)))) && decide (Tot.s (heardL y (List.take (List.length l) (List.drop 0 l))) ≤ 9223372036854775807) &&
            (decide (0 ≤ r) && decide (r ≤ 9223372036854775807)))
          (T.ite none (decide (9223372036854775807 < Tot.s (heardL y (List.take (List.length l) (List.drop 0 l))) * r))
            (T.ite none (bif Tot.c (heardL y (List.take (List.length l) (List.drop 0 l))) then true else true) (T.ite none (Tot.n (heardL y (List.take (List.length l) (List.drop 0 l))) == 0) T.fail (T.ret (V.tup [V.s (S.int IntKind.i64 (IntKind.wrap IntKind.i64 (Int.tdiv (9223372036854775807) (Tot.n (heardL y (List.take (List.length l) (List.drop 0 l))))))), V.s (S.int IntKind.i64 2)]))) (T.ite none (Tot.n (heardL y (List.take (List.length l) (List.drop 0 l))) == 0) T.fail (T.ret (V.tup [V.s (S.int IntKind.i64 (IntKind.wrap IntKind.i64 (Int.tdiv (9223372036854775807) (Tot.n (heardL y (List.take (List.length l) (List.drop 0 l))))))), V.s (S.int IntKind.i64 0)]))))
            (T.ite none (bif Tot.c (heardL y (List.take (List.length l) (List.drop 0 l))) then true else false) (T.ite none (Tot.n (heardL y (List.take (List.length l) (List.drop 0 l))) == 0) T.fail (T.ret (V.tup [V.s (S.int IntKind.i64 (IntKind.wrap IntKind.i64 (Int.tdiv (Tot.s (heardL y (List.take (List.length l) (List.drop 0 l))) * r) (Tot.n (heardL y (List.take (List.length l) (List.drop 0 l))))))), V.s (S.int IntKind.i64 2)]))) (T.ite none (Tot.n (heardL y (List.take (List.length l) (List.drop 0 l))) == 0) T.fail (T.ret (V.tup [V.s (S.int IntKind.i64 (IntKind.wrap IntKind.i64 (Int.tdiv (Tot.s (heardL y (List.take (List.length l) (List.drop 0 l))) * r) (Tot.n (heardL y (List.take (List.length l) (List.drop 0 l))))))), V.s (S.int IntKind.i64 0)])))))
          T.fail)))
    T.fail)
  T.fail
end Go.Proofs.Ytndcealgackgiaa.Sta

/- Layer 9: the contracts of Mean and Spread. -/
namespace Go.Proofs.Ytndcealgackgiaa.Sta
open Go.Eng Go.RowKit Mil
set_option linter.unusedVariables false
set_option linter.unusedSimpArgs false
def meV (t : Tot) : Int := if t.n = 0 then 0 else Int.tdiv t.s t.n
def spV (t : Tot) (r : Int) : Int := if t.n = 0 then 0 else if r < 0 then 0 else Int.tdiv (if 9223372036854775807 < t.s * r then 9223372036854775807 else t.s * r) t.n
def spE (t : Tot) (r : Int) : Int := if t.n = 0 then 7 else if r < 0 then 1 else if 9223372036854775807 < t.s * r ∨ t.c = true then 2 else 0
def meanC : Eng.Spec := fun args => asLI args fun l y => .ite none (okL3 l) (.ret (pairV (meV (heardL y l)) (heardL y l).n)) .fail
def spreadC : Eng.Spec := fun args => asLII args fun l y r => .ite none (okL3 l && decide (r ≤ 9223372036854775807)) (.ret (pairV (spV (heardL y l) r) (spE (heardL y l) r))) .fail
theorem quo_in {a n : Int} (h1 : 0 ≤ a) (h2 : a ≤ 9223372036854775807) (h3 : 0 < n) : IntKind.wrap .i64 (Int.tdiv a n) = Int.tdiv a n := by
  rw [Int.tdiv_eq_ediv_of_nonneg h1]
  exact wrap64_in (by have := Int.ediv_nonneg h1 (Int.le_of_lt h3); omega) (Int.le_trans (Int.ediv_le_self _ h1) h2)
theorem mean_run (l : List St3) (y : Int) : T.anon (meanE [ors l, iv y]) = meT l y := by kernel_rfl
theorem spread_run (l : List St3) (y r : Int) : T.anon (spreadE [ors l, iv y, iv r]) = spT l y r := by kernel_rfl
theorem meanC_ok : SpecOk Try.prog 4 meanC := by
  refine meanE_ok.of_den fun args v hfl h => ?_
  clear hfl
  obtain ⟨l, y, rfl, h1⟩ := asLI_some (show (asLI args _).eval = some v from h)
  clear h
  obtain ⟨hk, h⟩ := guard_eval h1
  obtain rfl := Option.some.inj h
  refine ⟨pairV (meV (heardL y l)) (heardL y l).n, ?_, ⟨rfl, rfl⟩, rfl⟩
  rw [← T.eval_anon, mean_run]
  unfold meT
  rw [whole3]
  refine tev_then (by simp) (tev_then hk ?_)
  obtain ⟨h1, h2, h3, h4⟩ := heardL_ok y l
  generalize heardL y l = t at *
  obtain ⟨s, n, c⟩ := t
  dsimp only at *
  unfold meV
  by_cases q : n = 0
  · subst q; exact tev_then rfl rfl
  · have q2 : (n == 0) = false := by simpa using q
    refine tev_else q2 (tev_else q2 ?_)
    rw [quo_in h1 h2 (by omega)]
    simp only [q, if_false]
    rfl
theorem spreadC_ok : SpecOk Try.prog 8 spreadC := by
  refine spreadE_ok.of_den fun args v hfl h => ?_
  clear hfl
  obtain ⟨l, y, r, rfl, h1⟩ := asLII_some (show (asLII args _).eval = some v from h)
  clear h
  obtain ⟨hk, h⟩ := guard_eval h1
  obtain rfl := Option.some.inj h
  simp only [Bool.and_eq_true, decide_eq_true_eq] at hk
  refine ⟨pairV (spV (heardL y l) r) (spE (heardL y l) r), ?_, ⟨rfl, rfl⟩, rfl⟩
  rw [← T.eval_anon, spread_run]
  unfold spT
  rw [whole3]
  refine tev_then (by simp) (tev_then hk.1 ?_)
  obtain ⟨h1, h2, h3, h4⟩ := heardL_ok y l
  generalize heardL y l = t at *
  obtain ⟨s, n, c⟩ := t
  dsimp only at *
  unfold spV spE
  by_cases q : n = 0
  · subst q; exact tev_then rfl rfl
  · have q2 : (n == 0) = false := by simpa using q
    refine tev_else q2 ?_
    simp only [q, if_false]
    by_cases hr : r < 0
    · rw [if_pos hr, if_pos hr]
      exact tev_then (decide_eq_true hr) rfl
    · rw [if_neg hr, if_neg hr]
      have hp : 0 ≤ s * r := Int.mul_nonneg h1 (by omega)
      generalize s * r = p at *
      refine tev_else (decide_eq_false hr) (tev_then (by simp only [Bool.and_eq_true, decide_eq_true_eq]; omega) ?_)
      by_cases hc : 9223372036854775807 < p
      · rw [if_pos hc, if_pos (Or.inl hc)]
        refine tev_then (decide_eq_true hc) ?_
        rw [quo_in (by decide) (by decide) (by omega)]
        exact tev_then (by cases c <;> rfl) (tev_else q2 rfl)
      · rw [if_neg hc]
        refine tev_else (decide_eq_false hc) ?_
        rw [quo_in hp (by omega) (by omega)]
        cases c
        · rw [if_neg (by simp; omega)]
          exact tev_else rfl (tev_else q2 rfl)
        · rw [if_pos (Or.inr rfl)]
          exact tev_then rfl (tev_else q2 rfl)
noncomputable def Q3 : Cfg := ⟨Try.prog, lookG [(6, .val yesD), (5, .val mayS'), (4, .val meanC), (8, .val spreadC)], [], 0⟩
theorem Q3_ok : Q3.Ok := Cfg.ok ⟨told_ok, mayS'_ok, meanC_ok, spreadC_ok, trivial⟩ trivial
end Go.Proofs.Ytndcealgackgiaa.Sta

