/- Layer 15: DelayHolds: the inner loop. -/
import Derived.Test.Ytmijloophkkanaa15M
namespace Go.Proofs.Ytmijloophkkanaa.Del
open Go.Eng Go.RowKit
set_option linter.unusedVariables false
set_option linter.unusedSimpArgs false
noncomputable def dh1 : Code := loopAt Try.prog 20 0
noncomputable def dh2 : Code := (loopsIn dh1).getD 0 .skip
def rT (l : List Int) : Blk := .lst true 3 [.int .i64] l
structure P2 where (g : List Int) (k : Nat) (s s' a : Int) (L : List Stp) (j : Nat) (W : List Int) (n : Nat) (i : Int)
structure A2 where (m q : Int)
def vs2 (p : P2) (a : A2) : List V := [.sub 0 1 0 p.k, iv p.s, .ptr 1 0, .sub 3001 1 0 p.n, iv p.i, iv a.m, iv a.q]
def bs2 (p : P2) (a : A2) : List Blk := [rI p.g, .cells 96 [iv p.s', iv p.a, .sub 3000 2 0 p.j], stepsB p.L, rT p.W]
abbrev S2 : List (Nat × Src) := [(0, .same), (1, .same), (3000, .cell 1 2), (3001, .tmp 7)]
noncomputable def F2 (p : P2) (a : A2) : St := mkSt [1,5,6,7,8,9,10] [0,1,3000,3001] 3002 86 (vs2 p a) (bs2 p a)
def dec2 : List V → List Blk → Option (P2 × A2)
  | [.sub 0 1 0 k, .s (.int .i64 s), .ptr 1 0, .sub 3001 1 0 n, .s (.int .i64 i), .s (.int .i64 m), .s (.int .i64 q)], [.lst false t1 [.int .i64] g, .cells t2 [.s (.int .i64 s'), .s (.int .i64 a), .sub 3000 2 0 j], .lst true t3 [.int .i64, .int .i64] L, .lst true t4 [.int .i64] W] =>
    if t1 = 3 ∧ t2 = 96 ∧ t3 = 99 ∧ t4 = 3 then some (⟨g, k, s, s', a, L, j, W, n, i⟩, ⟨m, q⟩) else none
  | _, _ => none
theorem dec2_ok (l : List V) (b : List Blk) (d : P2 × A2) (h : dec2 l b = some d) : l = vs2 d.1 d.2 ∧ b = bs2 d.1 d.2 := by
  unfold dec2 at h
  split at h
  · split at h
    · rename_i ht
      obtain ⟨rfl, rfl, rfl, rfl⟩ := ht
      cases h
      exact ⟨rfl, rfl⟩
    · cases h
  · cases h
def mxm (a b : Int) : Int := if b > a then b else a
def inv2 (p : P2) (a : A2) : Bool := decide (p.n = p.W.length) && decide (p.i < p.n) && decide (p.n ≤ 1000) && decide (0 ≤ a.q)
def nxt2 (p : P2) (a : A2) : Option A2 := if a.q < p.i then some ⟨mxm a.m (gI p.W a.q), a.q + 1⟩ else none
noncomputable def out2 (p : P2) (a : A2) : T (Ex × St) := .ret (.exit 2, F2 p a)
theorem st2 (p : P2) (a b : A2) (h : inv2 p a = true) (e : nxt2 p a = some b) : inv2 p b = true ∧ (p.i - b.q).toNat < (p.i - a.q).toNat := by
  obtain ⟨m, q⟩ := a
  unfold nxt2 at e
  split at e
  · rename_i hc
    obtain rfl := Option.some.inj e
    simp only [inv2, Bool.and_eq_true, decide_eq_true_eq] at h hc ⊢
    omega
  · cases e
noncomputable def rt2 (p : P2) (m q : Int) : T (Ex × St) :=
  T.ite none (decide (q < p.i)) (T.ite none (decide (0 ≤ q) && (decide (q < (p.n : Int)) && decide (0 + Int.toNat q < p.W.length))) (T.ite none (decide (0 + Int.toNat q < p.W.length))
    (T.ret (.normal, F2 p ⟨if gI p.W q > m then gI p.W q else m, IntKind.wrap .i64 (q + 1)⟩)) T.fail) T.fail) (T.ret (.exit 2, F2 p ⟨m, q⟩))
theorem lp2_ok : LoopOk D8 dh2 (famWN [1,5,6,7,8,9,10] S2 3000 3002 86 dec2 inv2 nxt2 out2) := by
  refine famWN_ok (vs := vs2) (bs := bs2) D8_ok mixed (noLoops_ok _) dec2_ok (fun p a => (p.i - a.q).toNat) st2 fun ⟨g, k, s, s', a, L, j, W, n, i⟩ ⟨m, q⟩ h => ?_
  have e : T.anon (roundN D8 noLoops dh2 [1,5,6,7,8,9,10] S2 3000 3002 (mkSt [1,5,6,7,8,9,10] (keysR S2) 3002 86 (vs2 ⟨g, k, s, s', a, L, j, W, n, i⟩ ⟨m, q⟩) (bs2 ⟨g, k, s, s', a, L, j, W, n, i⟩ ⟨m, q⟩))) = rt2 ⟨g, k, s, s', a, L, j, W, n, i⟩ m q := by kernel_rfl
  rw [← T.eval_anon (t := roundN _ _ _ _ _ _ _ _), e]
  clear e
  simp only [inv2, Bool.and_eq_true, decide_eq_true_eq] at h
  obtain ⟨⟨⟨rfl, h1⟩, h2⟩, h3⟩ := h
  simp only [nxt2, out2]
  unfold rt2
  dsimp only
  by_cases hc : q < i
  · rw [if_pos hc]
    refine ⟨fun b hb => ?_, fun h => by cases h⟩
    obtain rfl := Option.some.inj hb
    rw [wrap64_in (n := q + 1) (by omega) (by omega)]
    exact tev_then (decide_eq_true hc) (tev_then (by (first | with_reducible rfl | assumption | (simp only [cond_and, cond_or, Bool.and_eq_true, Bool.or_eq_true, Bool.and_eq_false_iff, Bool.or_eq_false_iff, decide_eq_true_eq, decide_eq_false_iff_not, beq_iff_eq, bne_iff_ne, beq_eq_false_iff_ne, bne_eq_false_iff_eq, Bool.not_eq_true', Bool.not_eq_false', ne_eq, Bool.true_and, Bool.and_true, Bool.false_and, Bool.and_false, Bool.true_or, Bool.or_true, Bool.not_true, Bool.not_false, Bool.cond_true, Bool.cond_false, true_and, and_true]; first | done | omega))) (tev_then (by (first | with_reducible rfl | assumption | (simp only [cond_and, cond_or, Bool.and_eq_true, Bool.or_eq_true, Bool.and_eq_false_iff, Bool.or_eq_false_iff, decide_eq_true_eq, decide_eq_false_iff_not, beq_iff_eq, bne_iff_ne, beq_eq_false_iff_ne, bne_eq_false_iff_eq, Bool.not_eq_true', Bool.not_eq_false', ne_eq, Bool.true_and, Bool.and_true, Bool.false_and, Bool.and_false, Bool.true_or, Bool.or_true, Bool.not_true, Bool.not_false, Bool.cond_true, Bool.cond_false, true_and, and_true]; first | done | omega))) rfl))
  · rw [if_neg hc]
    refine ⟨fun b hb => (by cases hb), fun _ r hr => ?_⟩
    obtain rfl := Option.some.inj hr
    exact ⟨by simp, tev_else (decide_eq_false hc) rfl⟩
noncomputable def list2 : List (Nat × LSpec) := [(14, famWN [1,5,6,7,8,9,10] S2 3000 3002 86 dec2 inv2 nxt2 out2)]
theorem find2 : findL list2 14 = some (famWN [1,5,6,7,8,9,10] S2 3000 3002 86 dec2 inv2 nxt2 out2) := rfl
theorem reg2 : firstReg dh2 = some 14 := by kernel_rfl
theorem lps_one {C : Cfg} {l : List (Nat × LSpec)} {c d : Code} (e : loopsIn c = [d]) (h : ∀ sp, byReg l d = some sp → LoopOk C d sp) : LoopsOk C (byReg l) c := by
  refine loopsOk_of c ?_
  rw [e]
  intro a ha
  rcases List.mem_cons.1 ha with q | ha
  · rw [q]; exact h
  · cases ha
theorem loops2 : loopsIn dh1 = [dh2] := by kernel_rfl
theorem inner2 : ∀ sp, byReg list2 dh2 = some sp → LoopOk D8 dh2 sp := byReg_mem reg2 find2 lp2_ok
/-- as it stands, never looked into -/
structure LoopsOkS (C : Cfg) (Λ : Loops) (c : Code) : Prop where
  ok : LoopsOk C Λ c
theorem famWNS_ok {C : Cfg} (hC : C.Ok) (hm : C.P.follows .mixedOrders = true) {Λ : Loops} {c : Code} (hl : LoopsOkS C Λ c) {T0 : List Nat} {S0 : List (Nat × Src)} {m M sz : Nat} {P A : Type} {vs : P → A → List V} {bs : P → A → List Blk}
    {inv : P → A → Bool} {nxt : P → A → Option A} {out : P → A → T (Ex × St)} {dec : List V → List Blk → Option (P × A)}
    (hd : ∀ l b d, dec l b = some d → l = vs d.1 d.2 ∧ b = bs d.1 d.2) (μ : P → A → Nat)
    (hs : ∀ p a b, inv p a = true → nxt p a = some b → inv p b = true ∧ μ p b < μ p a)
    (hr : ∀ p a, inv p a = true → (∀ b, nxt p a = some b → (roundN C Λ c T0 S0 m M (mkSt T0 (keysR S0) M sz (vs p a) (bs p a))).eval = some (.normal, mkSt T0 (keysR S0) M sz (vs p b) (bs p b))) ∧
      (nxt p a = none → ∀ r, (out p a).eval = some r → r.1 ≠ .normal ∧ (roundN C Λ c T0 S0 m M (mkSt T0 (keysR S0) M sz (vs p a) (bs p a))).eval = some r)) :
    LoopOk C c (famWN T0 S0 m M sz dec inv nxt out) := famWN_ok hC hm hl.ok hd μ hs hr
theorem lps2_gen (c : Code) (e : loopsIn c = [dh2]) : LoopsOkS D8 (byReg list2) c := ⟨lps_one e inner2⟩
theorem lps2_ok : LoopsOkS D8 (byReg list2) dh1 := lps2_gen dh1 loops2
/- the outer loop's states -/
structure PHo where (g : List Int) (k : Nat) (s s' : Int)
structure AHo where (a : Int) (L : List Stp) (j : Nat) (W : List Int) (n : Nat) (i : Int)
def vsO (p : PHo) (a : AHo) : List V := [.sub 0 1 0 p.k, iv p.s, .ptr 1 0, .sub 1001 1 0 a.n, iv a.i]
def bsO (p : PHo) (a : AHo) : List Blk := [rI p.g, .cells 96 [iv p.s', iv a.a, .sub 1000 2 0 a.j], stepsB a.L, rT a.W]
abbrev SO : List (Nat × Src) := [(0, .same), (1, .same), (1000, .cell 1 2), (1001, .tmp 7)]
noncomputable def FO (p : PHo) (a : AHo) : St := mkSt [1,5,6,7,8] [0,1,1000,1001] 1002 86 (vsO p a) (bsO p a)
end Go.Proofs.Ytmijloophkkanaa.Del
