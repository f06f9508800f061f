/- Layer 9: what stats tell together, over any list. -/
import Derived.Test.YtmijloophkkanaaStaT
namespace Go.Proofs.Ytmijloophkkanaa.Sta
open Go.Eng Go.RowKit Mil
set_option linter.unusedVariables false
set_option linter.unusedSimpArgs false
theorem mayS'_ok : SpecOk Try.prog 23 mayS' := by
  refine may_ok.of_den fun args v hfl h => ?_
  clear hfl
  unfold mayS' at h
  split at h
  · rename_i a b c
    obtain rfl := Option.some.inj h
    refine ⟨bv (mayR (a, b, c)), ?_, ⟨rfl, rfl⟩, rfl⟩
    have e : T.anon (mayS [.agg [iv a, iv b, iv c]]) = T.ret (V.s (S.bool (bif bif decide (0 ≤ a) then decide (0 ≤ b) else false then decide (0 ≤ c) else false))) := by kernel_rfl
    rw [← T.eval_anon, show mayS [.agg [V.s (.int .i64 a), V.s (.int .i64 b), V.s (.int .i64 c)]] = mayS [.agg [iv a, iv b, iv c]] from rfl, e]
    simp only [cond_and, mayR]
    rfl
  · cases h
theorem PL_ok : PL.Ok := Cfg.ok ⟨mayS'_ok, add_ok, mul64_ok, trivial⟩ trivial
def decA : List V → List Blk → Option (PA1 × AA1)
  | [.s (.int .i64 age), .ptr 1 0, .sub 0 3 0 k, .s (.int .i64 n), .s (.int .i64 i)], [.lst false t [.int .i64, .int .i64, .int .i64] l, .cells t2 [.s (.int .i64 s), .s (.int .i64 c), .s (.bool u)]] =>
    if t = 23 ∧ t2 = 71 then some (⟨age, l, k, n⟩, ⟨s, c, u, i⟩) else none
  | _, _ => none
theorem decA_ok (l : List V) (b : List Blk) (d : PA1 × AA1) (h : decA l b = some d) : l = vsA d.1 d.2 ∧ b = bsA d.1 d.2 := by
  unfold decA at h
  split at h
  · split at h
    · rename_i ht
      obtain ⟨rfl, rfl⟩ := ht
      cases h
      exact ⟨rfl, rfl⟩
    · cases h
  · cases h
def okL3 (l : List St3) : Bool := decide (l.length ≤ 1000000) && l.all fun x => inR x.2.2
def invA (p : PA1) (a : AA1) : Bool := decide (p.k = p.l.length) && decide (p.n = (p.k : Int)) && decide (0 ≤ a.i) && decide (a.i ≤ p.n) && decide (0 ≤ a.c) && decide (a.c ≤ a.i) && inR a.s && okL3 p.l
def mayC (age : Int) (x : St3) : Bool := mayR x && decide (age ≤ x.2.1)
def nxtA (p : PA1) (a : AA1) : Option AA1 :=
  if a.i < p.n then some (if mayC p.age (g3 p.l a.i) = true then ⟨cutV (a.s + (g3 p.l a.i).2.2), a.c + 1, a.u || (cutE (a.s + (g3 p.l a.i).2.2) == 2), a.i + 1⟩ else ⟨a.s, a.c, a.u, a.i + 1⟩) else none
noncomputable def outA (p : PA1) (a : AA1) : T (Ex × St) := .ret (.exit 0, mkSt [1,5,10,11,12] [0,1] 1000 54 (vsA p a) (bsA p a))
theorem g3_lt {l : List St3} {i : Int} (h0 : 0 ≤ i) (h : i < l.length) : ∃ x, l[i.toNat]? = some x ∧ g3 l i = x := by
  have hl : i.toNat < l.length := by omega
  refine ⟨l[i.toNat], by simp [hl], ?_⟩
  unfold g3
  rw [Nat.zero_add, List.getD_eq_getElem?_getD, List.getElem?_eq_getElem hl]; rfl
theorem okL3_get {l : List St3} (h : okL3 l = true) {i : Int} (h0 : 0 ≤ i) (hi : i < l.length) : inR (g3 l i).2.2 = true := by
  obtain ⟨x, h1, h2⟩ := g3_lt h0 hi
  rw [h2]
  unfold okL3 at h
  simp only [Bool.and_eq_true, List.all_eq_true] at h
  exact h.2 x (List.mem_of_getElem? h1)
theorem cutV_inR (n : Int) : inR (cutV n) = true := inR_iff.2 (cutV_range n)
theorem stA (p : PA1) (a b : AA1) (h : invA p a = true) (e : nxtA p a = some b) : invA p b = true ∧ (p.n - b.i).toNat < (p.n - a.i).toNat := by
  obtain ⟨s, c, u, i⟩ := a
  unfold nxtA at e
  split at e
  · rename_i hc
    obtain rfl := Option.some.inj e
    simp only [invA, Bool.and_eq_true, decide_eq_true_eq] at h hc ⊢
    obtain ⟨⟨⟨⟨⟨⟨⟨h1, h2⟩, h3⟩, h4⟩, h5⟩, h6⟩, h7⟩, h8⟩ := h
    split
    · exact ⟨⟨⟨⟨⟨⟨⟨⟨h1, h2⟩, by show 0 ≤ i + 1; omega⟩, by show i + 1 ≤ p.n; omega⟩, by show 0 ≤ c + 1; omega⟩, by show c + 1 ≤ i + 1; omega⟩, cutV_inR _⟩, h8⟩, by show (p.n - (i + 1)).toNat < (p.n - i).toNat; omega⟩
    · exact ⟨⟨⟨⟨⟨⟨⟨⟨h1, h2⟩, by show 0 ≤ i + 1; omega⟩, by show i + 1 ≤ p.n; omega⟩, h5⟩, by show c ≤ i + 1; omega⟩, h7⟩, h8⟩, by show (p.n - (i + 1)).toNat < (p.n - i).toNat; omega⟩
  · cases e
theorem lpA_ok : LoopOk PL ad1 (famWN [1,5,10,11,12] SA 1000 1000 54 decA invA nxtA outA) := by
  refine famWN_ok (vs := vsA) (bs := bsA) PL_ok mixed (noLoops_ok _) decA_ok (fun p a => (p.n - a.i).toNat) stA fun ⟨age, l, k, n⟩ ⟨s, c, u, i⟩ h => ?_
  have e : T.anon (roundN PL noLoops ad1 [1,5,10,11,12] SA 1000 1000 (mkSt [1,5,10,11,12] (keysR SA) 1000 54 (vsA ⟨age, l, k, n⟩ ⟨s, c, u, i⟩) (bsA ⟨age, l, k, n⟩ ⟨s, c, u, i⟩))) = rtA age l k n s c u i := by kernel_rfl
  rw [← T.eval_anon (t := roundN _ _ _ _ _ _ _ _), e]
  clear e
  simp only [invA, Bool.and_eq_true, decide_eq_true_eq] at h
  obtain ⟨⟨⟨⟨⟨⟨⟨rfl, rfl⟩, h3⟩, h4⟩, h5⟩, h6⟩, h7⟩, h8⟩ := h
  have hlen : l.length ≤ 1000000 := by unfold okL3 at h8; simp only [Bool.and_eq_true, decide_eq_true_eq] at h8; exact h8.1
  simp only [nxtA, outA]
  unfold rtA
  by_cases hc : i < l.length
  · rw [if_pos hc]
    have h9 := okL3_get h8 h3 hc
    generalize g3 l i = x at *
    refine ⟨fun b hb => ?_, fun h => by cases h⟩
    obtain rfl := Option.some.inj hb
    rw [wrap64_in (n := i + 1) (by omega) (by omega), wrap64_in (n := c + 1) (by omega) (by omega)]
    refine tev_then (by (first | with_reducible rfl | assumption | (simp only [cond_and, cond_or, Bool.and_eq_true, Bool.or_eq_true, Bool.and_eq_false_iff, Bool.or_eq_false_iff, decide_eq_true_eq, decide_eq_false_iff_not, beq_iff_eq, bne_iff_ne, beq_eq_false_iff_ne, bne_eq_false_iff_eq, Bool.not_eq_true', Bool.not_eq_false', ne_eq, Bool.true_and, Bool.and_true, Bool.false_and, Bool.and_false, Bool.true_or, Bool.or_true, Bool.not_true, Bool.not_false, Bool.cond_true, Bool.cond_false, true_and, and_true]; first | done | omega))) (tev_then (by (first | with_reducible rfl | assumption | (simp only [cond_and, cond_or, Bool.and_eq_true, Bool.or_eq_true, Bool.and_eq_false_iff, Bool.or_eq_false_iff, decide_eq_true_eq, decide_eq_false_iff_not, beq_iff_eq, bne_iff_ne, beq_eq_false_iff_ne, bne_eq_false_iff_eq, Bool.not_eq_true', Bool.not_eq_false', ne_eq, Bool.true_and, Bool.and_true, Bool.false_and, Bool.and_false, Bool.true_or, Bool.or_true, Bool.not_true, Bool.not_false, Bool.cond_true, Bool.cond_false, true_and, and_true]; first | done | omega))) (tev_then (by (first | with_reducible rfl | assumption | (simp only [cond_and, cond_or, Bool.and_eq_true, Bool.or_eq_true, Bool.and_eq_false_iff, Bool.or_eq_false_iff, decide_eq_true_eq, decide_eq_false_iff_not, beq_iff_eq, bne_iff_ne, beq_eq_false_iff_ne, bne_eq_false_iff_eq, Bool.not_eq_true', Bool.not_eq_false', ne_eq, Bool.true_and, Bool.and_true, Bool.false_and, Bool.and_false, Bool.true_or, Bool.or_true, Bool.not_true, Bool.not_false, Bool.cond_true, Bool.cond_false, true_and, and_true]; first | done | omega))) ?_))
    by_cases hm : mayC age x = true
    · rw [if_pos hm]
      unfold mayC at hm
      simp only [Bool.and_eq_true, decide_eq_true_eq] at hm
      refine tev_else (by rw [show (x.1, x.2.1, x.2.2) = x from rfl, hm.1]; simp; omega) (tev_then (by rw [h7, h9]; rfl) ?_)
      cases u
      · exact tev_then rfl (tev_then rfl (tev_else rfl rfl))
      · exact tev_else rfl (tev_else rfl (tev_then rfl rfl))
    · rw [if_neg hm]
      refine tev_then ?_ rfl
      rw [show (x.1, x.2.1, x.2.2) = x from rfl]
      unfold mayC at hm
      simp only [Bool.and_eq_true, decide_eq_true_eq, not_and] at hm
      by_cases hr : mayR x = true
      · have := hm hr
        rw [hr]; simp; omega
      · rw [show mayR x = false by simpa using hr]; rfl
  · rw [if_neg hc]
    refine ⟨fun b hb => (by cases hb), fun _ r hr => ?_⟩
    obtain rfl := Option.some.inj hr
    exact ⟨by simp, tev_else (by (first | with_reducible rfl | assumption | (simp only [cond_and, cond_or, Bool.and_eq_true, Bool.or_eq_true, Bool.and_eq_false_iff, Bool.or_eq_false_iff, decide_eq_true_eq, decide_eq_false_iff_not, beq_iff_eq, bne_iff_ne, beq_eq_false_iff_ne, bne_eq_false_iff_eq, Bool.not_eq_true', Bool.not_eq_false', ne_eq, Bool.true_and, Bool.and_true, Bool.false_and, Bool.and_false, Bool.true_or, Bool.or_true, Bool.not_true, Bool.not_false, Bool.cond_true, Bool.cond_false, true_and, and_true]; first | done | omega))) rfl⟩
noncomputable def alist : List (Nat × LSpec) := [(3, famWN [1,5,10,11,12] SA 1000 1000 54 decA invA nxtA outA)]
theorem afind : findL alist 3 = some (famWN [1,5,10,11,12] SA 1000 1000 54 decA invA nxtA outA) := rfl
theorem areg : firstReg ad1 = some 3 := by kernel_rfl
theorem alps_ok : ∀ a ∈ loopsIn (codeOf Try.prog 72), ∀ sp, byReg alist a = some sp → LoopOk PL a sp := by
  have e : loopsIn (codeOf Try.prog 72) = [ad1] := by kernel_rfl
  rw [e]
  intro a ha
  rcases List.mem_cons.1 ha with h | ha
  · rw [h]; exact byReg_mem areg afind lpA_ok
  · cases ha
/-! ### what they come to -/
def stepT (age : Int) (t : Tot) (x : St3) : Tot := if mayC age x = true then ⟨cutV (t.s + x.2.2), t.n + 1, t.c || (cutE (t.s + x.2.2) == 2)⟩ else t
def totL (age : Int) (l : List St3) : Tot := l.foldl (stepT age) ⟨0, 0, false⟩
theorem totL_snoc (age : Int) (l : List St3) (x : St3) : totL age (l ++ [x]) = stepT age (totL age l) x := by unfold totL; rw [List.foldl_append]; rfl
theorem take_snoc {l : List St3} {i : Int} (h0 : 0 ≤ i) (h : i < l.length) : l.take (i + 1).toNat = l.take i.toNat ++ [g3 l i] := by
  obtain ⟨x, h1, h2⟩ := g3_lt h0 h
  rw [h2, show (i + 1).toNat = i.toNat + 1 by omega, List.take_add_one, h1]; rfl
theorem endA {p : PA1} (h : invA p ⟨0, 0, false, 0⟩ = true) : endW (nxtA p) ⟨0, 0, false, 0⟩ = ⟨(totL p.age p.l).s, (totL p.age p.l).n, (totL p.age p.l).c, p.n⟩ := by
  obtain ⟨h1, h2, h3⟩ := endW_says (stA p) h
  have h4 := h3 (fun a => (⟨a.s, a.c, a.u⟩ : Tot) = totL p.age (p.l.take a.i.toNat)) rfl fun a b hi hq e => by
    obtain ⟨s, c, u, i⟩ := a
    simp only [invA, Bool.and_eq_true, decide_eq_true_eq] at hi
    unfold nxtA at e
    split at e
    · rename_i hc
      obtain rfl := Option.some.inj e
      dsimp only at hc hq ⊢
      have : i < p.l.length := by omega
      have ht := take_snoc (l := p.l) (i := i) hi.1.1.1.1.1.2 this
      split
      · rename_i hm
        dsimp only
        rw [ht, totL_snoc, ← hq]; unfold stepT; rw [if_pos hm]
      · rename_i hm
        dsimp only
        rw [ht, totL_snoc, ← hq]; unfold stepT; rw [if_neg hm]
    · cases e
  generalize endW (nxtA p) ⟨0, 0, false, 0⟩ = E at *
  obtain ⟨s, c, u, i⟩ := E
  simp only [invA, Bool.and_eq_true, decide_eq_true_eq] at h1
  unfold nxtA at h2
  split at h2
  · cases h2
  · rename_i hc
    dsimp only at hc h4
    have hi : i = p.n := by omega
    subst hi
    have : p.l.take p.n.toNat = p.l := List.take_of_length_le (by omega)
    rw [this] at h4
    rw [← h4]
def nothingV : V := .iface 122 (.agg [])
def totalV (t : Tot) : V := .iface 71 (.agg [iv t.s, iv t.n, bv t.c])
def addC : Eng.Spec
  | [.orow t [.int .i64, .int .i64, .int .i64] l, .s (.int .i64 age)] => if t = 23 then .ite none (okL3 l) (.ite none ((totL age l).n == 0) (.ret nothingV) (.ret (totalV (totL age l)))) .fail else .fail
  | _ => .fail
theorem add_run (l : List St3) (age : Int) : T.anon (execS PL (byReg alist) 72 [.orow 23 [.int .i64, .int .i64, .int .i64] l, iv age]) =
    T.ite none (invA ⟨age, l, l.length, l.length⟩ ⟨0, 0, false, 0⟩) (T.ite none ((endW (nxtA ⟨age, l, l.length, l.length⟩) ⟨0, 0, false, 0⟩).c == 0) (.ret nothingV)
      (.ret (totalV ⟨(endW (nxtA ⟨age, l, l.length, l.length⟩) ⟨0, 0, false, 0⟩).s, (endW (nxtA ⟨age, l, l.length, l.length⟩) ⟨0, 0, false, 0⟩).c, (endW (nxtA ⟨age, l, l.length, l.length⟩) ⟨0, 0, false, 0⟩).u⟩))) .fail := by kernel_rfl
theorem add_eval (l : List St3) (age : Int) (v : V) (h0 : (T.ite none (okL3 l) (.ite none ((totL age l).n == 0) (.ret nothingV) (.ret (totalV (totL age l)))) .fail).eval = some v) :
    (execS PL (byReg alist) 72 [.orow 23 [.int .i64, .int .i64, .int .i64] l, iv age]).eval = some v ∧ flat v = true := by
  obtain ⟨hk, h⟩ := guard_eval h0
  have hi : invA ⟨age, l, l.length, l.length⟩ ⟨0, 0, false, 0⟩ = true := by
    simp only [invA, Bool.and_eq_true, decide_eq_true_eq]
    exact ⟨⟨⟨⟨⟨⟨⟨trivial, trivial⟩, by omega⟩, by omega⟩, by omega⟩, by omega⟩, rfl⟩, hk⟩
  refine ⟨?_, ?_⟩
  · rw [← T.eval_anon, add_run, endA hi]
    exact tev_then hi h
  · cases q : (totL age l).n == 0 <;> rw [q] at h <;> (obtain rfl := Option.some.inj h; rfl)
theorem addC_ok : SpecOk Try.prog 72 addC := by
  refine (execS_loops (Λ := byReg alist) PL_ok mixed Try.func72 (by kernel_rfl) (by kernel_rfl) alps_ok).of_den fun args v hfl h => ?_
  clear hfl
  unfold addC at h
  split at h
  · rename_i t l age
    split at h
    · rename_i ht
      subst ht
      obtain ⟨h1, h2⟩ := add_eval l age v h
      exact ⟨v, h1, ⟨h2, h2⟩, rfl⟩
    · cases h
  · cases h
end Go.Proofs.Ytmijloophkkanaa.Sta
