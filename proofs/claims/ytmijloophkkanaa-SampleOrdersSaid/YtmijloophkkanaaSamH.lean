/- Layer 10: who is asked. -/
import Derived.Test.YtmijloophkkanaaSamA
namespace Go.Proofs.Ytmijloophkkanaa.Sam
open Go.Eng Go.RowKit
set_option linter.unusedVariables false
set_option linter.unusedSimpArgs false
noncomputable def rtH (g : List Int) (k : Nat) (st ln : Int) (j : Nat) (n : Int) (l : List Int) (i : Int) : T (Ex × St) :=
  T.ite none (decide (i < n)) (T.ite none ((k : Int) == 0) T.fail (T.ite none (decide (0 ≤ Int.tmod (IntKind.wrap .i64 (st + i)) (k : Int)) && (decide (Int.tmod (IntKind.wrap .i64 (st + i)) (k : Int) < (k : Int)) && decide (0 + Int.toNat (Int.tmod (IntKind.wrap .i64 (st + i)) (k : Int)) < g.length)))
    (T.ite none (decide (0 + Int.toNat (Int.tmod (IntKind.wrap .i64 (st + i)) (k : Int)) < g.length)) (T.ite none (decide (0 ≤ i) && (decide (i < (j : Int)) && decide (0 + Int.toNat i < l.length))) (T.ite none (decide (0 + Int.toNat i < l.length))
      (T.ret (.normal, FH ⟨g, k, st, ln, j, n⟩ ⟨l.set (0 + i.toNat) (gI g (Int.tmod (IntKind.wrap .i64 (st + i)) (k : Int))), IntKind.wrap .i64 (i + 1)⟩)) T.fail) T.fail) T.fail) T.fail)) (T.ret (.exit 0, FH ⟨g, k, st, ln, j, n⟩ ⟨l, i⟩))
def decH : List V → List Blk → Option (PH × AH)
  | [.sub 0 1 0 k, .ptr 9 0, .sub 1000 1 0 j, .s (.int .i64 n), .s (.int .i64 i)], [.lst false t1 [.int .i64] g, .cells t2 [.s (.int .i64 st), .s (.int .i64 ln)], .lst true t3 [.int .i64] l] =>
    if t1 = 3 ∧ t2 = 79 ∧ t3 = 3 then some (⟨g, k, st, ln, j, n⟩, ⟨l, i⟩) else none
  | _, _ => none
theorem decH_ok (l : List V) (b : List Blk) (d : PH × AH) (h : decH l b = some d) : l = vsH d.1 d.2 ∧ b = bsH d.1 d.2 := by
  unfold decH at h
  split at h
  · split at h
    · rename_i ht
      obtain ⟨rfl, rfl, rfl⟩ := ht
      cases h
      exact ⟨rfl, rfl⟩
    · cases h
  · cases h
def invH (p : PH) (a : AH) : Bool := decide (p.k = p.g.length) && decide (0 < p.k) && decide (p.k ≤ 1000) && decide (p.j = a.l.length) && decide (p.n = (p.j : Int)) && decide (p.j ≤ 1000) && decide (0 ≤ a.i) && decide (a.i ≤ p.n) && decide (0 ≤ p.st) && decide (p.st < p.k)
def elH (p : PH) (i : Int) : Int := gI p.g ((p.st + i) % p.k)
def nxtH (p : PH) (a : AH) : Option AH := if a.i < p.n then some ⟨a.l.set (0 + a.i.toNat) (elH p a.i), a.i + 1⟩ else none
noncomputable def outH (p : PH) (a : AH) : T (Ex × St) := .ret (.exit 0, FH p a)
theorem stH (p : PH) (a b : AH) (h : invH p a = true) (e : nxtH p a = some b) : invH p b = true ∧ (p.n - b.i).toNat < (p.n - a.i).toNat := by
  obtain ⟨l, i⟩ := a
  unfold nxtH at e
  split at e
  · rename_i hc
    obtain rfl := Option.some.inj e
    simp only [invH, Bool.and_eq_true, decide_eq_true_eq, List.length_set] at h hc ⊢
    omega
  · cases e
theorem lpH_ok : LoopOk P7 wh1 (famWN [0,7,9,26,27] SH 1000 1001 45 decH invH nxtH outH) := by
  refine famWN_ok (vs := vsH) (bs := bsH) P7_ok mixed (noLoops_ok _) decH_ok (fun p a => (p.n - a.i).toNat) stH fun ⟨g, k, st, ln, j, n⟩ ⟨l, i⟩ h => ?_
  have e : T.anon (roundN P7 noLoops wh1 [0,7,9,26,27] SH 1000 1001 (mkSt [0,7,9,26,27] (keysR SH) 1001 45 (vsH ⟨g, k, st, ln, j, n⟩ ⟨l, i⟩) (bsH ⟨g, k, st, ln, j, n⟩ ⟨l, i⟩))) = rtH g k st ln j n l i := by kernel_rfl
  rw [← T.eval_anon (t := roundN _ _ _ _ _ _ _ _), e]
  clear e
  simp only [invH, Bool.and_eq_true, decide_eq_true_eq] at h
  obtain ⟨⟨⟨⟨⟨⟨⟨⟨⟨rfl, h1⟩, h2⟩, rfl⟩, rfl⟩, h3⟩, h4⟩, h5⟩, h6⟩, h7⟩ := h
  simp only [nxtH, outH, elH]
  unfold rtH
  by_cases hc : i < l.length
  · rw [if_pos hc]
    refine ⟨fun b hb => ?_, fun h => by cases h⟩
    obtain rfl := Option.some.inj hb
    have e1 : Int.tmod (IntKind.wrap .i64 (st + i)) (g.length : Int) = (st + i) % (g.length : Int) := by
      rw [wrap64_in (n := st + i) (by omega) (by omega), Int.tmod_eq_emod_of_nonneg (by omega)]
    rw [e1, wrap64_in (n := i + 1) (by omega) (by omega)]
    have q1 := Int.emod_nonneg (st + i) (b := (g.length : Int)) (by omega)
    have q2 := Int.emod_lt_of_pos (st + i) (b := (g.length : Int)) (by omega)
    exact tev_then (decide_eq_true hc) (tev_else (by rw [beq_eq_false_iff_ne]; omega) (tev_then (by simp only [Bool.and_eq_true, decide_eq_true_eq]; omega) (tev_then (by simp only [decide_eq_true_eq]; omega) (tev_then (by (first | with_reducible rfl | assumption | (simp only [cond_and, cond_or, Bool.and_eq_true, Bool.or_eq_true, Bool.and_eq_false_iff, Bool.or_eq_false_iff, decide_eq_true_eq, decide_eq_false_iff_not, beq_iff_eq, bne_iff_ne, beq_eq_false_iff_ne, bne_eq_false_iff_eq, Bool.not_eq_true', Bool.not_eq_false', ne_eq, Bool.true_and, Bool.and_true, Bool.false_and, Bool.and_false, Bool.true_or, Bool.or_true, Bool.not_true, Bool.not_false, Bool.cond_true, Bool.cond_false, true_and, and_true]; first | done | omega))) (tev_then (by (first | with_reducible rfl | assumption | (simp only [cond_and, cond_or, Bool.and_eq_true, Bool.or_eq_true, Bool.and_eq_false_iff, Bool.or_eq_false_iff, decide_eq_true_eq, decide_eq_false_iff_not, beq_iff_eq, bne_iff_ne, beq_eq_false_iff_ne, bne_eq_false_iff_eq, Bool.not_eq_true', Bool.not_eq_false', ne_eq, Bool.true_and, Bool.and_true, Bool.false_and, Bool.and_false, Bool.true_or, Bool.or_true, Bool.not_true, Bool.not_false, Bool.cond_true, Bool.cond_false, true_and, and_true]; first | done | omega))) rfl)))))
  · rw [if_neg hc]
    refine ⟨fun b hb => (by cases hb), fun _ r hr => ?_⟩
    obtain rfl := Option.some.inj hr
    exact ⟨by simp, tev_else (decide_eq_false hc) rfl⟩
noncomputable def hlist : List (Nat × LSpec) := [(6, famWN [0,7,9,26,27] SH 1000 1001 45 decH invH nxtH outH)]
theorem hfind : findL hlist 6 = some (famWN [0,7,9,26,27] SH 1000 1001 45 decH invH nxtH outH) := rfl
theorem hreg : firstReg wh1 = some 6 := by kernel_rfl
theorem hlps_ok : ∀ a ∈ loopsIn (codeOf Try.prog 31), ∀ sp, byReg hlist a = some sp → LoopOk P7 a sp := by
  have e : loopsIn (codeOf Try.prog 31) = [wh1] := by kernel_rfl
  rw [e]
  intro a ha
  rcases List.mem_cons.1 ha with h | ha
  · rw [h]; exact byReg_mem hreg hfind lpH_ok
  · cases ha
/-- an arc of n of them from st on -/
def whL (g : List Int) (st : Int) (n : Nat) : List Int := (List.range n).map fun (q : Nat) => gI g ((st + q) % g.length)
theorem whL_length (g : List Int) (st : Int) (n : Nat) : (whL g st n).length = n := by simp [whL]
theorem whL_get (g : List Int) (st : Int) (n q : Nat) (h : q < n) : (whL g st n)[q]? = some (gI g ((st + q) % g.length)) := by simp [whL, h]
theorem endH {p : PH} {l : List Int} (h : invH p ⟨l, 0⟩ = true) : endW (nxtH p) ⟨l, 0⟩ = ⟨whL p.g p.st p.j, p.n⟩ := by
  obtain ⟨h1, h2, h3⟩ := endW_says (stH p) h
  have h4 := h3 (fun a => ∀ q : Nat, (q : Int) < a.i → a.l[q]? = some (elH p q)) (fun q hq => by dsimp only at hq; omega) fun a b hi hq e => by
    obtain ⟨m, i⟩ := a
    simp only [invH, Bool.and_eq_true, decide_eq_true_eq] at hi
    unfold nxtH at e
    split at e
    · rename_i hc
      obtain rfl := Option.some.inj e
      dsimp only at hc hq ⊢
      intro q hq'
      by_cases hqi : (q : Int) = i
      · subst hqi
        rw [Nat.zero_add, Int.toNat_natCast, List.getElem?_set_self (by omega)]
      · rw [List.getElem?_set_ne (by omega)]
        exact hq q (by omega)
    · cases e
  generalize endW (nxtH p) ⟨l, 0⟩ = E at *
  obtain ⟨m, i⟩ := E
  simp only [invH, Bool.and_eq_true, decide_eq_true_eq] at h1
  unfold nxtH at h2
  split at h2
  · cases h2
  · rename_i hc
    dsimp only at hc h4
    have hi : i = p.n := by omega
    subst hi
    congr 1
    apply List.ext_getElem?
    intro q
    by_cases hq : q < p.j
    · rw [h4 q (by omega), whL_get _ _ _ _ hq]
      unfold elH
      rw [show (p.k : Int) = p.g.length by omega]
    · rw [List.getElem?_eq_none (by omega), List.getElem?_eq_none (by rw [whL_length]; omega)]
def asLII {α : Type} (args : List V) (f : List Int → Int → Int → T α) : T α :=
  match args with
  | [.orow t [.int .i64] l, .s (.int .i64 m), .s (.int .i64 r)] => if t = 3 then f l m r else .fail
  | _ => .fail
theorem asLII_some {α : Type} {args : List V} {f : List Int → Int → Int → T α} {r : α} (e : (asLII args f).eval = some r) : ∃ l m z, args = [ori l, iv m, iv z] ∧ (f l m z).eval = some r := by
  unfold asLII at e
  split at e
  · split at e
    · rename_i ht; subst ht; exact ⟨_, _, _, rfl, e⟩
    · cases e
  · cases e
def whichC : Eng.Spec := fun args => asLII args fun l m r => .ite none (decide (l.length ≤ 1000) && decide (r ≤ 9223372036854775807)) (.ret (ori (whL l (startF l.length m r) (lenF l.length m).toNat))) .fail
noncomputable def pH (l : List Int) (m r : Int) : PH := ⟨l, l.length, startF l.length m r, lenF l.length m, (lenF l.length m).toNat, ((lenF l.length m).toNat : Nat)⟩
theorem which_run (l : List Int) (m r : Int) : T.anon (execS P7 (byReg hlist) 31 [ori l, iv m, iv r]) = T.ite none (decide (0 ≤ (l.length : Int)) && decide ((l.length : Int) ≤ 1000) && decide (r ≤ 9223372036854775807)) (T.ite none ((l.length : Int) == 0) (T.ite none (decide ((0 : Nat) = ([] : List Int).length)) (.ret (ori [])) .fail)
    (T.ite none (decide (0 ≤ lenF l.length m) && (decide (lenF l.length m ≤ lenF l.length m) && decide (lenF l.length m ≤ 1000000))) (T.ite none (invH (pH l m r) ⟨List.replicate (lenF l.length m).toNat 0, 0⟩)
      (T.ite none (decide ((lenF l.length m).toNat = (endW (nxtH (pH l m r)) ⟨List.replicate (lenF l.length m).toNat 0, 0⟩).l.length)) (.ret (ori (endW (nxtH (pH l m r)) ⟨List.replicate (lenF l.length m).toNat 0, 0⟩).l)) .fail) .fail) .fail)) .fail := by kernel_rfl
theorem guard_eval {c : Bool} {x : T V} {v : V} (h : (T.ite none c x .fail).eval = some v) : c = true ∧ x.eval = some v := by
  cases c
  · cases h
  · exact ⟨rfl, h⟩
theorem whichC_ok : SpecOk Try.prog 31 whichC := by
  refine (execS_loops (Λ := byReg hlist) P7_ok mixed Try.func31 (by kernel_rfl) (by kernel_rfl) hlps_ok).of_eval fun args v h => ?_
  obtain ⟨l, m, r, rfl, h1⟩ := asLII_some (show (asLII args _).eval = some v from h)
  clear h
  obtain ⟨hk, h⟩ := guard_eval h1
  obtain rfl := Option.some.inj h
  simp only [Bool.and_eq_true, decide_eq_true_eq] at hk
  rw [← T.eval_anon, which_run]
  refine tev_then (by simp only [Bool.and_eq_true, decide_eq_true_eq]; omega) ?_
  by_cases q : l.length = 0
  · have hl : l = [] := List.length_eq_zero_iff.1 q
    subst hl
    have e : (lenF (([] : List Int).length : Int) m).toNat = 0 := by
      unfold lenF
      have : sizeF (([] : List Int).length : Int) = 0 := rfl
      rw [this]
      split
      · split <;> omega
      · rfl
    rw [e]
    exact tev_then rfl (tev_then rfl rfl)
  · obtain ⟨b1, b2, b3⟩ := lenF_range (n := (l.length : Int)) (by omega) m
    have c1 : 0 ≤ startF l.length m r := Int.emod_nonneg _ (by omega)
    have c2 : startF l.length m r < l.length := Int.emod_lt_of_pos _ (by omega)
    have hi : invH (pH l m r) ⟨List.replicate (lenF l.length m).toNat 0, 0⟩ = true := by
      unfold pH
      simp only [invH, Bool.and_eq_true, decide_eq_true_eq, List.length_replicate]
      exact ⟨⟨⟨⟨⟨⟨⟨⟨⟨trivial, by omega⟩, by omega⟩, trivial⟩, trivial⟩, by omega⟩, by omega⟩, by omega⟩, c1⟩, c2⟩
    refine tev_else (by rw [beq_eq_false_iff_ne]; omega) (tev_then (by simp only [Bool.and_eq_true, decide_eq_true_eq]; omega) (tev_then hi ?_))
    rw [endH hi]
    refine tev_then ?_ rfl
    simp only [decide_eq_true_eq]
    rw [whL_length]; rfl
noncomputable def P8 : Cfg := ⟨Try.prog, lookG [(30, .val yesD), (29, .val sizeS), (31, .val whichC)], [], 0⟩
theorem P8_ok : P8.Ok := Cfg.ok ⟨told_ok, sizeS_ok, whichC_ok, trivial⟩ trivial
end Go.Proofs.Ytmijloophkkanaa.Sam
