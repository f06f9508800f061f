/- Layer 22: ZeroGrace; layer 14: the plays of the alarm. -/
import Derived.Test.YtdkebjdhpioehaaAzZT
import Derived.Test.YtdkebjdhpioehaaAzM
namespace Go.Proofs.Ytdkebjdhpioehaa.Conf
open Go.Eng Go.RowKit Mil
set_option linter.unusedVariables false
set_option linter.unusedSimpArgs false
theorem zeroGrace_walk (l : List Bool) (_ : l.length ≤ maxLen) (x : Value) (a : Int) (_ : (Lit.int .i64 a).wf = true) (b : Int) (_ : (Lit.int .i64 b).wf = true) (c : Int) (_ : (Lit.int .i64 c).wf = true) (w : World) (hx : holdsP 0 w (.orow 4 [.bool] l) x) :
    Calls Try.prog 21 #[x, .int .i64 a, .int .i64 b, .int .i64 c] w fun e w' => e = .returned (.bool true) ∧ Below w.heap.size w w' := by
  refine Law.law_rows (args := [.orow 4 [.bool] l, intV a, intV b, intV c]) (xs := [x, .int .i64 a, .int .i64 b, .int .i64 c]) (execS_loops (Λ := byReg zlist) ZL_ok mixed Try.func21 (by kernel_rfl) (by kernel_rfl) zlps_ok) rfl (yes_anon ?_) w ⟨hx, rfl, rfl, rfl, trivial⟩
  have e : T.anon (execS ZL (byReg zlist) 21 [.orow 4 [.bool] l, intV a, intV b, intV c]) = lawZ l a b c := by kernel_rfl
  rw [e]
  exact yes_then (by simp [invZ]) yes_tt
def decP : List V → List Blk → Option (PP × AP)
  | [.sub 0 1 0 k, .sub 1 1 0 j, .ff, .ptr 2 0, .ptr 18 0, .s (.int .i64 la), .s (.int .i64 mo), .s (.int .i64 i)], [.lst false t [.bool] l, .lst false t' [.int .i64] r, .cells t1 l1, .cells t2 [.s (.int .i64 s), .s (.int .i64 m)]] =>
    if t = 4 ∧ t' = 3 ∧ t1 = 23 ∧ t2 = 42 then (cfOf l1).bind fun e => if cfEq e dflt then some (⟨l, k, r, j⟩, ⟨s, m, la, mo, i⟩) else none else none
  | _, _ => none
theorem decP_ok (l : List V) (b : List Blk) (d : PP × AP) (h : decP l b = some d) : l = vsP d.1 d.2 ∧ b = bsP d.1 d.2 := by
  unfold decP at h
  split at h
  · split at h
    · rename_i ht
      obtain ⟨c, hc, h⟩ := Option.bind_eq_some_iff.1 h
      split at h
      · rename_i he
        obtain rfl := cfEq_eq he
        cases h
        obtain ⟨rfl, rfl, rfl, rfl⟩ := ht
        exact ⟨rfl, by rw [cfOf_some hc]; rfl⟩
      · cases h
    · cases h
  · cases h
def invP (p : PP) (a : AP) : Bool := decide (p.k = p.l.length ∧ p.j = p.r.length ∧ 0 ≤ a.i ∧ ((a.s = -1 ∧ a.m = 0 ∧ a.la = -1) ∨ (0 ≤ a.s ∧ a.la = a.s ∧ a.s < a.i ∧ a.m = a.mo ∧ 0 ≤ a.mo)))
def wP (p : PP) (i : Int) : Int := if i < p.j then gI p.r i else 0
def nxtP (p : PP) (a : AP) : Option AP :=
  if a.i < p.k ∧ a.i < 200 then
    if gB p.l a.i then (if a.la < 0 then some ⟨a.i, mx (wP p a.i) 0, a.i, mx (wP p a.i) 0, a.i + 1⟩ else some ⟨a.i, mx (wP p a.i) a.mo, a.i, mx (wP p a.i) a.mo, a.i + 1⟩)
    else if 0 ≤ a.la ∧ a.i - a.la < 60 then some ⟨a.la, mx (wP p a.i) a.mo, a.la, mx (wP p a.i) a.mo, a.i + 1⟩
    else some ⟨-1, 0, -1, a.mo, a.i + 1⟩
  else none
noncomputable def outP (p : PP) (a : AP) : T (Ex × St) := .ret (.exit 0, FP p a)
theorem mx_ge (a b : Int) : b ≤ mx a b := by unfold mx; split <;> omega
theorem stP (p : PP) (a b : AP) (h : invP p a = true) (e : nxtP p a = some b) : invP p b = true ∧ (200 - b.i).toNat < (200 - a.i).toNat := by
  obtain ⟨s, m, la, mo, i⟩ := a
  simp only [invP, decide_eq_true_eq] at h
  obtain ⟨h1, h2, h3, h4⟩ := h
  unfold nxtP at e
  split at e
  · rename_i hc
    have hi : (200 - (i + 1)).toNat < (200 - i).toNat := by have := hc.2; dsimp only at this; omega
    split at e
    · split at e
      · obtain rfl := Option.some.inj e
        exact ⟨decide_eq_true ⟨h1, h2, by show 0 ≤ i + 1; omega, .inr ⟨h3, rfl, by show i < i + 1; omega, rfl, mx_ge _ _⟩⟩, hi⟩
      · obtain rfl := Option.some.inj e
        rename_i hl
        dsimp only at hl
        exact ⟨decide_eq_true ⟨h1, h2, by show 0 ≤ i + 1; omega, .inr ⟨h3, rfl, by show i < i + 1; omega, rfl, Int.le_trans (b := mo) (by omega) (mx_ge _ _)⟩⟩, hi⟩
    · split at e
      · obtain rfl := Option.some.inj e
        rename_i hl
        dsimp only at hl
        exact ⟨decide_eq_true ⟨h1, h2, by show 0 ≤ i + 1; omega, .inr ⟨hl.1, rfl, by show la < i + 1; omega, rfl, Int.le_trans (b := mo) (by omega) (mx_ge _ _)⟩⟩, hi⟩
      · obtain rfl := Option.some.inj e
        exact ⟨decide_eq_true ⟨h1, h2, by show 0 ≤ i + 1; omega, .inl ⟨rfl, rfl, rfl⟩⟩, hi⟩
  · cases e
theorem mx_ite (a b : Int) : (if a > b then a else b) = mx a b := rfl
theorem keepA_in {L M w : Int} (h : 0 ≤ L) : keepA ⟨L, M⟩ w = ⟨L, mx w M⟩ := by unfold keepA; rw [if_neg (show ¬ L < 0 by omega)]; rfl
theorem keepW_in {L M w : Int} (h : 0 ≤ L) : keepW ⟨L, M⟩ w = mx w M := by unfold keepW; rw [if_neg (show ¬ L < 0 by omega)]; rfl
theorem keepA_out {w : Int} : keepA ⟨-1, 0⟩ w = ⟨-1, 0⟩ := rfl
theorem keepW_out {w : Int} : keepW ⟨-1, 0⟩ w = w := rfl
theorem mx_00 : mx 0 0 = 0 := rfl
theorem mx_0 {m : Int} (h : 0 ≤ m) : mx 0 m = m := by unfold mx; split <;> omega
theorem roundP (l : List Bool) (r : List Int) (s m la mo i : Int) (h0 : 0 ≤ i) (h4 : (s = -1 ∧ m = 0 ∧ la = -1) ∨ (0 ≤ s ∧ la = s ∧ s < i ∧ m = mo ∧ 0 ≤ mo)) :
    (∀ b, nxtP ⟨l, l.length, r, r.length⟩ ⟨s, m, la, mo, i⟩ = some b → (rtP l l.length r r.length s m la mo i).eval = some (.normal, FP ⟨l, l.length, r, r.length⟩ b)) ∧
    (nxtP ⟨l, l.length, r, r.length⟩ ⟨s, m, la, mo, i⟩ = none → (rtP l l.length r r.length s m la mo i).eval = some (.exit 0, FP ⟨l, l.length, r, r.length⟩ ⟨s, m, la, mo, i⟩)) := by
  simp only [nxtP, wP]
  by_cases hc : i < l.length ∧ i < 200
  · rw [if_pos hc]
    refine ⟨fun x hx => ?_, fun h => by repeat (first | cases h | split at h)⟩
    have hb : gB l i = true ∨ gB l i = false := by cases gB l i <;> simp
    have hM : mayB dflt = true := by decide
    have hst : dflt.stable = 60 := rfl
    have g : inR i = true := inR_in (by omega) (by omega)
    have gs : inR s = true := inR_in (by omega) (by omega)
    have g2 : (inR s && inR i) = true := by rw [g, gs]; rfl
    have hw : IntKind.wrap .i64 (i + 1) = i + 1 := wrap64_in (by omega) (by omega)
    have hd : IntKind.wrap .i64 (i - la) = i - la := wrap64_in (by omega) (by omega)
    unfold rtP
    rw [g2, hw, hd]
    refine tev_then (by (first | with_reducible rfl | assumption | (simp only [cond_and, cond_or, Bool.and_eq_true, Bool.or_eq_true, Bool.and_eq_false_iff, Bool.or_eq_false_iff, decide_eq_true_eq, decide_eq_false_iff_not, beq_iff_eq, bne_iff_ne, beq_eq_false_iff_ne, bne_eq_false_iff_eq, Bool.not_eq_true', Bool.not_eq_false', ne_eq, Bool.true_and, Bool.and_true, Bool.false_and, Bool.and_false, Bool.true_or, Bool.or_true, Bool.not_true, Bool.not_false, Bool.cond_true, Bool.cond_false, true_and, and_true]; first | done | omega))) (tev_then (by (first | with_reducible rfl | assumption | (simp only [cond_and, cond_or, Bool.and_eq_true, Bool.or_eq_true, Bool.and_eq_false_iff, Bool.or_eq_false_iff, decide_eq_true_eq, decide_eq_false_iff_not, beq_iff_eq, bne_iff_ne, beq_eq_false_iff_ne, bne_eq_false_iff_eq, Bool.not_eq_true', Bool.not_eq_false', ne_eq, Bool.true_and, Bool.and_true, Bool.false_and, Bool.and_false, Bool.true_or, Bool.or_true, Bool.not_true, Bool.not_false, Bool.cond_true, Bool.cond_false, true_and, and_true]; first | done | omega))) (tev_then (by (first | with_reducible rfl | assumption | (simp only [cond_and, cond_or, Bool.and_eq_true, Bool.or_eq_true, Bool.and_eq_false_iff, Bool.or_eq_false_iff, decide_eq_true_eq, decide_eq_false_iff_not, beq_iff_eq, bne_iff_ne, beq_eq_false_iff_ne, bne_eq_false_iff_eq, Bool.not_eq_true', Bool.not_eq_false', ne_eq, Bool.true_and, Bool.and_true, Bool.false_and, Bool.and_false, Bool.true_or, Bool.or_true, Bool.not_true, Bool.not_false, Bool.cond_true, Bool.cond_false, true_and, and_true]; first | done | omega))) (tev_then rfl (tev_then (by (first | with_reducible rfl | assumption | (simp only [cond_and, cond_or, Bool.and_eq_true, Bool.or_eq_true, Bool.and_eq_false_iff, Bool.or_eq_false_iff, decide_eq_true_eq, decide_eq_false_iff_not, beq_iff_eq, bne_iff_ne, beq_eq_false_iff_ne, bne_eq_false_iff_eq, Bool.not_eq_true', Bool.not_eq_false', ne_eq, Bool.true_and, Bool.and_true, Bool.false_and, Bool.and_false, Bool.true_or, Bool.or_true, Bool.not_true, Bool.not_false, Bool.cond_true, Bool.cond_false, true_and, and_true]; first | done | omega))) (tev_then (by (first | with_reducible rfl | assumption | (simp only [cond_and, cond_or, Bool.and_eq_true, Bool.or_eq_true, Bool.and_eq_false_iff, Bool.or_eq_false_iff, decide_eq_true_eq, decide_eq_false_iff_not, beq_iff_eq, bne_iff_ne, beq_eq_false_iff_ne, bne_eq_false_iff_eq, Bool.not_eq_true', Bool.not_eq_false', ne_eq, Bool.true_and, Bool.and_true, Bool.false_and, Bool.and_false, Bool.true_or, Bool.or_true, Bool.not_true, Bool.not_false, Bool.cond_true, Bool.cond_false, true_and, and_true]; first | done | omega))) ?_)))))
    rcases hb with hb | hb
    · simp only [hb, if_true] at hx ⊢
      refine tev_then rfl ?_
      rcases h4 with ⟨rfl, rfl, rfl⟩ | ⟨h5, rfl, h6, rfl, h7⟩
      · have hn : nextA dflt ⟨-1, 0⟩ i true = ⟨i, 0⟩ := nx_true hM h0 (by omega)
        rw [if_pos (by decide)] at hx
        obtain rfl := Option.some.inj hx
        simp only [hn, keepA_in h0, keepW_in h0, mx_ite]
        refine tev_then rfl (tev_else (by rw [decide_eq_true h0]; simp) ?_)
        by_cases hj : i < r.length
        · rw [if_pos hj]
          refine tev_then (by (first | with_reducible rfl | assumption | (simp only [cond_and, cond_or, Bool.and_eq_true, Bool.or_eq_true, Bool.and_eq_false_iff, Bool.or_eq_false_iff, decide_eq_true_eq, decide_eq_false_iff_not, beq_iff_eq, bne_iff_ne, beq_eq_false_iff_ne, bne_eq_false_iff_eq, Bool.not_eq_true', Bool.not_eq_false', ne_eq, Bool.true_and, Bool.and_true, Bool.false_and, Bool.and_false, Bool.true_or, Bool.or_true, Bool.not_true, Bool.not_false, Bool.cond_true, Bool.cond_false, true_and, and_true]; first | done | omega))) (tev_then (by (first | with_reducible rfl | assumption | (simp only [cond_and, cond_or, Bool.and_eq_true, Bool.or_eq_true, Bool.and_eq_false_iff, Bool.or_eq_false_iff, decide_eq_true_eq, decide_eq_false_iff_not, beq_iff_eq, bne_iff_ne, beq_eq_false_iff_ne, bne_eq_false_iff_eq, Bool.not_eq_true', Bool.not_eq_false', ne_eq, Bool.true_and, Bool.and_true, Bool.false_and, Bool.and_false, Bool.true_or, Bool.or_true, Bool.not_true, Bool.not_false, Bool.cond_true, Bool.cond_false, true_and, and_true]; first | done | omega))) (tev_then (by (first | with_reducible rfl | assumption | (simp only [cond_and, cond_or, Bool.and_eq_true, Bool.or_eq_true, Bool.and_eq_false_iff, Bool.or_eq_false_iff, decide_eq_true_eq, decide_eq_false_iff_not, beq_iff_eq, bne_iff_ne, beq_eq_false_iff_ne, bne_eq_false_iff_eq, Bool.not_eq_true', Bool.not_eq_false', ne_eq, Bool.true_and, Bool.and_true, Bool.false_and, Bool.and_false, Bool.true_or, Bool.or_true, Bool.not_true, Bool.not_false, Bool.cond_true, Bool.cond_false, true_and, and_true]; first | done | omega))) (tev_then (by (first | with_reducible rfl | assumption | (simp only [cond_and, cond_or, Bool.and_eq_true, Bool.or_eq_true, Bool.and_eq_false_iff, Bool.or_eq_false_iff, decide_eq_true_eq, decide_eq_false_iff_not, beq_iff_eq, bne_iff_ne, beq_eq_false_iff_ne, bne_eq_false_iff_eq, Bool.not_eq_true', Bool.not_eq_false', ne_eq, Bool.true_and, Bool.and_true, Bool.false_and, Bool.and_false, Bool.true_or, Bool.or_true, Bool.not_true, Bool.not_false, Bool.cond_true, Bool.cond_false, true_and, and_true]; first | done | omega))) (tev_else (by simp) rfl))))
        · rw [if_neg hj]
          exact tev_else (by (first | with_reducible rfl | assumption | (simp only [cond_and, cond_or, Bool.and_eq_true, Bool.or_eq_true, Bool.and_eq_false_iff, Bool.or_eq_false_iff, decide_eq_true_eq, decide_eq_false_iff_not, beq_iff_eq, bne_iff_ne, beq_eq_false_iff_ne, bne_eq_false_iff_eq, Bool.not_eq_true', Bool.not_eq_false', ne_eq, Bool.true_and, Bool.and_true, Bool.false_and, Bool.and_false, Bool.true_or, Bool.or_true, Bool.not_true, Bool.not_false, Bool.cond_true, Bool.cond_false, true_and, and_true]; first | done | omega))) (tev_then (by (first | with_reducible rfl | assumption | (simp only [cond_and, cond_or, Bool.and_eq_true, Bool.or_eq_true, Bool.and_eq_false_iff, Bool.or_eq_false_iff, decide_eq_true_eq, decide_eq_false_iff_not, beq_iff_eq, bne_iff_ne, beq_eq_false_iff_ne, bne_eq_false_iff_eq, Bool.not_eq_true', Bool.not_eq_false', ne_eq, Bool.true_and, Bool.and_true, Bool.false_and, Bool.and_false, Bool.true_or, Bool.or_true, Bool.not_true, Bool.not_false, Bool.cond_true, Bool.cond_false, true_and, and_true]; first | done | omega))) (tev_else (by simp [mx_00]) rfl))
      · have hn : nextA dflt ⟨la, m⟩ i true = ⟨i, m⟩ := by rw [nx_true hM h0 (by omega)]; rw [if_neg (show ¬ la < 0 by omega)]
        rw [if_neg (by omega)] at hx
        obtain rfl := Option.some.inj hx
        simp only [hn, keepA_in h0, keepW_in h0, mx_ite]
        refine tev_else (by (first | with_reducible rfl | assumption | (simp only [cond_and, cond_or, Bool.and_eq_true, Bool.or_eq_true, Bool.and_eq_false_iff, Bool.or_eq_false_iff, decide_eq_true_eq, decide_eq_false_iff_not, beq_iff_eq, bne_iff_ne, beq_eq_false_iff_ne, bne_eq_false_iff_eq, Bool.not_eq_true', Bool.not_eq_false', ne_eq, Bool.true_and, Bool.and_true, Bool.false_and, Bool.and_false, Bool.true_or, Bool.or_true, Bool.not_true, Bool.not_false, Bool.cond_true, Bool.cond_false, true_and, and_true]; first | done | omega))) (tev_else (by rw [decide_eq_true h0]; simp) ?_)
        by_cases hj : i < r.length
        · rw [if_pos hj]
          refine tev_then (by (first | with_reducible rfl | assumption | (simp only [cond_and, cond_or, Bool.and_eq_true, Bool.or_eq_true, Bool.and_eq_false_iff, Bool.or_eq_false_iff, decide_eq_true_eq, decide_eq_false_iff_not, beq_iff_eq, bne_iff_ne, beq_eq_false_iff_ne, bne_eq_false_iff_eq, Bool.not_eq_true', Bool.not_eq_false', ne_eq, Bool.true_and, Bool.and_true, Bool.false_and, Bool.and_false, Bool.true_or, Bool.or_true, Bool.not_true, Bool.not_false, Bool.cond_true, Bool.cond_false, true_and, and_true]; first | done | omega))) (tev_then (by (first | with_reducible rfl | assumption | (simp only [cond_and, cond_or, Bool.and_eq_true, Bool.or_eq_true, Bool.and_eq_false_iff, Bool.or_eq_false_iff, decide_eq_true_eq, decide_eq_false_iff_not, beq_iff_eq, bne_iff_ne, beq_eq_false_iff_ne, bne_eq_false_iff_eq, Bool.not_eq_true', Bool.not_eq_false', ne_eq, Bool.true_and, Bool.and_true, Bool.false_and, Bool.and_false, Bool.true_or, Bool.or_true, Bool.not_true, Bool.not_false, Bool.cond_true, Bool.cond_false, true_and, and_true]; first | done | omega))) (tev_then (by (first | with_reducible rfl | assumption | (simp only [cond_and, cond_or, Bool.and_eq_true, Bool.or_eq_true, Bool.and_eq_false_iff, Bool.or_eq_false_iff, decide_eq_true_eq, decide_eq_false_iff_not, beq_iff_eq, bne_iff_ne, beq_eq_false_iff_ne, bne_eq_false_iff_eq, Bool.not_eq_true', Bool.not_eq_false', ne_eq, Bool.true_and, Bool.and_true, Bool.false_and, Bool.and_false, Bool.true_or, Bool.or_true, Bool.not_true, Bool.not_false, Bool.cond_true, Bool.cond_false, true_and, and_true]; first | done | omega))) (tev_then (by (first | with_reducible rfl | assumption | (simp only [cond_and, cond_or, Bool.and_eq_true, Bool.or_eq_true, Bool.and_eq_false_iff, Bool.or_eq_false_iff, decide_eq_true_eq, decide_eq_false_iff_not, beq_iff_eq, bne_iff_ne, beq_eq_false_iff_ne, bne_eq_false_iff_eq, Bool.not_eq_true', Bool.not_eq_false', ne_eq, Bool.true_and, Bool.and_true, Bool.false_and, Bool.and_false, Bool.true_or, Bool.or_true, Bool.not_true, Bool.not_false, Bool.cond_true, Bool.cond_false, true_and, and_true]; first | done | omega))) (tev_else (by simp) rfl))))
        · rw [if_neg hj]
          exact tev_else (by (first | with_reducible rfl | assumption | (simp only [cond_and, cond_or, Bool.and_eq_true, Bool.or_eq_true, Bool.and_eq_false_iff, Bool.or_eq_false_iff, decide_eq_true_eq, decide_eq_false_iff_not, beq_iff_eq, bne_iff_ne, beq_eq_false_iff_ne, bne_eq_false_iff_eq, Bool.not_eq_true', Bool.not_eq_false', ne_eq, Bool.true_and, Bool.and_true, Bool.false_and, Bool.and_false, Bool.true_or, Bool.or_true, Bool.not_true, Bool.not_false, Bool.cond_true, Bool.cond_false, true_and, and_true]; first | done | omega))) (tev_then (by (first | with_reducible rfl | assumption | (simp only [cond_and, cond_or, Bool.and_eq_true, Bool.or_eq_true, Bool.and_eq_false_iff, Bool.or_eq_false_iff, decide_eq_true_eq, decide_eq_false_iff_not, beq_iff_eq, bne_iff_ne, beq_eq_false_iff_ne, bne_eq_false_iff_eq, Bool.not_eq_true', Bool.not_eq_false', ne_eq, Bool.true_and, Bool.and_true, Bool.false_and, Bool.and_false, Bool.true_or, Bool.or_true, Bool.not_true, Bool.not_false, Bool.cond_true, Bool.cond_false, true_and, and_true]; first | done | omega))) (tev_else (by simp) rfl))
    · simp only [hb, Bool.false_eq_true, if_false] at hx ⊢
      refine tev_else rfl ?_
      rcases h4 with ⟨rfl, rfl, rfl⟩ | ⟨h5, rfl, h6, rfl, h7⟩
      · have hn : nextA dflt ⟨-1, 0⟩ i false = ⟨-1, 0⟩ := by
          unfold nextA
          rw [hM, decide_eq_false (show ¬ i < 0 by omega), decide_eq_false (show ¬ 1099511627776 < i by omega)]
          simp
        rw [if_neg (by omega)] at hx
        obtain rfl := Option.some.inj hx
        simp only [hn, keepA_out, keepW_out, mx_ite]
        refine tev_else rfl (tev_else rfl ?_)
        by_cases hj : i < r.length
        · refine tev_then (by (first | with_reducible rfl | assumption | (simp only [cond_and, cond_or, Bool.and_eq_true, Bool.or_eq_true, Bool.and_eq_false_iff, Bool.or_eq_false_iff, decide_eq_true_eq, decide_eq_false_iff_not, beq_iff_eq, bne_iff_ne, beq_eq_false_iff_ne, bne_eq_false_iff_eq, Bool.not_eq_true', Bool.not_eq_false', ne_eq, Bool.true_and, Bool.and_true, Bool.false_and, Bool.and_false, Bool.true_or, Bool.or_true, Bool.not_true, Bool.not_false, Bool.cond_true, Bool.cond_false, true_and, and_true]; first | done | omega))) (tev_then (by (first | with_reducible rfl | assumption | (simp only [cond_and, cond_or, Bool.and_eq_true, Bool.or_eq_true, Bool.and_eq_false_iff, Bool.or_eq_false_iff, decide_eq_true_eq, decide_eq_false_iff_not, beq_iff_eq, bne_iff_ne, beq_eq_false_iff_ne, bne_eq_false_iff_eq, Bool.not_eq_true', Bool.not_eq_false', ne_eq, Bool.true_and, Bool.and_true, Bool.false_and, Bool.and_false, Bool.true_or, Bool.or_true, Bool.not_true, Bool.not_false, Bool.cond_true, Bool.cond_false, true_and, and_true]; first | done | omega))) (tev_then (by (first | with_reducible rfl | assumption | (simp only [cond_and, cond_or, Bool.and_eq_true, Bool.or_eq_true, Bool.and_eq_false_iff, Bool.or_eq_false_iff, decide_eq_true_eq, decide_eq_false_iff_not, beq_iff_eq, bne_iff_ne, beq_eq_false_iff_ne, bne_eq_false_iff_eq, Bool.not_eq_true', Bool.not_eq_false', ne_eq, Bool.true_and, Bool.and_true, Bool.false_and, Bool.and_false, Bool.true_or, Bool.or_true, Bool.not_true, Bool.not_false, Bool.cond_true, Bool.cond_false, true_and, and_true]; first | done | omega))) (tev_else rfl (tev_else (by simp) rfl))))
        · exact tev_else (by (first | with_reducible rfl | assumption | (simp only [cond_and, cond_or, Bool.and_eq_true, Bool.or_eq_true, Bool.and_eq_false_iff, Bool.or_eq_false_iff, decide_eq_true_eq, decide_eq_false_iff_not, beq_iff_eq, bne_iff_ne, beq_eq_false_iff_ne, bne_eq_false_iff_eq, Bool.not_eq_true', Bool.not_eq_false', ne_eq, Bool.true_and, Bool.and_true, Bool.false_and, Bool.and_false, Bool.true_or, Bool.or_true, Bool.not_true, Bool.not_false, Bool.cond_true, Bool.cond_false, true_and, and_true]; first | done | omega))) (tev_else rfl (tev_else (by simp) rfl))
      · by_cases h8 : i - la < 60
        · have hn : nextA dflt ⟨la, m⟩ i false = ⟨la, m⟩ := by rw [nx_false hM h0 (by omega) h5, hst]; rw [if_neg (show ¬ 60 ≤ i - la by omega)]
          rw [if_pos (by omega)] at hx
          obtain rfl := Option.some.inj hx
          simp only [hn, keepA_in h5, keepW_in h5, mx_ite]
          refine tev_else (by (first | with_reducible rfl | assumption | (simp only [cond_and, cond_or, Bool.and_eq_true, Bool.or_eq_true, Bool.and_eq_false_iff, Bool.or_eq_false_iff, decide_eq_true_eq, decide_eq_false_iff_not, beq_iff_eq, bne_iff_ne, beq_eq_false_iff_ne, bne_eq_false_iff_eq, Bool.not_eq_true', Bool.not_eq_false', ne_eq, Bool.true_and, Bool.and_true, Bool.false_and, Bool.and_false, Bool.true_or, Bool.or_true, Bool.not_true, Bool.not_false, Bool.cond_true, Bool.cond_false, true_and, and_true]; first | done | omega))) (tev_else (by rw [decide_eq_true h5]; simp) ?_)
          by_cases hj : i < r.length
          · rw [if_pos hj]
            refine tev_then (by (first | with_reducible rfl | assumption | (simp only [cond_and, cond_or, Bool.and_eq_true, Bool.or_eq_true, Bool.and_eq_false_iff, Bool.or_eq_false_iff, decide_eq_true_eq, decide_eq_false_iff_not, beq_iff_eq, bne_iff_ne, beq_eq_false_iff_ne, bne_eq_false_iff_eq, Bool.not_eq_true', Bool.not_eq_false', ne_eq, Bool.true_and, Bool.and_true, Bool.false_and, Bool.and_false, Bool.true_or, Bool.or_true, Bool.not_true, Bool.not_false, Bool.cond_true, Bool.cond_false, true_and, and_true]; first | done | omega))) (tev_then (by (first | with_reducible rfl | assumption | (simp only [cond_and, cond_or, Bool.and_eq_true, Bool.or_eq_true, Bool.and_eq_false_iff, Bool.or_eq_false_iff, decide_eq_true_eq, decide_eq_false_iff_not, beq_iff_eq, bne_iff_ne, beq_eq_false_iff_ne, bne_eq_false_iff_eq, Bool.not_eq_true', Bool.not_eq_false', ne_eq, Bool.true_and, Bool.and_true, Bool.false_and, Bool.and_false, Bool.true_or, Bool.or_true, Bool.not_true, Bool.not_false, Bool.cond_true, Bool.cond_false, true_and, and_true]; first | done | omega))) (tev_then (by (first | with_reducible rfl | assumption | (simp only [cond_and, cond_or, Bool.and_eq_true, Bool.or_eq_true, Bool.and_eq_false_iff, Bool.or_eq_false_iff, decide_eq_true_eq, decide_eq_false_iff_not, beq_iff_eq, bne_iff_ne, beq_eq_false_iff_ne, bne_eq_false_iff_eq, Bool.not_eq_true', Bool.not_eq_false', ne_eq, Bool.true_and, Bool.and_true, Bool.false_and, Bool.and_false, Bool.true_or, Bool.or_true, Bool.not_true, Bool.not_false, Bool.cond_true, Bool.cond_false, true_and, and_true]; first | done | omega))) (tev_then (by (first | with_reducible rfl | assumption | (simp only [cond_and, cond_or, Bool.and_eq_true, Bool.or_eq_true, Bool.and_eq_false_iff, Bool.or_eq_false_iff, decide_eq_true_eq, decide_eq_false_iff_not, beq_iff_eq, bne_iff_ne, beq_eq_false_iff_ne, bne_eq_false_iff_eq, Bool.not_eq_true', Bool.not_eq_false', ne_eq, Bool.true_and, Bool.and_true, Bool.false_and, Bool.and_false, Bool.true_or, Bool.or_true, Bool.not_true, Bool.not_false, Bool.cond_true, Bool.cond_false, true_and, and_true]; first | done | omega))) (tev_else (by simp) rfl))))
          · rw [if_neg hj]
            exact tev_else (by (first | with_reducible rfl | assumption | (simp only [cond_and, cond_or, Bool.and_eq_true, Bool.or_eq_true, Bool.and_eq_false_iff, Bool.or_eq_false_iff, decide_eq_true_eq, decide_eq_false_iff_not, beq_iff_eq, bne_iff_ne, beq_eq_false_iff_ne, bne_eq_false_iff_eq, Bool.not_eq_true', Bool.not_eq_false', ne_eq, Bool.true_and, Bool.and_true, Bool.false_and, Bool.and_false, Bool.true_or, Bool.or_true, Bool.not_true, Bool.not_false, Bool.cond_true, Bool.cond_false, true_and, and_true]; first | done | omega))) (tev_then (by (first | with_reducible rfl | assumption | (simp only [cond_and, cond_or, Bool.and_eq_true, Bool.or_eq_true, Bool.and_eq_false_iff, Bool.or_eq_false_iff, decide_eq_true_eq, decide_eq_false_iff_not, beq_iff_eq, bne_iff_ne, beq_eq_false_iff_ne, bne_eq_false_iff_eq, Bool.not_eq_true', Bool.not_eq_false', ne_eq, Bool.true_and, Bool.and_true, Bool.false_and, Bool.and_false, Bool.true_or, Bool.or_true, Bool.not_true, Bool.not_false, Bool.cond_true, Bool.cond_false, true_and, and_true]; first | done | omega))) (tev_else (by simp) rfl))
        · have hn : nextA dflt ⟨la, m⟩ i false = ⟨-1, 0⟩ := by rw [nx_false hM h0 (by omega) h5, hst]; rw [if_pos (show 60 ≤ i - la by omega)]
          rw [if_neg (by omega)] at hx
          obtain rfl := Option.some.inj hx
          simp only [hn, keepA_out, keepW_out, mx_ite]
          refine tev_then (by (first | with_reducible rfl | assumption | (simp only [cond_and, cond_or, Bool.and_eq_true, Bool.or_eq_true, Bool.and_eq_false_iff, Bool.or_eq_false_iff, decide_eq_true_eq, decide_eq_false_iff_not, beq_iff_eq, bne_iff_ne, beq_eq_false_iff_ne, bne_eq_false_iff_eq, Bool.not_eq_true', Bool.not_eq_false', ne_eq, Bool.true_and, Bool.and_true, Bool.false_and, Bool.and_false, Bool.true_or, Bool.or_true, Bool.not_true, Bool.not_false, Bool.cond_true, Bool.cond_false, true_and, and_true]; first | done | omega))) (tev_else rfl ?_)
          by_cases hj : i < r.length
          · refine tev_then (by (first | with_reducible rfl | assumption | (simp only [cond_and, cond_or, Bool.and_eq_true, Bool.or_eq_true, Bool.and_eq_false_iff, Bool.or_eq_false_iff, decide_eq_true_eq, decide_eq_false_iff_not, beq_iff_eq, bne_iff_ne, beq_eq_false_iff_ne, bne_eq_false_iff_eq, Bool.not_eq_true', Bool.not_eq_false', ne_eq, Bool.true_and, Bool.and_true, Bool.false_and, Bool.and_false, Bool.true_or, Bool.or_true, Bool.not_true, Bool.not_false, Bool.cond_true, Bool.cond_false, true_and, and_true]; first | done | omega))) (tev_then (by (first | with_reducible rfl | assumption | (simp only [cond_and, cond_or, Bool.and_eq_true, Bool.or_eq_true, Bool.and_eq_false_iff, Bool.or_eq_false_iff, decide_eq_true_eq, decide_eq_false_iff_not, beq_iff_eq, bne_iff_ne, beq_eq_false_iff_ne, bne_eq_false_iff_eq, Bool.not_eq_true', Bool.not_eq_false', ne_eq, Bool.true_and, Bool.and_true, Bool.false_and, Bool.and_false, Bool.true_or, Bool.or_true, Bool.not_true, Bool.not_false, Bool.cond_true, Bool.cond_false, true_and, and_true]; first | done | omega))) (tev_then (by (first | with_reducible rfl | assumption | (simp only [cond_and, cond_or, Bool.and_eq_true, Bool.or_eq_true, Bool.and_eq_false_iff, Bool.or_eq_false_iff, decide_eq_true_eq, decide_eq_false_iff_not, beq_iff_eq, bne_iff_ne, beq_eq_false_iff_ne, bne_eq_false_iff_eq, Bool.not_eq_true', Bool.not_eq_false', ne_eq, Bool.true_and, Bool.and_true, Bool.false_and, Bool.and_false, Bool.true_or, Bool.or_true, Bool.not_true, Bool.not_false, Bool.cond_true, Bool.cond_false, true_and, and_true]; first | done | omega))) (tev_else (by simp) rfl)))
          · exact tev_else (by (first | with_reducible rfl | assumption | (simp only [cond_and, cond_or, Bool.and_eq_true, Bool.or_eq_true, Bool.and_eq_false_iff, Bool.or_eq_false_iff, decide_eq_true_eq, decide_eq_false_iff_not, beq_iff_eq, bne_iff_ne, beq_eq_false_iff_ne, bne_eq_false_iff_eq, Bool.not_eq_true', Bool.not_eq_false', ne_eq, Bool.true_and, Bool.and_true, Bool.false_and, Bool.and_false, Bool.true_or, Bool.or_true, Bool.not_true, Bool.not_false, Bool.cond_true, Bool.cond_false, true_and, and_true]; first | done | omega))) (tev_else (by simp) rfl)
  · rw [if_neg hc]
    refine ⟨fun b hb => (by cases hb), fun _ => ?_⟩
    unfold rtP
    refine tev_else ?_ rfl
    rw [cond_and, Bool.and_eq_false_iff, decide_eq_false_iff_not, decide_eq_false_iff_not]; omega
theorem lpP_ok : LoopOk AL ap1 (famW [0,1,4,5,6,7,8,9] [0,1,2,18] 1000 97 decP invP nxtP outP) := by
  refine famW_ok (vs := vsP) (bs := bsP) AL_ok mixed (noLoops_ok _) decP_ok (fun p a => (200 - a.i).toNat) stP fun ⟨l, k, r, j⟩ ⟨s, m, la, mo, i⟩ h => ?_
  have e : T.anon (roundT AL noLoops ap1 [0,1,4,5,6,7,8,9] [0,1,2,18] 1000 (mkSt [0,1,4,5,6,7,8,9] [0,1,2,18] 1000 97 (vsP ⟨l, k, r, j⟩ ⟨s, m, la, mo, i⟩) (bsP ⟨l, k, r, j⟩ ⟨s, m, la, mo, i⟩))) = rtP l k r j s m la mo i := by kernel_rfl
  rw [← T.eval_anon (t := roundT _ _ _ _ _ _ _), e]
  clear e
  simp only [invP, decide_eq_true_eq] at h
  obtain ⟨rfl, rfl, h0, h4⟩ := h
  obtain ⟨h1, h2⟩ := roundP l r s m la mo i h0 h4
  exact ⟨h1, fun hn x hx => by obtain rfl := Option.some.inj hx; exact ⟨by simp, h2 hn⟩⟩
noncomputable def plist : List (Nat × LSpec) := [(5, famW [0,1,4,5,6,7,8,9] [0,1,2,18] 1000 97 decP invP nxtP outP)]
theorem pfind : findL plist 5 = some (famW [0,1,4,5,6,7,8,9] [0,1,2,18] 1000 97 decP invP nxtP outP) := rfl
theorem preg : firstReg ap1 = some 5 := by kernel_rfl
theorem plps_ok : ∀ a ∈ loopsIn (codeOf Try.prog 13), ∀ sp, byReg plist a = some sp → LoopOk AL a sp := by
  have e : loopsIn (codeOf Try.prog 13) = [ap1] := by kernel_rfl
  rw [e]
  intro a ha
  rcases List.mem_cons.1 ha with h | ha
  · rw [h]; exact byReg_mem preg pfind lpP_ok
  · cases ha
theorem alarmPlays_walk (l : List Bool) (_ : l.length ≤ maxLen) (x : Value) (r : List Int) (_ : r.length ≤ maxLen) (_ : ∀ x ∈ r, (Lit.int .i64 x).wf = true) (y : Value) (w : World) (hx : holdsP 0 w (.orow 4 [.bool] l) x) (hy : holdsP 0 w (.orow 3 [.int .i64] r) y) :
    Calls Try.prog 13 #[x, y] w fun e w' => e = .returned (.bool true) ∧ Below w.heap.size w w' := by
  refine Law.law_rows (args := [.orow 4 [.bool] l, .orow 3 [.int .i64] r]) (xs := [x, y]) (execS_loops (Λ := byReg plist) AL_ok mixed Try.func13 (by kernel_rfl) (by kernel_rfl) plps_ok) rfl (yes_anon ?_) w ⟨hx, hy, trivial⟩
  have e : T.anon (execS AL (byReg plist) 13 [.orow 4 [.bool] l, .orow 3 [.int .i64] r]) = T.ite none (invP ⟨l, l.length, r, r.length⟩ ⟨-1, 0, -1, 0, 0⟩) (.ret .tt) .fail := by kernel_rfl
  rw [e]
  exact yes_then (by simp [invP]) yes_tt
end Go.Proofs.Ytdkebjdhpioehaa.Conf
